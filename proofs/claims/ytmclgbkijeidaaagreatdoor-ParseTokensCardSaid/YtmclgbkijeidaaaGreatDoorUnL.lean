import Derived.Test.YtmclgbkijeidaaaGreatDoorUnK
import Derived.Test.YtmclgbkijeidaaaGreatDoorUnE
import Derived.Test.YtmclgbkijeidaaaGreatDoorUnC
namespace Go.Proofs.YtmclgbkijeidaaaGreatDoor
set_option maxRecDepth 100000
set_option maxHeartbeats 4000000
open Go.RowKit
structure Gth (w W:World) (v:Value) (l:List Pt):Prop where
 ex:∃ (bs:List Nat) (S:Nat->Prop),OwnP w.heap.size W v bs∧PsAt W S bs l∧∀ j,S j->w.heap.size<=j∧j<W.heap.size∧v.ownBlock≠some j
section
variable {w W W':World}{v:Value}{l:List Pt}{g:Nat}
theorem Gth.none (w W:World):Gth w W (.slice none 0 0) []:=⟨[],fun _=>False,zbv _ _,PsAt.nil _ _,fun _ h=>h.elim⟩
theorem Gth.grow (h:Gth w W v l)(hg:g<w.heap.size)(hw:W.grownBy W' (some g)):Gth w W' v l:=by
 obtain⟨bs,S,h1,h2,h3⟩:=h.ex;refine⟨bs,S,h1.keep fun q hq=>hw.block q (h1.lt hq).2 (fun e=>by injection e with e;have:=(h1.lt hq).1;omega),h2.keep (fun _ h=>h) fun j hj=>hw.block j (h3 j hj).2.1 (fun e=>by injection e with e;have:=(h3 j hj).1;omega),fun j hj=>?_⟩;obtain⟨a,b,c⟩:=h3 j hj;exact⟨a,Nat.lt_of_lt_of_le b hw.size,c⟩
theorem Gth.own (h:Gth w W v l){q:Nat}(hq:v.ownBlock=some q):q<W.heap.size:=by
 obtain⟨bs,S,h1,-⟩:=h.ex;exact(h1.lt hq).2
theorem Gth.first {b lo:Nat}{t:Pt}(h:PtAt W (fun j=>lo<=j∧j<W.heap.size) b t)(hlo:w.heap.size<=lo)(hw:w.heap.size<=W.heap.size):Gth w (W.alloc (.cells #[.pointer (some ⟨b,0,Option.none⟩)] 93)) (.slice (some ⟨W.heap.size,0,Option.none⟩) 1 1) [t]:=by
 refine⟨[b],fun j=>lo<=j∧j<W.heap.size,⟨rfl,.inr ⟨W.heap.size,1,_,rfl,hw,heap_alloc_new _ _,Nat.le_refl _,by decide,rfl,rfl⟩⟩,PsAt.one (h.keep (fun _ h=>h) fun j hj=>Below.heap_alloc _ _ _ hj.2),fun j hj=>⟨by omega,by simp;omega,fun e=>?_⟩⟩;have e':W.heap.size=j:=by injection e
 omega
theorem Gth.add {b lo:Nat}{t:Pt}(h:Gth w W v l)(hk:PtAt W (fun j=>lo<=j∧j<W.heap.size) b t)(hlo:w.heap.size<=lo)(hv:∀ q,v.ownBlock=some q->q<lo)(hw:w.heap.size<=W.heap.size)(hl:l.length+1<=1000000) :
  ∃ s0 n0 c0 s1 n1 c1 W2,v=.slice s0 n0 c0∧(Builtin.append_ #[111,111] 111 #[v,.slice (some ⟨W.heap.size,0,Option.none⟩) 1 1]).run Tryz.prog (W.alloc (.cells #[.pointer (some ⟨b,0,Option.none⟩)] 93))=.ok (.slice s1 n1 c1) W2 ∧
   Gth w W2 (.slice s1 n1 c1) (l++[t])∧Below w.heap.size W W2:=by
 obtain⟨bs,S,h1,h2,h3⟩:=h.ex;obtain⟨s0,c0,rfl⟩:=OwnG.shape h1;have hb:Below W.heap.size W (W.alloc (.cells #[.pointer (some ⟨b,0,Option.none⟩)] 93)):=(Below.refl _ _).alloc (Nat.le_refl _) _;have hrow:=heap_alloc_new W (.cells #[.pointer (some ⟨b,0,Option.none⟩)] 93);have hsz:(W.alloc (.cells #[.pointer (some ⟨b,0,Option.none⟩)] 93)).heap.size=W.heap.size+1:=by simp
 generalize W.alloc (.cells #[.pointer (some ⟨b,0,Option.none⟩)] 93)=X at hb hrow hsz ⊢;have k1:OwnP w.heap.size X (.slice s0 bs.length c0) bs:=h1.below hb;obtain⟨v',W2,hrun,ho,hg,hq⟩:=zdi (ys:=[b]) (cap:=1) elP 111 k1 (fun e=>by cases e) (zau hrow) (by rw[h2.1];exact hl) (by omega);obtain⟨s1,c1,rfl⟩:=OwnG.shape ho;have hne:∀ j,j<W.heap.size->(Value.slice s0 bs.length c0).ownBlock≠some j->W2.heap[j]?=W.heap[j]?:=fun j hj hn=>(hg.block j (by omega) fun e=>hn e.symm).trans (hb.block j hj);have hnew:∀ j,j<W.heap.size->(Value.slice s0 bs.length c0).ownBlock≠some j->(Value.slice s1 (bs++[b]).length c1).ownBlock≠some j:=fun j hj hn e=>by
  rcases hq with hq|hq
  ·exact hn (hq.symm.trans e)
  ·rw[hq] at e;injection e with e;omega
 have hkv:∀ j,(lo<=j∧j<W.heap.size)->(Value.slice s0 bs.length c0).ownBlock≠some j:=fun j hj e=>by have:=hv j e;omega
 have hle:=hg.size;refine⟨s0,_,c0,s1,_,c1,W2,rfl,hrun,⟨bs++[b],fun j=>S j∨(lo<=j∧j<W.heap.size),ho,PsAt.app (h2.keep (fun _ h=>.inl h) fun j hj=>hne j (h3 j hj).2.1 (h3 j hj).2.2) (PsAt.one (hk.keep (fun _ h=>.inr h) fun j hj=>hne j hj.2 (hkv j hj))),?_⟩,?_⟩
 ·rintro j (hj|hj)
  ·obtain⟨q1,q2,q3⟩:=h3 j hj;exact⟨q1,by omega,hnew j q2 q3⟩
  ·exact⟨by omega,by omega,hnew j hj.2 (hkv j hj)⟩
 ·exact⟨hg.os.trans hb.os,hg.tape.trans hb.tape,hg.output.trans hb.output,by omega,fun j hj=>hne j (by omega) fun e=>by have:=(h1.lt e).1;omega⟩
theorem Gth.rows (h:Gth w W v l):∃ bs sp cp,v=.slice sp bs.length cp∧RowsP W sp bs∧(sp=Option.none->bs.length=0∧cp=0)∧PsAt W (fun j=>w.heap.size<=j∧j<W.heap.size) bs l:=by
 obtain⟨bs,S,h1,h2,h3⟩:=h.ex;obtain⟨sp,cp,rfl,hr,hn,-⟩:=OwnG.rows elP h1;exact⟨bs,sp,cp,rfl,hr,hn,h2.keep (fun j hj=>⟨(h3 j hj).1,(h3 j hj).2.1⟩) fun _ _=>rfl⟩
end
def LsP (T:Nat) (w:World) (g:Nat) (st:Option Addr) (cap:Nat) (ts:List Tok) (r:Rs (List Pt)) (e:Ending) (w':World):Prop :=
 w.grownBy w' (some g)∧match r with
 | .ok l q=>∃ bs sp cp,e=.returned (.slice sp bs.length cp)∧RowsP w' sp bs∧(sp=none->bs.length=0∧cp=0)∧PsAt w' (fun j=>w.heap.size<=j∧j<w'.heap.size) bs l∧l.length<=q∧Rdr T w' g st cap ts q
 | .bad s=>e=wroE s
 | .out=>False
theorem zer {T:Nat}{w W:World}{g:Nat}{st:Option Addr}{cap:Nat}{ts:List Tok}{r:Rs (List Pt)}{s:Int}(hG:w.grownBy W (some g))(hr:r=.bad s):LsP T w g st cap ts r (wroE s) W:=by subst hr;exact⟨hG,rfl⟩
theorem znk {T:Nat}{w W:World}{g:Nat}{st:Option Addr}{cap:Nat}{ts:List Tok}{r:Rs (List Pt)}{l:List Pt}{q:Nat}{v:Value}(hG:w.grownBy W (some g))(hr:Rs.ok l q=r)(h:Gth w W v l)(hl:l.length<=q)(hR:Rdr T W g st cap ts q):LsP T w g st cap ts r (.returned v) W:=by
 subst hr;obtain⟨bs,sp,cp,rfl,h1,h2,h3⟩:=h.rows;exact⟨hG,bs,sp,cp,rfl,h1,h2,h3,hl,hR⟩
def posW (g:Nat) (w:World):Nat:=match w.cell? ⟨g,1,none⟩ with
 | some (.int _ n)=>n.toNat
 | _=>0
theorem Rdr.pos {T:Nat}{w:World}{g:Nat}{st:Option Addr}{cap:Nat}{ts:List Tok}{p:Nat}(h:Rdr T w g st cap ts p):posW g w=p:=by unfold posW;rw[h.c1];rfl
structure Rnd (ts:List Tok) (T:Nat) (g:Nat) (st:Option Addr) (cap:Nat) (F:Nat) (on:Nat->Nat->Rs Pt) (n k:Nat):Prop where
 call:∀ m,m<=n->∀ (W:World) (q:Nat),Rdr T W g st cap ts q->on m q≠.out->Calls Tryz.prog F #[.pointer (some ⟨g,0,none⟩)] W (PtP T W g st cap ts (on m q))
 adv:∀ m p t q,on m p=.ok t q->p+k<=q
theorem zit {T:Nat}{w:World}{g:Nat}{st:Option Addr}{cap:Nat}{ts:List Tok}{p:Nat}(F:Nat)(on:Nat->Nat->Rs Pt)(mor:Nat->List Pt->Nat->Rs (List Pt))(n:Nat)
  (h0:∀ l q,mor 0 l q=.out) (h1:∀ m l q,mor (m+1) l q=if isT ts q [44] then(on m (q+1)).bind fun t q=>mor m (l++[t]) q else .ok l q) (hF:Rnd ts T g st cap F on n 0) (hcf:∀ args W,(callFunc F args).run Tryz.prog W=.ok (.enter F args) W)
  (hR:Rdr T w g st cap ts p) (ho:lisP ts (on n) (mor n) p≠.out):Calls Tryz.prog 139 #[.pointer (some ⟨g,0,none⟩),.func (Fn.func F) #[.pointer (some ⟨g,0,none⟩)] #[]] w (LsP T w g st cap ts (lisP ts (on n) (mor n) p)):=by
 have HF:=hid hF;have HM0:=hid h0;have HM1:=hid h1;have HR0:=hid hR;have hT:=hR.hT;have hgT:=hR.hg;have hfe:=hR.few;obtain⟨r,hX⟩:∃ r,lisP ts (on n) (mor n) p=r:=⟨_,rfl⟩;rw[hX] at ho ⊢;have HX0:=hid hX;have HO:=hid ho;clear hX hR h0 h1 hF ho;unfold lisP at HX0
 go_enter Tryz.func139,Tryz.ntmps139
 go_wp2_with fail
 refine(zbd ⟨#[40]⟩ (by simp) HR0.out).mono ?_;rintro e W1 ⟨g1,hm0⟩;have hm:(if isT ts p [40] then e=.returned (.tuple #[])∧Rdr T W1 g st cap ts (p+1) else e=wroE (herI ts p)):=hm0;clear hm0;obtain⟨bb,hb⟩:∃ bb,isT ts p [40]=bb:=⟨_,rfl⟩;rw[hb] at hm
 cases bb
 ·simp only[Bool.false_eq_true,if_false] at hm;subst hm;have HP:Hid (LsP T w g st cap ts r (wroE (herI ts p)) W1):=zer g1 (zda hb HX0.out);clear HX0 HR0 HF HM0 HM1 HO;unfold wroE
  go_wp2
  exact⟨rfl,HP.out⟩
 simp only[if_true] at hm;obtain⟨rfl,r1⟩:=hm;have HX1:Hid _:=zcl hb HX0.out;have HG1:Hid (w.grownBy W1 (some g)):=g1;have HR1:Hid (Rdr T W1 g st cap ts (p+1)):=r1;clear hb g1 r1 HX0 HR0
 go_wp2_with fail
 refine(zdx ⟨#[41]⟩ (by simp) HR1.out).mono ?_;rintro e W2 ⟨he,g2,r2⟩;obtain⟨bb,hb⟩:∃ bb,isT ts (p+1) [41]=bb:=⟨_,rfl⟩;rw[show isT ts (p+1) (⟨#[41]⟩:ByteArray).data.toList=bb from hb] at he r2;subst he;have HG2:=hid (zab HG1.out g2);rw[hb] at HX1
 cases bb
 rotate_left
 ·have HP:Hid (LsP T w g st cap ts r (.returned (.slice none 0 0)) W2):=znk HG2.out (za8 rfl HX1.out) (Gth.none w W2) (Nat.zero_le _) r2;clear HX1 HG1 HR1 HF HM0 HM1 HO g2 r2 HG2
  go_wp2
  go_ret
  exact HP.out
 have HX2:Hid _:=zbu rfl HX1.out;have HR2:Hid (Rdr T W2 g st cap ts (p+1)):=r2;clear HX1 HG1 HR1 g2 r2 hb
 go_wp2_with fail
 refine(HF.out.call n (Nat.le_refl _) W2 _ HR2.out (zay HX2.out HO.out)).mono ?_;rintro e W3 ⟨g3,hm⟩;rcases hx:on n (p+1) with⟨t3,q3⟩ | s3|_
 rotate_left
 ·rw[hx] at hm;have hm':e=wroE s3:=hm;subst hm';have HP:Hid (LsP T w g st cap ts r (wroE s3) W3):=zer (zab HG2.out g3) (zas hx HX2.out);clear HX2 HR2 HF HM0 HM1 HO HG2;unfold wroE
  go_wp2
  exact⟨rfl,HP.out⟩
 ·rw[hx] at hm;exact hm.elim
 rw[hx] at hm;obtain⟨b3,rfl,hpt,r3⟩:=hm;have hq3:=HF.out.adv _ _ _ _ hx;have HX3:Hid _:=za3 hx HX2.out;have HG3:=hid (zab HG2.out g3);have HT3:Hid (Gth w (W3.alloc (.cells #[.pointer (some ⟨b3,0,none⟩)] 93)) (.slice (some ⟨W3.heap.size,0,none⟩) 1 1) [t3]):=Gth.first hpt HG2.out.size HG3.out.size;have HR3:Hid (Rdr T W3 g st cap ts q3):=r3;clear g3 hpt r3 HX2 HR2 HG2 hx;obtain⟨rm,hrm⟩:∃ rm,mor n [t3] q3=rm:=⟨_,rfl⟩;have HRM:Hid ((rm.bind fun l q=>expP ts [41] q fun q=>.ok l q)=r):=by show _=_;rw[<-hrm];exact HX3.out
 have HRN:=hid hrm;have HOM:Hid (rm≠.out):=zay HRM.out HO.out;clear hrm HX3 HO
 go_wp2
 go_loopw [5] (fun v wr=>∃ (l:List Pt) (q m:Nat),Gth w wr v l∧w.grownBy wr (some g)∧Rdr T wr g st cap ts q∧mor m l q=rm∧m<=n∧l.length<=q) (fun _ wr=>ts.length - posW g wr)
 case atStart=>exact⟨[t3],q3,n,HT3.out,zab HG3.out (zae ((Below.refl _ _).alloc (Nat.le_refl _) _)),HR3.out.low ((Below.refl _ _).alloc (Nat.le_refl _) _),HRN.out,Nat.le_refl _,by simp;omega⟩
 case round=>
  obtain⟨l,q,m,hGt,hG,hR,hm,hmn,hlq⟩:=hrel;have HGT:=hid hGt;have HG:=hid hG;have HR:=hid hR;have HMM:=hid hm;have hle:=hR.le;clear hGt hG hR hm HT3 HR3 HRN HG3 hq3
  cases m with
  | zero=>exact(HOM.out (by rw[<-HMM.out,HM0.out])).elim
  | succ m=>
  have HPQ:Hid (posW g wr=q):=HR.out.pos
  go_wp2_with fail
  refine(zdx ⟨#[44]⟩ (by simp) HR.out).mono ?_;rintro e W4 ⟨he,g4,r4⟩;obtain⟨bb,hb⟩:∃ bb,isT ts q [44]=bb:=⟨_,rfl⟩;rw[show isT ts q (⟨#[44]⟩:ByteArray).data.toList=bb from hb] at he r4;subst he;have HG4:=hid (zab HG.out g4);have HGT4:=hid (HGT.out.grow (Nat.lt_of_lt_of_le hgT hT) g4);have HX4:Hid ((if bb then(on m (q+1)).bind fun t q=>mor m (l++[t]) q else .ok l q)=rm):=by show _=_;rw[<-hb,<-HM1.out];exact HMM.out
  clear HGT HG HR HMM g4
  cases bb
  ·have HX5:Hid (expP ts [41] q (fun q=>Rs.ok l q)=r):=by
    show _=_;have h:=HRM.out;rw[<-(zbu rfl HX4.out:Rs.ok l q=rm)] at h;exact h
   have HR4:Hid (Rdr T W4 g st cap ts q):=r4;clear HX4 r4 hb HRM HOM HM1 HM0 HF
   go_wp2_with fail
   refine(zbd ⟨#[41]⟩ (by simp) HR4.out).mono ?_;rintro e W5 ⟨g5,hm0⟩;have hm:(if isT ts q [41] then e=.returned (.tuple #[])∧Rdr T W5 g st cap ts (q+1) else e=wroE (herI ts q)):=hm0;clear hm0;obtain⟨bb,hb⟩:∃ bb,isT ts q [41]=bb:=⟨_,rfl⟩;rw[hb] at hm
   cases bb
   ·simp only[Bool.false_eq_true,if_false] at hm;subst hm;have HP:Hid (LsP T w g st cap ts r (wroE (herI ts q)) W5):=zer (zab HG4.out g5) (zda hb HX5.out);clear HX5 HR4 HG4 HGT4;unfold wroE
    go_wp2
    exact⟨rfl,HP.out⟩
   simp only[if_true] at hm;obtain⟨rfl,r5⟩:=hm;have HP:Hid (LsP T w g st cap ts r (.returned u5) W5):=znk (zab HG4.out g5) (zcl hb HX5.out) (HGT4.out.grow (Nat.lt_of_lt_of_le hgT hT) g5) (by omega) r5;clear HX5 HR4 HG4 HGT4 g5 r5 hb
   go_wp2
   go_ret
   exact HP.out
  have HX5:Hid _:=za8 rfl HX4.out;have HR4:Hid (Rdr T W4 g st cap ts (q+1)):=r4;clear HX4 r4 hb HM1 HM0
  go_wp2_with fail
  refine(HF.out.call m (by omega) W4 _ HR4.out (zay HX5.out HOM.out)).mono ?_;rintro e W5 ⟨g5,hm⟩;rcases hx:on m (q+1) with⟨t5,q5⟩ | s5|_
  rotate_left
  ·rw[hx] at hm;have hm':e=wroE s5:=hm;subst hm';have HP:Hid (LsP T w g st cap ts r (wroE s5) W5):=zer (zab HG4.out g5) (zas (zas hx HX5.out) HRM.out);clear HX5 HR4 HF HOM HG4 HGT4;unfold wroE
   go_wp2
   exact⟨rfl,HP.out⟩
  ·rw[hx] at hm;exact hm.elim
  rw[hx] at hm;obtain⟨b5,rfl,hpt,r5⟩:=hm;have hq5:=HF.out.adv _ _ _ _ hx;have HX6:Hid _:=za3 hx HX5.out;have HG5:=hid (zab HG4.out g5);obtain⟨s0,n0,c0,s1,n1,c1,W6,rfl,hrun,hG6,b6⟩:=(HGT4.out.grow (Nat.lt_of_lt_of_le hgT hT) g5).add hpt HG4.out.size (fun _ h=>HGT4.out.own h) HG5.out.size (by have:=r5.le;omega);have HGT6:Hid _:=hG6;have HG6:=hid (zav HG5.out b6);have HR6:Hid (Rdr T W6 g st cap ts q5):=r5.below hT b6;have hle5:=r5.le;clear g5 hpt r5 hx HX5 hG6 b6 HG5 HR4 HGT4 HG4
  go_wp2_with (refine zaz (.tmp 15) (.tmp 18) 111 (by rfl) (by rfl) (by rfl) (by rfl) hrun ?_)
  exact⟨⟨l++[t5],q5,m,HGT6.out,HG6.out,HR6.out,HX6.out,by omega,by simp;omega⟩,by rw[HR6.out.pos,HPQ.out];omega⟩
theorem zjl {T:Nat}{w:World}{g:Nat}{st:Option Addr}{cap:Nat}{ts:List Tok}{p:Nat}(F:Nat)(on:Nat->Nat->Rs Pt)(mor:Nat->List Pt->Nat->Rs (List Pt))(n:Nat)
  (h0:∀ l q,mor 0 l q=.out) (h1:∀ m l q,mor (m+1) l q=if isT ts q [125] then .ok l q else(on m q).bind fun t q=>if isT ts q [125] then mor m (l++[t]) q else kinP ts 5 q fun _ q=>mor m (l++[t]) q) (hF:Rnd ts T g st cap F on n 1) (hcf:∀ args W,(callFunc F args).run Tryz.prog W=.ok (.enter F args) W)
  (hR:Rdr T w g st cap ts p) (ho:linP ts (mor n) p≠.out):Calls Tryz.prog 136 #[.pointer (some ⟨g,0,none⟩),.func (Fn.func F) #[.pointer (some ⟨g,0,none⟩)] #[]] w (LsP T w g st cap ts (linP ts (mor n) p)):=by
 have HF:=hid hF;have HM0:=hid h0;have HM1:=hid h1;have HR0:=hid hR;have hT:=hR.hT;have hgT:=hR.hg;have hfe:=hR.few;obtain⟨r,hX⟩:∃ r,linP ts (mor n) p=r:=⟨_,rfl⟩;rw[hX] at ho ⊢;have HX0:=hid hX;have HO:=hid ho;clear hX hR h0 h1 hF ho;unfold linP at HX0
 go_enter Tryz.func136,Tryz.ntmps136
 go_wp2_with fail
 refine(zbd ⟨#[123]⟩ (by simp) HR0.out).mono ?_;rintro e W1 ⟨g1,hm0⟩;have hm:(if isT ts p [123] then e=.returned (.tuple #[])∧Rdr T W1 g st cap ts (p+1) else e=wroE (herI ts p)):=hm0;clear hm0;obtain⟨bb,hb⟩:∃ bb,isT ts p [123]=bb:=⟨_,rfl⟩;rw[hb] at hm
 cases bb
 ·simp only[Bool.false_eq_true,if_false] at hm;subst hm;have HP:Hid (LsP T w g st cap ts r (wroE (herI ts p)) W1):=zer g1 (zda hb HX0.out);clear HX0 HR0 HF HM0 HM1 HO;unfold wroE
  go_wp2
  exact⟨rfl,HP.out⟩
 simp only[if_true] at hm;obtain⟨rfl,r1⟩:=hm;have HX1:Hid _:=zcl hb HX0.out;have HG1:Hid (w.grownBy W1 (some g)):=g1;have HR1:Hid (Rdr T W1 g st cap ts (p+1)):=r1;clear hb g1 r1 HX0 HR0;obtain⟨rm,hrm⟩:∃ rm,mor n [] (p+1)=rm:=⟨_,rfl⟩;have HRM:Hid ((rm.bind fun l q=>expP ts [125] q fun q=>.ok l q)=r):=by show _=_;rw[<-hrm];exact HX1.out
 have HRN:=hid hrm;have HOM:Hid (rm≠.out):=zay HRM.out HO.out;clear hrm HX1 HO
 go_wp2
 go_loopw [5] (fun v wr=>∃ (l:List Pt) (q m:Nat),Gth w wr v l∧w.grownBy wr (some g)∧Rdr T wr g st cap ts q∧mor m l q=rm∧m<=n∧l.length<=q) (fun _ wr=>ts.length - posW g wr)
 case atStart=>exact⟨[],p+1,n,Gth.none _ _,HG1.out,HR1.out,HRN.out,Nat.le_refl _,by simp⟩
 case round=>
  obtain⟨l,q,m,hGt,hG,hR,hm,hmn,hlq⟩:=hrel;have HGT:=hid hGt;have HG:=hid hG;have HR:=hid hR;have HMM:=hid hm;have hle:=hR.le;clear hGt hG hR hm HR1 HRN HG1
  cases m with
  | zero=>exact(HOM.out (by rw[<-HMM.out,HM0.out])).elim
  | succ m=>
  have HPQ:Hid (posW g wr=q):=HR.out.pos
  go_wp2_with fail
  refine(zd8 ⟨#[125]⟩ HR.out).mono ?_;rintro e W4 ⟨he,b4⟩;obtain⟨bb,hb⟩:∃ bb,isT ts q [125]=bb:=⟨_,rfl⟩;rw[show isT ts q (⟨#[125]⟩:ByteArray).data.toList=bb from hb] at he;subst he;have HG4:=hid (zab HG.out (zae b4));have HGT4:=hid (HGT.out.grow (Nat.lt_of_lt_of_le hgT hT) (zae b4));have HR4:=hid (HR.out.low b4);have HX4:Hid ((if bb then .ok l q else(on m q).bind fun t q=>if isT ts q [125] then mor m (l++[t]) q else kinP ts 5 q fun _ q=>mor m (l++[t]) q)=rm):=by show _=_;rw[<-hb,<-HM1.out];exact HMM.out
  clear HGT HG HR HMM b4 hb HM1 HM0
  cases bb
  rotate_left
  ·have HX5:Hid (expP ts [125] q (fun q=>Rs.ok l q)=r):=by
    show _=_;have h:=HRM.out;rw[<-(za8 rfl HX4.out:Rs.ok l q=rm)] at h;exact h
   clear HX4 HRM HOM HF
   go_wp2_with fail
   refine(zbd ⟨#[125]⟩ (by simp) HR4.out).mono ?_;rintro e W5 ⟨g5,hm0⟩;have hm:(if isT ts q [125] then e=.returned (.tuple #[])∧Rdr T W5 g st cap ts (q+1) else e=wroE (herI ts q)):=hm0;clear hm0;obtain⟨bb,hb⟩:∃ bb,isT ts q [125]=bb:=⟨_,rfl⟩;rw[hb] at hm
   cases bb
   ·simp only[Bool.false_eq_true,if_false] at hm;subst hm;have HP:Hid (LsP T w g st cap ts r (wroE (herI ts q)) W5):=zer (zab HG4.out g5) (zda hb HX5.out);clear HX5 HR4 HG4 HGT4;unfold wroE
    go_wp2
    exact⟨rfl,HP.out⟩
   simp only[if_true] at hm;obtain⟨rfl,r5⟩:=hm;have HP:Hid (LsP T w g st cap ts r (.returned u5) W5):=znk (zab HG4.out g5) (zcl hb HX5.out) (HGT4.out.grow (Nat.lt_of_lt_of_le hgT hT) g5) (by omega) r5;clear HX5 HR4 HG4 HGT4 g5 r5 hb
   go_wp2
   go_ret
   exact HP.out
  have HX5:Hid _:=zbu rfl HX4.out;clear HX4
  go_wp2_with fail
  refine(HF.out.call m (by omega) W4 _ HR4.out (zay HX5.out HOM.out)).mono ?_;rintro e W5 ⟨g5,hm⟩;rcases hx:on m q with⟨t5,q5⟩ | s5|_
  rotate_left
  ·rw[hx] at hm;have hm':e=wroE s5:=hm;subst hm';have HP:Hid (LsP T w g st cap ts r (wroE s5) W5):=zer (zab HG4.out g5) (zas (zas hx HX5.out) HRM.out);clear HX5 HR4 HF HOM HG4 HGT4;unfold wroE
   go_wp2
   exact⟨rfl,HP.out⟩
  ·rw[hx] at hm;exact hm.elim
  rw[hx] at hm;obtain⟨b5,rfl,hpt,r5⟩:=hm;have hq5:=HF.out.adv _ _ _ _ hx;have HX6:Hid _:=za3 hx HX5.out;have HG5:=hid (zab HG4.out g5);obtain⟨s0,n0,c0,s1,n1,c1,W6,rfl,hrun,hG6,b6⟩:=(HGT4.out.grow (Nat.lt_of_lt_of_le hgT hT) g5).add hpt HG4.out.size (fun _ h=>HGT4.out.own h) HG5.out.size (by have:=r5.le;omega);have HGT6:Hid _:=hG6;have HG6:=hid (zav HG5.out b6);have HR6:Hid (Rdr T W6 g st cap ts q5):=r5.below hT b6;have hle5:=r5.le;clear g5 hpt r5 hx HX5 hG6 b6 HG5 HR4 HGT4 HG4
  go_wp2_with (refine zaz (.tmp 11) (.tmp 14) 111 (by rfl) (by rfl) (by rfl) (by rfl) hrun ?_)
  refine(zd8 ⟨#[125]⟩ HR6.out).mono ?_;rintro e W7 ⟨he,b7⟩;obtain⟨bb,hb⟩:∃ bb,isT ts q5 [125]=bb:=⟨_,rfl⟩;rw[show isT ts q5 (⟨#[125]⟩:ByteArray).data.toList=bb from hb] at he;subst he;rw[hb] at HX6;have HG7:=hid (zab HG6.out (zae b7));have HGT7:=hid (HGT6.out.grow (Nat.lt_of_lt_of_le hgT hT) (zae b7));have HR7:=hid (HR6.out.low b7);clear HG6 HGT6 HR6 b7 hb hrun
  cases bb
  rotate_left
  ·have HX7:Hid _:=za8 rfl HX6.out;clear HX6
   go_wp2
   exact⟨⟨l++[t5],q5,m,HGT7.out,HG7.out,HR7.out,HX7.out,by omega,by simp;omega⟩,by rw[HR7.out.pos,HPQ.out];omega⟩
  have HX7:Hid _:=zbu rfl HX6.out;clear HX6
  go_wp2_with fail
  refine(zfn 5 (by decide) HR7.out).mono ?_;rintro e W8 ⟨g8,hm⟩;obtain⟨bb,hb⟩:∃ bb,((nxT ts q5).kind == 5)=bb:=⟨_,rfl⟩;rw[hb] at hm
  cases bb
  ·simp only[Bool.false_eq_true,if_false] at hm;subst hm;have HP:Hid (LsP T w g st cap ts r (wroE (herI ts q5)) W8):=zer (zab HG7.out g8) (zas (zjk hb HX7.out) HRM.out);clear HX7 HR7 HF HOM HG7 HGT7;unfold wroE
   go_wp2
   exact⟨rfl,HP.out⟩
  simp only[if_true] at hm;obtain⟨rfl,r8⟩:=hm;have HX8:Hid _:=zg7 hb HX7.out;have HG8:=hid (zab HG7.out g8);have HGT8:=hid (HGT7.out.grow (Nat.lt_of_lt_of_le hgT hT) g8);have HR8:Hid (Rdr T W8 g st cap ts (q5+1)):=r8;have hle8:=r8.le;clear HX7 HG7 HGT7 HR7 g8 r8 hb
  go_wp2
  exact⟨⟨l++[t5],q5+1,m,HGT8.out,HG8.out,HR8.out,HX8.out,by omega,by simp;omega⟩,by rw[HR8.out.pos,HPQ.out];omega⟩
theorem zfu {s:ByteArray}{i:Nat}{l:List (List UInt8)}{x:List UInt8}(hi:rowsL[i]?=some l)(hx:x ∈ l)(h:(x == s.data.toList)=true):rowI s=i:=by
 have e:=eq_of_beq h;have hs:∀ y:List UInt8,(s.data.toList == y)=(x == y):=fun y=>by rw[e]
 unfold rowI;simp only[hs];clear h hs
 match i,hi with
 | 0,hi=>cases hi;simp at hx;subst hx;rfl
 | 1,hi=>cases hi;simp at hx;subst hx;rfl
 | 2,hi=>cases hi;simp at hx;rcases hx with rfl | rfl | rfl | rfl | rfl | rfl <;> rfl
 | 3,hi=>cases hi;simp at hx;rcases hx with rfl | rfl <;> rfl
 | 4,hi=>cases hi;simp at hx;rcases hx with rfl | rfl | rfl <;> rfl
theorem zpa {s:ByteArray}(h:∀ (i:Nat)(l:List (List UInt8))(x:List UInt8),rowsL[i]?=some l->x ∈ l->(x == s.data.toList)=false):rowI s = -1:=by
 have hs:∀ (i:Nat) (l:List (List UInt8)) (x:List UInt8),rowsL[i]?=some l->x ∈ l->(s.data.toList == x)=false:=fun i l x hi hx=>by
  have:=h i l x hi hx;rw[beq_eq_false_iff_ne] at this ⊢;exact fun e=>this e.symm
 unfold rowI;rw[hs 0 _ [124,124] rfl (by simp),hs 1 _ [38,38] rfl (by simp),hs 2 _ [61,61] rfl (by simp),hs 2 _ [33,61] rfl (by simp),hs 2 _ [60] rfl (by simp),hs 2 _ [60,61] rfl (by simp),hs 2 _ [62] rfl (by simp),hs 2 _ [62,61] rfl (by simp),
  hs 3 _ [43] rfl (by simp),hs 3 _ [45] rfl (by simp),hs 4 _ [42] rfl (by simp),hs 4 _ [47] rfl (by simp),hs 4 _ [37] rfl (by simp)]
 rfl
theorem zqs (s:ByteArray)(w:World)(hT:Tabl w):Calls Tryz.prog 167 #[.string s] w fun e w'=>e=.returned (.int .i64 (rowI s))∧Below w.heap.size w w':=by
 obtain⟨F,hF⟩:=hT;obtain⟨r0,q0⟩:=hF 0 _ rfl;obtain⟨r1,q1⟩:=hF 1 _ rfl;obtain⟨r2,q2⟩:=hF 2 _ rfl;obtain⟨r3,q3⟩:=hF 3 _ rfl;obtain⟨r4,q4⟩:=hF 4 _ rfl;have HT:Hid (∀ (i:Nat) (l:List (List UInt8)),rowsL[i]?=some l->∀ W,Below w.heap.size w W->∃ b o,(F i).1=some ⟨b,o,none⟩∧∀ u x,l[u]?=some x->∀ W,Below w.heap.size w W->W.cell? ⟨b,o+u,none⟩=some (.string (strU x))):=fun i l hi W _=>by
  obtain⟨-,hq⟩:=hF i l hi;have hne:0<(l.map strU).length:=by
   match i,hi with
   | 0,hi=>cases hi;decide
   | 1,hi=>cases hi;decide
   | 2,hi=>cases hi;decide
   | 3,hi=>cases hi;decide
   | 4,hi=>cases hi;decide
  obtain⟨b,o,e,hc⟩:=hq hne;refine⟨b,o,e,fun u x hx W' hb=>?_⟩;have h1:=hc u (strU x) (by rw[List.getElem?_map,hx];rfl) 0 (.string (strU x)) rfl;rw[Nat.mul_one,Nat.add_zero] at h1;exact(hb.cell (block_lt_of_cell h1)).trans h1
 clear hF q0 q1 q2 q3 q4
 go_enter Tryz.func167,Tryz.ntmps167
 go_wp2
 go_loopw [8] (fun i wr=>∃ t:Nat,t<=5∧i=.int .i64 t∧Below w.heap.size w wr∧∀ (i:Nat) (l:List (List UInt8)) (x:List UInt8),i<t->rowsL[i]?=some l->x ∈ l->(x == s.data.toList)=false) (fun i _=>5 - (intOf i).toNat)
 case atStart=>exact⟨0,by omega,rfl,Below.refl _ _,fun i l x h=>by omega⟩
 case round=>
  obtain⟨t,ht,rfl,hB,hno⟩:=hrel;have HB:=hid hB;have HN:=hid hno;clear hB hno
  by_cases h5:t=5
  ·subst h5;have HR:Hid (rowI s = -1):=zpa fun i l x hi hx=>HN.out i l x (List.getElem?_eq_some_iff.1 hi).1 hi hx;clear HN
   go_wp2
   go_ret
   exact⟨by rw[HR.out];rfl,HB.out⟩
  obtain rfl|rfl|rfl|rfl|rfl:t=0∨t=1∨t=2∨t=3∨t=4:=by omega
  ·obtain⟨b,o,hsp,hce⟩:=HT.out 0 [[124,124]] rfl wr HB.out;have hidx:∀ W,(Instr.index 172 (.agg #[.slice (F 0).1 1 (F 0).2,.slice (F 1).1 1 (F 1).2,.slice (F 2).1 6 (F 2).2,.slice (F 3).1 2 (F 3).2,.slice (F 4).1 3 (F 4).2]) (.int .i64 0)).run Tryz.prog W=.ok (.slice (F 0).1 1 (F 0).2) W:=fun _=>rfl;have HCE:=hid hce;rw[hsp] at hidx ⊢;clear hce
   go_wp2
   go_loopw [14] (fun i wr=>∃ u:Nat,u<=1∧i=.int .i64 u∧Below w.heap.size w wr∧∀ (k:Nat) (x:List UInt8),k<u->([[124,124]]:List (List UInt8))[k]?=some x->(x == s.data.toList)=false) (fun i _=>1 - (intOf i).toNat)
   case atStart=>exact⟨0,by omega,rfl,HB.out,fun k x h=>by omega⟩
   case round=>
    obtain⟨u,hu,rfl,hB2,hno2⟩:=hrel;have HB2:=hid hB2;have HN2:=hid hno2;clear hB2 hno2
    by_cases hl:u<1
    ·have hd:decide ((u:Int)<1)=true:=by simp;omega
     obtain⟨x,hx⟩:∃ x,([[124,124]]:List (List UInt8))[u]?=some x:=⟨_,List.getElem?_eq_getElem (by simpa using hl)⟩;have c:=HCE.out u x hx wr HB2.out;have HEQ:Hid (((strU x).toList == s.toList)=(x == s.data.toList)):=by show _=_;rw[zc6,ByteArray.toList_eq]
     cases hq:(x == s.data.toList)
     ·rw[hq] at HEQ;have hq':((strU x).toList == s.toList)=false:=HEQ.out;have HG:Hid (∀ (k:Nat) (y:List UInt8),k<u+1->([[124,124]]:List (List UInt8))[k]?=some y->(y == s.data.toList)=false):=fun k y hk hy=>by
       by_cases hku:k<u
       ·exact HN2.out k y hku hy
       ·obtain rfl:k=u:=by omega
        rw[hx] at hy;injection hy with hy;rw[<-hy,hq]
      clear hx hq HEQ HN2
      go_wp2
      exact⟨⟨u+1,by omega,by go_num,HB2.out,HG.out⟩,by simp[intOf];omega⟩
     ·rw[hq] at HEQ;have hq':((strU x).toList == s.toList)=true:=HEQ.out;have HR:Hid (rowI s=0):=zfu (i:=0) (l:=[[124,124]]) rfl (List.mem_of_getElem? hx) hq;clear hx hq HEQ HN2
      go_wp2
      go_ret
      exact⟨by rw[HR.out];rfl,HB2.out⟩
    ·have hd:decide ((u:Int)<1)=false:=by simp;omega
     have HG:Hid (∀ (i:Nat) (l:List (List UInt8)) (x:List UInt8),i<0+1->rowsL[i]?=some l->x ∈ l->(x == s.data.toList)=false):=fun k l x hk hl hx=>by
      by_cases hki:k<0
      ·exact HN.out k l x hki hl hx
      ·obtain rfl:k=0:=by omega
       obtain rfl:[[124,124]]=l:=by injection hl
       obtain⟨j,hj,hjx⟩:=List.getElem_of_mem hx;exact HN2.out j x (by have:j<1:=hj;omega) (by rw[List.getElem?_eq_getElem hj,hjx])
     clear HN HN2
     go_wp2
     exact⟨⟨0+1,by omega,by go_num,HB2.out,HG.out⟩,by simp[intOf]⟩
  ·obtain⟨b,o,hsp,hce⟩:=HT.out 1 [[38,38]] rfl wr HB.out;have hidx:∀ W,(Instr.index 172 (.agg #[.slice (F 0).1 1 (F 0).2,.slice (F 1).1 1 (F 1).2,.slice (F 2).1 6 (F 2).2,.slice (F 3).1 2 (F 3).2,.slice (F 4).1 3 (F 4).2]) (.int .i64 1)).run Tryz.prog W=.ok (.slice (F 1).1 1 (F 1).2) W:=fun _=>rfl;have HCE:=hid hce;rw[hsp] at hidx ⊢;clear hce
   go_wp2
   go_loopw [14] (fun i wr=>∃ u:Nat,u<=1∧i=.int .i64 u∧Below w.heap.size w wr∧∀ (k:Nat) (x:List UInt8),k<u->([[38,38]]:List (List UInt8))[k]?=some x->(x == s.data.toList)=false) (fun i _=>1 - (intOf i).toNat)
   case atStart=>exact⟨0,by omega,rfl,HB.out,fun k x h=>by omega⟩
   case round=>
    obtain⟨u,hu,rfl,hB2,hno2⟩:=hrel;have HB2:=hid hB2;have HN2:=hid hno2;clear hB2 hno2
    by_cases hl:u<1
    ·have hd:decide ((u:Int)<1)=true:=by simp;omega
     obtain⟨x,hx⟩:∃ x,([[38,38]]:List (List UInt8))[u]?=some x:=⟨_,List.getElem?_eq_getElem (by simpa using hl)⟩;have c:=HCE.out u x hx wr HB2.out;have HEQ:Hid (((strU x).toList == s.toList)=(x == s.data.toList)):=by show _=_;rw[zc6,ByteArray.toList_eq]
     cases hq:(x == s.data.toList)
     ·rw[hq] at HEQ;have hq':((strU x).toList == s.toList)=false:=HEQ.out;have HG:Hid (∀ (k:Nat) (y:List UInt8),k<u+1->([[38,38]]:List (List UInt8))[k]?=some y->(y == s.data.toList)=false):=fun k y hk hy=>by
       by_cases hku:k<u
       ·exact HN2.out k y hku hy
       ·obtain rfl:k=u:=by omega
        rw[hx] at hy;injection hy with hy;rw[<-hy,hq]
      clear hx hq HEQ HN2
      go_wp2
      exact⟨⟨u+1,by omega,by go_num,HB2.out,HG.out⟩,by simp[intOf];omega⟩
     ·rw[hq] at HEQ;have hq':((strU x).toList == s.toList)=true:=HEQ.out;have HR:Hid (rowI s=1):=zfu (i:=1) (l:=[[38,38]]) rfl (List.mem_of_getElem? hx) hq;clear hx hq HEQ HN2
      go_wp2
      go_ret
      exact⟨by rw[HR.out];rfl,HB2.out⟩
    ·have hd:decide ((u:Int)<1)=false:=by simp;omega
     have HG:Hid (∀ (i:Nat) (l:List (List UInt8)) (x:List UInt8),i<1+1->rowsL[i]?=some l->x ∈ l->(x == s.data.toList)=false):=fun k l x hk hl hx=>by
      by_cases hki:k<1
      ·exact HN.out k l x hki hl hx
      ·obtain rfl:k=1:=by omega
       obtain rfl:[[38,38]]=l:=by injection hl
       obtain⟨j,hj,hjx⟩:=List.getElem_of_mem hx;exact HN2.out j x (by have:j<1:=hj;omega) (by rw[List.getElem?_eq_getElem hj,hjx])
     clear HN HN2
     go_wp2
     exact⟨⟨1+1,by omega,by go_num,HB2.out,HG.out⟩,by simp[intOf]⟩
  ·obtain⟨b,o,hsp,hce⟩:=HT.out 2 [[61,61],[33,61],[60],[60,61],[62],[62,61]] rfl wr HB.out;have hidx:∀ W,(Instr.index 172 (.agg #[.slice (F 0).1 1 (F 0).2,.slice (F 1).1 1 (F 1).2,.slice (F 2).1 6 (F 2).2,.slice (F 3).1 2 (F 3).2,.slice (F 4).1 3 (F 4).2]) (.int .i64 2)).run Tryz.prog W=.ok (.slice (F 2).1 6 (F 2).2) W:=fun _=>rfl;have HCE:=hid hce;rw[hsp] at hidx ⊢;clear hce
   go_wp2
   go_loopw [14] (fun i wr=>∃ u:Nat,u<=6∧i=.int .i64 u∧Below w.heap.size w wr∧∀ (k:Nat) (x:List UInt8),k<u->([[61,61],[33,61],[60],[60,61],[62],[62,61]]:List (List UInt8))[k]?=some x->(x == s.data.toList)=false) (fun i _=>6 - (intOf i).toNat)
   case atStart=>exact⟨0,by omega,rfl,HB.out,fun k x h=>by omega⟩
   case round=>
    obtain⟨u,hu,rfl,hB2,hno2⟩:=hrel;have HB2:=hid hB2;have HN2:=hid hno2;clear hB2 hno2
    by_cases hl:u<6
    ·have hd:decide ((u:Int)<6)=true:=by simp;omega
     obtain⟨x,hx⟩:∃ x,([[61,61],[33,61],[60],[60,61],[62],[62,61]]:List (List UInt8))[u]?=some x:=⟨_,List.getElem?_eq_getElem (by simpa using hl)⟩;have c:=HCE.out u x hx wr HB2.out;have HEQ:Hid (((strU x).toList == s.toList)=(x == s.data.toList)):=by show _=_;rw[zc6,ByteArray.toList_eq]
     cases hq:(x == s.data.toList)
     ·rw[hq] at HEQ;have hq':((strU x).toList == s.toList)=false:=HEQ.out;have HG:Hid (∀ (k:Nat) (y:List UInt8),k<u+1->([[61,61],[33,61],[60],[60,61],[62],[62,61]]:List (List UInt8))[k]?=some y->(y == s.data.toList)=false):=fun k y hk hy=>by
       by_cases hku:k<u
       ·exact HN2.out k y hku hy
       ·obtain rfl:k=u:=by omega
        rw[hx] at hy;injection hy with hy;rw[<-hy,hq]
      clear hx hq HEQ HN2
      go_wp2
      exact⟨⟨u+1,by omega,by go_num,HB2.out,HG.out⟩,by simp[intOf];omega⟩
     ·rw[hq] at HEQ;have hq':((strU x).toList == s.toList)=true:=HEQ.out;have HR:Hid (rowI s=2):=zfu (i:=2) (l:=[[61,61],[33,61],[60],[60,61],[62],[62,61]]) rfl (List.mem_of_getElem? hx) hq;clear hx hq HEQ HN2
      go_wp2
      go_ret
      exact⟨by rw[HR.out];rfl,HB2.out⟩
    ·have hd:decide ((u:Int)<6)=false:=by simp;omega
     have HG:Hid (∀ (i:Nat) (l:List (List UInt8)) (x:List UInt8),i<2+1->rowsL[i]?=some l->x ∈ l->(x == s.data.toList)=false):=fun k l x hk hl hx=>by
      by_cases hki:k<2
      ·exact HN.out k l x hki hl hx
      ·obtain rfl:k=2:=by omega
       obtain rfl:[[61,61],[33,61],[60],[60,61],[62],[62,61]]=l:=by injection hl
       obtain⟨j,hj,hjx⟩:=List.getElem_of_mem hx;exact HN2.out j x (by have:j<6:=hj;omega) (by rw[List.getElem?_eq_getElem hj,hjx])
     clear HN HN2
     go_wp2
     exact⟨⟨2+1,by omega,by go_num,HB2.out,HG.out⟩,by simp[intOf]⟩
  ·obtain⟨b,o,hsp,hce⟩:=HT.out 3 [[43],[45]] rfl wr HB.out;have hidx:∀ W,(Instr.index 172 (.agg #[.slice (F 0).1 1 (F 0).2,.slice (F 1).1 1 (F 1).2,.slice (F 2).1 6 (F 2).2,.slice (F 3).1 2 (F 3).2,.slice (F 4).1 3 (F 4).2]) (.int .i64 3)).run Tryz.prog W=.ok (.slice (F 3).1 2 (F 3).2) W:=fun _=>rfl;have HCE:=hid hce;rw[hsp] at hidx ⊢;clear hce
   go_wp2
   go_loopw [14] (fun i wr=>∃ u:Nat,u<=2∧i=.int .i64 u∧Below w.heap.size w wr∧∀ (k:Nat) (x:List UInt8),k<u->([[43],[45]]:List (List UInt8))[k]?=some x->(x == s.data.toList)=false) (fun i _=>2 - (intOf i).toNat)
   case atStart=>exact⟨0,by omega,rfl,HB.out,fun k x h=>by omega⟩
   case round=>
    obtain⟨u,hu,rfl,hB2,hno2⟩:=hrel;have HB2:=hid hB2;have HN2:=hid hno2;clear hB2 hno2
    by_cases hl:u<2
    ·have hd:decide ((u:Int)<2)=true:=by simp;omega
     obtain⟨x,hx⟩:∃ x,([[43],[45]]:List (List UInt8))[u]?=some x:=⟨_,List.getElem?_eq_getElem (by simpa using hl)⟩;have c:=HCE.out u x hx wr HB2.out;have HEQ:Hid (((strU x).toList == s.toList)=(x == s.data.toList)):=by show _=_;rw[zc6,ByteArray.toList_eq]
     cases hq:(x == s.data.toList)
     ·rw[hq] at HEQ;have hq':((strU x).toList == s.toList)=false:=HEQ.out;have HG:Hid (∀ (k:Nat) (y:List UInt8),k<u+1->([[43],[45]]:List (List UInt8))[k]?=some y->(y == s.data.toList)=false):=fun k y hk hy=>by
       by_cases hku:k<u
       ·exact HN2.out k y hku hy
       ·obtain rfl:k=u:=by omega
        rw[hx] at hy;injection hy with hy;rw[<-hy,hq]
      clear hx hq HEQ HN2
      go_wp2
      exact⟨⟨u+1,by omega,by go_num,HB2.out,HG.out⟩,by simp[intOf];omega⟩
     ·rw[hq] at HEQ;have hq':((strU x).toList == s.toList)=true:=HEQ.out;have HR:Hid (rowI s=3):=zfu (i:=3) (l:=[[43],[45]]) rfl (List.mem_of_getElem? hx) hq;clear hx hq HEQ HN2
      go_wp2
      go_ret
      exact⟨by rw[HR.out];rfl,HB2.out⟩
    ·have hd:decide ((u:Int)<2)=false:=by simp;omega
     have HG:Hid (∀ (i:Nat) (l:List (List UInt8)) (x:List UInt8),i<3+1->rowsL[i]?=some l->x ∈ l->(x == s.data.toList)=false):=fun k l x hk hl hx=>by
      by_cases hki:k<3
      ·exact HN.out k l x hki hl hx
      ·obtain rfl:k=3:=by omega
       obtain rfl:[[43],[45]]=l:=by injection hl
       obtain⟨j,hj,hjx⟩:=List.getElem_of_mem hx;exact HN2.out j x (by have:j<2:=hj;omega) (by rw[List.getElem?_eq_getElem hj,hjx])
     clear HN HN2
     go_wp2
     exact⟨⟨3+1,by omega,by go_num,HB2.out,HG.out⟩,by simp[intOf]⟩
  ·obtain⟨b,o,hsp,hce⟩:=HT.out 4 [[42],[47],[37]] rfl wr HB.out;have hidx:∀ W,(Instr.index 172 (.agg #[.slice (F 0).1 1 (F 0).2,.slice (F 1).1 1 (F 1).2,.slice (F 2).1 6 (F 2).2,.slice (F 3).1 2 (F 3).2,.slice (F 4).1 3 (F 4).2]) (.int .i64 4)).run Tryz.prog W=.ok (.slice (F 4).1 3 (F 4).2) W:=fun _=>rfl;have HCE:=hid hce;rw[hsp] at hidx ⊢;clear hce
   go_wp2
   go_loopw [14] (fun i wr=>∃ u:Nat,u<=3∧i=.int .i64 u∧Below w.heap.size w wr∧∀ (k:Nat) (x:List UInt8),k<u->([[42],[47],[37]]:List (List UInt8))[k]?=some x->(x == s.data.toList)=false) (fun i _=>3 - (intOf i).toNat)
   case atStart=>exact⟨0,by omega,rfl,HB.out,fun k x h=>by omega⟩
   case round=>
    obtain⟨u,hu,rfl,hB2,hno2⟩:=hrel;have HB2:=hid hB2;have HN2:=hid hno2;clear hB2 hno2
    by_cases hl:u<3
    ·have hd:decide ((u:Int)<3)=true:=by simp;omega
     obtain⟨x,hx⟩:∃ x,([[42],[47],[37]]:List (List UInt8))[u]?=some x:=⟨_,List.getElem?_eq_getElem (by simpa using hl)⟩;have c:=HCE.out u x hx wr HB2.out;have HEQ:Hid (((strU x).toList == s.toList)=(x == s.data.toList)):=by show _=_;rw[zc6,ByteArray.toList_eq]
     cases hq:(x == s.data.toList)
     ·rw[hq] at HEQ;have hq':((strU x).toList == s.toList)=false:=HEQ.out;have HG:Hid (∀ (k:Nat) (y:List UInt8),k<u+1->([[42],[47],[37]]:List (List UInt8))[k]?=some y->(y == s.data.toList)=false):=fun k y hk hy=>by
       by_cases hku:k<u
       ·exact HN2.out k y hku hy
       ·obtain rfl:k=u:=by omega
        rw[hx] at hy;injection hy with hy;rw[<-hy,hq]
      clear hx hq HEQ HN2
      go_wp2
      exact⟨⟨u+1,by omega,by go_num,HB2.out,HG.out⟩,by simp[intOf];omega⟩
     ·rw[hq] at HEQ;have hq':((strU x).toList == s.toList)=true:=HEQ.out;have HR:Hid (rowI s=4):=zfu (i:=4) (l:=[[42],[47],[37]]) rfl (List.mem_of_getElem? hx) hq;clear hx hq HEQ HN2
      go_wp2
      go_ret
      exact⟨by rw[HR.out];rfl,HB2.out⟩
    ·have hd:decide ((u:Int)<3)=false:=by simp;omega
     have HG:Hid (∀ (i:Nat) (l:List (List UInt8)) (x:List UInt8),i<4+1->rowsL[i]?=some l->x ∈ l->(x == s.data.toList)=false):=fun k l x hk hl hx=>by
      by_cases hki:k<4
      ·exact HN.out k l x hki hl hx
      ·obtain rfl:k=4:=by omega
       obtain rfl:[[42],[47],[37]]=l:=by injection hl
       obtain⟨j,hj,hjx⟩:=List.getElem_of_mem hx;exact HN2.out j x (by have:j<3:=hj;omega) (by rw[List.getElem?_eq_getElem hj,hjx])
     clear HN HN2
     go_wp2
     exact⟨⟨4+1,by omega,by go_num,HB2.out,HG.out⟩,by simp[intOf]⟩
structure ExpC (ts:List Tok) (T g:Nat) (st:Option Addr) (cap:Nat) (n:Nat):Prop where
 bin:∀ (w:World) (l p:Nat),l<=5->Rdr T w g st cap ts p->(fns ts n).bin l p≠.out->Calls Tryz.prog 155 #[.pointer (some ⟨g,0,none⟩),.int .i64 l] w (PtP T w g st cap ts ((fns ts n).bin l p))
 una:∀ (w:World) (p:Nat),Rdr T w g st cap ts p->(fns ts n).una p≠.out->Calls Tryz.prog 166 #[.pointer (some ⟨g,0,none⟩)] w (PtP T w g st cap ts ((fns ts n).una p))
 post:∀ (w:World) (p:Nat),Rdr T w g st cap ts p->(fns ts n).post p≠.out->Calls Tryz.prog 177 #[.pointer (some ⟨g,0,none⟩)] w (PtP T w g st cap ts ((fns ts n).post p))
 prim:∀ (w:World) (p:Nat),Rdr T w g st cap ts p->(fns ts n).prim p≠.out->Calls Tryz.prog 184 #[.pointer (some ⟨g,0,none⟩)] w (PtP T w g st cap ts ((fns ts n).prim p))
section
variable {T:Nat}{w:World}{g:Nat}{st:Option Addr}{cap:Nat}{ts:List Tok}{p:Nat}
theorem zeg {n:Nat}(h:ExpC ts T g st cap n)(hR:Rdr T w g st cap ts p)(ho:(fns ts n).bin 0 p≠.out):Calls Tryz.prog 135 #[.pointer (some ⟨g,0,none⟩)] w (PtP T w g st cap ts ((fns ts n).bin 0 p)):=by
 have HR0:=hid hR;have hT:=hR.hT;have hgT:=hR.hg;have HG0:Hid (w.grownBy w (some g)):=zbp _ _;have hR2:=hR;clear hR;obtain⟨r,hX⟩:∃ r,(fns ts n).bin 0 p=r:=⟨_,rfl⟩;have hC:=h.bin w 0 p (by omega) hR2 ho;rw[hX] at hC ⊢;have HX0:Hid ((fns ts n).bin 0 p=r):=hX;clear hX ho hR2 HR0 hT hgT
 go_enter Tryz.func135,Tryz.ntmps135
 go_wp2_with fail
 refine((hC).mono fun e W h=>PtP.from HG0.out h).mono ?_;rintro e W1 hP;have HP:=hid hP;clear HG0 hC;rcases r with⟨t9,q9⟩ | s9|_
 ·obtain⟨-,b9,rfl,-⟩:=hP
  go_wp2
  go_ret
  exact HP.out
 ·obtain⟨-,hm'⟩:=hP;have hm2:e=wroE s9:=hm';subst hm2;clear hm';unfold wroE at HP ⊢
  go_wp2
  exact⟨rfl,HP.out⟩
 ·exact hP.2.elim
theorem znl {n:Nat}(h:ExpC ts T g st cap n)(hR:Rdr T w g st cap ts p)(ho:(fns ts (n+1)).prim p≠.out):Calls Tryz.prog 184 #[.pointer (some ⟨g,0,none⟩)] w (PtP T w g st cap ts ((fns ts (n+1)).prim p)):=by
 have HR0:=hid hR;have hT:=hR.hT;have hgT:=hR.hg;have HG0:Hid (w.grownBy w (some g)):=zbp _ _;clear hR;obtain⟨r,hX⟩:∃ r,(fns ts (n+1)).prim p=r:=⟨_,rfl⟩;rw[hX] at ho ⊢;have HX0:Hid ((fns ts (n+1)).prim p=r):=hX;have HO:=hid ho;have HX1:Hid ((if isT ts p [40] then((fns ts n).bin 0 (p+1)).bind fun t q=>expP ts [41] q fun q=>.ok t q else if namB ts p then leaP ts 23 p else va1P ts p)=r):=hX;clear hX ho HX0
 go_enter Tryz.func184,Tryz.ntmps184
 go_wp2_with fail
 refine(zdx ⟨#[40]⟩ (by simp) HR0.out).mono ?_;rintro e W1 ⟨he,g1,r1⟩;obtain⟨bb,hb⟩:∃ bb,isT ts p [40]=bb:=⟨_,rfl⟩;rw[show isT ts p (⟨#[40]⟩:ByteArray).data.toList=bb from hb] at he r1;subst he;rw[hb] at HX1;have HG1:Hid (w.grownBy W1 (some g)):=g1;clear g1 HG0 HR0 hb
 cases bb
 rotate_left
 ·have HX2:Hid _:=za8 rfl HX1.out;have HR1:Hid (Rdr T W1 g st cap ts (p+1)):=r1;clear HX1 r1
  go_wp2_with fail
  refine(zeg h HR1.out (zay HX2.out HO.out)).mono ?_;rintro e W2 ⟨g1,hm⟩;rcases hx:(fns ts n).bin 0 (p+1) with⟨t2,q2⟩ | s2|_
  rotate_left
  ·rw[hx] at hm;have hm':e=wroE s2:=hm;subst hm';have HP:Hid (PtP T w g st cap ts r (wroE s2) W2):=zap (zab HG1.out g1) (zas hx HX2.out);clear HX2 HR1 HG1 HO;unfold wroE
   go_wp2
   exact⟨rfl,HP.out⟩
  ·rw[hx] at hm;exact hm.elim
  rw[hx] at hm;obtain⟨b2,rfl,hpt,r2⟩:=hm;have HX3:Hid _:=za3 hx HX2.out;have HG2:=hid (zab HG1.out g1);have HK2:Hid (PtAt W2 (fun j=>w.heap.size<=j∧j<W2.heap.size) b2 t2):=hpt.wide HG1.out.size (Nat.le_refl _);have HR2:Hid (Rdr T W2 g st cap ts q2):=r2;clear g1 hpt r2 hx HX2 HR1 HG1
  go_wp2_with fail
  refine(zbd ⟨#[41]⟩ (by simp) HR2.out).mono ?_;rintro e W3 ⟨g1,hm0⟩;have hm:(if isT ts q2 [41] then e=.returned (.tuple #[])∧Rdr T W3 g st cap ts (q2+1) else e=wroE (herI ts q2)):=hm0;clear hm0;obtain⟨bb,hb⟩:∃ bb,isT ts q2 [41]=bb:=⟨_,rfl⟩;rw[hb] at hm
  cases bb
  ·simp only[Bool.false_eq_true,if_false] at hm;subst hm;have HP:Hid (PtP T w g st cap ts r (wroE (herI ts q2)) W3):=zap (zab HG2.out g1) (zda hb HX3.out);clear HX3 HR2 HG2 HO HK2;unfold wroE
   go_wp2
   exact⟨rfl,HP.out⟩
  simp only[if_true] at hm;obtain⟨rfl,r3⟩:=hm;have hsz:=g1.size;have HP:Hid (PtP T w g st cap ts r (.returned (.pointer (some ⟨b2,0,none⟩))) W3):=zbj (zab HG2.out g1) (zcl hb HX3.out) ((HK2.out.grow (Nat.lt_of_lt_of_le hgT hT) (Nat.le_refl _) g1).wide (Nat.le_refl _) hsz) r3;clear HX3 HR2 HG2 HO HK2 g1 r3 hb
  go_wp2
  go_ret
  exact HP.out
 have HX2:Hid _:=zbu rfl HX1.out;have HR1:Hid (Rdr T W1 g st cap ts p):=r1;clear HX1 r1
 go_wp2_with fail
 refine(zfm HR1.out).mono ?_;rintro e W2 ⟨rfl,b2⟩;have HR2:=hid (HR1.out.low b2);have HG2:=hid (zab HG1.out (zae b2));clear b2 HR1 HG1;obtain⟨bb,hb⟩:∃ bb,namB ts p=bb:=⟨_,rfl⟩;rw[hb] at HX2 ⊢
 cases bb
 rotate_left
 ·have HX3:Hid _:=za8 rfl HX2.out;have hp:=zdq hb;clear HX2 hb
  go_wp2_with fail
  refine(zef 23 HR2.out hp).mono ?_;rintro e W3 ⟨g3,b,v,rfl,hM,r3⟩;have HP:Hid (PtP T w g st cap ts r (.returned (.pointer (some ⟨b,0,none⟩))) W3):=zbj (zab HG2.out g3) HX3.out (hM.mono HG2.out.size).fin r3;clear HX3 HR2 HG2 HO hM g3 r3
  go_wp2
  go_ret
  exact HP.out
 have HX3:Hid _:=zbu rfl HX2.out;clear HX2 hb
 go_wp2_with fail
 refine((zfd HR2.out).mono fun e W h=>PtP.from HG2.out h).mono ?_;rintro e W3 hP;rw[HX3.out] at hP;have HP:=hid hP;clear HX3 HG2 HR2 HO;rcases r with⟨t9,q9⟩ | s9|_
 ·obtain⟨-,b9,rfl,-⟩:=hP
  go_wp2
  go_ret
  exact HP.out
 ·obtain⟨-,hm'⟩:=hP;have hm2:e=wroE s9:=hm';subst hm2;clear hm';unfold wroE at HP ⊢
  go_wp2
  exact⟨rfl,HP.out⟩
 ·exact hP.2.elim
theorem zpb {n:Nat}(h:ExpC ts T g st cap n)(hR:Rdr T w g st cap ts p)(ho:(fns ts (n+1)).una p≠.out):Calls Tryz.prog 166 #[.pointer (some ⟨g,0,none⟩)] w (PtP T w g st cap ts ((fns ts (n+1)).una p)):=by
 have HR0:=hid hR;have hT:=hR.hT;have hgT:=hR.hg;have HG0:Hid (w.grownBy w (some g)):=zbp _ _;clear hR;obtain⟨r,hX⟩:∃ r,(fns ts (n+1)).una p=r:=⟨_,rfl⟩;rw[hX] at ho ⊢;have HX0:Hid ((fns ts (n+1)).una p=r):=hX;have HO:=hid ho;have HX1:Hid ((if isT ts p [45] || isT ts p [33] then((fns ts n).una (p+1)).bind fun u q=>.ok (.mk 26 (nxT ts p).text 0 (nxT ts p).pos (herI ts p) (behI ts q) [u]) q else(fns ts n).post p)=r):=hX;clear hX ho HX0
 go_enter Tryz.func166,Tryz.ntmps166
 go_wp2_with fail
 refine(zd8 ⟨#[45]⟩ HR0.out).mono ?_;rintro e W1 ⟨he,b1⟩;obtain⟨bb,hb⟩:∃ bb,isT ts p [45]=bb:=⟨_,rfl⟩;rw[show isT ts p (⟨#[45]⟩:ByteArray).data.toList=bb from hb] at he;subst he;have HR1:=hid (HR0.out.low b1);have HG1:=hid (zab HG0.out (zae b1));clear b1 HR0 HG0;rw[hb] at HX1
 cases bb
 ·skip
  go_wp2_with fail
  refine(zd8 ⟨#[33]⟩ HR1.out).mono ?_;rintro e W2 ⟨he,b1⟩;obtain⟨bb,hb⟩:∃ bb,isT ts p [33]=bb:=⟨_,rfl⟩;rw[show isT ts p (⟨#[33]⟩:ByteArray).data.toList=bb from hb] at he;subst he;have HR2:=hid (HR1.out.low b1);have HG2:=hid (zab HG1.out (zae b1));clear b1 HR1 HG1;rw[hb] at HX1
  cases bb
  ·have HX2:Hid _:=zbu rfl HX1.out;clear HX1 hb
   go_wp2_with fail
   refine((h.post _ _ HR2.out (by rw[HX2.out];exact HO.out)).mono fun e W h=>PtP.from HG2.out h).mono ?_;rintro e W3 hP;rw[HX2.out] at hP;have HP:=hid hP;clear HX2 HG2 HR2 HO;rcases r with⟨t9,q9⟩ | s9|_
   ·obtain⟨-,b9,rfl,-⟩:=hP
    go_wp2
    go_ret
    exact HP.out
   ·obtain⟨-,hm'⟩:=hP;have hm2:e=wroE s9:=hm';subst hm2;clear hm';unfold wroE at HP ⊢
    go_wp2
    exact⟨rfl,HP.out⟩
   ·exact hP.2.elim
  have HX2:Hid _:=za8 rfl HX1.out;have hp:=zcg hb (by simp);clear HX1 hb
  go_wp2_with fail
  refine(zbi 26 HR2.out).mono ?_;rintro e W21 ⟨bk21,rfl,hM,b1⟩;have HM21:Hid (Mk w.heap.size W21 bk21 26 ⟨#[]⟩ 0 (herI ts p) (herI ts p) 0 (.slice none 0 0) []):=hM.mono HG2.out.size;have HG21:=hid (zab HG2.out (zae b1));have HR21:=hid (HR2.out.low b1);clear hM b1 HG2 HR2
  go_wp2_with fail
  refine(zez HR21.out hp).mono ?_;rintro e W22 ⟨rfl,g1,r1⟩;have HG23:=hid (zab HG21.out g1);have HM23:=hid (HM21.out.grow (Nat.lt_of_lt_of_le hgT hT) g1);have HR22:Hid (Rdr T W22 g st cap ts (p+1)):=r1;clear g1 r1 HR21 HG21 HM21
  go_wp2_with fail
  refine(zco (nxT ts p) HM23.out).mono ?_;rintro e W24 ⟨rfl,hM,b1⟩;have HM24:=hid hM;have HG25:=hid (zav HG23.out b1);have HR25:=hid (HR22.out.below hT b1);clear hM b1 HM23 HG23 HR22;have HL26:Hid ((bk21<W24.heap.size∧∀ q,((.slice none 0 0):Value).ownBlock=some q->q<W24.heap.size)∧w.heap.size<=W24.heap.size∧g<W24.heap.size):=⟨HM24.out.at,HG25.out.size,HR25.out.lt⟩
  go_wp2_with fail
  refine(h.una _ _ HR25.out (zay HX2.out HO.out)).mono ?_;rintro e W26 ⟨g1,hm⟩;rcases hx:(fns ts n).una (p+1) with⟨t26,q26⟩ | s26|_
  rotate_left
  ·rw[hx] at hm;have hm':e=wroE s26:=hm;subst hm';have HP:Hid (PtP T w g st cap ts r (wroE (s26)) W26):=zap (zab HG25.out g1) (zas hx HX2.out);clear HG25 HR25 HX2 HM24 HL26;unfold wroE
   go_wp2
   exact⟨rfl,HP.out⟩
  ·rw[hx] at hm;exact hm.elim
  rw[hx] at hm;obtain⟨bk26,rfl,hpt,r1⟩:=hm;have HX26:Hid _:=za3 hx HX2.out;have hsz26:=g1.size;have HG27:=hid (zab HG25.out g1);have HM27:=hid (HM24.out.grow (Nat.lt_of_lt_of_le hgT hT) g1);have HK26:=hid hpt;have HR26:Hid (Rdr T W26 g st cap ts q26):=r1;clear g1 r1 hpt hx HX2 HR25 HG25 HM24
  go_wp2_with fail
  refine zaf (fun W=>Below W26.heap.size W26 W∧W.heap[W26.heap.size]?=some (.cells #[.pointer (some ⟨bk26,0,none⟩)] 93 (0,0))) ⟨(Below.refl _ _).alloc (Nat.le_refl _) _,heap_alloc_new _ _⟩ ?_;rintro Wa28 ⟨ba,ra⟩;refine(za4 (bs2:=[bk26]) (l2:=[t26]) (S2:=fun j=>W24.heap.size<=j∧j<W26.heap.size) (HR26.out.low ba) hT (HM27.out.below ba) (zau ra) (fun h=>by cases h) (PsAt.one (HK26.out.low (Nat.le_refl _) ba)) (zb7 HL26.out.1 HL26.out.2.1 ba.size) (by simp)).mono ?_;rintro e W28 ⟨rfl,⟨v28,hM⟩,b1⟩;have HM28:=hid hM;have HGa28:=hid (zab HG27.out (zae ba));have HRa28:=hid (HR26.out.low ba);have HG29:=hid (zav HGa28.out b1);have HR29:=hid (HRa28.out.below hT b1);clear hM b1 ba ra HM27 HL26 HG27 HR26 HGa28 HRa28 HK26
  go_wp2
  go_ret
  exact zbj HG29.out HX26.out HM28.out.fin HR29.out
 have HX2:Hid _:=za8 rfl HX1.out;have hp:=zcg hb (by simp);clear HX1 hb
 go_wp2_with fail
 refine(zbi 26 HR1.out).mono ?_;rintro e W21 ⟨bk21,rfl,hM,b1⟩;have HM21:Hid (Mk w.heap.size W21 bk21 26 ⟨#[]⟩ 0 (herI ts p) (herI ts p) 0 (.slice none 0 0) []):=hM.mono HG1.out.size;have HG21:=hid (zab HG1.out (zae b1));have HR21:=hid (HR1.out.low b1);clear hM b1 HG1 HR1
 go_wp2_with fail
 refine(zez HR21.out hp).mono ?_;rintro e W22 ⟨rfl,g1,r1⟩;have HG23:=hid (zab HG21.out g1);have HM23:=hid (HM21.out.grow (Nat.lt_of_lt_of_le hgT hT) g1);have HR22:Hid (Rdr T W22 g st cap ts (p+1)):=r1;clear g1 r1 HR21 HG21 HM21
 go_wp2_with fail
 refine(zco (nxT ts p) HM23.out).mono ?_;rintro e W24 ⟨rfl,hM,b1⟩;have HM24:=hid hM;have HG25:=hid (zav HG23.out b1);have HR25:=hid (HR22.out.below hT b1);clear hM b1 HM23 HG23 HR22;have HL26:Hid ((bk21<W24.heap.size∧∀ q,((.slice none 0 0):Value).ownBlock=some q->q<W24.heap.size)∧w.heap.size<=W24.heap.size∧g<W24.heap.size):=⟨HM24.out.at,HG25.out.size,HR25.out.lt⟩
 go_wp2_with fail
 refine(h.una _ _ HR25.out (zay HX2.out HO.out)).mono ?_;rintro e W26 ⟨g1,hm⟩;rcases hx:(fns ts n).una (p+1) with⟨t26,q26⟩ | s26|_
 rotate_left
 ·rw[hx] at hm;have hm':e=wroE s26:=hm;subst hm';have HP:Hid (PtP T w g st cap ts r (wroE (s26)) W26):=zap (zab HG25.out g1) (zas hx HX2.out);clear HG25 HR25 HX2 HM24 HL26;unfold wroE
  go_wp2
  exact⟨rfl,HP.out⟩
 ·rw[hx] at hm;exact hm.elim
 rw[hx] at hm;obtain⟨bk26,rfl,hpt,r1⟩:=hm;have HX26:Hid _:=za3 hx HX2.out;have hsz26:=g1.size;have HG27:=hid (zab HG25.out g1);have HM27:=hid (HM24.out.grow (Nat.lt_of_lt_of_le hgT hT) g1);have HK26:=hid hpt;have HR26:Hid (Rdr T W26 g st cap ts q26):=r1;clear g1 r1 hpt hx HX2 HR25 HG25 HM24
 go_wp2_with fail
 refine zaf (fun W=>Below W26.heap.size W26 W∧W.heap[W26.heap.size]?=some (.cells #[.pointer (some ⟨bk26,0,none⟩)] 93 (0,0))) ⟨(Below.refl _ _).alloc (Nat.le_refl _) _,heap_alloc_new _ _⟩ ?_;rintro Wa28 ⟨ba,ra⟩;refine(za4 (bs2:=[bk26]) (l2:=[t26]) (S2:=fun j=>W24.heap.size<=j∧j<W26.heap.size) (HR26.out.low ba) hT (HM27.out.below ba) (zau ra) (fun h=>by cases h) (PsAt.one (HK26.out.low (Nat.le_refl _) ba)) (zb7 HL26.out.1 HL26.out.2.1 ba.size) (by simp)).mono ?_;rintro e W28 ⟨rfl,⟨v28,hM⟩,b1⟩;have HM28:=hid hM;have HGa28:=hid (zab HG27.out (zae ba));have HRa28:=hid (HR26.out.low ba);have HG29:=hid (zav HGa28.out b1);have HR29:=hid (HRa28.out.below hT b1);clear hM b1 ba ra HM27 HL26 HG27 HR26 HGa28 HRa28 HK26
 go_wp2
 go_ret
 exact zbj HG29.out HX26.out HM28.out.fin HR29.out
end
end Go.Proofs.YtmclgbkijeidaaaGreatDoor
