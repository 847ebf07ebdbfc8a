import Derived.Test.YtmclgbkijeidaaaGreatDoorUnL
namespace Go.Proofs.YtmclgbkijeidaaaGreatDoor
set_option maxRecDepth 100000
set_option maxHeartbeats 4000000
open Go.RowKit
theorem znm {B b lo hi:Nat}{W:World}(hb:hi<=b)(hB:B<=lo)(hh:hi<=W.heap.size):∀ j,(lo<=j∧j<hi)->B<=j∧j<W.heap.size∧j≠b∧(Value.slice none 0 0).ownBlock≠some j:=fun j hj=>
 ⟨by omega,by omega,by omega,fun e=>by cases e⟩
section
variable {T:Nat}{w:World}{g:Nat}{st:Option Addr}{cap:Nat}{ts:List Tok}{p:Nat}
theorem zpc {n:Nat}(h:∀ m,m<=n->ExpC ts T g st cap m):Rnd ts T g st cap 135 (fun m q=>(fns ts m).bin 0 q) n 0 :=
 ⟨fun m hm W q hR ho=>zeg (h m hm) hR ho,fun m p t q hx=>by
  have:=(adA (ts:=ts) m).bin 0 p;rw[hx] at this;have h2:p+1<=q:=this;omega⟩
theorem zl4 (args:Array Value) (W:World):(callFunc 135 args).run Tryz.prog W=.ok (.enter 135 args) W:=by rfl
theorem znn (m:Nat)(fr:Int)(t:Pt)(q:Nat):(fns ts (m+1)).posL fr t q=(if isT ts q [46] then namP ts (q+1) fun x q=>(fns ts m).posL fr (.mk 24 x.text 0 x.pos fr (behI ts q) [t]) q
   else if isT ts q [40] then(lisP ts ((fns ts m).bin 0) (fns ts m).argL q).bind fun l q=>(fns ts m).posL fr (.mk 25 ⟨#[]⟩ 0 fr fr (behI ts q) ([t]++l)) q
   else .ok t q):=rfl
set_option maxHeartbeats 8000000 in
theorem zno {n:Nat}(h:∀ m,m<=n->ExpC ts T g st cap m)(hR:Rdr T w g st cap ts p)(ho:(fns ts (n+1)).post p≠.out):Calls Tryz.prog 177 #[.pointer (some ⟨g,0,none⟩)] w (PtP T w g st cap ts ((fns ts (n+1)).post p)):=by
 have HR0:=hid hR;have hT:=hR.hT;have hgT:=hR.hg;have hfe:=hR.few;obtain⟨r,hX⟩:∃ r,(fns ts (n+1)).post p=r:=⟨_,rfl⟩;rw[hX] at ho ⊢;have HO:=hid ho;have HX1:Hid ((((fns ts n).prim p).bind fun t q=>(fns ts n).posL (herI ts p) t q)=r):=hX;have HH:=hid h;clear hR hX ho h;have hmf:∀ (fn:Fn) (first cap:Array Value) (w:World),(Instr.makeFunc fn first cap).run Tryz.prog w=.ok (.func fn first cap) w:=fun _ _ _ _=>rfl;obtain⟨fr,hfr⟩:∃ fr,herI ts p=fr:=⟨_,rfl⟩;rw[hfr] at HX1
 go_enter Tryz.func177,Tryz.ntmps177
 go_wp2_with fail
 refine(zgl HR0.out).mono ?_;rintro e W1 ⟨rfl,b1⟩;rw[hfr];have HR1:=hid (HR0.out.low b1);have HG1:Hid (w.grownBy W1 (some g)):=zae b1;clear b1 HR0 hfr
 go_wp2_with fail
 refine((HH.out n (Nat.le_refl _)).prim W1 p HR1.out (zay HX1.out HO.out)).mono ?_;rintro e W2 ⟨g1,hm⟩;rcases hx:(fns ts n).prim p with⟨t2,q2⟩ | s2|_
 rotate_left
 ·rw[hx] at hm;have hm':e=wroE s2:=hm;subst hm';have HP:Hid (PtP T w g st cap ts r (wroE s2) W2):=zap (zab HG1.out g1) (zas hx HX1.out);clear HX1 HR1 HG1 HO HH;unfold wroE
  go_wp2
  exact⟨rfl,HP.out⟩
 ·rw[hx] at hm;exact hm.elim
 rw[hx] at hm;obtain⟨b2,rfl,hpt,r2⟩:=hm;have HX2:Hid _:=za3 hx HX1.out;have HG2:=hid (zab HG1.out g1);have HK2:Hid (PtAt W2 (fun j=>w.heap.size<=j∧j<W2.heap.size) b2 t2):=hpt.wide HG1.out.size (Nat.le_refl _);have HR2:Hid (Rdr T W2 g st cap ts q2):=r2;clear g1 hpt r2 hx HX1 HR1 HG1
 go_wp2
 go_loopw [4] (fun v wr=>∃ (b:Nat) (t:Pt) (q m:Nat),v=.pointer (some ⟨b,0,none⟩)∧PtAt wr (fun j=>w.heap.size<=j∧j<wr.heap.size) b t∧w.grownBy wr (some g)∧Rdr T wr g st cap ts q∧(fns ts m).posL fr t q=r∧m<=n) (fun _ wr=>ts.length - posW g wr)
 case atStart=>exact⟨b2,t2,q2,n,rfl,HK2.out,HG2.out,HR2.out,HX2.out,Nat.le_refl _⟩
 case round=>
  obtain⟨bp,t,q,m,rfl,hK,hG,hR,hm,hmn⟩:=hrel;have HK:=hid hK;have HG:=hid hG;have HR:=hid hR;have hle:=hR.le;have HPQ:Hid (posW g wr=q):=hR.pos;have hsw:=hG.size
  cases m with
  | zero=>exact(HO.out hm.symm).elim
  | succ m=>
  have HX3:Hid _:=(znn m fr t q).symm.trans hm;clear hK hG hR hm HK2 HG2 HR2 HX2
  go_wp2_with fail
  refine(zdx ⟨#[46]⟩ (by simp) HR.out).mono ?_;rintro e W4 ⟨he,g4,r4⟩;obtain⟨bb,hb⟩:∃ bb,isT ts q [46]=bb:=⟨_,rfl⟩;rw[show isT ts q (⟨#[46]⟩:ByteArray).data.toList=bb from hb] at he r4;subst he;rw[hb] at HX3;have hs4:=g4.size;have HG4:=hid (zab HG.out g4);have HK4:=hid (HK.out.grow (Nat.lt_of_lt_of_le hgT hT) (Nat.le_refl _) g4);clear g4 HG HR HK hb
  cases bb
  rotate_left
  ·have HX4:Hid _:=za8 rfl HX3.out;have HR4:Hid (Rdr T W4 g st cap ts (q+1)):=r4;clear HX3 r4 HH
   go_wp2_with fail
   refine(zfs 24 fr W4).mono ?_;rintro e W5 ⟨rfl,hM,b5⟩;have hs5:=b5.size;have HM5:Hid _:=hM.mono (C:=w.heap.size) (by omega);have HG5:=hid (zab HG4.out (zae b5));have HK5:=hid (HK4.out.low hs4 b5);have HR5:=hid (HR4.out.low b5);clear hM b5 HG4 HK4 HR4
   go_wp2_with fail
   refine(zc9 HR5.out).mono ?_;rintro e W6 ⟨g6,hm⟩;obtain⟨bb,hb⟩:∃ bb,namB ts (q+1)=bb:=⟨_,rfl⟩;rw[hb] at hm
   cases bb
   ·simp only[Bool.false_eq_true,if_false] at hm;subst hm;have HP:Hid (PtP T w g st cap ts r (wroE (herI ts (q+1))) W6):=zap (zab HG5.out g6) (zeq hb HX4.out);clear HX4 HR5 HG5 HK5 HM5 HO;unfold wroE
    go_wp2
    exact⟨rfl,HP.out⟩
   simp only[if_true] at hm;obtain⟨rfl,r6⟩:=hm;have hs6:=g6.size;have HX5:Hid _:=zdt hb HX4.out;have HG6:=hid (zab HG5.out g6);have HM6:Hid _:=HM5.out.grow (Nat.lt_of_lt_of_le hgT hT) g6;have HK6:=hid (HK5.out.grow (Nat.lt_of_lt_of_le hgT hT) (by omega) g6);have HR6:Hid (Rdr T W6 g st cap ts (q+1+1)):=r6;clear g6 r6 hb HX4 HG5 HM5 HK5 HR5
   go_wp2_with fail
   refine(zft (nxT ts (q+1)) HM6.out).mono ?_;rintro e W7 ⟨rfl,hM7,b7,ho7⟩;have hs7:=b7.size;have HM7:Hid _:=hM7;have HG7:=hid (zav HG6.out b7);have HK7:Hid (PtAt W7 (fun j=>w.heap.size<=j∧j<wr.heap.size) bp t):=HK6.out.keep (fun _ h=>h) fun j hj=>ho7 j (by omega) (by omega);have HR7:=hid (HR6.out.below hT b7);have hle7:=HR6.out.le;clear hM7 b7 ho7 HM6 HG6 HK6 HR6
   go_wp2_with fail
   refine zaf (fun W=>Below W7.heap.size W7 W∧W.heap[W7.heap.size]?=some (.cells #[.pointer (some ⟨bp,0,none⟩)] 93 (0,0))) ⟨(Below.refl _ _).alloc (Nat.le_refl _) _,heap_alloc_new _ _⟩ ?_;rintro W8 ⟨b8,r8⟩;have hs8:=b8.size;refine(za4 (bs2:=[bp]) (l2:=[t]) (S2:=fun j=>w.heap.size<=j∧j<wr.heap.size) (HR7.out.low b8) hT (HM7.out.below b8) (zau r8) (fun h=>by cases h) (PsAt.one (HK7.out.low (by omega) b8)) (znm hs4 (Nat.le_refl _) (by omega)) (by simp)).mono ?_;rintro e W9 ⟨rfl,⟨v9,hM9⟩,b9⟩;have HM9:Hid _:=hM9;have HG9:=hid (zav (zab HG7.out (zae b8)) b9);have HR9:Hid (Rdr T W9 g st cap ts (q+1+1)):=(HR7.out.low b8).below hT b9;clear hM9 b9 b8 r8 HM7 HG7 HK7 HR7
   go_wp2
   exact⟨⟨W4.heap.size,_,q+1+1,m,rfl,HM9.out.fin,HG9.out,HR9.out,HX5.out,by omega⟩,by rw[HR9.out.pos,HPQ.out];omega⟩
  have HX4:Hid _:=zbu rfl HX3.out;have HR4:Hid (Rdr T W4 g st cap ts q):=r4;clear HX3 r4
  go_wp2_with fail
  refine(zd8 ⟨#[40]⟩ HR4.out).mono ?_;rintro e W5 ⟨he,b5⟩;obtain⟨bb,hb⟩:∃ bb,isT ts q [40]=bb:=⟨_,rfl⟩;rw[show isT ts q (⟨#[40]⟩:ByteArray).data.toList=bb from hb] at he;subst he;rw[hb] at HX4;have hs5:=b5.size;have HG5:=hid (zab HG4.out (zae b5));have HK5:=hid (HK4.out.low hs4 b5);have HR5:=hid (HR4.out.low b5);clear b5 HG4 HK4 HR4
  cases bb
  ·have HP:Hid (PtP T w g st cap ts r (.returned (.pointer (some ⟨bp,0,none⟩))) W5):=zbj HG5.out (zbu rfl HX4.out) (HK5.out.wide (Nat.le_refl _) (by omega)) HR5.out;clear HX4 HG5 HK5 HR5 HO HH hb
   go_wp2
   go_ret
   exact HP.out
  have HX5:Hid _:=za8 rfl HX4.out;clear HX4 hb
  go_wp2_with fail
  refine(zfs 25 fr W5).mono ?_;rintro e W6 ⟨rfl,hM,b6⟩;have hs6:=b6.size;have HM6:Hid _:=hM.mono (C:=w.heap.size) (by omega);have HG6:=hid (zab HG5.out (zae b6));have HK6:=hid (HK5.out.low (by omega) b6);have HR6:=hid (HR5.out.low b6);clear hM b6 HG5 HK5 HR5
  go_wp2_with fail
  refine zaf (fun W=>Below W6.heap.size W6 W∧W.heap[W6.heap.size]?=some (.cells #[.pointer (some ⟨bp,0,none⟩)] 93 (0,0))) ⟨(Below.refl _ _).alloc (Nat.le_refl _) _,heap_alloc_new _ _⟩ ?_;rintro W7 ⟨b7,r7⟩;have hs7:=b7.size;refine(zcm (bs2:=[bp]) (l2:=[t]) (S2:=fun j=>w.heap.size<=j∧j<wr.heap.size) (HM6.out.below b7) (zau r7) (fun h=>by cases h) (PsAt.one (HK6.out.low (by omega) b7)) (znm (by omega) (Nat.le_refl _) (by omega)) (by simp)).mono ?_;rintro e W8 ⟨rfl,⟨v8,hM8⟩,b8⟩;have HM8:Hid _:=hM8;have HG8:=hid (zav (zab HG6.out (zae b7)) b8);have HR8:Hid (Rdr T W8 g st cap ts q):=(HR6.out.low b7).below hT b8;have HL8:Hid _:=hM8.at;have HG8s:=HG8.out.size;clear hM8 b8 b7 r7 HM6 HG6 HK6 HR6
  go_wp2_with fail
  refine(zit 135 (fun m q=>(fns ts m).bin 0 q) (fun m=>(fns ts m).argL) m (fun _ _=>rfl) (fun _ _ _=>rfl) (zpc fun m' hm'=>HH.out m' (by omega)) zl4 HR8.out (zay HX5.out HO.out)).mono ?_;rintro e W9 ⟨g9,hm⟩;have hm2:match lisP ts ((fns ts m).bin 0) (fns ts m).argL q with
   | .ok l q=>∃ bs sp cp,e=.returned (.slice sp bs.length cp)∧RowsP W9 sp bs∧(sp=none->bs.length=0∧cp=0)∧PsAt W9 (fun j=>W8.heap.size<=j∧j<W9.heap.size) bs l∧l.length<=q∧Rdr T W9 g st cap ts q
   | .bad s=>e=wroE s
   | .out=>False:=hm
  clear hm;rcases hx:lisP ts ((fns ts m).bin 0) (fns ts m).argL q with⟨l9,q9⟩ | s9|_
  rotate_left
  ·rw[hx] at hm2;have hm':e=wroE s9:=hm2;subst hm';have HP:Hid (PtP T w g st cap ts r (wroE s9) W9):=zap (zab HG8.out g9) (zas hx HX5.out);clear HX5 HR8 HG8 HM8 HL8 HO HH;unfold wroE
   go_wp2
   exact⟨rfl,HP.out⟩
  ·rw[hx] at hm2;exact hm2.elim
  rw[hx] at hm2;obtain⟨bs,sp,cp,rfl,hr9,hn9,hp9,hl9,r9⟩:=hm2;have hle9:=r9.le;have hadv:q+1<=q9:=by
   have:=zk3 (ts:=ts) (one:=(fns ts m).bin 0) (more:=(fns ts m).argL) (p:=q) (fun _=>zbx ((adA (ts:=ts) m).bin 0 (q+1)) (by omega)) fun l q _ _=>(adA (ts:=ts) m).argL l q;rw[hx] at this;exact this
  have HX6:Hid _:=za3 hx HX5.out;have HG9:=hid (zab HG8.out g9);have HM9:Hid _:=HM8.out.grow (Nat.lt_of_lt_of_le hgT hT) g9;have HR9:Hid (Rdr T W9 g st cap ts q9):=r9;have HRR:=hid hr9;have HNN:=hid hn9;have HPP:=hid hp9;clear g9 r9 hr9 hn9 hp9 hx HX5 HG8 HM8 HR8 HH
  go_wp2_with fail
  refine(za4 (S2:=fun j=>W8.heap.size<=j∧j<W9.heap.size) HR9.out hT HM9.out HRR.out HNN.out HPP.out (zb7 HL8.out HG8s (Nat.le_refl _)) (by simp;omega)).mono ?_;rintro e W10 ⟨rfl,⟨v10,hM10⟩,b10⟩;have HM10:Hid _:=hM10;have HG10:=hid (zav HG9.out b10);have HR10:=hid (HR9.out.below hT b10);clear hM10 b10 HM9 HG9 HR9 HRR HNN HPP
  go_wp2
  exact⟨⟨W5.heap.size,_,q9,m,rfl,HM10.out.fin,HG10.out,HR10.out,HX6.out,by omega⟩,by rw[HR10.out.pos,HPQ.out];omega⟩
end
section
variable {T:Nat}{w:World}{g:Nat}{st:Option Addr}{cap:Nat}{ts:List Tok}{p:Nat}
theorem znp (m l:Nat)(fr:Int)(t:Pt)(q:Nat):(fns ts (m+1)).binL l fr t q=(if rowI (nxT ts q).text=l then
    ((fns ts m).bin (l+1) (q+1)).bind fun u q'=>
     if l=2 then .ok (.mk 27 (nxT ts q).text 0 (nxT ts q).pos fr (behI ts q') [t,u]) q'
     else(fns ts m).binL l fr (.mk 27 (nxT ts q).text 0 (nxT ts q).pos fr (behI ts q') [t,u]) q'
   else .ok t q):=rfl
set_option maxHeartbeats 8000000 in
theorem zpd {n:Nat}(h:∀ m,m<=n->ExpC ts T g st cap m)(l:Nat)(hl:l<=5)(hR:Rdr T w g st cap ts p)(ho:(fns ts (n+1)).bin l p≠.out):Calls Tryz.prog 155 #[.pointer (some ⟨g,0,none⟩),.int .i64 l] w (PtP T w g st cap ts ((fns ts (n+1)).bin l p)):=by
 have HR0:=hid hR;have hT:=hR.hT;have hgT:=hR.hg;have hfe:=hR.few;obtain⟨r,hX⟩:∃ r,(fns ts (n+1)).bin l p=r:=⟨_,rfl⟩;rw[hX] at ho ⊢;have HO:=hid ho;have HX1:Hid ((if l=5 then(fns ts n).una p else((fns ts n).bin (l+1) p).bind fun t q=>(fns ts n).binL l (herI ts p) t q)=r):=hX;have HH:=hid h;have HG0:Hid (w.grownBy w (some g)):=zbp _ _;clear hR hX ho h;have hfd:∀ (a b c:Value) (W:World),(Instr.field 38 (.agg #[a,b,c]) 1).run Tryz.prog W=.ok b W:=fun _ _ _ _=>rfl
 by_cases h5:l=5
 ·have HX2:Hid ((fns ts n).una p=r):=by
   show _=_;rw[<-HX1.out,if_pos h5]
  have hC:=(HH.out n (Nat.le_refl _)).una w p HR0.out (by rw[HX2.out];exact HO.out);rw[HX2.out] at hC;subst h5;clear HX1 HX2 HH HO
  go_enter Tryz.func155,Tryz.ntmps155
  go_wp2_with fail
  refine hC.mono ?_;rintro e W1 hP;have HP:=hid hP;clear hC HR0 HG0;rcases r with⟨t9,q9⟩ | s9|_
  ·obtain⟨-,b9,rfl,-⟩:=hP
   go_wp2
   go_ret
   exact HP.out
  ·obtain⟨-,hm'⟩:=hP;have hm2:e=wroE s9:=hm';subst hm2;clear hm';unfold wroE at HP ⊢
   go_wp2
   exact⟨rfl,HP.out⟩
  ·exact hP.2.elim
 have h5':((l:Int) == 5)=false:=by rw[beq_eq_false_iff_ne];omega
 have hl4:l+1<=5:=by omega
 have HX2:Hid ((((fns ts n).bin (l+1) p).bind fun t q=>(fns ts n).binL l (herI ts p) t q)=r):=by
  show _=_;rw[<-HX1.out,if_neg h5]
 clear HX1;obtain⟨fr,hfr⟩:∃ fr,herI ts p=fr:=⟨_,rfl⟩;rw[hfr] at HX2
 go_enter Tryz.func155,Tryz.ntmps155
 go_wp2_with fail
 refine(zgl HR0.out).mono ?_;rintro e W1 ⟨rfl,b1⟩;rw[hfr];have HR1:=hid (HR0.out.low b1);have HG1:Hid (w.grownBy W1 (some g)):=zae b1;clear b1 HR0 hfr HG0
 go_wp2_with fail
 refine((HH.out n (Nat.le_refl _)).bin W1 (l+1) p hl4 HR1.out (zay HX2.out HO.out)).mono ?_;rintro e W2 ⟨g1,hm⟩;rcases hx:(fns ts n).bin (l+1) p with⟨t2,q2⟩ | s2|_
 rotate_left
 ·rw[hx] at hm;have hm':e=wroE s2:=hm;subst hm';have HP:Hid (PtP T w g st cap ts r (wroE s2) W2):=zap (zab HG1.out g1) (zas hx HX2.out);clear HX2 HR1 HG1 HO HH;unfold wroE
  go_wp2
  exact⟨rfl,HP.out⟩
 ·rw[hx] at hm;exact hm.elim
 rw[hx] at hm;obtain⟨b2,rfl,hpt,r2⟩:=hm;have HX3:Hid _:=za3 hx HX2.out;have HG2:=hid (zab HG1.out g1);have HK2:Hid (PtAt W2 (fun j=>w.heap.size<=j∧j<W2.heap.size) b2 t2):=hpt.wide HG1.out.size (Nat.le_refl _);have HR2:Hid (Rdr T W2 g st cap ts q2):=r2;clear g1 hpt r2 hx HX2 HR1 HG1
 go_wp2
 go_loopw [6] (fun v wr=>∃ (b:Nat) (t:Pt) (q m:Nat),v=.pointer (some ⟨b,0,none⟩)∧PtAt wr (fun j=>w.heap.size<=j∧j<wr.heap.size) b t∧w.grownBy wr (some g)∧Rdr T wr g st cap ts q∧(fns ts m).binL l fr t q=r∧m<=n) (fun _ wr=>ts.length - posW g wr)
 case atStart=>exact⟨b2,t2,q2,n,rfl,HK2.out,HG2.out,HR2.out,HX3.out,Nat.le_refl _⟩
 case round=>
  obtain⟨bp,t,q,m,rfl,hK,hG,hR,hm,hmn⟩:=hrel;have HK:=hid hK;have HG:=hid hG;have HR:=hid hR;have hle:=hR.le;have HPQ:Hid (posW g wr=q):=hR.pos;have hsw:=hG.size
  cases m with
  | zero=>exact(HO.out hm.symm).elim
  | succ m=>
  have HX4:Hid _:=(znp m l fr t q).symm.trans hm;clear hK hG hR hm HK2 HG2 HR2 HX3
  go_wp2_with fail
  refine(zc8 HR.out).mono ?_;rintro e W3 ⟨rfl,b3⟩;have hs3:=b3.size;have HG3:=hid (zab HG.out (zae b3));have HK3:=hid (HK.out.low (Nat.le_refl _) b3);have HR3:=hid (HR.out.low b3);clear b3 HG HK HR;unfold Tok.cells
  go_wp2_with fail
  refine(zqs (nxT ts q).text W3 (HR3.out.env W3 fun _ _ _=>rfl).2).mono ?_;rintro e W4 ⟨rfl,b4⟩;have hs4:=b4.size;have HG4:=hid (zab HG3.out (zae b4));have HK4:=hid (HK3.out.low (by omega) b4);have HR4:=hid (HR3.out.low b4);clear b4 HG3 HK3 HR3
  by_cases hrow:rowI (nxT ts q).text=l
  rotate_left
  ·have hrw:(rowI (nxT ts q).text == (l:Int))=false:=by rw[beq_eq_false_iff_ne];exact hrow
   have HP:Hid (PtP T w g st cap ts r (.returned (.pointer (some ⟨bp,0,none⟩))) W4):=zbj HG4.out (by rw[<-HX4.out,if_neg hrow]) (HK4.out.wide (Nat.le_refl _) (by omega)) HR4.out;clear HX4 HG4 HK4 HR4 HO HH
   go_wp2
   go_ret
   exact HP.out
  have hrw:(rowI (nxT ts q).text == (l:Int))=true:=by rw[hrow];exact beq_self_eq_true _
  have HX5:Hid _:=(if_pos hrow).symm.trans HX4.out;have hq:=zku hrow;clear HX4 hrow
  go_wp2_with fail
  refine(zfs 27 fr W4).mono ?_;rintro e W5 ⟨rfl,hM,b5⟩;have hs5:=b5.size;have HM5:Hid _:=hM.mono (C:=w.heap.size) (by omega);have HG5:=hid (zab HG4.out (zae b5));have HK5:=hid (HK4.out.low (by omega) b5);have HR5:=hid (HR4.out.low b5);clear hM b5 HG4 HK4 HR4 hrw
  go_wp2_with fail
  refine(zez HR5.out hq).mono ?_;rintro e W6 ⟨rfl,g6,r6⟩;have hs6:=g6.size;have HG6:=hid (zab HG5.out g6);have HM6:Hid _:=HM5.out.grow (Nat.lt_of_lt_of_le hgT hT) g6;have HK6:=hid (HK5.out.grow (Nat.lt_of_lt_of_le hgT hT) (by omega) g6);have HR6:Hid (Rdr T W6 g st cap ts (q+1)):=r6;clear g6 r6 HG5 HM5 HK5 HR5
  go_wp2_with fail
  refine(zft (nxT ts q) HM6.out).mono ?_;rintro e W7 ⟨rfl,hM7,b7,ho7⟩;have hs7:=b7.size;have HM7:Hid _:=hM7;have HG7:=hid (zav HG6.out b7);have HK7:Hid (PtAt W7 (fun j=>w.heap.size<=j∧j<wr.heap.size) bp t):=HK6.out.keep (fun _ h=>h) fun j hj=>ho7 j (by omega) (by omega);have HR7:=hid (HR6.out.below hT b7);have hb7:=hM7.lt;clear hM7 b7 ho7 HM6 HG6 HK6 HR6
  go_wp2_with fail
  refine((HH.out m (by omega)).bin W7 (l+1) (q+1) hl4 HR7.out (zay HX5.out HO.out)).mono ?_;rintro e W8 ⟨g8,hm⟩;rcases hx:(fns ts m).bin (l+1) (q+1) with⟨t8,q8⟩ | s8|_
  rotate_left
  ·rw[hx] at hm;have hm':e=wroE s8:=hm;subst hm';have HP:Hid (PtP T w g st cap ts r (wroE s8) W8):=zap (zab HG7.out g8) (zas hx HX5.out);clear HX5 HR7 HG7 HM7 HK7 HO HH;unfold wroE
   go_wp2
   exact⟨rfl,HP.out⟩
  ·rw[hx] at hm;exact hm.elim
  rw[hx] at hm;obtain⟨b8,rfl,hpt,r8⟩:=hm;have hadv:q+1+1<=q8:=by
   have:=(adA (ts:=ts) m).bin (l+1) (q+1);rw[hx] at this;exact this
  have hs8:=g8.size;have hle8:=r8.le;have HX6:Hid _:=za3 hx HX5.out;have HG8:=hid (zab HG7.out g8);have HM8:Hid _:=HM7.out.grow (Nat.lt_of_lt_of_le hgT hT) g8;have HK8:=hid (HK7.out.grow (Nat.lt_of_lt_of_le hgT hT) (by omega) g8);have HU8:=hid hpt;have HR8:Hid (Rdr T W8 g st cap ts q8):=r8;clear g8 hpt r8 hx HX5 HG7 HM7 HK7 HR7
  go_wp2_with fail
  refine zaf (fun W=>Below W8.heap.size W8 W∧W.heap[W8.heap.size]?=some (.cells #[.pointer (some ⟨bp,0,none⟩),.pointer (some ⟨b8,0,none⟩)] 93 (0,0))) ⟨(Below.refl _ _).alloc (Nat.le_refl _) _,heap_alloc_new _ _⟩ ?_;rintro W9 ⟨b9,r9⟩;have hs9:=b9.size;refine(za4 (bs2:=[bp,b8]) (l2:=[t,t8]) (S2:=fun j=>(w.heap.size<=j∧j<wr.heap.size)∨(W7.heap.size<=j∧j<W8.heap.size)) (HR8.out.low b9) hT (HM8.out.below b9) (zip r9) (fun h=>by cases h) (PsAt.two (HK8.out.keep (fun _ h=>.inl h) fun j hj=>b9.block j (by omega)) (HU8.out.keep (fun _ h=>.inr h) fun j hj=>b9.block j hj.2)) (fun j hj=>by
   rcases hj with hj|hj
   ·exact⟨hj.1,by omega,by omega,fun e=>by cases e⟩
   ·exact⟨by omega,by omega,by omega,fun e=>by cases e⟩) (by simp)).mono ?_
  rintro e W10 ⟨rfl,⟨v10,hM10⟩,b10⟩;have HM10:Hid _:=hM10;have HG10:=hid (zav (zab HG8.out (zae b9)) b10);have HR10:Hid (Rdr T W10 g st cap ts q8):=(HR8.out.low b9).below hT b10;clear hM10 b10 b9 r9 HM8 HG8 HK8 HU8 HR8
  by_cases h2:l=2
  ·have h2':((l:Int) == 2)=true:=by rw[h2];rfl
   have HP:Hid (PtP T w g st cap ts r (.returned (.pointer (some ⟨W4.heap.size,0,none⟩))) W10):=zbj HG10.out ((if_pos h2).symm.trans HX6.out) HM10.out.fin HR10.out;clear HX6 HM10 HG10 HR10 HO HH;subst h2
   go_wp2
   go_ret
   exact HP.out
  have h2':((l:Int) == 2)=false:=by rw[beq_eq_false_iff_ne];omega
  have HX7:Hid _:=(if_neg h2).symm.trans HX6.out;clear HX6
  go_wp2
  exact⟨⟨W4.heap.size,_,q8,m,rfl,HM10.out.fin,HG10.out,HR10.out,HX7.out,by omega⟩,by rw[HR10.out.pos,HPQ.out];omega⟩
theorem zfe (n:Nat):ExpC ts T g st cap n:=by
 induction n using Nat.strongRecOn with
 | ind n ih=>
  cases n with
  | zero=>exact⟨fun _ _ _ _ _ h=>absurd rfl h,fun _ _ _ h=>absurd rfl h,fun _ _ _ h=>absurd rfl h,fun _ _ _ h=>absurd rfl h⟩
  | succ n=>
   have h:∀ m,m<=n->ExpC ts T g st cap m:=fun m hm=>ih m (by omega);exact⟨fun w l p hl hR ho=>zpd h l hl hR ho,fun w p hR ho=>zpb (h n (Nat.le_refl _)) hR ho,fun w p hR ho=>zno h hR ho,fun w p hR ho=>znl (h n (Nat.le_refl _)) hR ho⟩
end
section
variable {T:Nat}{w:World}{g:Nat}{st:Option Addr}{cap:Nat}{ts:List Tok}{p:Nat}
theorem zgd (n:Nat)(hR:Rdr T w g st cap ts p)(ho:varP ts (fns ts n) p≠.out):Calls Tryz.prog 108 #[.pointer (some ⟨g,0,none⟩)] w (PtP T w g st cap ts (varP ts (fns ts n) p)):=by
 have HR0:=hid hR;have hT:=hR.hT;have hgT:=hR.hg;have HG0:Hid (w.grownBy w (some g)):=zbp _ _;clear hR;obtain⟨r,hX⟩:∃ r,varP ts (fns ts n) p=r:=⟨_,rfl⟩;rw[hX] at ho ⊢;have HX0:=hid hX;have HO:=hid ho;clear hX ho;unfold varP at HX0
 go_enter Tryz.func108,Tryz.ntmps108
 go_wp2_with fail
 refine(zbi 4 HR0.out).mono ?_;rintro e W1 ⟨bk1,rfl,hM,b1⟩;have HM1:Hid (Mk w.heap.size W1 bk1 4 ⟨#[]⟩ 0 (herI ts p) (herI ts p) 0 (.slice none 0 0) []):=hM.mono HG0.out.size;have HG1:=hid (zab HG0.out (zae b1));have HR1:=hid (HR0.out.low b1);clear hM b1 HG0 HR0
 go_wp2_with fail
 refine(zbd ⟨#[118,97,114]⟩ (by simp) HR1.out).mono ?_;rintro e W2 ⟨g1,hm0⟩;have hm:(if isT ts p [118,97,114] then e=.returned (.tuple #[])∧Rdr T W2 g st cap ts (p+1) else e=wroE (herI ts p)):=hm0;clear hm0;obtain⟨bb,hb⟩:∃ bb,isT ts p [118,97,114]=bb:=⟨_,rfl⟩;rw[hb] at hm
 cases bb
 ·simp only[Bool.false_eq_true,if_false] at hm;subst hm;have HP:Hid (PtP T w g st cap ts r (wroE (herI ts p)) W2):=zap (zab HG1.out g1) (zda hb HX0.out);clear HG1 HR1 HX0 HM1;unfold wroE
  go_wp2
  exact⟨rfl,HP.out⟩
 simp only[if_true] at hm;obtain⟨rfl,r1⟩:=hm;have HX2:Hid _:=zcl hb HX0.out;have HG3:=hid (zab HG1.out g1);have HM3:=hid (HM1.out.grow (Nat.lt_of_lt_of_le hgT hT) g1);have HR2:Hid (Rdr T W2 g st cap ts (p+1)):=r1;clear g1 r1 hb HX0 HR1 HG1 HM1
 go_wp2_with fail
 refine(zc9 HR2.out).mono ?_;rintro e W4 ⟨g1,hm⟩;obtain⟨bb,hb⟩:∃ bb,namB ts (p+1)=bb:=⟨_,rfl⟩;rw[hb] at hm
 cases bb
 ·simp only[Bool.false_eq_true,if_false] at hm;subst hm;have HP:Hid (PtP T w g st cap ts r (wroE (herI ts (p+1))) W4):=zap (zab HG3.out g1) (zeq hb HX2.out);clear HG3 HR2 HX2 HM3;unfold wroE
  go_wp2
  exact⟨rfl,HP.out⟩
 simp only[if_true] at hm;obtain⟨rfl,r1⟩:=hm;have HX4:Hid _:=zdt hb HX2.out;have HG5:=hid (zab HG3.out g1);have HM5:=hid (HM3.out.grow (Nat.lt_of_lt_of_le hgT hT) g1);have HR4:Hid (Rdr T W4 g st cap ts ((p+1)+1)):=r1;clear g1 r1 hb HX2 HR2 HG3 HM3
 go_wp2_with fail
 refine(zco (nxT ts (p+1)) HM5.out).mono ?_;rintro e W6 ⟨rfl,hM,b1⟩;have HM6:=hid hM;have HG7:=hid (zav HG5.out b1);have HR7:=hid (HR4.out.below hT b1);clear hM b1 HM5 HG5 HR4;have HL8:Hid ((bk1<W6.heap.size∧∀ q,((.slice none 0 0):Value).ownBlock=some q->q<W6.heap.size)∧w.heap.size<=W6.heap.size∧g<W6.heap.size):=⟨HM6.out.at,HG7.out.size,HR7.out.lt⟩
 go_wp2_with fail
 refine(zgq HR7.out).mono ?_;rintro e W8 ⟨g1,hm⟩;rcases hx:typP ts ((p+1)+1) with⟨t8,q8⟩ | s8|_
 rotate_left
 ·rw[hx] at hm;have hm':e=wroE s8:=hm;subst hm';have HP:Hid (PtP T w g st cap ts r (wroE (s8)) W8):=zap (zab HG7.out g1) (zas hx HX4.out);clear HG7 HR7 HX4 HM6 HL8;unfold wroE
  go_wp2
  exact⟨rfl,HP.out⟩
 ·rw[hx] at hm;exact hm.elim
 rw[hx] at hm;obtain⟨bk8,rfl,hpt,r1⟩:=hm;have HX8:Hid _:=za3 hx HX4.out;have hsz8:=g1.size;have HG9:=hid (zab HG7.out g1);have HM9:=hid (HM6.out.grow (Nat.lt_of_lt_of_le hgT hT) g1);have HK8:=hid hpt;have HR8:Hid (Rdr T W8 g st cap ts q8):=r1;clear g1 r1 hpt hx HX4 HR7 HG7 HM6
 go_wp2_with fail
 refine zaf (fun W=>Below W8.heap.size W8 W∧W.heap[W8.heap.size]?=some (.cells #[.pointer (some ⟨bk8,0,none⟩)] 93 (0,0))) ⟨(Below.refl _ _).alloc (Nat.le_refl _) _,heap_alloc_new _ _⟩ ?_;rintro Wa10 ⟨ba,ra⟩;refine(zcm (bs2:=[bk8]) (l2:=[t8]) (S2:=fun j=>W6.heap.size<=j∧j<W8.heap.size) (HM9.out.below ba) (zau ra) (fun h=>by cases h) (PsAt.one (HK8.out.low (Nat.le_refl _) ba)) (zb7 HL8.out.1 HL8.out.2.1 ba.size) (by simp)).mono ?_;rintro e W10 ⟨rfl,⟨v10,hM⟩,b1⟩;have HM10:=hid hM;have HGa10:=hid (zab HG9.out (zae ba));have HRa10:=hid (HR8.out.low ba);have HG11:=hid (zav HGa10.out b1);have HR11:=hid (HRa10.out.below hT b1);clear hM b1 ba ra HM9 HL8 HG9 HR8 HGa10 HRa10 HK8
 go_wp2_with fail
 refine(zdx ⟨#[61]⟩ (by simp) HR11.out).mono ?_;rintro e W12 ⟨he,g1,r1⟩;obtain⟨bb,hb⟩:∃ bb,isT ts q8 [61]=bb:=⟨_,rfl⟩;rw[show isT ts q8 (⟨#[61]⟩:ByteArray).data.toList=bb from hb] at he r1;subst he;rw[hb] at HX8;have HG13:=hid (zab HG11.out g1);have HM13:=hid (HM10.out.grow (Nat.lt_of_lt_of_le hgT hT) g1);clear g1 hb HR11 HG11 HM10
 cases bb
 rotate_left
 ·skip
  have HX12:Hid _:=za8 rfl HX8.out;have HR12:Hid (Rdr T W12 g st cap ts (q8+1)):=r1;clear r1 HX8;have HL14:Hid ((bk1<W12.heap.size∧∀ q,(v10:Value).ownBlock=some q->q<W12.heap.size)∧w.heap.size<=W12.heap.size∧g<W12.heap.size):=⟨HM13.out.at,HG13.out.size,HR12.out.lt⟩
  go_wp2_with fail
  refine(zeg (zfe n) HR12.out (zay HX12.out HO.out)).mono ?_;rintro e W14 ⟨g1,hm⟩;rcases hx:(fns ts n).bin 0 (q8+1) with⟨t14,q14⟩ | s14|_
  rotate_left
  ·rw[hx] at hm;have hm':e=wroE s14:=hm;subst hm';have HP:Hid (PtP T w g st cap ts r (wroE (s14)) W14):=zap (zab HG13.out g1) (zas hx HX12.out);clear HG13 HR12 HX12 HM13 HL14;unfold wroE
   go_wp2
   exact⟨rfl,HP.out⟩
  ·rw[hx] at hm;exact hm.elim
  rw[hx] at hm;obtain⟨bk14,rfl,hpt,r1⟩:=hm;have HX14:Hid _:=za3 hx HX12.out;have hsz14:=g1.size;have HG15:=hid (zab HG13.out g1);have HM15:=hid (HM13.out.grow (Nat.lt_of_lt_of_le hgT hT) g1);have HK14:=hid hpt;have HR14:Hid (Rdr T W14 g st cap ts q14):=r1;clear g1 r1 hpt hx HX12 HR12 HG13 HM13
  go_wp2_with fail
  refine zaf (fun W=>Below W14.heap.size W14 W∧W.heap[W14.heap.size]?=some (.cells #[.pointer (some ⟨bk14,0,none⟩)] 93 (0,0))) ⟨(Below.refl _ _).alloc (Nat.le_refl _) _,heap_alloc_new _ _⟩ ?_;rintro Wa16 ⟨ba,ra⟩;refine(zcm (bs2:=[bk14]) (l2:=[t14]) (S2:=fun j=>W12.heap.size<=j∧j<W14.heap.size) (HM15.out.below ba) (zau ra) (fun h=>by cases h) (PsAt.one (HK14.out.low (Nat.le_refl _) ba)) (zb7 HL14.out.1 HL14.out.2.1 ba.size) (by simp)).mono ?_;rintro e W16 ⟨rfl,⟨v16,hM⟩,b1⟩;have HM16:=hid hM;have HGa16:=hid (zab HG15.out (zae ba));have HRa16:=hid (HR14.out.low ba);have HG17:=hid (zav HGa16.out b1);have HR17:=hid (HRa16.out.below hT b1);clear hM b1 ba ra HM15 HL14 HG15 HR14 HGa16 HRa16 HK14
  go_wp2_with fail
  refine(za4 (bs2:=[]) (l2:=[]) (S2:=fun _=>False) HR17.out hT HM16.out RowsAt.none (fun _=>⟨rfl,rfl⟩) (PsAt.nil _ _) (fun _ h=>h.elim) (by simp)).mono ?_;rintro e W18 ⟨rfl,⟨v18,hM⟩,b1⟩;have HM18:=hid hM;have HG19:=hid (zav HG17.out b1);have HR19:=hid (HR17.out.below hT b1);clear hM b1 HM16 HG17 HR17
  go_wp2
  go_ret
  exact zbj HG19.out HX14.out HM18.out.fin HR19.out
 have HX12:Hid _:=zbu rfl HX8.out;have HR12:Hid (Rdr T W12 g st cap ts q8):=r1;clear r1 HX8
 go_wp2_with fail
 refine(za4 (bs2:=[]) (l2:=[]) (S2:=fun _=>False) HR12.out hT HM13.out RowsAt.none (fun _=>⟨rfl,rfl⟩) (PsAt.nil _ _) (fun _ h=>h.elim) (by simp)).mono ?_;rintro e W20 ⟨rfl,⟨v20,hM⟩,b1⟩;have HM20:=hid hM;have HG21:=hid (zav HG13.out b1);have HR21:=hid (HR12.out.below hT b1);clear hM b1 HM13 HG13 HR12
 go_wp2
 go_ret
 exact zbj HG21.out HX12.out HM20.out.fin HR21.out
theorem znq (n:Nat)(hR:Rdr T w g st cap ts p)(ho:shoP ts (fns ts n) p≠.out):Calls Tryz.prog 171 #[.pointer (some ⟨g,0,none⟩)] w (PtP T w g st cap ts (shoP ts (fns ts n) p)):=by
 have HR0:=hid hR;have hT:=hR.hT;have hgT:=hR.hg;have HG0:Hid (w.grownBy w (some g)):=zbp _ _;clear hR;obtain⟨r,hX⟩:∃ r,shoP ts (fns ts n) p=r:=⟨_,rfl⟩;rw[hX] at ho ⊢;have HX0:=hid hX;have HO:=hid ho;clear hX ho;unfold shoP at HX0
 go_enter Tryz.func171,Tryz.ntmps171
 go_wp2_with fail
 refine(zbi 17 HR0.out).mono ?_;rintro e W1 ⟨bk1,rfl,hM,b1⟩;have HM1:Hid (Mk w.heap.size W1 bk1 17 ⟨#[]⟩ 0 (herI ts p) (herI ts p) 0 (.slice none 0 0) []):=hM.mono HG0.out.size;have HG1:=hid (zab HG0.out (zae b1));have HR1:=hid (HR0.out.low b1);clear hM b1 HG0 HR0
 go_wp2_with fail
 refine(zc9 HR1.out).mono ?_;rintro e W2 ⟨g1,hm⟩;obtain⟨bb,hb⟩:∃ bb,namB ts p=bb:=⟨_,rfl⟩;rw[hb] at hm
 cases bb
 ·simp only[Bool.false_eq_true,if_false] at hm;subst hm;have HP:Hid (PtP T w g st cap ts r (wroE (herI ts p)) W2):=zap (zab HG1.out g1) (zeq hb HX0.out);clear HG1 HR1 HX0 HM1;unfold wroE
  go_wp2
  exact⟨rfl,HP.out⟩
 simp only[if_true] at hm;obtain⟨rfl,r1⟩:=hm;have HX2:Hid _:=zdt hb HX0.out;have HG3:=hid (zab HG1.out g1);have HM3:=hid (HM1.out.grow (Nat.lt_of_lt_of_le hgT hT) g1);have HR2:Hid (Rdr T W2 g st cap ts (p+1)):=r1;clear g1 r1 hb HX0 HR1 HG1 HM1
 go_wp2_with fail
 refine(zco (nxT ts p) HM3.out).mono ?_;rintro e W4 ⟨rfl,hM,b1⟩;have HM4:=hid hM;have HG5:=hid (zav HG3.out b1);have HR5:=hid (HR2.out.below hT b1);clear hM b1 HM3 HG3 HR2
 go_wp2_with fail
 refine(zbd ⟨#[58,61]⟩ (by simp) HR5.out).mono ?_;rintro e W6 ⟨g1,hm0⟩;have hm:(if isT ts (p+1) [58,61] then e=.returned (.tuple #[])∧Rdr T W6 g st cap ts ((p+1)+1) else e=wroE (herI ts (p+1))):=hm0;clear hm0;obtain⟨bb,hb⟩:∃ bb,isT ts (p+1) [58,61]=bb:=⟨_,rfl⟩;rw[hb] at hm
 cases bb
 ·simp only[Bool.false_eq_true,if_false] at hm;subst hm;have HP:Hid (PtP T w g st cap ts r (wroE (herI ts (p+1))) W6):=zap (zab HG5.out g1) (zda hb HX2.out);clear HG5 HR5 HX2 HM4;unfold wroE
  go_wp2
  exact⟨rfl,HP.out⟩
 simp only[if_true] at hm;obtain⟨rfl,r1⟩:=hm;have HX6:Hid _:=zcl hb HX2.out;have HG7:=hid (zab HG5.out g1);have HM7:=hid (HM4.out.grow (Nat.lt_of_lt_of_le hgT hT) g1);have HR6:Hid (Rdr T W6 g st cap ts ((p+1)+1)):=r1;clear g1 r1 hb HX2 HR5 HG5 HM4;have HL8:Hid ((bk1<W6.heap.size∧∀ q,((.slice none 0 0):Value).ownBlock=some q->q<W6.heap.size)∧w.heap.size<=W6.heap.size∧g<W6.heap.size):=⟨HM7.out.at,HG7.out.size,HR6.out.lt⟩
 go_wp2_with fail
 refine(zeg (zfe n) HR6.out (zay HX6.out HO.out)).mono ?_;rintro e W8 ⟨g1,hm⟩;rcases hx:(fns ts n).bin 0 ((p+1)+1) with⟨t8,q8⟩ | s8|_
 rotate_left
 ·rw[hx] at hm;have hm':e=wroE s8:=hm;subst hm';have HP:Hid (PtP T w g st cap ts r (wroE (s8)) W8):=zap (zab HG7.out g1) (zas hx HX6.out);clear HG7 HR6 HX6 HM7 HL8;unfold wroE
  go_wp2
  exact⟨rfl,HP.out⟩
 ·rw[hx] at hm;exact hm.elim
 rw[hx] at hm;obtain⟨bk8,rfl,hpt,r1⟩:=hm;have HX8:Hid _:=za3 hx HX6.out;have hsz8:=g1.size;have HG9:=hid (zab HG7.out g1);have HM9:=hid (HM7.out.grow (Nat.lt_of_lt_of_le hgT hT) g1);have HK8:=hid hpt;have HR8:Hid (Rdr T W8 g st cap ts q8):=r1;clear g1 r1 hpt hx HX6 HR6 HG7 HM7
 go_wp2_with fail
 refine zaf (fun W=>Below W8.heap.size W8 W∧W.heap[W8.heap.size]?=some (.cells #[.pointer (some ⟨bk8,0,none⟩)] 93 (0,0))) ⟨(Below.refl _ _).alloc (Nat.le_refl _) _,heap_alloc_new _ _⟩ ?_;rintro Wa10 ⟨ba,ra⟩;refine(za4 (bs2:=[bk8]) (l2:=[t8]) (S2:=fun j=>W6.heap.size<=j∧j<W8.heap.size) (HR8.out.low ba) hT (HM9.out.below ba) (zau ra) (fun h=>by cases h) (PsAt.one (HK8.out.low (Nat.le_refl _) ba)) (zb7 HL8.out.1 HL8.out.2.1 ba.size) (by simp)).mono ?_;rintro e W10 ⟨rfl,⟨v10,hM⟩,b1⟩;have HM10:=hid hM;have HGa10:=hid (zab HG9.out (zae ba));have HRa10:=hid (HR8.out.low ba);have HG11:=hid (zav HGa10.out b1);have HR11:=hid (HRa10.out.below hT b1);clear hM b1 ba ra HM9 HL8 HG9 HR8 HGa10 HRa10 HK8
 go_wp2
 go_ret
 exact zbj HG11.out HX8.out HM10.out.fin HR11.out
theorem zh2 (n:Nat)(hR:Rdr T w g st cap ts p)(ho:simP ts (fns ts n) p≠.out):Calls Tryz.prog 172 #[.pointer (some ⟨g,0,none⟩)] w (PtP T w g st cap ts (simP ts (fns ts n) p)):=by
 have HR0:=hid hR;have hT:=hR.hT;have hgT:=hR.hg;have HG0:Hid (w.grownBy w (some g)):=zbp _ _;clear hR;obtain⟨r,hX⟩:∃ r,simP ts (fns ts n) p=r:=⟨_,rfl⟩;rw[hX] at ho ⊢;have HX0:=hid hX;have HO:=hid ho;clear hX ho;unfold simP at HX0
 go_enter Tryz.func172,Tryz.ntmps172
 go_wp2_with fail
 refine(zbi 19 HR0.out).mono ?_;rintro e W1 ⟨bk1,rfl,hM,b1⟩;have HM1:Hid (Mk w.heap.size W1 bk1 19 ⟨#[]⟩ 0 (herI ts p) (herI ts p) 0 (.slice none 0 0) []):=hM.mono HG0.out.size;have HG1:=hid (zab HG0.out (zae b1));have HR1:=hid (HR0.out.low b1);clear hM b1 HG0 HR0;have HL2:Hid ((bk1<W1.heap.size∧∀ q,((.slice none 0 0):Value).ownBlock=some q->q<W1.heap.size)∧w.heap.size<=W1.heap.size∧g<W1.heap.size):=⟨HM1.out.at,HG1.out.size,HR1.out.lt⟩
 go_wp2_with fail
 refine(zeg (zfe n) HR1.out (zay HX0.out HO.out)).mono ?_;rintro e W2 ⟨g1,hm⟩;rcases hx:(fns ts n).bin 0 p with⟨t2,q2⟩ | s2|_
 rotate_left
 ·rw[hx] at hm;have hm':e=wroE s2:=hm;subst hm';have HP:Hid (PtP T w g st cap ts r (wroE (s2)) W2):=zap (zab HG1.out g1) (zas hx HX0.out);clear HG1 HR1 HX0 HM1 HL2;unfold wroE
  go_wp2
  exact⟨rfl,HP.out⟩
 ·rw[hx] at hm;exact hm.elim
 rw[hx] at hm;obtain⟨bk2,rfl,hpt,r1⟩:=hm;have HX2:Hid _:=za3 hx HX0.out;have hsz2:=g1.size;have HG3:=hid (zab HG1.out g1);have HM3:=hid (HM1.out.grow (Nat.lt_of_lt_of_le hgT hT) g1);have HK2:=hid hpt;have HR2:Hid (Rdr T W2 g st cap ts q2):=r1;clear g1 r1 hpt hx HX0 HR1 HG1 HM1
 go_wp2_with fail
 refine zaf (fun W=>Below W2.heap.size W2 W∧W.heap[W2.heap.size]?=some (.cells #[.pointer (some ⟨bk2,0,none⟩)] 93 (0,0))) ⟨(Below.refl _ _).alloc (Nat.le_refl _) _,heap_alloc_new _ _⟩ ?_;rintro Wa4 ⟨ba,ra⟩;refine(zcm (bs2:=[bk2]) (l2:=[t2]) (S2:=fun j=>W1.heap.size<=j∧j<W2.heap.size) (HM3.out.below ba) (zau ra) (fun h=>by cases h) (PsAt.one (HK2.out.low (Nat.le_refl _) ba)) (zb7 HL2.out.1 HL2.out.2.1 ba.size) (by simp)).mono ?_;rintro e W4 ⟨rfl,⟨v4,hM⟩,b1⟩;have HM4:=hid hM;have HGa4:=hid (zab HG3.out (zae ba));have HRa4:=hid (HR2.out.low ba);have HG5:=hid (zav HGa4.out b1);have HR5:=hid (HRa4.out.below hT b1);clear hM b1 ba ra HM3 HL2 HG3 HR2 HGa4 HRa4 HK2
 go_wp2_with fail
 refine(zdx ⟨#[61]⟩ (by simp) HR5.out).mono ?_;rintro e W6 ⟨he,g1,r1⟩;obtain⟨bb,hb⟩:∃ bb,isT ts q2 [61]=bb:=⟨_,rfl⟩;rw[show isT ts q2 (⟨#[61]⟩:ByteArray).data.toList=bb from hb] at he r1;subst he;rw[hb] at HX2;have HG7:=hid (zab HG5.out g1);have HM7:=hid (HM4.out.grow (Nat.lt_of_lt_of_le hgT hT) g1);clear g1 hb HR5 HG5 HM4
 cases bb
 rotate_left
 ·skip
  have HX6:Hid _:=za8 rfl HX2.out;have HR6:Hid (Rdr T W6 g st cap ts (q2+1)):=r1;clear r1 HX2;obtain⟨hM0,b0,c0,z0⟩:=HM7.out.kind 18;have HMa8:Hid _:=hM0;have HBa8:Hid _:=b0;clear hM0 b0
  go_wp2_with fail
  refine zaf (fun W=>(Mk w.heap.size W bk1 18 ⟨#[]⟩ 0 (herI ts p) (herI ts p) 0 v4 ([]++[t2]))∧w.grownBy W (some g)∧Rdr T W g st cap ts (q2+1)) ⟨HMa8.out,zav HG7.out HBa8.out,HR6.out.below hT HBa8.out⟩ ?_;clear HMa8 HBa8 c0 z0 HM7 HG7 HR6;rintro W8 ⟨hM0,hG0,hR0⟩;have HM8:=hid hM0;have HG8:=hid hG0;have HR8:=hid hR0;clear hM0 hG0 hR0;have HL9:Hid ((bk1<W8.heap.size∧∀ q,(v4:Value).ownBlock=some q->q<W8.heap.size)∧w.heap.size<=W8.heap.size∧g<W8.heap.size):=⟨HM8.out.at,HG8.out.size,HR8.out.lt⟩;refine(zeg (zfe n) HR8.out (zay HX6.out HO.out)).mono ?_;rintro e W9 ⟨g1,hm⟩;rcases hx:(fns ts n).bin 0 (q2+1) with⟨t9,q9⟩ | s9|_
  rotate_left
  ·rw[hx] at hm;have hm':e=wroE s9:=hm;subst hm';have HP:Hid (PtP T w g st cap ts r (wroE (s9)) W9):=zap (zab HG8.out g1) (zas hx HX6.out);clear HG8 HR8 HX6 HM8 HL9;unfold wroE
   go_wp2
   exact⟨rfl,HP.out⟩
  ·rw[hx] at hm;exact hm.elim
  rw[hx] at hm;obtain⟨bk9,rfl,hpt,r1⟩:=hm;have HX9:Hid _:=za3 hx HX6.out;have hsz9:=g1.size;have HG10:=hid (zab HG8.out g1);have HM10:=hid (HM8.out.grow (Nat.lt_of_lt_of_le hgT hT) g1);have HK9:=hid hpt;have HR9:Hid (Rdr T W9 g st cap ts q9):=r1;clear g1 r1 hpt hx HX6 HR8 HG8 HM8
  go_wp2_with fail
  refine zaf (fun W=>Below W9.heap.size W9 W∧W.heap[W9.heap.size]?=some (.cells #[.pointer (some ⟨bk9,0,none⟩)] 93 (0,0))) ⟨(Below.refl _ _).alloc (Nat.le_refl _) _,heap_alloc_new _ _⟩ ?_;rintro Wa11 ⟨ba,ra⟩;refine(zcm (bs2:=[bk9]) (l2:=[t9]) (S2:=fun j=>W8.heap.size<=j∧j<W9.heap.size) (HM10.out.below ba) (zau ra) (fun h=>by cases h) (PsAt.one (HK9.out.low (Nat.le_refl _) ba)) (zb7 HL9.out.1 HL9.out.2.1 ba.size) (by simp)).mono ?_;rintro e W11 ⟨rfl,⟨v11,hM⟩,b1⟩;have HM11:=hid hM;have HGa11:=hid (zab HG10.out (zae ba));have HRa11:=hid (HR9.out.low ba);have HG12:=hid (zav HGa11.out b1);have HR12:=hid (HRa11.out.below hT b1);clear hM b1 ba ra HM10 HL9 HG10 HR9 HGa11 HRa11 HK9
  go_wp2_with fail
  refine(za4 (bs2:=[]) (l2:=[]) (S2:=fun _=>False) HR12.out hT HM11.out RowsAt.none (fun _=>⟨rfl,rfl⟩) (PsAt.nil _ _) (fun _ h=>h.elim) (by simp)).mono ?_;rintro e W13 ⟨rfl,⟨v13,hM⟩,b1⟩;have HM13:=hid hM;have HG14:=hid (zav HG12.out b1);have HR14:=hid (HR12.out.below hT b1);clear hM b1 HM11 HG12 HR12
  go_wp2
  go_ret
  exact zbj HG14.out HX9.out HM13.out.fin HR14.out
 have HX6:Hid _:=zbu rfl HX2.out;have HR6:Hid (Rdr T W6 g st cap ts q2):=r1;clear r1 HX2
 go_wp2_with fail
 refine(za4 (bs2:=[]) (l2:=[]) (S2:=fun _=>False) HR6.out hT HM7.out RowsAt.none (fun _=>⟨rfl,rfl⟩) (PsAt.nil _ _) (fun _ h=>h.elim) (by simp)).mono ?_;rintro e W15 ⟨rfl,⟨v15,hM⟩,b1⟩;have HM15:=hid hM;have HG16:=hid (zav HG7.out b1);have HR16:=hid (HR6.out.below hT b1);clear hM b1 HM7 HG7 HR6
 go_wp2
 go_ret
 exact zbj HG16.out HX6.out HM15.out.fin HR16.out
theorem zl5 (n:Nat)(hR:Rdr T w g st cap ts p)(ho:resP ts (fns ts n) p≠.out):Calls Tryz.prog 170 #[.pointer (some ⟨g,0,none⟩)] w (PtP T w g st cap ts (resP ts (fns ts n) p)):=by
 have HR0:=hid hR;have hT:=hR.hT;have hgT:=hR.hg;have HG0:Hid (w.grownBy w (some g)):=zbp _ _;clear hR;obtain⟨r,hX⟩:∃ r,resP ts (fns ts n) p=r:=⟨_,rfl⟩;rw[hX] at ho ⊢;have HX0:=hid hX;have HO:=hid ho;clear hX ho;unfold resP at HX0
 go_enter Tryz.func170,Tryz.ntmps170
 have hfd:∀ (a b c:Value) (W:World),(Instr.field 38 (.agg #[a,b,c]) 0).run Tryz.prog W=.ok a W:=fun _ _ _ _=>rfl
 go_wp2_with fail
 refine(zbi 16 HR0.out).mono ?_;rintro e W1 ⟨bk1,rfl,hM,b1⟩;have HM1:Hid (Mk w.heap.size W1 bk1 16 ⟨#[]⟩ 0 (herI ts p) (herI ts p) 0 (.slice none 0 0) []):=hM.mono HG0.out.size;have HG1:=hid (zab HG0.out (zae b1));have HR1:=hid (HR0.out.low b1);clear hM b1 HG0 HR0
 go_wp2_with fail
 refine(zbd ⟨#[114,101,116,117,114,110]⟩ (by simp) HR1.out).mono ?_;rintro e W2 ⟨g1,hm0⟩;have hm:(if isT ts p [114,101,116,117,114,110] then e=.returned (.tuple #[])∧Rdr T W2 g st cap ts (p+1) else e=wroE (herI ts p)):=hm0;clear hm0;obtain⟨bb,hb⟩:∃ bb,isT ts p [114,101,116,117,114,110]=bb:=⟨_,rfl⟩;rw[hb] at hm
 cases bb
 ·simp only[Bool.false_eq_true,if_false] at hm;subst hm;have HP:Hid (PtP T w g st cap ts r (wroE (herI ts p)) W2):=zap (zab HG1.out g1) (zda hb HX0.out);clear HG1 HR1 HX0 HM1;unfold wroE
  go_wp2
  exact⟨rfl,HP.out⟩
 simp only[if_true] at hm;obtain⟨rfl,r1⟩:=hm;have HX2:Hid _:=zcl hb HX0.out;have HG3:=hid (zab HG1.out g1);have HM3:=hid (HM1.out.grow (Nat.lt_of_lt_of_le hgT hT) g1);have HR2:Hid (Rdr T W2 g st cap ts (p+1)):=r1;clear g1 r1 hb HX0 HR1 HG1 HM1
 go_wp2_with fail
 refine(zc8 HR2.out).mono ?_;rintro e W4 ⟨rfl,b1⟩;have g1:W2.grownBy W4 (some g):=zae b1;have HR4:=hid (HR2.out.low b1);have HG5:=hid (zab HG3.out g1);have HM5:=hid (HM3.out.grow (Nat.lt_of_lt_of_le hgT hT) g1);clear g1 b1 HR2 HG3 HM3;unfold Tok.cells
 by_cases hk5:(nxT ts (p+1)).kind=5
 ·have hk5':((nxT ts (p+1)).kind != 5)=false:=by rw[hk5];rfl
  have hk6:((nxT ts (p+1)).kind == 5)=true:=by rw[hk5];rfl
  rw[hk6] at HX2;have HX4:Hid _:=zbu (by rfl) HX2.out;clear HX2 hk6
  go_wp2_with fail
  refine(za4 (bs2:=[]) (l2:=[]) (S2:=fun _=>False) HR4.out hT HM5.out RowsAt.none (fun _=>⟨rfl,rfl⟩) (PsAt.nil _ _) (fun _ h=>h.elim) (by simp)).mono ?_;rintro e W6 ⟨rfl,⟨v6,hM⟩,b1⟩;have HM6:=hid hM;have HG7:=hid (zav HG5.out b1);have HR7:=hid (HR4.out.below hT b1);clear hM b1 HM5 HG5 HR4
  go_wp2
  go_ret
  exact zbj HG7.out HX4.out HM6.out.fin HR7.out
 have hk5':((nxT ts (p+1)).kind != 5)=true:=by rw[bne,beq_eq_false_iff_ne.2 hk5];rfl
 have hk6:((nxT ts (p+1)).kind == 5)=false:=by rw[beq_eq_false_iff_ne];exact hk5
 rw[hk6] at HX2;clear hk6
 go_wp2_with fail
 refine(zd8 ⟨#[125]⟩ HR4.out).mono ?_;rintro e W8 ⟨he,b1⟩;obtain⟨bb,hb⟩:∃ bb,isT ts (p+1) [125]=bb:=⟨_,rfl⟩;rw[show isT ts (p+1) (⟨#[125]⟩:ByteArray).data.toList=bb from hb] at he;subst he;rw[hb] at HX2;have g1:W4.grownBy W8 (some g):=zae b1;have HR8:=hid (HR4.out.low b1);have HG9:=hid (zab HG5.out g1);have HM9:=hid (HM5.out.grow (Nat.lt_of_lt_of_le hgT hT) g1);clear g1 b1 hb HR4 HG5 HM5
 cases bb
 ·have HX8:Hid _:=za8 (by rfl) HX2.out;clear HX2;have HL10:Hid ((bk1<W8.heap.size∧∀ q,((.slice none 0 0):Value).ownBlock=some q->q<W8.heap.size)∧w.heap.size<=W8.heap.size∧g<W8.heap.size):=⟨HM9.out.at,HG9.out.size,HR8.out.lt⟩
  go_wp2_with fail
  refine(zeg (zfe n) HR8.out (zay HX8.out HO.out)).mono ?_;rintro e W10 ⟨g1,hm⟩;rcases hx:(fns ts n).bin 0 (p+1) with⟨t10,q10⟩ | s10|_
  rotate_left
  ·rw[hx] at hm;have hm':e=wroE s10:=hm;subst hm';have HP:Hid (PtP T w g st cap ts r (wroE (s10)) W10):=zap (zab HG9.out g1) (zas hx HX8.out);clear HG9 HR8 HX8 HM9 HL10;unfold wroE
   go_wp2
   exact⟨rfl,HP.out⟩
  ·rw[hx] at hm;exact hm.elim
  rw[hx] at hm;obtain⟨bk10,rfl,hpt,r1⟩:=hm;have HX10:Hid _:=za3 hx HX8.out;have hsz10:=g1.size;have HG11:=hid (zab HG9.out g1);have HM11:=hid (HM9.out.grow (Nat.lt_of_lt_of_le hgT hT) g1);have HK10:=hid hpt;have HR10:Hid (Rdr T W10 g st cap ts q10):=r1;clear g1 r1 hpt hx HX8 HR8 HG9 HM9
  go_wp2_with fail
  refine zaf (fun W=>Below W10.heap.size W10 W∧W.heap[W10.heap.size]?=some (.cells #[.pointer (some ⟨bk10,0,none⟩)] 93 (0,0))) ⟨(Below.refl _ _).alloc (Nat.le_refl _) _,heap_alloc_new _ _⟩ ?_;rintro Wa12 ⟨ba,ra⟩;refine(zcm (bs2:=[bk10]) (l2:=[t10]) (S2:=fun j=>W8.heap.size<=j∧j<W10.heap.size) (HM11.out.below ba) (zau ra) (fun h=>by cases h) (PsAt.one (HK10.out.low (Nat.le_refl _) ba)) (zb7 HL10.out.1 HL10.out.2.1 ba.size) (by simp)).mono ?_;rintro e W12 ⟨rfl,⟨v12,hM⟩,b1⟩;have HM12:=hid hM;have HGa12:=hid (zab HG11.out (zae ba));have HRa12:=hid (HR10.out.low ba);have HG13:=hid (zav HGa12.out b1);have HR13:=hid (HRa12.out.below hT b1);clear hM b1 ba ra HM11 HL10 HG11 HR10 HGa12 HRa12 HK10
  go_wp2_with fail
  refine(za4 (bs2:=[]) (l2:=[]) (S2:=fun _=>False) HR13.out hT HM12.out RowsAt.none (fun _=>⟨rfl,rfl⟩) (PsAt.nil _ _) (fun _ h=>h.elim) (by simp)).mono ?_;rintro e W14 ⟨rfl,⟨v14,hM⟩,b1⟩;have HM14:=hid hM;have HG15:=hid (zav HG13.out b1);have HR15:=hid (HR13.out.below hT b1);clear hM b1 HM12 HG13 HR13
  go_wp2
  go_ret
  exact zbj HG15.out HX10.out HM14.out.fin HR15.out
 have HX8:Hid _:=zbu (by rfl) HX2.out;clear HX2
 go_wp2_with fail
 refine(za4 (bs2:=[]) (l2:=[]) (S2:=fun _=>False) HR8.out hT HM9.out RowsAt.none (fun _=>⟨rfl,rfl⟩) (PsAt.nil _ _) (fun _ h=>h.elim) (by simp)).mono ?_;rintro e W16 ⟨rfl,⟨v16,hM⟩,b1⟩;have HM16:=hid hM;have HG17:=hid (zav HG9.out b1);have HR17:=hid (HR8.out.below hT b1);clear hM b1 HM9 HG9 HR8
 go_wp2
 go_ret
 exact zbj HG17.out HX8.out HM16.out.fin HR17.out
end
end Go.Proofs.YtmclgbkijeidaaaGreatDoor
