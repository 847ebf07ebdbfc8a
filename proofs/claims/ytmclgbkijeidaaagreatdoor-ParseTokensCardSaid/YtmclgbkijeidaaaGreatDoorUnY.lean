import Derived.Test.YtmclgbkijeidaaaGreatDoorUnW
import Derived.Test.YtmclgbkijeidaaaGreatDoorUnQaS
import Derived.Test.YtmclgbkijeidaaaGreatDoorUnX
import Derived.Test.YtmclgbkijeidaaaGreatDoorUnQaV
import Derived.Test.YtmclgbkijeidaaaGreatDoorUnP
import Derived.Test.YtmclgbkijeidaaaGreatDoorUnQ
import Derived.Test.YtmclgbkijeidaaaGreatDoorUnS
import Derived.Lib.SlBytesConst
import Derived.Test.YtmclgbkijeidaaaGreatDoorUnC
namespace Go.Proofs.YtmclgbkijeidaaaGreatDoor
open Go.RowKit
structure AllQ (T:Nat) (g:Nat) (st:Option Addr) (cap:Nat) (ts:List Tok) (m:Nat):Prop where
 row:RwQ T g st cap ts m
 una:UnQ T g st cap ts m
 prm:PrQ T g st cap ts m
 exp:ExQ T g st cap ts (dns ts m)
 stm:StQ T g st cap ts m
 brn:BrQ T g st cap ts m
 blo:BlQ T g st cap ts m
section
variable {T:Nat}{g:Nat}{st:Option Addr}{cap:Nat}{ts:List Tok}
theorem zkk {n:Nat}{w:World}{s:Qs}{r:Qv × Qs}(hU:UnQ T g st cap ts n)(hP:∀ m,m<n->PrQ T g st cap ts m)(hE:∀ m,m<n->ExQ T g st cap ts (dns ts m))(hR:QdS T w g st cap ts s)(hX:(dns ts (n+1)).una s=some r) :
  Calls Tryz.prog 149 #[.pointer (some ⟨g,0,none⟩)] w (QoP T w g st cap ts r):=by
 cases hb:s.bad
 ·exact zmc hb hU hP hE hR hX
 ·exact zki hb hU hP hE hR hX
theorem allQ (n:Nat):AllQ T g st cap ts n:=by
 induction n using Nat.strongRecOn with
 | _ n ih=>
  have hb:BlQ T g st cap ts n:=fun _ _ _ h hR=>zkh (fun m hm=>(ih m hm).stm) hR h
  cases n with
  | zero=>
   exact { row:=(fun _ _ _ _ _ _ _ _ h _=>by cases h),una:=(fun _ _ _ h _=>by cases h),prm:=(fun _ _ _ h _=>by cases h),exp:=(fun _ _ _ h _=>by cases h),stm:=(fun _ _ _ h _=>by cases h),brn:=(fun _ _ _ h _=>by cases h),blo:=hb }
  | succ n=>
   have i1:=ih n (Nat.lt_succ_self n);have hr:RwQ T g st cap ts (n+1):=fun _ _ _ _ kk hkk h1 h6 h hR=>zoi kk hkk h1 h6 i1.una (fun m hm=>(ih m (Nat.lt_succ_of_le hm)).row) hR h;exact⟨hr,fun _ _ _ h hR=>zkk i1.una (fun m hm=>(ih m (Nat.lt_succ_of_lt hm)).prm) (fun m hm=>(ih m (Nat.lt_succ_of_lt hm)).exp) hR h,
    fun _ _ _ h hR=>zmg i1.exp hR h,fun _ _ _ h hR=>zmf hr hR h,fun _ _ _ h hR=>zhd i1.exp i1.blo i1.brn hR h,
    fun _ _ _ h hR=>zjz i1.exp i1.blo i1.brn hR h,hb⟩
theorem zmj {w:World}{s:Qs}{n:Nat}{r:Qv × Qs}(hR:QdS T w g st cap ts s)(h:filD ts n s=some r):Calls Tryz.prog 24 #[.pointer (some ⟨g,0,none⟩)] w (QoP T w g st cap ts r) :=
 zkj (fun m _ _ _ _ h hR=>zmi (allQ m).exp (fun _ _ _ h hR=>zhm (allQ m).blo hR h) hR h) hR h
end
set_option maxRecDepth 100000
theorem zlf:∀ (a:List Tok)(l:Int)(t:Tok),risB l a=true->(∀ x,a.getLast?=some x->x.pos<t.pos)->(a=[]->l<t.pos)->risB l (a++[t])=true
 | [],l,t,_,_,h=>by
  show(if t.pos<=l then false else true)=true;rw[if_neg (by have:=h rfl;omega)]
 | x::r,l,t,h,h',_=>by
  rw[risB] at h
  split at h
  ·cases h
  rename_i hx
  rw[List.cons_append,risB,if_neg hx];refine zlf r x.pos t h (fun y hy=>h' y ?_) fun e=>h' x ?_
  ·rw[List.getLast?_cons,hy];rfl
  ·rw[e];rfl
theorem zra {L:List UInt8}:∀ (f p:Nat)(ds ms:List Tok),p<=L.length->risB (-1) ds=true->(∀ x,ds.getLast?=some x->x.pos<(p:Int)∨(x.pos=p∧clo (lastT ds)=false∧(p<L.length->lookR (L.drop p) false=(0,1,0)))) ->
  lexG L f p ds=(ms,0,0)->risB (-1) ms=true:=by
 intro f
 induction f with
 | zero=>
  intro p ds ms _ h _ he;rw[lexG] at he;simp only[Prod.mk.injEq] at he;rw[<-he.1];exact h
 | succ f ih=>
  intro p ds ms hp hr hla he;obtain⟨k,n,e,hl⟩:∃ k n e,lookR (L.drop p) (clo (lastT ds))=(k,n,e):=⟨_,_,_,rfl⟩
  by_cases h1:p<L.length∨clo (lastT ds)=true
  ·by_cases hee:e=0
   ·subst hee;have hsz:=zcs hl (fun e=>by
     rcases h1 with h1|h1
     ·have:=congrArg List.length e;rw[List.length_drop] at this;simp at this;omega
     ·exact h1)
    have hpn:p+n<=L.length:=by have:=hsz.1;rw[List.length_drop] at this;omega
    by_cases hk:k=0
    ·subst hk;rw[zdn h1 hl] at he;have hn:0<n:=by
      rcases hsz.2 with h|h
      ·exact h
      ·exact absurd h.1 (by decide)
     refine ih (p+n) ds ms hpn hr (fun x hx=>.inl ?_) he;rcases hla x hx with h|h
     ·have:((p+n:Nat):Int)=(p:Int)+n:=by omega
      omega
     ·have:=h.1;have:((p+n:Nat):Int)=(p:Int)+n:=by omega
      omega
    ·have hbe:∀ x,ds.getLast?=some x->x.pos<(p:Int):=fun x hx=>by
      rcases hla x hx with h|⟨-,h2,h3⟩
      ·exact h
      ·rcases h1 with h1|h1
       ·rw[h2,h3 h1] at hl;simp only[Prod.mk.injEq] at hl;exact absurd hl.1.symm hk
       ·rw[h2] at h1;cases h1
     by_cases ht:ds.length=1024
     ·rw[zde h1 hl hk ht] at he;simp at he
     ·rw[zc7 h1 hl hk ht] at he;refine ih (p+n) _ ms hpn (zlf ds (-1) _ hr hbe fun _=>by show(-1:Int)<(p:Int);omega) (fun x hx=>?_) he;rw[List.getLast?_concat] at hx;injection hx with hx;subst hx;rcases hsz.2 with h0|⟨hk5,h0,hen⟩
      ·refine .inl ?_;show(p:Int)<((p+n:Nat):Int);omega
      ·subst hk5 h0;refine .inr ⟨rfl,by rw[zb5];rfl,fun hlt=>?_⟩;rw[Nat.add_zero]
       cases hd:L.drop p with
       | nil=>have:=congrArg List.length hd;rw[List.length_drop] at this;simp at this;omega
       | cons c r=>
        rw[hd,hen] at hl;unfold lookR at hl ⊢;simp only at hl ⊢
        split at hl
        ·rename_i hc
         rw[if_pos hc];rfl
        ·exfalso
         split at hl
         ·simp at hl
         split at hl
         ·simp at hl
         split at hl
         ·simp only[Prod.mk.injEq] at hl;exact absurd hl.1 (by decide)
         split at hl
         ·simp only[Prod.mk.injEq] at hl;exact absurd hl.1 (by decide)
         split at hl
         ·simp only[Prod.mk.injEq] at hl;exact absurd hl.1 (by decide)
         split at hl
         ·simp at hl
         ·simp only[Prod.mk.injEq] at hl;exact absurd hl.1 (by decide)
   ·rw[zdm h1 hl hee] at he;simp only[Prod.mk.injEq] at he;exact absurd he.2.1 hee
  ·rw[lexG,if_neg h1] at he;simp only[Prod.mk.injEq] at he;rw[<-he.1];exact hr
theorem zpu {L:List UInt8}{ms:List Tok}(h:lexO L=(ms,0,0)):risB (-1) ms=true:=by
 unfold lexO at h
 split at h
 ·simp at h
 ·exact zra _ 0 [] ms (Nat.zero_le _) rfl (fun x hx=>by simp at hx) h
set_option maxHeartbeats 4000000
def six:List (List UInt8):=[[58,61],[61,61],[33,61],[60,61],[62,61],[38,38]]
def ones:List UInt8:=[40,41,123,125,91,93,44,46,58,61,43,45,42,47,37,60,62,33]
theorem zf1 (c:UInt8):sig1 c=ones.any (fun d=>c == d):=by simp only[sig1,ones,List.any_cons,List.any_nil,Bool.or_false,Bool.or_assoc]
theorem zd2 (x:List UInt8):sig2 x=(six.any (fun d=>x == d) || x == [124,124]):=by simp only[sig2,six,List.any_cons,List.any_nil,Bool.or_false,Bool.or_assoc]
theorem zj0 (w:World)(t:TypeId)(fr:Nat × Nat):∀ j (d:UInt8),ones[j]?=some d->(w.alloc (.cells #[.int .u8 40,.int .u8 41,.int .u8 123,.int .u8 125,.int .u8 91,.int .u8 93,.int .u8 44,.int .u8 46,.int .u8 58,.int .u8 61,.int .u8 43,.int .u8 45,.int .u8 42,.int .u8 47,.int .u8 37,.int .u8 60,.int .u8 62,.int .u8 33] t fr)).cell? ⟨w.heap.size,j,none⟩=some (.int .u8 d.toNat):=fun j d hj=>by
 rw[cell_of_row _ _ _ _ _ _ (heap_alloc_new w _)];have e:(#[.int .u8 40,.int .u8 41,.int .u8 123,.int .u8 125,.int .u8 91,.int .u8 93,.int .u8 44,.int .u8 46,.int .u8 58,.int .u8 61,.int .u8 43,.int .u8 45,.int .u8 42,.int .u8 47,.int .u8 37,.int .u8 60,.int .u8 62,.int .u8 33]:Array Value)=(ones.map (fun d=>Value.int .u8 d.toNat)).toArray:=rfl;rw[e];obtain⟨h1,h2⟩:=List.getElem?_eq_some_iff.1 hj;simp[h1,h2]
theorem zh7 {L:List UInt8}(h:L.length<2):sig2 (L.take 2)=false:=by
 match L,h with
 | [],_=>rfl
 | [c],_=>simp[sig2]
theorem zgv {s:ByteArray}(hp:0<s.size):s.data.toList[0]?=some (s[0]'hp):=by
 rw[List.getElem?_eq_getElem (by simpa using hp)];simp[ByteArray.getElem_eq_getElem_data]
set_option pp.deepTerms.threshold 2000 in
theorem zj1 (s:ByteArray)(w:World)(hs:s.size<=100000):Calls Tryz.prog 43 #[.string s] w fun e w'=>e=.returned (.int .i64 (sigR s.data.toList).1)∧Below w.heap.size w w':=by
 have HSL:Hid (s.data.toList.length=s.size):=by show s.data.toList.length=s.size;simp
 obtain⟨x,hx,HX⟩:∃ x:List UInt8,(s.extract 0 2).toList=x∧Hid (s.data.toList.take 2=x):=⟨_,rfl,by
  show _=_;rw[ByteArray.toList_eq];simp[ByteArray.data_extract,List.extract_eq_take_drop]⟩
 go_enter Tryz.func43,Tryz.ntmps43
 go_wp2
 go_loopw [8] (fun i wr=>∃ t:Nat,t<=6∧i=.int .i64 t∧wr=w∧(1<s.size->∀ j d,j<t->six[j]?=some d->(x == d)=false)) (fun i _=>6 - (intOf i).toNat)
 case atStart=>exact⟨0,Nat.zero_le _,rfl,rfl,fun _ j d hj=>by omega⟩
 case round=>
  obtain⟨t,ht,rfl,rfl,hall⟩:=hrel;have HA:=hid hall;clear hall
  by_cases h6:t=6
  ·subst h6;have H6:Hid (1<s.size->six.any (fun d=>x == d)=false):=by
    show _->_;intro h1;rw[List.any_eq_false];intro d hd;obtain⟨j,hj,rfl⟩:=List.mem_iff_getElem.1 hd;rw[HA.out h1 j _ hj (List.getElem?_eq_getElem hj)];simp
   clear HA
   by_cases h1:1<s.size
   ·have h1':decide ((s.size:Int) > 1)=true:=by simp;omega
    have h2':(2:Int)<=s.size:=by omega
    cases a7:((s.extract 0 2).toList == [124,124])
    rotate_left
    ·have HR:Hid ((sigR s.data.toList).1=2):=by
      show _=_;unfold sigR;rw[HX.out,zd2,<-hx,a7,Bool.or_true];rfl
     clear HX H6 hx
     go_wp2
     go_ret
     exact⟨by rw[HR.out];rfl,Below.refl _ _⟩
    ·have H2:Hid (sig2 (s.data.toList.take 2)=false):=by
      show _=_;rw[HX.out,zd2,H6.out h1,<-hx,a7];rfl
     have hne:((s.toList:List UInt8) == [])=false:=by
      rw[beq_eq_false_iff_ne,ByteArray.toList_eq];intro h;have:=congrArg List.length h;rw[HSL.out] at this;have h00:s.size=0:=this;omega
     clear HX H6;have hp:0<s.size:=by omega
     have hp':(0:Int)<s.size:=by omega
     obtain⟨c,HC⟩:∃ c,Hid (s[0]'hp=c):=⟨_,rfl⟩;have HCR:Hid ((sigR s.data.toList).1=if sig1 c then 1 else 0):=by
      show _=_;have h3:=H2.out;have h0:=zgv hp;rw[HC.out] at h0;generalize s.data.toList=M at h3 h0
      match M,h3,h0 with
      | d::r,h3,h0=>
       have:d=c:=by simpa using h0
       subst this;unfold sigR;rw[h3,if_neg (by simp)];show(if sig1 d=true then((1:Nat),(0:Int)) else(0,200)).1=_
       split <;> rfl
     clear H2 hx;obtain⟨w0,hw0⟩:∃ w0,w0=wr:=⟨_,rfl⟩;subst hw0;have hcv:=Lib.run_convert_bytes_const (P:=Tryz.prog) w0 71 5 #[.int .u8 40,.int .u8 41,.int .u8 123,.int .u8 125,.int .u8 91,.int .u8 93,.int .u8 44,.int .u8 46,.int .u8 58,.int .u8 61,.int .u8 43,.int .u8 45,.int .u8 42,.int .u8 47,.int .u8 37,.int .u8 60,.int .u8 62,.int .u8 33] 18 18 Tryz.underlying71 Tryz.underlying5;obtain⟨WA,HWA⟩:∃ WA,Hid (w0.alloc (.cells #[.int .u8 40,.int .u8 41,.int .u8 123,.int .u8 125,.int .u8 91,.int .u8 93,.int .u8 44,.int .u8 46,.int .u8 58,.int .u8 61,.int .u8 43,.int .u8 45,.int .u8 42,.int .u8 47,.int .u8 37,.int .u8 60,.int .u8 62,.int .u8 33] 5 (18,19))=WA):=⟨_,rfl⟩;have hcv':(convert 71 71 (.slice (some ⟨w0.heap.size,0,none⟩) 18 18)).run Tryz.prog (w0.alloc (.cells #[.int .u8 40,.int .u8 41,.int .u8 123,.int .u8 125,.int .u8 91,.int .u8 93,.int .u8 44,.int .u8 46,.int .u8 58,.int .u8 61,.int .u8 43,.int .u8 45,.int .u8 42,.int .u8 47,.int .u8 37,.int .u8 60,.int .u8 62,.int .u8 33] 5))=.ok (.slice (some ⟨w0.heap.size,0,none⟩) 18 18) WA:=by
      rw[hcv];exact congrArg _ HWA.out
     have HCL:Hid (∀ j (d:UInt8),ones[j]?=some d->WA.cell? ⟨w0.heap.size,j,none⟩=some (.int .u8 d.toNat)):=by
      show ∀ j (d:UInt8),ones[j]?=some d->WA.cell? ⟨w0.heap.size,j,none⟩=some (.int .u8 d.toNat);intro j d hj;rw[<-HWA.out];exact zj0 w0 5 (18,19) j d hj
     have HBB:Hid (Below w0.heap.size w0 WA):=by
      show Below w0.heap.size w0 WA;rw[<-HWA.out];exact(Below.refl _ _).alloc (Nat.le_refl _) _
     clear hcv HWA
     go_wp2
     clear hcv'
     go_loopw [34] (fun i wr'=>∃ t:Nat,t<=18∧i=.int .i64 t∧wr'=WA∧∀ j d,j<t->ones[j]?=some d->(c == d)=false) (fun i _=>18 - (intOf i).toNat)
     case atStart=>exact⟨0,Nat.zero_le _,rfl,rfl,fun j d hj=>by omega⟩
     case round=>
      obtain⟨t,ht,rfl,rfl,hall⟩:=hrel;have HA:=hid hall;clear hall
      by_cases hlt:t<18
      ·have hd:decide ((t:Int)<18)=true:=decide_eq_true (by omega);obtain⟨d,hdd⟩:∃ d,ones[t]?=some d:=⟨_,List.getElem?_eq_getElem hlt⟩;have k0:=HCL.out t d hdd
       cases a:(c == d)
       ·have a':(((s[0]'hp).toNat:Int) == (d.toNat:Int))=false:=by rw[HC.out,zkp];exact a
        have RR:Hid ((∃ t':Nat,t'<=18∧Value.int .i64 ((t:Int)+1)=.int .i64 t'∧True∧∀ j d,j<t'->ones[j]?=some d->(c == d)=false)∧18 - (intOf (.int .i64 ((t:Int)+1))).toNat<18 - (intOf (.int .i64 (t:Int))).toNat):=by
         refine⟨⟨t+1,by omega,by go_num,trivial,fun j d' hj hd'=>?_⟩,by simp[intOf];omega⟩
         by_cases hk:j=t
         ·subst hk;rw[hdd] at hd';injection hd' with hd';rw[<-hd'];exact a
         ·exact HA.out j d' (by omega) hd'
        clear HA HCR HCL hdd
        go_wp2
        exact RR.out
       ·have a':(((s[0]'hp).toNat:Int) == (d.toNat:Int))=true:=by rw[HC.out,zkp];exact a
        have HR:Hid ((sigR s.data.toList).1=1):=by
         show _=_;rw[HCR.out,if_pos];rw[zf1,List.any_eq_true];exact⟨d,List.mem_of_getElem? hdd,a⟩
        clear HA HCR HCL hdd
        go_wp2
        go_ret
        exact⟨by rw[HR.out];rfl,HBB.out⟩
      ·have hd:decide ((t:Int)<18)=false:=decide_eq_false (by omega);have HR:Hid ((sigR s.data.toList).1=0):=by
        show _=_;rw[HCR.out,if_neg];rw[zf1,Bool.not_eq_true,List.any_eq_false];intro d hdd;obtain⟨j,hj,rfl⟩:=List.mem_iff_getElem.1 hdd;have hj':j<18:=hj;rw[HA.out j _ (by omega) (List.getElem?_eq_getElem hj)];simp
       clear HA HCR HCL
       go_wp2
       go_ret
       exact⟨by rw[HR.out];rfl,HBB.out⟩
   ·have h1':decide ((s.size:Int) > 1)=false:=by simp;omega
    have H2:Hid (sig2 (s.data.toList.take 2)=false):=zh7 (by rw[HSL.out];omega);clear HX H6
    by_cases h0:s.size=0
    ·have hne:((s.toList:List UInt8) == [])=true:=by
      rw[beq_iff_eq,ByteArray.toList_eq];exact List.eq_nil_of_length_eq_zero (by rw[HSL.out];exact h0)
     have HR:Hid ((sigR s.data.toList).1=0):=by
      show _=_;rw[List.eq_nil_of_length_eq_zero (l:=s.data.toList) (by rw[HSL.out];exact h0)];rfl
     clear h0
     go_wp2
     go_ret
     exact⟨by rw[HR.out];rfl,Below.refl _ _⟩
    ·have hne:((s.toList:List UInt8) == [])=false:=by
      rw[beq_eq_false_iff_ne,ByteArray.toList_eq];intro h;have:=congrArg List.length h;rw[HSL.out] at this;have h00:s.size=0:=this;omega
     have hp:0<s.size:=by omega
     have hp':(0:Int)<s.size:=by omega
     obtain⟨c,HC⟩:∃ c,Hid (s[0]'hp=c):=⟨_,rfl⟩;have HCR:Hid ((sigR s.data.toList).1=if sig1 c then 1 else 0):=by
      show _=_;have h3:=H2.out;have h0:=zgv hp;rw[HC.out] at h0;generalize s.data.toList=M at h3 h0
      match M,h3,h0 with
      | d::r,h3,h0=>
       have:d=c:=by simpa using h0
       subst this;unfold sigR;rw[h3,if_neg (by simp)];show(if sig1 d=true then((1:Nat),(0:Int)) else(0,200)).1=_
       split <;> rfl
     clear H2 hx;obtain⟨w0,hw0⟩:∃ w0,w0=wr:=⟨_,rfl⟩;subst hw0;have hcv:=Lib.run_convert_bytes_const (P:=Tryz.prog) w0 71 5 #[.int .u8 40,.int .u8 41,.int .u8 123,.int .u8 125,.int .u8 91,.int .u8 93,.int .u8 44,.int .u8 46,.int .u8 58,.int .u8 61,.int .u8 43,.int .u8 45,.int .u8 42,.int .u8 47,.int .u8 37,.int .u8 60,.int .u8 62,.int .u8 33] 18 18 Tryz.underlying71 Tryz.underlying5;obtain⟨WA,HWA⟩:∃ WA,Hid (w0.alloc (.cells #[.int .u8 40,.int .u8 41,.int .u8 123,.int .u8 125,.int .u8 91,.int .u8 93,.int .u8 44,.int .u8 46,.int .u8 58,.int .u8 61,.int .u8 43,.int .u8 45,.int .u8 42,.int .u8 47,.int .u8 37,.int .u8 60,.int .u8 62,.int .u8 33] 5 (18,19))=WA):=⟨_,rfl⟩;have hcv':(convert 71 71 (.slice (some ⟨w0.heap.size,0,none⟩) 18 18)).run Tryz.prog (w0.alloc (.cells #[.int .u8 40,.int .u8 41,.int .u8 123,.int .u8 125,.int .u8 91,.int .u8 93,.int .u8 44,.int .u8 46,.int .u8 58,.int .u8 61,.int .u8 43,.int .u8 45,.int .u8 42,.int .u8 47,.int .u8 37,.int .u8 60,.int .u8 62,.int .u8 33] 5))=.ok (.slice (some ⟨w0.heap.size,0,none⟩) 18 18) WA:=by
      rw[hcv];exact congrArg _ HWA.out
     have HCL:Hid (∀ j (d:UInt8),ones[j]?=some d->WA.cell? ⟨w0.heap.size,j,none⟩=some (.int .u8 d.toNat)):=by
      show ∀ j (d:UInt8),ones[j]?=some d->WA.cell? ⟨w0.heap.size,j,none⟩=some (.int .u8 d.toNat);intro j d hj;rw[<-HWA.out];exact zj0 w0 5 (18,19) j d hj
     have HBB:Hid (Below w0.heap.size w0 WA):=by
      show Below w0.heap.size w0 WA;rw[<-HWA.out];exact(Below.refl _ _).alloc (Nat.le_refl _) _
     clear hcv HWA
     go_wp2
     clear hcv'
     go_loopw [34] (fun i wr'=>∃ t:Nat,t<=18∧i=.int .i64 t∧wr'=WA∧∀ j d,j<t->ones[j]?=some d->(c == d)=false) (fun i _=>18 - (intOf i).toNat)
     case atStart=>exact⟨0,Nat.zero_le _,rfl,rfl,fun j d hj=>by omega⟩
     case round=>
      obtain⟨t,ht,rfl,rfl,hall⟩:=hrel;have HA:=hid hall;clear hall
      by_cases hlt:t<18
      ·have hd:decide ((t:Int)<18)=true:=decide_eq_true (by omega);obtain⟨d,hdd⟩:∃ d,ones[t]?=some d:=⟨_,List.getElem?_eq_getElem hlt⟩;have k0:=HCL.out t d hdd
       cases a:(c == d)
       ·have a':(((s[0]'hp).toNat:Int) == (d.toNat:Int))=false:=by rw[HC.out,zkp];exact a
        have RR:Hid ((∃ t':Nat,t'<=18∧Value.int .i64 ((t:Int)+1)=.int .i64 t'∧True∧∀ j d,j<t'->ones[j]?=some d->(c == d)=false)∧18 - (intOf (.int .i64 ((t:Int)+1))).toNat<18 - (intOf (.int .i64 (t:Int))).toNat):=by
         refine⟨⟨t+1,by omega,by go_num,trivial,fun j d' hj hd'=>?_⟩,by simp[intOf];omega⟩
         by_cases hk:j=t
         ·subst hk;rw[hdd] at hd';injection hd' with hd';rw[<-hd'];exact a
         ·exact HA.out j d' (by omega) hd'
        clear HA HCR HCL hdd
        go_wp2
        exact RR.out
       ·have a':(((s[0]'hp).toNat:Int) == (d.toNat:Int))=true:=by rw[HC.out,zkp];exact a
        have HR:Hid ((sigR s.data.toList).1=1):=by
         show _=_;rw[HCR.out,if_pos];rw[zf1,List.any_eq_true];exact⟨d,List.mem_of_getElem? hdd,a⟩
        clear HA HCR HCL hdd
        go_wp2
        go_ret
        exact⟨by rw[HR.out];rfl,HBB.out⟩
      ·have hd:decide ((t:Int)<18)=false:=decide_eq_false (by omega);have HR:Hid ((sigR s.data.toList).1=0):=by
        show _=_;rw[HCR.out,if_neg];rw[zf1,Bool.not_eq_true,List.any_eq_false];intro d hdd;obtain⟨j,hj,rfl⟩:=List.mem_iff_getElem.1 hdd;have hj':j<18:=hj;rw[HA.out j _ (by omega) (List.getElem?_eq_getElem hj)];simp
       clear HA HCR HCL
       go_wp2
       go_ret
       exact⟨by rw[HR.out];rfl,HBB.out⟩
  ·obtain rfl|rfl|rfl|rfl|rfl|rfl:t=0∨t=1∨t=2∨t=3∨t=4∨t=5:=by omega
   ·have hI:Sem.run Tryz.prog (Instr.index 108 (.agg #[.string ⟨#[58,61]⟩,.string ⟨#[61,61]⟩,.string ⟨#[33,61]⟩,.string ⟨#[60,61]⟩,.string ⟨#[62,61]⟩,.string ⟨#[38,38]⟩]) (.int .i64 0)) wr=.ok (.string ⟨#[58,61]⟩) wr:=by rfl
    by_cases h1:1<s.size
    ·have h1':decide ((s.size:Int) > 1)=true:=by simp;omega
     have h2':(2:Int)<=s.size:=by omega
     cases a:((s.extract 0 2).toList == [58,61])
     ·have RR:Hid ((∃ t:Nat,t<=6∧Value.int .i64 1=.int .i64 t∧True∧(1<s.size->∀ j d,j<t->six[j]?=some d->(x == d)=false))∧6 - (intOf (.int .i64 1)).toNat<6 - (intOf (.int .i64 (0:Nat))).toNat):=by
       refine⟨⟨1,by omega,rfl,trivial,fun h1 j d hj hd=>?_⟩,by decide⟩
       by_cases hk:j=0
       ·subst hk;have:[58,61]=d:=by simpa[six] using hd
        rw[<-this,<-hx];exact a
       ·exact HA.out h1 j d (by omega) hd
      clear HA HX hx
      go_wp2
      exact RR.out
     ·have HR:Hid ((sigR s.data.toList).1=2):=by
       show _=_;unfold sigR;rw[HX.out,zd2,<-hx];rw[if_pos];simp[six,a]
      clear HA HX hx
      go_wp2
      go_ret
      exact⟨by rw[HR.out];rfl,Below.refl _ _⟩
    ·have h1':decide ((s.size:Int) > 1)=false:=by simp;omega
     have RR:Hid ((∃ t:Nat,t<=6∧Value.int .i64 1=.int .i64 t∧True∧(1<s.size->∀ j d,j<t->six[j]?=some d->(x == d)=false))∧6 - (intOf (.int .i64 1)).toNat<6 - (intOf (.int .i64 (0:Nat))).toNat):=by
      refine⟨⟨1,by omega,rfl,trivial,fun h=>absurd h h1⟩,by decide⟩
     clear HA HX hx
     go_wp2
     exact RR.out
   ·have hI:Sem.run Tryz.prog (Instr.index 108 (.agg #[.string ⟨#[58,61]⟩,.string ⟨#[61,61]⟩,.string ⟨#[33,61]⟩,.string ⟨#[60,61]⟩,.string ⟨#[62,61]⟩,.string ⟨#[38,38]⟩]) (.int .i64 1)) wr=.ok (.string ⟨#[61,61]⟩) wr:=by rfl
    by_cases h1:1<s.size
    ·have h1':decide ((s.size:Int) > 1)=true:=by simp;omega
     have h2':(2:Int)<=s.size:=by omega
     cases a:((s.extract 0 2).toList == [61,61])
     ·have RR:Hid ((∃ t:Nat,t<=6∧Value.int .i64 2=.int .i64 t∧True∧(1<s.size->∀ j d,j<t->six[j]?=some d->(x == d)=false))∧6 - (intOf (.int .i64 2)).toNat<6 - (intOf (.int .i64 (1:Nat))).toNat):=by
       refine⟨⟨2,by omega,rfl,trivial,fun h1 j d hj hd=>?_⟩,by decide⟩
       by_cases hk:j=1
       ·subst hk;have:[61,61]=d:=by simpa[six] using hd
        rw[<-this,<-hx];exact a
       ·exact HA.out h1 j d (by omega) hd
      clear HA HX hx
      go_wp2
      exact RR.out
     ·have HR:Hid ((sigR s.data.toList).1=2):=by
       show _=_;unfold sigR;rw[HX.out,zd2,<-hx];rw[if_pos];simp[six,a]
      clear HA HX hx
      go_wp2
      go_ret
      exact⟨by rw[HR.out];rfl,Below.refl _ _⟩
    ·have h1':decide ((s.size:Int) > 1)=false:=by simp;omega
     have RR:Hid ((∃ t:Nat,t<=6∧Value.int .i64 2=.int .i64 t∧True∧(1<s.size->∀ j d,j<t->six[j]?=some d->(x == d)=false))∧6 - (intOf (.int .i64 2)).toNat<6 - (intOf (.int .i64 (1:Nat))).toNat):=by
      refine⟨⟨2,by omega,rfl,trivial,fun h=>absurd h h1⟩,by decide⟩
     clear HA HX hx
     go_wp2
     exact RR.out
   ·have hI:Sem.run Tryz.prog (Instr.index 108 (.agg #[.string ⟨#[58,61]⟩,.string ⟨#[61,61]⟩,.string ⟨#[33,61]⟩,.string ⟨#[60,61]⟩,.string ⟨#[62,61]⟩,.string ⟨#[38,38]⟩]) (.int .i64 2)) wr=.ok (.string ⟨#[33,61]⟩) wr:=by rfl
    by_cases h1:1<s.size
    ·have h1':decide ((s.size:Int) > 1)=true:=by simp;omega
     have h2':(2:Int)<=s.size:=by omega
     cases a:((s.extract 0 2).toList == [33,61])
     ·have RR:Hid ((∃ t:Nat,t<=6∧Value.int .i64 3=.int .i64 t∧True∧(1<s.size->∀ j d,j<t->six[j]?=some d->(x == d)=false))∧6 - (intOf (.int .i64 3)).toNat<6 - (intOf (.int .i64 (2:Nat))).toNat):=by
       refine⟨⟨3,by omega,rfl,trivial,fun h1 j d hj hd=>?_⟩,by decide⟩
       by_cases hk:j=2
       ·subst hk;have:[33,61]=d:=by simpa[six] using hd
        rw[<-this,<-hx];exact a
       ·exact HA.out h1 j d (by omega) hd
      clear HA HX hx
      go_wp2
      exact RR.out
     ·have HR:Hid ((sigR s.data.toList).1=2):=by
       show _=_;unfold sigR;rw[HX.out,zd2,<-hx];rw[if_pos];simp[six,a]
      clear HA HX hx
      go_wp2
      go_ret
      exact⟨by rw[HR.out];rfl,Below.refl _ _⟩
    ·have h1':decide ((s.size:Int) > 1)=false:=by simp;omega
     have RR:Hid ((∃ t:Nat,t<=6∧Value.int .i64 3=.int .i64 t∧True∧(1<s.size->∀ j d,j<t->six[j]?=some d->(x == d)=false))∧6 - (intOf (.int .i64 3)).toNat<6 - (intOf (.int .i64 (2:Nat))).toNat):=by
      refine⟨⟨3,by omega,rfl,trivial,fun h=>absurd h h1⟩,by decide⟩
     clear HA HX hx
     go_wp2
     exact RR.out
   ·have hI:Sem.run Tryz.prog (Instr.index 108 (.agg #[.string ⟨#[58,61]⟩,.string ⟨#[61,61]⟩,.string ⟨#[33,61]⟩,.string ⟨#[60,61]⟩,.string ⟨#[62,61]⟩,.string ⟨#[38,38]⟩]) (.int .i64 3)) wr=.ok (.string ⟨#[60,61]⟩) wr:=by rfl
    by_cases h1:1<s.size
    ·have h1':decide ((s.size:Int) > 1)=true:=by simp;omega
     have h2':(2:Int)<=s.size:=by omega
     cases a:((s.extract 0 2).toList == [60,61])
     ·have RR:Hid ((∃ t:Nat,t<=6∧Value.int .i64 4=.int .i64 t∧True∧(1<s.size->∀ j d,j<t->six[j]?=some d->(x == d)=false))∧6 - (intOf (.int .i64 4)).toNat<6 - (intOf (.int .i64 (3:Nat))).toNat):=by
       refine⟨⟨4,by omega,rfl,trivial,fun h1 j d hj hd=>?_⟩,by decide⟩
       by_cases hk:j=3
       ·subst hk;have:[60,61]=d:=by simpa[six] using hd
        rw[<-this,<-hx];exact a
       ·exact HA.out h1 j d (by omega) hd
      clear HA HX hx
      go_wp2
      exact RR.out
     ·have HR:Hid ((sigR s.data.toList).1=2):=by
       show _=_;unfold sigR;rw[HX.out,zd2,<-hx];rw[if_pos];simp[six,a]
      clear HA HX hx
      go_wp2
      go_ret
      exact⟨by rw[HR.out];rfl,Below.refl _ _⟩
    ·have h1':decide ((s.size:Int) > 1)=false:=by simp;omega
     have RR:Hid ((∃ t:Nat,t<=6∧Value.int .i64 4=.int .i64 t∧True∧(1<s.size->∀ j d,j<t->six[j]?=some d->(x == d)=false))∧6 - (intOf (.int .i64 4)).toNat<6 - (intOf (.int .i64 (3:Nat))).toNat):=by
      refine⟨⟨4,by omega,rfl,trivial,fun h=>absurd h h1⟩,by decide⟩
     clear HA HX hx
     go_wp2
     exact RR.out
   ·have hI:Sem.run Tryz.prog (Instr.index 108 (.agg #[.string ⟨#[58,61]⟩,.string ⟨#[61,61]⟩,.string ⟨#[33,61]⟩,.string ⟨#[60,61]⟩,.string ⟨#[62,61]⟩,.string ⟨#[38,38]⟩]) (.int .i64 4)) wr=.ok (.string ⟨#[62,61]⟩) wr:=by rfl
    by_cases h1:1<s.size
    ·have h1':decide ((s.size:Int) > 1)=true:=by simp;omega
     have h2':(2:Int)<=s.size:=by omega
     cases a:((s.extract 0 2).toList == [62,61])
     ·have RR:Hid ((∃ t:Nat,t<=6∧Value.int .i64 5=.int .i64 t∧True∧(1<s.size->∀ j d,j<t->six[j]?=some d->(x == d)=false))∧6 - (intOf (.int .i64 5)).toNat<6 - (intOf (.int .i64 (4:Nat))).toNat):=by
       refine⟨⟨5,by omega,rfl,trivial,fun h1 j d hj hd=>?_⟩,by decide⟩
       by_cases hk:j=4
       ·subst hk;have:[62,61]=d:=by simpa[six] using hd
        rw[<-this,<-hx];exact a
       ·exact HA.out h1 j d (by omega) hd
      clear HA HX hx
      go_wp2
      exact RR.out
     ·have HR:Hid ((sigR s.data.toList).1=2):=by
       show _=_;unfold sigR;rw[HX.out,zd2,<-hx];rw[if_pos];simp[six,a]
      clear HA HX hx
      go_wp2
      go_ret
      exact⟨by rw[HR.out];rfl,Below.refl _ _⟩
    ·have h1':decide ((s.size:Int) > 1)=false:=by simp;omega
     have RR:Hid ((∃ t:Nat,t<=6∧Value.int .i64 5=.int .i64 t∧True∧(1<s.size->∀ j d,j<t->six[j]?=some d->(x == d)=false))∧6 - (intOf (.int .i64 5)).toNat<6 - (intOf (.int .i64 (4:Nat))).toNat):=by
      refine⟨⟨5,by omega,rfl,trivial,fun h=>absurd h h1⟩,by decide⟩
     clear HA HX hx
     go_wp2
     exact RR.out
   ·have hI:Sem.run Tryz.prog (Instr.index 108 (.agg #[.string ⟨#[58,61]⟩,.string ⟨#[61,61]⟩,.string ⟨#[33,61]⟩,.string ⟨#[60,61]⟩,.string ⟨#[62,61]⟩,.string ⟨#[38,38]⟩]) (.int .i64 5)) wr=.ok (.string ⟨#[38,38]⟩) wr:=by rfl
    by_cases h1:1<s.size
    ·have h1':decide ((s.size:Int) > 1)=true:=by simp;omega
     have h2':(2:Int)<=s.size:=by omega
     cases a:((s.extract 0 2).toList == [38,38])
     ·have RR:Hid ((∃ t:Nat,t<=6∧Value.int .i64 6=.int .i64 t∧True∧(1<s.size->∀ j d,j<t->six[j]?=some d->(x == d)=false))∧6 - (intOf (.int .i64 6)).toNat<6 - (intOf (.int .i64 (5:Nat))).toNat):=by
       refine⟨⟨6,by omega,rfl,trivial,fun h1 j d hj hd=>?_⟩,by decide⟩
       by_cases hk:j=5
       ·subst hk;have:[38,38]=d:=by simpa[six] using hd
        rw[<-this,<-hx];exact a
       ·exact HA.out h1 j d (by omega) hd
      clear HA HX hx
      go_wp2
      exact RR.out
     ·have HR:Hid ((sigR s.data.toList).1=2):=by
       show _=_;unfold sigR;rw[HX.out,zd2,<-hx];rw[if_pos];simp[six,a]
      clear HA HX hx
      go_wp2
      go_ret
      exact⟨by rw[HR.out];rfl,Below.refl _ _⟩
    ·have h1':decide ((s.size:Int) > 1)=false:=by simp;omega
     have RR:Hid ((∃ t:Nat,t<=6∧Value.int .i64 6=.int .i64 t∧True∧(1<s.size->∀ j d,j<t->six[j]?=some d->(x == d)=false))∧6 - (intOf (.int .i64 6)).toNat<6 - (intOf (.int .i64 (5:Nat))).toNat):=by
      refine⟨⟨6,by omega,rfl,trivial,fun h=>absurd h h1⟩,by decide⟩
     clear HA HX hx
     go_wp2
     exact RR.out
theorem zch (t:Tok)(w:World):Calls Tryz.prog 22 #[.agg t.cells] w fun e w'=>e=.returned (.bool (clo t))∧Below w.heap.size w w':=by
 unfold Tok.cells
 go_enter Tryz.func22,Tryz.ntmps22
 go_wp2
 all_goals go_ret
 all_goals (refine⟨za9 ?_,(Below.refl _ _).alloc (Nat.le_refl _) _⟩;simp_all [clo])
def nextR (L:List UInt8):Int × Nat × Int:=match L with
 | []=>(0,0,200)
 | c::r=>
  if clsI c.toNat=3 then(1,wordR (c::r))
  else if clsI c.toNat=4 then(2,numR (c::r))
  else if clsI c.toNat=5 then(3,quoR (c::r))
  else if clsI c.toNat=6 then(5,1,0)
  else(4,sigR (c::r))
theorem zj2 {c:UInt8}{r:List UInt8}{en:Bool}(h1:clsI c.toNat≠1)(h2:clsI c.toNat≠2)(h3:Lib.hasPrefix (c::r) [47,47]=false):lookR (c::r) en=nextR (c::r):=by
 unfold lookR nextR;simp only[h1,h2,h3,if_false,Bool.false_eq_true]
 by_cases a6:clsI c.toNat=6
 ·simp[a6]
 ·simp[a6]
def nextT (L:List UInt8):Tok:=if (nextR L).2.2≠0 then⟨0,⟨#[]⟩,0⟩ else⟨(nextR L).1,strU (L.take (nextR L).2.1),0⟩
theorem inC3 (c:UInt8):inC [3] c=decide (clsI c.toNat=3):=by rw[Bool.eq_iff_iff];simp[inC]
theorem inC4 (c:UInt8):inC [4] c=decide (clsI c.toNat=4):=by rw[Bool.eq_iff_iff];simp[inC]
theorem zgw {L:List UInt8}{k:Int}{n:Nat}{er:Int}(h:nextR L=(k,n,er))(he:er≠0):Ending.returned (.tuple #[.agg #[.int .i64 0,.string ⟨#[]⟩,.int .i64 0],.int .i64 er])=.returned (.tuple #[.agg (nextT L).cells,.int .i64 (nextR L).2.2]):=by
 unfold nextT;rw[h,if_pos he];exact rfl
theorem zf7 {L:List UInt8}{k:Int}{n:Nat}{x:ByteArray}(h:nextR L=(k,n,0))(hx:x=strU (L.take n)):Ending.returned (.tuple #[.agg #[.int .i64 k,.string x,.int .i64 0],.int .i64 0])=.returned (.tuple #[.agg (nextT L).cells,.int .i64 (nextR L).2.2]):=by
 unfold nextT;rw[h,if_neg (by simp),hx];exact rfl
theorem zcw (s:ByteArray)(k:Nat):s.extract 0 k=strU (s.data.toList.take k):=by
 apply ByteArray.ext;rw[ByteArray.data_extract];unfold strU;apply Array.ext';simp[List.extract_eq_take_drop]
theorem zf2:decV none=.tuple #[.int .i64 0,.bool false]:=rfl
theorem zf3 (m:Nat):decV (some m)=.tuple #[.int .i64 m,.bool true]:=rfl
theorem zok (L:List UInt8):sigR L=(0,200)∨∃ n,sigR L=(n,0)∧0<n∧n<=L.length:=by
 unfold sigR
 split
 ·rename_i h
  right
  refine⟨2,rfl,by omega,?_⟩
  by_cases h2:L.length<2
  ·rw[zh7 h2] at h;cases h
  ·omega
 ·match L with
  | []=>left;rfl
  | c::r=>
   simp only
   split
   ·right;exact⟨1,rfl,by omega,by simp⟩
   ·left;rfl
theorem cls5 {c:UInt8}(h:clsI c.toNat=5):c.toNat=34:=by
 unfold clsI at h
 repeat' split at h
 all_goals first|(cases h;done) | omega
theorem cls6 {c:UInt8}(h:clsI c.toNat=6):c.toNat=59:=by
 unfold clsI at h
 repeat' split at h
 all_goals first|(cases h;done) | omega
theorem zi2 {p:UInt8->Bool}{c:UInt8}{r:List UInt8}:0<runN p (c::r) ↔ p c=true:=by
 constructor
 ·intro h
  cases hc:p c
  ·simp[runN,hc] at h
  ·rfl
 ·exact zgk
theorem zlg {p:UInt8->Bool}(L:List UInt8)(n:Nat):0<runN p (L.drop n) ↔ ∃ c,L[n]?=some c∧p c=true:=by
 constructor
 ·intro h
  match hd:L.drop n,h with
  | c::r,h=>
   refine⟨c,?_,zi2.1 h⟩;have:=congrArg (fun l=>l[0]?) hd;simpa using this
 ·rintro⟨c,h1,h2⟩;obtain⟨hlt,he⟩:=List.getElem?_eq_some_iff.1 h1;rw[List.drop_eq_getElem_cons hlt,he];exact zi2.2 h2
set_option pp.deepTerms.threshold 2000 in
theorem zj3 (s:ByteArray)(w:World)(hs:s.size<=100000)(hp:0<s.size):Calls Tryz.prog 23 #[.string s] w fun e w'=>e=.returned (.tuple #[.agg (nextT s.data.toList).cells,.int .i64 (nextR s.data.toList).2.2])∧Below w.heap.size w w':=by
 have hp':(0:Int)<s.size:=by omega
 obtain⟨L,HL⟩:∃ L,Hid (s.data.toList=L):=⟨_,rfl⟩;have HSL:Hid (s.data.toList.length=s.size):=by show s.data.toList.length=s.size;simp
 rw[HL.out];have h0:=zgv hp;rw[HL.out] at h0;obtain⟨c,HC⟩:∃ c,Hid (s[0]'hp=c):=⟨_,rfl⟩;rw[HC.out] at h0;obtain⟨r,rfl⟩:∃ r,L=c::r:=by
  match L,h0 with
  | d::r,h0=>exact⟨r,by simp at h0;rw[h0]⟩
 clear h0
 by_cases k3:clsI c.toNat=3
 ·have HN:Hid (nextR (c::r)=(1,wordR (c::r))):=by show _=_;simp only[nextR,if_pos k3]
  obtain⟨n,hn,hns,HW,HW2⟩:∃ n,0<n∧n<=s.size∧Hid (wrdN s.data.toList=n)∧Hid (wordR (c::r)=if n > 24 then(0,3) else(n,0)):=by
   have h3:inC [3] c=true:=by rw[inC3,k3];rfl
   refine⟨1+runN (inC [3,4]) r,by omega,?_,?_,?_⟩
   ·have h1:=zeb (inC [3,4]) r;have h2:=HSL.out;rw[HL.out,List.length_cons] at h2;omega
   ·show wrdN s.data.toList=_;rw[HL.out];simp only[wrdN,if_pos h3]
   ·show wordR (c::r)=_;unfold wordR;rw[zh5 c r h3]
  have hn':(n:Int) > 0:=by omega
  by_cases h24:n > 24
  ·have h24':(n:Int) > 24:=by omega
   have HF:Hid (nextR (c::r)=(1,0,3)):=by show _=_;rw[HN.out,HW2.out,if_pos h24]
   clear HN HW2 k3
   go_enter Tryz.func23,Tryz.ntmps23
   go_wp2_with (go_at_call 38;refine(zc0 s _ hs).mono ?_;rintro e W1 ⟨rfl,hW1⟩;subst hW1;rw[HW.out])
   refine bodyPost_ret (v:=.tuple #[.agg #[.int .i64 0,.string ⟨#[]⟩,.int .i64 0],.int .i64 3]) (zbb Tryz.results23 _ _ w.heap.size 38 _ (0,0) _ _ rfl rfl (heap_alloc_new _ _) Tryz.underlying38 rfl (by kernel_rfl)) rfl ⟨zgw HF.out (by omega),(Below.refl _ _).alloc (Nat.le_refl _) _⟩
  ·have h24':¬ (n:Int) > 24:=by omega
   have HF:Hid (nextR (c::r)=(1,n,0)):=by show _=_;rw[HN.out,HW2.out,if_neg h24]
   have hns':(n:Int)<=s.size:=by omega
   have hn0:(0:Int)<=n:=by omega
   clear HN HW2 k3
   go_enter Tryz.func23,Tryz.ntmps23
   go_wp2_with (go_at_call 38;refine(zc0 s _ hs).mono ?_;rintro e W1 ⟨rfl,hW1⟩;subst hW1;rw[HW.out])
   refine bodyPost_ret (v:=.tuple #[.agg #[.int .i64 1,.string (s.extract 0 n),.int .i64 0],.int .i64 0]) (zbb Tryz.results23 _ _ w.heap.size 38 _ (0,0) _ _ rfl rfl (heap_alloc_new _ _) Tryz.underlying38 rfl (by kernel_rfl)) rfl ⟨zf7 HF.out (by rw[zcw,HL.out]),(Below.refl _ _).alloc (Nat.le_refl _) _⟩
 ·have HW:Hid (wrdN s.data.toList=0):=by
   show wrdN s.data.toList=0;rw[HL.out];simp only[wrdN,inC3,decide_eq_true_eq,if_neg k3]
  by_cases k4:clsI c.toNat=4
  ·have HN:Hid (nextR (c::r)=(2,numR (c::r))):=by show _=_;simp only[nextR,if_neg k3,if_pos k4]
   obtain⟨n,hn,hns,HD⟩:∃ n,0<n∧n<=s.size∧Hid (runN (inC [4]) s.data.toList=n):=by
    refine⟨runN (inC [4]) s.data.toList,?_,?_,rfl⟩
    ·rw[HL.out];exact zi2.2 (by rw[inC4,k4];rfl)
    ·rw[<-HSL.out];exact zeb _ _
   obtain⟨o,HX⟩:∃ o,Hid ((s.extract 0 n).size=n∧decO (s.extract 0 n).data.toList=o):=⟨_,by rw[zcw,zi7,List.length_take,HSL.out];omega,rfl⟩;have HNR:Hid (numR (c::r)=if o.isSome=false∨0<runN (inC [3]) ((c::r).drop n) then(0,201) else(n,0)):=by
    have h1:=HX.out.2;rw[zcw,zd6] at h1;show numR (c::r)=_;unfold numR;rw[<-HL.out,HD.out,h1]
   have hn':(n:Int) > 0:=by omega
   have hns':(n:Int)<=s.size:=by omega
   have hn0:(0:Int)<=n:=by omega
   match o,HX,HNR with
   | none,HX,HNR=>
    have HF:Hid (nextR (c::r)=(2,0,201)):=by show _=_;rw[HN.out,HNR.out,if_pos (by simp)]
    clear HN HNR k3 k4
    go_enter Tryz.func23,Tryz.ntmps23
    go_wp2_with (first|(go_at_call 38;refine(zc0 s _ hs).mono ?_;rintro e W1 ⟨rfl,hW1⟩;subst hW1;rw[HW.out]) | (go_at_call 39;refine(zbs s _ hs).mono ?_;rintro e W1 ⟨rfl,hW1⟩;subst hW1;rw[HD.out]) | (go_at_call 40;refine(zet (s.extract 0 n) _ (by rw[HX.out.1];omega)).mono ?_;rintro e W1 ⟨rfl,hW1⟩;subst hW1;rw[HX.out.2];first|rw[zf2] | rw[zf3]))
    refine bodyPost_ret (v:=.tuple #[.agg #[.int .i64 0,.string ⟨#[]⟩,.int .i64 0],.int .i64 201]) (zbb Tryz.results23 _ _ w.heap.size 38 _ (0,0) _ _ rfl rfl (heap_alloc_new _ _) Tryz.underlying38 rfl (by kernel_rfl)) rfl ⟨zgw HF.out (by omega),(Below.refl _ _).alloc (Nat.le_refl _) _⟩
   | some m,HX,HNR=>
    by_cases hlt:n<s.size
    ·have hlt':decide ((n:Int)<s.size)=true:=by simp;omega
     have hB:=zcq hlt
     cases hl:inC [3] (s[n]'hlt)
     ·have HLT:=hid hl;have HF:Hid (nextR (c::r)=(2,n,0)):=by
       show _=_;rw[HN.out,HNR.out,if_neg];rintro(h|h)
       ·simp at h
       ·rw[<-HL.out,zlg] at h;obtain⟨d,h1,h2⟩:=h;rw[hB] at h1;injection h1 with h1;rw[<-h1,hl] at h2
        cases h2
      clear HN HNR k3 k4 hB hl
      go_enter Tryz.func23,Tryz.ntmps23
      go_wp2_with (first|(go_at_call 38;refine(zc0 s _ hs).mono ?_;rintro e W1 ⟨rfl,hW1⟩;subst hW1;rw[HW.out]) | (go_at_call 39;refine(zbs s _ hs).mono ?_;rintro e W1 ⟨rfl,hW1⟩;subst hW1;rw[HD.out]) | (go_at_call 40;refine(zet (s.extract 0 n) _ (by rw[HX.out.1];omega)).mono ?_;rintro e W1 ⟨rfl,hW1⟩;subst hW1;rw[HX.out.2];first|rw[zf2] | rw[zf3]) | (go_at_call 41;refine(zc3 _ _).mono ?_;rintro e W1 ⟨rfl,hW1⟩;subst hW1;rw[HLT.out]))
      refine bodyPost_ret (v:=.tuple #[.agg #[.int .i64 2,.string (s.extract 0 n),.int .i64 0],.int .i64 0]) (zbb Tryz.results23 _ _ w.heap.size 38 _ (0,0) _ _ rfl rfl (heap_alloc_new _ _) Tryz.underlying38 rfl (by kernel_rfl)) rfl ⟨zf7 HF.out (by rw[zcw,HL.out]),(Below.refl _ _).alloc (Nat.le_refl _) _⟩
     ·have HLT:=hid hl;have HF:Hid (nextR (c::r)=(2,0,201)):=by
       show _=_;rw[HN.out,HNR.out,if_pos]
       right
       rw[<-HL.out,zlg];exact⟨_,hB,hl⟩
      clear HN HNR k3 k4 hB hl
      go_enter Tryz.func23,Tryz.ntmps23
      go_wp2_with (first|(go_at_call 38;refine(zc0 s _ hs).mono ?_;rintro e W1 ⟨rfl,hW1⟩;subst hW1;rw[HW.out]) | (go_at_call 39;refine(zbs s _ hs).mono ?_;rintro e W1 ⟨rfl,hW1⟩;subst hW1;rw[HD.out]) | (go_at_call 40;refine(zet (s.extract 0 n) _ (by rw[HX.out.1];omega)).mono ?_;rintro e W1 ⟨rfl,hW1⟩;subst hW1;rw[HX.out.2];first|rw[zf2] | rw[zf3]) | (go_at_call 41;refine(zc3 _ _).mono ?_;rintro e W1 ⟨rfl,hW1⟩;subst hW1;rw[HLT.out]))
      refine bodyPost_ret (v:=.tuple #[.agg #[.int .i64 0,.string ⟨#[]⟩,.int .i64 0],.int .i64 201]) (zbb Tryz.results23 _ _ w.heap.size 38 _ (0,0) _ _ rfl rfl (heap_alloc_new _ _) Tryz.underlying38 rfl (by kernel_rfl)) rfl ⟨zgw HF.out (by omega),(Below.refl _ _).alloc (Nat.le_refl _) _⟩
    ·have hlt':decide ((n:Int)<s.size)=false:=by simp;omega
     have HF:Hid (nextR (c::r)=(2,n,0)):=by
      show _=_;rw[HN.out,HNR.out,if_neg];rintro(h|h)
      ·simp at h
      ·rw[<-HL.out,List.drop_eq_nil_of_le (by rw[HSL.out];omega)] at h;simp[runN] at h
     clear HN HNR k3 k4
     go_enter Tryz.func23,Tryz.ntmps23
     go_wp2_with (first|(go_at_call 38;refine(zc0 s _ hs).mono ?_;rintro e W1 ⟨rfl,hW1⟩;subst hW1;rw[HW.out]) | (go_at_call 39;refine(zbs s _ hs).mono ?_;rintro e W1 ⟨rfl,hW1⟩;subst hW1;rw[HD.out]) | (go_at_call 40;refine(zet (s.extract 0 n) _ (by rw[HX.out.1];omega)).mono ?_;rintro e W1 ⟨rfl,hW1⟩;subst hW1;rw[HX.out.2];first|rw[zf2] | rw[zf3]))
     refine bodyPost_ret (v:=.tuple #[.agg #[.int .i64 2,.string (s.extract 0 n),.int .i64 0],.int .i64 0]) (zbb Tryz.results23 _ _ w.heap.size 38 _ (0,0) _ _ rfl rfl (heap_alloc_new _ _) Tryz.underlying38 rfl (by kernel_rfl)) rfl ⟨zf7 HF.out (by rw[zcw,HL.out]),(Below.refl _ _).alloc (Nat.le_refl _) _⟩
  ·have HD:Hid (runN (inC [4]) s.data.toList=0):=by
    show runN (inC [4]) s.data.toList=0;rw[HL.out]
    by_cases h:0<runN (inC [4]) (c::r)
    ·rw[zi2,inC4] at h;exact absurd (of_decide_eq_true h) k4
    ·omega
   match hq:unqO s.data.toList with
   | some (v,n)=>
    have hz:=zeo hq;rw[HSL.out] at hz;have HQ:Hid (quN s.data.toList=n):=by show quN s.data.toList=n;unfold quN;rw[hq]
    have hn':(n:Int) > 0:=by omega
    have hns':(n:Int)<=s.size:=by omega
    have hn0:(0:Int)<=n:=by omega
    have HF:Hid (nextR (c::r)=(3,n,0)):=by
     rw[HL.out] at hq;have hc5:clsI c.toNat=5:=by
      rw[zjx] at hq
      by_cases h34:c.toNat=34
      ·rw[h34];rfl
      ·rw[if_neg h34] at hq;cases hq
     show _=_;simp only[nextR,if_neg k3,if_neg k4,if_pos hc5,quoR,hq]
    clear hq k3 k4
    go_enter Tryz.func23,Tryz.ntmps23
    go_wp2_with (first|(go_at_call 38;refine(zc0 s _ hs).mono ?_;rintro e W1 ⟨rfl,hW1⟩;subst hW1;rw[HW.out]) | (go_at_call 39;refine(zbs s _ hs).mono ?_;rintro e W1 ⟨rfl,hW1⟩;subst hW1;rw[HD.out]) | (go_at_call 42;refine(zcv s _ hs).mono ?_;rintro e W1 ⟨rfl,hW1⟩;subst hW1;rw[HQ.out]))
    refine bodyPost_ret (v:=.tuple #[.agg #[.int .i64 3,.string (s.extract 0 n),.int .i64 0],.int .i64 0]) (zbb Tryz.results23 _ _ w.heap.size 38 _ (0,0) _ _ rfl rfl (heap_alloc_new _ _) Tryz.underlying38 rfl (by kernel_rfl)) rfl ⟨zf7 HF.out (by rw[zcw,HL.out]),(Below.refl _ _).alloc (Nat.le_refl _) _⟩
   | none=>
    have HQ:Hid (quN s.data.toList=0):=by show quN s.data.toList=0;unfold quN;rw[hq]
    by_cases k6:c.toNat=59
    ·have k6':(((s[0]'hp).toNat:Int) == 59)=true:=by rw[HC.out,k6];rfl
     have HF:Hid (nextR (c::r)=(5,1,0)):=by
      have h6:clsI c.toNat=6:=by rw[k6];rfl
      show _=_;simp only[nextR,h6];rfl
     have HX1:Hid ((⟨#[59]⟩:ByteArray)=strU ((c::r).take 1)):=by
      have:c=59:=UInt8.toNat.inj k6;show _=_;rw[this];rfl
     clear hq k3 k4 k6
     go_enter Tryz.func23,Tryz.ntmps23
     go_wp2_with (first|(go_at_call 38;refine(zc0 s _ hs).mono ?_;rintro e W1 ⟨rfl,hW1⟩;subst hW1;rw[HW.out]) | (go_at_call 39;refine(zbs s _ hs).mono ?_;rintro e W1 ⟨rfl,hW1⟩;subst hW1;rw[HD.out]) | (go_at_call 42;refine(zcv s _ hs).mono ?_;rintro e W1 ⟨rfl,hW1⟩;subst hW1;rw[HQ.out]))
     refine bodyPost_ret (v:=.tuple #[.agg #[.int .i64 5,.string ⟨#[59]⟩,.int .i64 0],.int .i64 0]) (zbb Tryz.results23 _ _ w.heap.size 38 _ (0,0) _ _ rfl rfl (heap_alloc_new _ _) Tryz.underlying38 rfl (by kernel_rfl)) rfl ⟨zf7 HF.out HX1.out,(Below.refl _ _).alloc (Nat.le_refl _) _⟩
    ·have k6':(((s[0]'hp).toNat:Int) == 59)=false:=by rw[HC.out,beq_eq_false_iff_ne];omega
     have HN:Hid (nextR (c::r)=(4,sigR (c::r))∨((sigR (c::r)).1=0∧∃ k,nextR (c::r)=(k,0,200))):=by
      rw[HL.out] at hq
      by_cases k5:clsI c.toNat=5
      ·right
       have h34:c.toNat=34:=cls5 k5;have hc:c=34:=UInt8.toNat.inj h34;subst hc;refine⟨?_,3,?_⟩
       ·have:sigR (34::r)=(0,200):=by
         match r with
         | []=>rfl
         | d::t=>simp[sigR,sig2,sig1]
        rw[this]
       ·simp only[nextR,if_neg k3,if_neg k4,if_pos k5,quoR,hq]
      ·left
       have h6:¬ clsI c.toNat=6:=fun h=>k6 (cls6 h);simp only[nextR,if_neg k3,if_neg k4,if_neg k5,if_neg h6]
     have HWS:Hid (∀ W1,Below (w.alloc (.cells #[.int .i64 0,.string ⟨#[]⟩,.int .i64 0] 38)).heap.size (w.alloc (.cells #[.int .i64 0,.string ⟨#[]⟩,.int .i64 0] 38)) W1->Below w.heap.size w W1∧W1.heap[w.heap.size]?=some (.cells #[.int .i64 0,.string ⟨#[]⟩,.int .i64 0] 38 (0,0))):=fun W1 hb=>⟨((Below.refl _ _).alloc (Nat.le_refl _) _).trans (hb.mono (by simp)),(hb.block _ (by simp)).trans (heap_alloc_new _ _)⟩;rcases zok s.data.toList with hs0|⟨n,hs0,hn,hns⟩
     ·have HS:Hid ((sigR s.data.toList).1=0):=by show _=_;rw[hs0]
      obtain⟨k,HF⟩:∃ k,Hid (nextR (c::r)=(k,0,200)):=by
       rcases HN.out with h|⟨-,k,h⟩
       ·rw[<-HL.out,hs0,HL.out] at h;exact⟨4,h⟩
       ·exact⟨k,h⟩
      clear hq k3 k4 k6 hs0 HN
      go_enter Tryz.func23,Tryz.ntmps23
      go_wp2_with (first|(go_at_call 38;refine(zc0 s _ hs).mono ?_;rintro e W1 ⟨rfl,hW1⟩;subst hW1;rw[HW.out]) | (go_at_call 39;refine(zbs s _ hs).mono ?_;rintro e W1 ⟨rfl,hW1⟩;subst hW1;rw[HD.out]) | (go_at_call 42;refine(zcv s _ hs).mono ?_;rintro e W1 ⟨rfl,hW1⟩;subst hW1;rw[HQ.out]) | (go_at_call 43;refine(zj1 s _ hs).mono ?_;rintro e W1 ⟨rfl,hW1⟩;rw[HS.out];have hb:=(HWS.out W1 hW1).1;have hr:=(HWS.out W1 hW1).2;have HB1:Hid (Below w.heap.size w W1):=hb;have HR1:Hid (W1.heap[w.heap.size]?=some (.cells #[.int .i64 0,.string ⟨#[]⟩,.int .i64 0] 38 (0,0))):=hr;have q0:W1.cell? ⟨w.heap.size,0,none⟩=some (.int .i64 0):=(cell_of_row _ _ 0 _ _ _ hr).trans rfl;have q1:W1.cell? ⟨w.heap.size,1,none⟩=some (.string ⟨#[]⟩):=(cell_of_row _ _ 1 _ _ _ hr).trans rfl;have q2:W1.cell? ⟨w.heap.size,2,none⟩=some (.int .i64 0):=(cell_of_row _ _ 2 _ _ _ hr).trans rfl;have qz:∀ j,W1.frozen? ⟨w.heap.size,j,none⟩=false:=(fun j=>frozen_of_row _ _ _ _ _ hr);clear hb hr hW1))
      have r1:(W1.setCell ⟨w.heap.size,0,none⟩ (.int .i64 0)).heap[w.heap.size]?=_:=heap_setCell_same _ _ _ _ _ _ HR1.out;have r2:((W1.setCell ⟨w.heap.size,0,none⟩ (.int .i64 0)).setCell ⟨w.heap.size,1,none⟩ (.string ⟨#[]⟩)).heap[w.heap.size]?=_:=heap_setCell_same _ _ _ _ _ _ r1;have r3:(((W1.setCell ⟨w.heap.size,0,none⟩ (.int .i64 0)).setCell ⟨w.heap.size,1,none⟩ (.string ⟨#[]⟩)).setCell ⟨w.heap.size,2,none⟩ (.int .i64 0)).heap[w.heap.size]?=some (.cells #[.int .i64 0,.string ⟨#[]⟩,.int .i64 0] 38 (0,0)):=heap_setCell_same _ _ _ _ _ _ r2;refine bodyPost_ret (v:=.tuple #[.agg #[.int .i64 0,.string ⟨#[]⟩,.int .i64 0],.int .i64 200]) (zbb Tryz.results23 _ _ w.heap.size 38 _ (0,0) _ _ rfl rfl r3 Tryz.underlying38 rfl (by kernel_rfl)) rfl ⟨zgw HF.out (by omega),((HB1.out.setCell (p:=⟨w.heap.size,0,none⟩) (Nat.le_refl _) _).setCell (p:=⟨w.heap.size,1,none⟩) (Nat.le_refl _) _).setCell (p:=⟨w.heap.size,2,none⟩) (Nat.le_refl _) _⟩
     ·have HS:Hid ((sigR s.data.toList).1=n):=by show _=_;rw[hs0]
      have HF:Hid (nextR (c::r)=(4,n,0)):=by
       rcases HN.out with h|⟨h,-⟩
       ·rw[<-HL.out,hs0] at h;rw[<-HL.out];exact h
       ·rw[<-HL.out,hs0] at h;have:n=0:=h;omega
      rw[HSL.out] at hns;have hn':(n:Int) > 0:=by omega
      have hns':(n:Int)<=s.size:=by omega
      have hn0:(0:Int)<=n:=by omega
      clear hq k3 k4 k6 hs0 HN
      go_enter Tryz.func23,Tryz.ntmps23
      go_wp2_with (first|(go_at_call 38;refine(zc0 s _ hs).mono ?_;rintro e W1 ⟨rfl,hW1⟩;subst hW1;rw[HW.out]) | (go_at_call 39;refine(zbs s _ hs).mono ?_;rintro e W1 ⟨rfl,hW1⟩;subst hW1;rw[HD.out]) | (go_at_call 42;refine(zcv s _ hs).mono ?_;rintro e W1 ⟨rfl,hW1⟩;subst hW1;rw[HQ.out]) | (go_at_call 43;refine(zj1 s _ hs).mono ?_;rintro e W1 ⟨rfl,hW1⟩;rw[HS.out];have hb:=(HWS.out W1 hW1).1;have hr:=(HWS.out W1 hW1).2;have HB1:Hid (Below w.heap.size w W1):=hb;have HR1:Hid (W1.heap[w.heap.size]?=some (.cells #[.int .i64 0,.string ⟨#[]⟩,.int .i64 0] 38 (0,0))):=hr;have q0:W1.cell? ⟨w.heap.size,0,none⟩=some (.int .i64 0):=(cell_of_row _ _ 0 _ _ _ hr).trans rfl;have q1:W1.cell? ⟨w.heap.size,1,none⟩=some (.string ⟨#[]⟩):=(cell_of_row _ _ 1 _ _ _ hr).trans rfl;have q2:W1.cell? ⟨w.heap.size,2,none⟩=some (.int .i64 0):=(cell_of_row _ _ 2 _ _ _ hr).trans rfl;have qz:∀ j,W1.frozen? ⟨w.heap.size,j,none⟩=false:=(fun j=>frozen_of_row _ _ _ _ _ hr);clear hb hr hW1))
      have r1:(W1.setCell ⟨w.heap.size,0,none⟩ (.int .i64 4)).heap[w.heap.size]?=_:=heap_setCell_same _ _ _ _ _ _ HR1.out;have r2:((W1.setCell ⟨w.heap.size,0,none⟩ (.int .i64 4)).setCell ⟨w.heap.size,1,none⟩ (.string (s.extract 0 n))).heap[w.heap.size]?=_:=heap_setCell_same _ _ _ _ _ _ r1;have r3:(((W1.setCell ⟨w.heap.size,0,none⟩ (.int .i64 4)).setCell ⟨w.heap.size,1,none⟩ (.string (s.extract 0 n))).setCell ⟨w.heap.size,2,none⟩ (.int .i64 0)).heap[w.heap.size]?=some (.cells #[.int .i64 4,.string (s.extract 0 n),.int .i64 0] 38 (0,0)):=heap_setCell_same _ _ _ _ _ _ r2;refine bodyPost_ret (v:=.tuple #[.agg #[.int .i64 4,.string (s.extract 0 n),.int .i64 0],.int .i64 0]) (zbb Tryz.results23 _ _ w.heap.size 38 _ (0,0) _ _ rfl rfl r3 Tryz.underlying38 rfl (by kernel_rfl)) rfl ⟨zf7 HF.out (by rw[zcw,HL.out]),((HB1.out.setCell (p:=⟨w.heap.size,0,none⟩) (Nat.le_refl _) _).setCell (p:=⟨w.heap.size,1,none⟩) (Nat.le_refl _) _).setCell (p:=⟨w.heap.size,2,none⟩) (Nat.le_refl _) _⟩
end Go.Proofs.YtmclgbkijeidaaaGreatDoor
