import Derived.Test.YtmclgbkijeidaaaGreatDoorUoR
import Derived.Test.YtmclgbkijeidaaaGreatDoorUoN
import Derived.Test.YtmclgbkijeidaaaGreatDoorUoG
import Derived.Test.YtmclgbkijeidaaaGreatDoorUoF
import Derived.Test.YtmclgbkijeidaaaGreatDoorUoQ
import Derived.Test.YtmclgbkijeidaaaGreatDoorUoM
import Derived.Test.YtmclgbkijeidaaaGreatDoorUoS
namespace Go.Proofs.YtmclgbkijeidaaaGreatDoor
set_option maxRecDepth 100000
set_option maxHeartbeats 4000000
open Go.RowKit
theorem zmm {w:World}{sn:Option Addr}{cn:Nat}{Z:List NdZ}(hT:Tabl w)(hP:TabP w)(hE:EnZ w (.slice sn Z.length cn) Z)(hs:SmZ Z)(hb:∀ t,Z=(layP 0 t).map toZ->¬ TrW t) :
  Calls Tryz.prog 17 #[.agg #[.slice sn Z.length cn]] w fun e w'=>e=.returned (.int .i64 211)∧Below w.heap.size w w':=by
 have y:Below w.heap.size w (w.alloc (.cells #[.slice sn Z.length cn] 25)):=(Yb _ _).alloc (Ya _) _;have A:=ziv (zcm y.block hT) (hP.low y) (hE.below y) hs hb;have C:=J y;clear hT hP hE hs hb y;generalize Z.length=nl at *
 go_enter Tryz.func17,Tryz.ntmps17
 go_wp2_with fail
 refine A.mono ?_;rintro e W1 ⟨rfl,D⟩;have E:=J (C.out.trans (D.mono C.out.size));clear D A
 go_wp2
 go_ret
 exact⟨rfl,E.out⟩
theorem zs8 {w:World}{sn:Option Addr}{cn:Nat}{Z:List NdZ}(hT:Tabl w)(hP:TabP w)(hE:EnZ w (.slice sn Z.length cn) Z)(hs:SmZ Z)(hb:∀ t,Z=(layP 0 t).map toZ->¬ TrW t) :
  Calls Tryz.prog 18 #[.agg #[.slice sn Z.length cn]] w fun e w'=>e=.returned (.int .i64 0)∧Below w.heap.size w w':=by
 have y:Below w.heap.size w (w.alloc (.cells #[.slice sn Z.length cn] 25)):=(Yb _ _).alloc (Ya _) _;have A:=zmm (zcm y.block hT) (hP.low y) (hE.below y) hs hb;have C:=J y;clear hT hP hE hs hb y;generalize Z.length=nl at *
 go_enter Tryz.func18,Tryz.ntmps18
 go_wp2_with fail
 refine A.mono ?_;rintro e W1 ⟨rfl,D⟩;have E:=J (C.out.trans (D.mono C.out.size));clear D A
 go_wp2
 go_ret
 exact⟨rfl,E.out⟩
theorem zwm {w:World}{sn:Option Addr}{cn:Nat}{t:Pt}(hP:TabP w)(hE:EnW w (.slice sn (layP 0 t).length cn) (layP 0 t))(hT:TrW t) :
  Calls Tryz.prog 18 #[.agg #[.slice sn (layP 0 t).length cn]] w fun e w'=>e=.returned (.int .i64 (dpF (fun _=>0) 0 0 (layP 0 t)))∧Below w.heap.size w w':=by
 have y:Below w.heap.size w (w.alloc (.cells #[.slice sn (layP 0 t).length cn] 25)):=(Yb _ _).alloc (Ya _) _;have E:=zjt (hP.low y) (hE.low y) hT;have I:=ze3 t 0;have V:=zco t 0;have X:Hid (∀ W,Below w.heap.size w W->Calls Tryz.prog 30 #[.agg #[.slice sn (layP 0 t).length cn]] W fun e w'=>e=.returned (.int .i64 (dpF (fun _=>0) 0 0 (layP 0 t)))∧Below W.heap.size W w'):=J fun W Y=>by
  obtain⟨s,c,N,S,Z,h2,h3⟩:=(hE.low Y).x;injection Z with e1 _ e2;subst e1 e2;exact zfo W sn cn N S (layP 0 t) h2 h3 (by have:=hT.n;omega) fun d hd=>by
   have h:=I d hd;have:=hT.n;exact⟨fun k U=>by have:=h.1 k U;omega,by omega⟩
 have aa:=J y;clear hP hE hT y I V;generalize dpF (fun _=>0) 0 0 (layP 0 t)=dp at *;generalize (layP 0 t).length=nl at *
 go_enter Tryz.func18,Tryz.ntmps18
 go_wp2_with fail
 refine zag (fun W=>Below w.heap.size w W∧W.heap[w.heap.size]?=some (.cells #[.slice sn nl cn] 25 (0,0))∧W=w.alloc (.cells #[.slice sn nl cn] 25)) ⟨aa.out,Yd _ _,rfl⟩ ?_;rintro W0 ⟨D,A,e0⟩;rw[<-e0] at E;refine E.mono ?_;rintro e W1 ⟨rfl,F⟩;have C:=J (D.trans (F.mono D.size));have M:=(F.block _ (zaa A)).trans A;have c0:W1.cell? ⟨w.heap.size,0,none⟩=some (.slice sn nl cn):=Yp 0 M rfl;clear F E A e0 D M
 go_wp2_with fail
 refine(X W1 C).mono ?_;rintro e W2 ⟨rfl,K⟩;have ab:=J (C.out.trans (K.mono C.out.size));clear K
 go_wp2
 go_ret
 exact⟨rfl,ab.out⟩
def smP:Pt->Pt->Prop
 | .mk k x n _ _ _ l,.mk k' x' n' _ _ _ l'=>k=k'∧x=x'∧n=n'∧go l l'
where go:List Pt->List Pt->Prop
 | [],[]=>True
 | t::r,t'::r'=>smP t t'∧go r r'
 | _,_=>False
abbrev smL:=smP.go
theorem zbt {k n:Int}{x:ByteArray}{a f t a' f' t':Int}{l l':List Pt}(h:smL l l'):smP (.mk k x n a f t l) (.mk k x n a' f' t' l'):=by
 unfold smP;exact⟨rfl,rfl,rfl,h⟩
theorem zca:smL [] []:=by unfold smL smP.go;trivial
theorem zb7 {t t':Pt}{l l':List Pt}(h:smP t t')(h':smL l l'):smL (t::l) (t'::l'):=by
 show smP.go _ _;unfold smP.go;exact⟨h,h'⟩
theorem zgv:∀ {a a' b b':List Pt},smL a a'->smL b b'->smL (a++b) (a'++b')
 | [],[],_,_,_,h=>h
 | [],_::_,_,_,h,_=>by unfold smL smP.go at h;exact h.elim
 | _::_,[],_,_,h,_=>by unfold smL smP.go at h;exact h.elim
 | t::r,t'::r',b,b',h,h'=>by
  unfold smL smP.go at h;exact zb7 h.1 (zgv h.2 h')
theorem zmo {α:Type}{eq:α->α->Bool}:∀ {a b c d:List α},eqAll eq a b=true->eqAll eq c d=true->eqAll eq (a++c) (b++d)=true
 | [],[],_,_,_,h=>h
 | [],_::_,_,_,h,_=>by simp[eqAll] at h
 | _::_,[],_,_,h,_=>by simp[eqAll] at h
 | x::a,y::b,c,d,h,h'=>by
  rw[eqAll,Bool.and_eq_true] at h;rw[List.cons_append,List.cons_append,eqAll,h.1,zmo h.2 h'];rfl
mutual
theorem ztk:∀ (t t':Pt),smP t t'->cntP t=cntP t'
 | .mk k x n a f e l,.mk k' x' n' a' f' e' l',h=>by
  unfold smP at h;rw[cntP,cntP,ztl l l' h.2.2.2]
theorem ztl:∀ (l l':List Pt),smL l l'->cntL l=cntL l'
 | [],[],_=>rfl
 | [],_::_,h=>by unfold smL smP.go at h;exact h.elim
 | _::_,[],h=>by unfold smL smP.go at h;exact h.elim
 | t::r,t'::r',h=>by
  unfold smL smP.go at h;rw[cntL,cntL,ztk t t' h.1,ztl r r' h.2]
end
theorem zxv:∀ (l l':List Pt)(i:Nat),smL l l'->kidI i l=kidI i l'
 | [],[],_,_=>rfl
 | [],_::_,_,h=>by unfold smL smP.go at h;exact h.elim
 | _::_,[],_,h=>by unfold smL smP.go at h;exact h.elim
 | t::r,t'::r',i,h=>by
  unfold smL smP.go at h;rw[kidI,kidI,ztk t t' h.1,zxv r r' _ h.2]
mutual
theorem zxw:∀ (t t':Pt)(i:Nat),smP t t'->eqAll ndEq (layP i t) (layP i t')=true
 | .mk k x n a f e l,.mk k' x' n' a' f' e' l',i,h=>by
  unfold smP at h;obtain⟨rfl,rfl,rfl,hl⟩:=h;rw[layP,layP,eqAll,ztm l l' (i+1) hl,zxv l l' _ hl];simp[ndEq]
theorem ztm:∀ (l l':List Pt)(i:Nat),smL l l'->eqAll ndEq (layL i l) (layL i l')=true
 | [],[],_,_=>by rw[layL];rfl
 | [],_::_,_,h=>by unfold smL smP.go at h;exact h.elim
 | _::_,[],_,h=>by unfold smL smP.go at h;exact h.elim
 | t::r,t'::r',i,h=>by
  unfold smL smP.go at h;rw[layL,layL,<-ztk t t' h.1];exact zmo (zxw t t' i h.1) (ztm r r' _ h.2)
end
theorem zms {t:Tok}(h:alnB t=true):t.text.size<=4096:=by
 unfold alnB lexO at h;have e:t.text.size=t.text.data.toList.length:=by simp
 by_cases h4:4096<t.text.data.toList.length
 ·rw[if_pos h4] at h
  cases h
 ·omega
theorem zz5 {L:List UInt8}:∀ (f p:Nat)(ts:List Tok),∀ x ∈ (lexG L f p ts).1,x ∈ ts∨x.text.data.toList.length<=L.length - p:=by
 intro f
 induction f with
 | zero=>exact fun p ts x y=>.inl y
 | succ f ih=>
  intro p ts x y;obtain⟨k,n,e,A⟩:∃ k n e,lookR (L.drop p) (clo (lastT ts))=(k,n,e):=⟨_,_,_,rfl⟩
  by_cases h1:p<L.length∨clo (lastT ts)=true
  ·by_cases he:e=0
   ·subst he
    by_cases hk:k=0
    ·subst hk;rw[zfk h1 A] at y;rcases ih _ _ x y with h|h
     ·exact .inl h
     ·exact .inr (by omega)
    ·by_cases ht:ts.length=1024
     ·rw[ze8 h1 A hk ht] at y;simp at y
     ·rw[zei h1 A hk ht] at y;rcases ih _ _ x y with h|h
      ·rcases List.mem_append.1 h with h|h
       ·exact .inl h
       ·rw[List.mem_singleton] at h;subst h;refine .inr ?_;show((L.drop p).take n).length<=_;rw[List.length_take,List.length_drop];omega
      ·exact .inr (by omega)
   ·rw[zfj h1 A he] at y;simp at y
  ·rw[lexG,if_neg h1] at y;exact .inl y
theorem zz6 {L:List UInt8}:∀ (f p:Nat)(ts:List Tok),(lexG L f p ts).1=[]∨∃ z,(lexG L f p ts).1=ts++z:=by
 intro f
 induction f with
 | zero=>exact fun p ts=>.inr ⟨[],by rw[List.append_nil];rfl⟩
 | succ f ih=>
  intro p ts;obtain⟨k,n,e,y⟩:∃ k n e,lookR (L.drop p) (clo (lastT ts))=(k,n,e):=⟨_,_,_,rfl⟩
  by_cases h1:p<L.length∨clo (lastT ts)=true
  ·by_cases he:e=0
   ·subst he
    by_cases hk:k=0
    ·subst hk;rw[zfk h1 y];exact ih _ _
    ·by_cases ht:ts.length=1024
     ·rw[ze8 h1 y hk ht];exact .inl rfl
     ·rw[zei h1 y hk ht];rcases ih (p+n) (ts++[⟨k,strU ((L.drop p).take n),p⟩]) with h|⟨z,h⟩
      ·exact .inl h
      ·exact .inr ⟨_,by rw[h,List.append_assoc]⟩
   ·rw[zfj h1 y he];exact .inl rfl
  ·rw[lexG,if_neg h1];exact .inr ⟨[],by rw[List.append_nil]⟩
theorem zlh {t:Tok}(h:alnB t=true):lookR t.text.data.toList false=(t.kind,t.text.data.toList.length,0)∧t.kind≠0∧t.text.data.toList≠[]:=by
 have N:=zms h;have M:t.text.size=t.text.data.toList.length:=by simp
 unfold alnB lexO at h;generalize D:t.text.data.toList=L at h M ⊢;rw[if_neg (by omega)] at h
 by_cases h0:0<L.length
 ·obtain⟨k,n,e,C⟩:∃ k n e,lookR (L.drop 0) (clo (lastT []))=(k,n,e):=⟨_,_,_,rfl⟩;have E:lookR L false=(k,n,e):=C
  by_cases he:e=0
  ·subst he;have I:=zd6 E (fun e=>by rw[e] at h0;simp at h0)
   by_cases hk:k=0
   ·subst hk;rw[zfk (.inl h0) C] at h
    exfalso
    have F:=zz5 (L:=L) (2 * L.length) (0+n) []
    cases hr:(lexG L (2 * L.length) (0+n) []).1 with
    | nil=>rw[hr] at h;cases h
    | cons x xs=>
     rw[hr] at h F;have y:=F x (by simp);simp only[tkEq,Bool.and_eq_true,beq_iff_eq] at h;rw[ByteArray.toList_eq,ByteArray.toList_eq,D] at h;rw[h.2] at y;rcases y with y|y
     ·simp at y
     ·rcases I.2 with A|A
      ·omega
      ·exact absurd A.1 (by decide)
   ·rw[zei (.inl h0) C hk (by simp)] at h;rcases zz6 (L:=L) (2 * L.length) (0+n) ([]++[⟨k,strU ((L.drop 0).take n),((0:Nat):Int)⟩]) with y|⟨z,y⟩
    ·rw[y] at h;cases h
    ·rw[y] at h;simp only[List.nil_append,List.cons_append,tkEq,Bool.and_eq_true,beq_iff_eq] at h;rw[zdv,ByteArray.toList_eq,D,List.drop_zero] at h;have A:=congrArg List.length h.2;rw[List.length_take] at A;have K:n=L.length:=by omega
     rw[E,K,h.1];refine⟨rfl,?_,fun e=>by rw[e] at h0;simp at h0⟩;rw[<-h.1];exact hk
  ·rw[zfj (.inl h0) C he] at h
   cases h
 ·rw[zg3 h0 rfl] at h
  cases h
theorem zpb {t:Tok}(h:bareB t=true):clo t=false∧t.kind=5∧t.text.toList=[]:=by
 unfold bareB at h;rw[Bool.and_eq_true,beq_iff_eq,List.isEmpty_iff] at h;refine⟨?_,h.1,h.2⟩;unfold clo;rw[h.1];rfl
theorem zid {p:UInt8->Bool}:∀ (L:List UInt8)(m:Nat),runN p L<=m->runN p (L.take m)=runN p L
 | [],m,_=>by rw[List.take_nil]
 | a::L,0,h=>by rw[List.take_zero,zoa];omega
 | a::L,m+1,h=>by
  rw[zc5] at h;rw[List.take_succ_cons,zc5,zc5]
  cases ha:p a with
  | false=>rfl
  | true=>
   rw[ha] at h;simp only[if_true] at h ⊢;rw[zid L m (by omega)]
theorem zuf:∀ (m:Nat) (L acc:List UInt8)(i:Nat)(v:List UInt8)(n:Nat),L.length<=m->unqA acc i L=some (v,n)->i<n∧n - i<=L.length∧unqA acc i (L.take (n - i))=some (v,n):=by
 intro m
 induction m with
 | zero=>
  intro L acc i v n y h;have:L=[]:=List.eq_nil_of_length_eq_zero (by omega);subst this;rw[unqA] at h
  cases h
 | succ m ih=>
  intro L acc i v n y h
  cases L with
  | nil=>rw[unqA] at h;cases h
  | cons c r=>
   rw[List.length_cons] at y ⊢;rw[zcb] at h
   by_cases h1:c.toNat=34
   ·rw[if_pos h1] at h;injection h with h;injection h with h2 h3;subst h2 h3;refine⟨by omega,by omega,?_⟩;rw[show i+1 - i=0+1 by omega,List.take_succ_cons,zcb,if_pos h1]
   ·rw[if_neg h1] at h
    by_cases h2:c.toNat=92
    ·rw[if_pos h2] at h
     cases r with
     | nil=>cases h
     | cons d r'=>
      rw[List.length_cons] at y ⊢
      cases hp:pairU d with
      | none=>simp only[hp] at h;cases h
      | some x=>
       simp only[hp] at h;obtain⟨A,C,q3⟩:=ih r' _ _ _ _ (by omega) h;refine⟨by omega,by omega,?_⟩;rw[show n - i=(n - (i+2))+1+1 by omega,List.take_succ_cons,List.take_succ_cons,zcb,if_neg h1,if_pos h2];simp only[hp];exact q3
    ·rw[if_neg h2] at h
     cases hp:plnB c.toNat with
     | false=>rw[hp] at h;simp at h
     | true=>
      rw[hp] at h;simp only[if_true] at h;obtain⟨A,C,q3⟩:=ih r _ _ _ _ (by omega) h;refine⟨by omega,by omega,?_⟩;rw[show n - i=(n - (i+1))+1 by omega,List.take_succ_cons,zcb,if_neg h1,if_neg h2,hp];simp only[if_true];exact q3
theorem zwx {S:List UInt8}{en:Bool}{k:Int}{n:Nat}(h:lookR S en=(k,n,0))(hk:k≠0)(hn:0<n):lookR (S.take n) false=(k,n,0):=by
 cases S with
 | nil=>
  simp only[lookR,Prod.mk.injEq] at h;omega
 | cons c r=>
  obtain⟨m,rfl⟩:∃ m,n=m+1:=⟨n - 1,by omega⟩;rw[List.take_succ_cons];unfold lookR at h ⊢;simp only at h ⊢
  by_cases c2:clsI c.toNat=2
  ·rw[if_pos c2] at h
   split at h
   ·simp at h
   ·simp only[Prod.mk.injEq] at h;exact absurd h.1.symm hk
  rw[if_neg c2] at h ⊢
  by_cases c1:clsI c.toNat=1
  ·rw[if_pos c1] at h;simp only[Prod.mk.injEq] at h;exact absurd h.1.symm hk
  rw[if_neg c1] at h ⊢
  by_cases c6:clsI c.toNat=6
  ·rw[if_pos c6] at h ⊢;exact h
  rw[if_neg c6] at h ⊢
  by_cases c3:clsI c.toNat=3
  ·rw[if_pos c3] at h ⊢;injection h with h1 h;rw[<-h1]
   congr 1
   unfold wordR at h ⊢
   by_cases hw:runN (inC [3,4]) (c::r) > 24
   ·rw[if_pos hw] at h;injection h with _ h;cases h
   ·rw[if_neg hw] at h;injection h with h _;have e:=zid (p:=inC [3,4]) (c::r) (m+1) (by omega);rw[List.take_succ_cons] at e;rw[e,if_neg hw,h]
  rw[if_neg c3] at h ⊢
  by_cases c4:clsI c.toNat=4
  ·rw[if_pos c4] at h ⊢;injection h with h1 h;rw[<-h1]
   congr 1
   unfold numR at h ⊢
   split at h
   ·injection h with _ h;cases h
   ·rename_i hq
    injection h with h _;have e:=zid (p:=inC [4]) (c::r) (m+1) (by omega);rw[List.take_succ_cons] at e;rw[e];rw[h] at hq ⊢;have D:(c::r.take m).take (m+1)=(c::r).take (m+1):=by rw[List.take_succ_cons,List.take_succ_cons,List.take_take,Nat.min_self]
    have A:(c::r.take m).drop (m+1)=[]:=by rw[List.drop_succ_cons,List.drop_eq_nil_of_le (by rw[List.length_take];omega)]
    rw[D,A,zoa];rw[if_neg (fun y=>hq (y.elim .inl (fun y=>absurd y (by omega))))]
  rw[if_neg c4] at h ⊢
  by_cases c5:clsI c.toNat=5
  ·rw[if_pos c5] at h ⊢;injection h with h1 h;rw[<-h1]
   congr 1
   unfold quoR unqO at h ⊢
   by_cases h34:c.toNat=34
   ·simp only[h34,if_true] at h ⊢
    cases hu:unqA [] 1 r with
    | none=>rw[hu] at h;injection h with _ h;cases h
    | some v=>
     obtain⟨v,E⟩:=v;rw[hu] at h;injection h with h _;subst h;have:=(zuf _ r [] 1 v (m+1) (Ya _) hu).2.2;rw[show m+1 - 1=m by omega] at this;rw[this]
   ·simp only[h34,if_false] at h;injection h with _ h
    cases h
  rw[if_neg c5] at h ⊢
  by_cases cp:Lib.hasPrefix (c::r) [47,47]=true
  ·rw[if_pos cp] at h;simp only[Prod.mk.injEq] at h;exact absurd h.1.symm hk
  rw[if_neg cp] at h;injection h with h1 h;rw[<-h1];unfold sigR at h
  by_cases s2:sig2 ((c::r).take 2)=true
  ·rw[if_pos s2] at h;injection h with h _;obtain rfl:m=1:=by omega
   cases r with
   | nil=>simp[sig2] at s2
   | cons d r'=>
    have C:¬ Lib.hasPrefix (c::(d::r').take 1) [47,47]=true:=by
     intro y;apply cp;unfold Lib.hasPrefix at y ⊢;simpa[List.isPrefixOf] using y
    rw[if_neg C]
    congr 1
    unfold sigR;have e:(c::(d::r').take 1).take 2=(c::d::r').take 2:=rfl;rw[e,if_pos s2]
  ·rw[if_neg s2] at h;simp only at h
   split at h
   ·rename_i s1
    injection h with h _;obtain rfl:m=0:=by omega
    rw[List.take_zero,if_neg (by simp[Lib.hasPrefix,List.isPrefixOf])]
    congr 1
    unfold sigR;rw[if_neg (by simp[sig2])];simp only;rw[if_pos s1]
   ·injection h with _ h;cases h
theorem zpc {S:List UInt8}{en:Bool}{n m:Nat}(h:lookR S en=(0,n,0))(hm:n<=m):lookR (S.take m) false=(0,n,0):=by
 cases S with
 | nil=>simp[lookR] at h
 | cons c r=>
  have y:=(zd6 h (fun e=>by cases e)).2;have D:0<n:=by
   rcases y with y|⟨y,-⟩
   ·exact y
   ·exact absurd y (by decide)
  obtain⟨m,rfl⟩:∃ m',m=m'+1:=⟨m - 1,by omega⟩;rw[List.take_succ_cons];unfold lookR at h ⊢;simp only at h ⊢
  by_cases c2:clsI c.toNat=2
  ·rw[if_pos c2] at h ⊢
   split at h
   ·simp at h
   ·exact h
  rw[if_neg c2] at h ⊢
  by_cases c1:clsI c.toNat=1
  ·rw[if_pos c1] at h ⊢;exact h
  rw[if_neg c1] at h ⊢
  by_cases c6:clsI c.toNat=6
  ·rw[if_pos c6] at h;simp at h
  rw[if_neg c6] at h ⊢
  by_cases c3:clsI c.toNat=3
  ·rw[if_pos c3] at h;simp at h
  rw[if_neg c3] at h ⊢
  by_cases c4:clsI c.toNat=4
  ·rw[if_pos c4] at h;simp at h
  rw[if_neg c4] at h ⊢
  by_cases c5:clsI c.toNat=5
  ·rw[if_pos c5] at h;simp at h
  rw[if_neg c5] at h ⊢
  by_cases cp:Lib.hasPrefix (c::r) [47,47]=true
  ·rw[if_pos cp] at h;simp only[Prod.mk.injEq] at h;have A:=h.2.1;unfold comN at A;have E:2<=n:=by
    cases r with
    | nil=>simp[Lib.hasPrefix,List.isPrefixOf] at cp
    | cons d r'=>
     simp[Lib.hasPrefix,List.isPrefixOf] at cp;obtain⟨rfl,rfl⟩:=cp;rw[zc5,zc5] at A;simp at A;omega
   have C:Lib.hasPrefix (c::r.take m) [47,47]=true:=by
    cases r with
    | nil=>rw[List.take_nil];exact cp
    | cons d r'=>
     obtain⟨m,rfl⟩:∃ m',m=m'+1:=⟨m - 1,by omega⟩;rw[List.take_succ_cons];unfold Lib.hasPrefix at cp ⊢;simpa[List.isPrefixOf] using cp
   have e:=zid (p:=fun c=>c != 10) (c::r) (m+1) (by omega);rw[List.take_succ_cons] at e;rw[if_pos C,comN,e,A]
  ·rw[if_neg cp] at h;simp at h
inductive GapL:List UInt8->Prop
 | nil:GapL []
 | step {S:List UInt8}{n:Nat}:S≠[]->lookR S false=(0,n,0)->GapL (S.drop n)->GapL S
def StL (L:List UInt8):Nat->List Tok->Prop
 | e,[]=>GapL (L.drop e)
 | e,t::r=>∃ a:Nat,t.pos=a∧e<=a∧a+t.text.data.toList.length<=L.length∧(L.drop a).take t.text.data.toList.length=t.text.data.toList∧GapL ((L.drop e).take (a - e))∧StL L (a+t.text.data.toList.length) r
theorem zz7 {L:List UInt8}{p n:Nat}{en:Bool}(h:lookR (L.drop p) en=(0,n,0))(hp:p<L.length):∀ ts:List Tok,StL L (p+n) ts->StL L p ts:=by
 have y:L.drop p≠[]:=fun e=>by have:=congrArg List.length e;rw[List.length_drop] at this;simp at this;omega
 intro ts A;have M:0<n:=by
  rcases(zd6 h (fun e=>absurd e y)).2 with h|⟨h,-⟩
  ·exact h
  ·exact absurd h (by decide)
 have F:=(zd6 h (fun e=>absurd e y)).1
 cases ts with
 | nil=>
  have e:=zpc (m:=(L.drop p).length) h F;rw[List.take_length] at e;exact .step y e (by rw[List.drop_drop];exact A)
 | cons t r=>
  obtain⟨a,I,N,K,C,E,D⟩:=A;refine⟨a,I,by omega,K,C,?_,D⟩;have e:=zpc (m:=a - p) h (by omega);refine .step (fun e=>?_) e ?_
  ·have:=congrArg List.length e;rw[List.length_take] at this;rw[List.length_drop] at this;simp at this;omega
  ·rw[List.drop_take,List.drop_drop,show a - p - n=a - (p+n) by omega];exact E
theorem znt {S:List UInt8}{k:Int}(h:lookR S false=(k,S.length,0))(hk:k≠0)(hS:0<S.length)(hl:S.length<=4096)(p:Int):alnB ⟨k,strU S,p⟩=true:=by
 unfold alnB lexO;show(match (if 4096<S.length then(([],3,0):List Tok × Int × Nat) else lexG S (2 * S.length+1) 0 []).1 with
  | []=>false
  | x::_=>tkEq x ⟨k,strU S,p⟩)=true
 rw[if_neg (by omega)];have E:lookR (S.drop 0) (clo (lastT []))=(k,S.length,0):=h;rw[zei (.inl hS) E hk (by simp)];obtain⟨f,C⟩:∃ f,2 * S.length=f+1+1:=⟨2 * S.length - 2,by omega⟩;rw[C,Nat.zero_add,List.nil_append,List.drop_zero,List.take_length];have A:tkEq ⟨k,strU S,((0:Nat):Int)⟩ ⟨k,strU S,p⟩=true:=by simp[tkEq]
 have y:lastT [⟨k,strU S,((0:Nat):Int)⟩]=⟨k,strU S,((0:Nat):Int)⟩:=rfl
 cases hc:clo ⟨k,strU S,((0:Nat):Int)⟩ with
 | false=>
  rw[zg3 (by omega) (by rw[y];exact hc)];exact A
 | true=>
  have D:lookR (S.drop S.length) (clo (lastT [⟨k,strU S,((0:Nat):Int)⟩]))=(5,0,0):=by rw[y,hc,List.drop_length];rfl
  rw[zei (.inr (by rw[y];exact hc)) D (by decide) (by simp)];rw[zg3 (by omega) (by rw[zde];rfl)];exact A
theorem zqu {L:List UInt8}(hL:L.length<=4096):∀ (f p:Nat)(ds:List Tok),p<=L.length->ds.length<=1024->lexMu L p ds<f ->
  (∃ e q,lexG L f p ds=([],e,q)∧e≠0∧q<=L.length)∨∃ ms,lexG L f p ds=(ds++ms,0,0)∧StL L p ms∧chkF (lastT ds) ms=true∧(ds++ms).length<=1024:=by
 intro f
 induction f with
 | zero=>intro p ds _ _ h;omega
 | succ f ih=>
  intro p ds I M Z;obtain⟨k,n,e,A⟩:∃ k n e,lookR (L.drop p) (clo (lastT ds))=(k,n,e):=⟨_,_,_,rfl⟩
  by_cases y:p<L.length∨clo (lastT ds)=true
  ·by_cases he:e=0
   ·subst he
    by_cases hk:k=0
    ·subst hk;obtain⟨E,Y⟩:=zod y I A;have N:p<L.length:=by
      by_cases h:p<L.length
      ·exact h
      ·rw[List.drop_eq_nil_of_le (by omega)] at A;simp[lookR] at A
     rw[zfk y A];rcases ih (p+n) ds E M (by omega) with h|⟨ms,g1,g2,g3,g4⟩
     ·exact .inl h
     ·exact .inr ⟨ms,g1,zz7 A N ms g2,g3,g4⟩
    ·by_cases ht:ds.length=1024
     ·exact .inl ⟨3,p,ze8 y A hk ht,by decide,I⟩
     ·obtain⟨E,Y⟩:=zoe y I A (t:=⟨k,strU ((L.drop p).take n),p⟩) rfl;rw[zei y A hk ht];have U:=zd6 A (fun e=>by
       rcases y with y|y
       ·have:=congrArg List.length e;rw[List.length_drop] at this;simp at this;omega
       ·exact y)
      have C:((L.drop p).take n).length=n:=by rw[List.length_take,List.length_drop];omega
      rcases ih (p+n) (ds++[⟨k,strU ((L.drop p).take n),p⟩]) E (by simp;omega) (by omega) with h|⟨ms,g1,g2,g3,g4⟩
      ·exact .inl h
      ·rw[zde] at g3;refine .inr ⟨⟨k,strU ((L.drop p).take n),p⟩::ms,by rw[g1];simp,⟨p,rfl,Ya _,?_,?_,?_,?_⟩,?_,by simpa using g4⟩
       ·rw[zgy,C];exact E
       ·rw[zgy,C]
       ·rw[Nat.sub_self,List.take_zero];exact .nil
       ·rw[zgy,C];exact g2
       ·rw[chkF];rcases U.2 with K|⟨hk5,K,hen⟩
        ·have D:bareB ⟨k,strU ((L.drop p).take n),p⟩=false:=by
          cases D:bareB ⟨k,strU ((L.drop p).take n),p⟩ with
          | false=>rfl
          | true=>
           have:=(zpb D).2.2;rw[zdv] at this;rw[this] at C;simp at C;omega
         have V:=zwx A hk K;have X:alnB ⟨k,strU ((L.drop p).take n),p⟩=true:=znt (by rw[C];exact V) hk (by omega) (by omega) _;rw[D,X];exact g3
        ·subst hk5 K;rw[hen];rw[List.take_zero] at g3 ⊢;have D:bareB ⟨5,strU [],p⟩=true:=by unfold bareB;rw[zdv];rfl
         rw[D];exact g3
   ·exact .inl ⟨e,p,zfj y A he,he,I⟩
  ·have F:clo (lastT ds)=false:=by
    cases F:clo (lastT ds) with
    | false=>rfl
    | true=>exact absurd (.inr F) y
   refine .inr ⟨[],?_,?_,by rw[chkF,F];rfl,by simpa using M⟩
   ·rw[zg3 (fun h=>y (.inl h)) F,List.append_nil]
   ·show GapL (L.drop p);rw[List.drop_eq_nil_of_le (by
     by_cases h:p<L.length
     ·exact absurd (.inl h) y
     ·omega)]
    exact .nil
theorem znu {L:List UInt8}(hL:L.length<=4096):(∃ e q,lexO L=([],e,q)∧e≠0∧q<=L.length)∨∃ ms,lexO L=(ms,0,0)∧StL L 0 ms∧chkO ms=0∧ms.length<=1024:=by
 have h:=zqu hL (2 * L.length+1) 0 [] (Yk _) (by simp) (by unfold lexMu;rw[zij];simp[clo]);unfold lexO;rw[if_neg (by omega)];rcases h with h|⟨ms,g1,g2,g3,g4⟩
 ·exact .inl h
 ·rw[List.nil_append] at g1 g4;refine .inr ⟨ms,g1,g2,?_,g4⟩;unfold chkO;rw[if_neg (by omega)];rw[zij] at g3;rw[g3];rfl
theorem zhi {t u:Tok}(h:alnB t=true)(hk:u.kind=t.kind)(hx:u.text=t.text):alnB u=true:=by
 unfold alnB at h ⊢;rw[hx]
 cases hl:(lexO t.text.data.toList).1 with
 | nil=>rw[hl] at h;cases h
 | cons x r=>
  rw[hl] at h;simp only[tkEq] at h ⊢;rw[hk,hx];exact h
theorem z0c {s:List UInt8}{t:Pt}(h:txtO s=.inr t):∃ ts q,lexO s=(ts,0,0)∧chkO ts=0∧filO ts=.ok t q∧(layP 0 t).length<=2048∧dpF (fun _=>0) 0 0 (layP 0 t)<=24:=by
 unfold txtO at h
 by_cases hL:s.length<=4096
 ·rcases znu hL with⟨e,q,y,A,C⟩ | ⟨ms,hm,hst,hck,hlen⟩
  ·rw[y,if_neg A] at h
   cases h
  ·rw[hm,if_pos rfl] at h;refine⟨ms,?_⟩;unfold parO at h
   split at h
   ·cases h
   split at h
   ·cases h
   split at h
   ·rename_i u q hu
    split at h
    ·cases h
    split at h
    ·cases h
    ·injection h with h;subst h;exact⟨q,hm,hck,hu,by omega,by omega⟩
   ·cases h
   ·cases h
 ·have y:lexO s=([],3,0):=by unfold lexO;rw[if_pos (by omega)]
  rw[y,if_neg (by decide)] at h
  cases h
theorem z2y:∀ (a b:List Nd) (D:Nat->Int)(i:Nat)(m:Int),eqAll ndEq a b=true->dpF D i m a=dpF D i m b
 | [],[],_,_,_,_=>rfl
 | [],_::_,_,_,_,h=>by simp[eqAll] at h
 | _::_,[],_,_,_,h=>by simp[eqAll] at h
 | x::a,y::b,D,i,m,h=>by
  rw[eqAll,Bool.and_eq_true] at h;have hk:x.kids=y.kids:=by
   have:=h.1;unfold ndEq at this;simp only[Bool.and_eq_true,beq_iff_eq] at this;exact this.2
  rw[dpF,dpF,hk];exact z2y a b _ _ _ h.2
theorem zli {u:Tok}(h:wrA u=false):bareB u=false∧alnB u=true:=by
 unfold wrA at h;have A:chkO [u,enT]=0:=by simpa using h
 unfold chkO at A;rw[if_neg (by simp)] at A;have y:chkF ⟨0,⟨#[]⟩,0⟩ [u,enT]=true:=by
  cases hc:chkF ⟨0,⟨#[]⟩,0⟩ [u,enT] with
  | true=>rfl
  | false=>rw[hc] at A;simp at A
 rw[chkF] at y
 cases hb:bareB u with
 | true=>rw[hb] at y;simp[clo] at y
 | false=>
  rw[hb] at y
  cases ha:alnB u with
  | true=>exact⟨rfl,rfl⟩
  | false=>rw[ha] at y;simp at y
theorem zpg:∀ (ws:List Tok)(last z:Tok),(∀ u ∈ ws,wrA u=false)->wrA z=false->clo z=false->chkF last (ws++[z])=true
 | [],last,z,_,hz,hc=>by
  rw[List.nil_append,chkF,(zli hz).1,(zli hz).2];simp[chkF,hc]
 | x::r,last,z,h,hz,hc=>by
  have hx:=zli (h x (by simp));rw[List.cons_append,chkF,hx.1,hx.2];exact zpg r x z (fun u hu=>h u (by simp[hu])) hz hc
theorem zi6 {α:Type}{eq:α->α->Bool}:∀ {a c b d:List α},a.length=c.length->eqAll eq (a++b) (c++d)=true->eqAll eq a c=true∧eqAll eq b d=true
 | [],[],b,d,_,h=>⟨rfl,h⟩
 | [],_::_,_,_,h,_=>by simp at h
 | _::_,[],_,_,h,_=>by simp at h
 | x::a,y::c,b,d,hl,h=>by
  rw[List.cons_append,List.cons_append,eqAll,Bool.and_eq_true] at h;have:=zi6 (by simpa using hl) h.2;exact⟨by rw[eqAll,Bool.and_eq_true];exact⟨h.1,this.1⟩,this.2⟩
theorem z4u {a b:Nd}(h:ndEq a b=true):a.kind=b.kind∧a.text=b.text∧a.num=b.num∧a.kids=b.kids:=by
 unfold ndEq at h;simp only[Bool.and_eq_true,beq_iff_eq] at h;refine⟨h.1.1.1,?_,h.1.2,h.2⟩;have:=h.1.1.2
 first|exact this|(rw[ByteArray.toList_eq,ByteArray.toList_eq] at this;exact ByteArray.ext (Array.toList_inj.1 this))
mutual
theorem zyb:∀ (t t':Pt)(i:Nat),eqAll ndEq (layP i t) (layP i t')=true->smP t t'
 | .mk k x n a f e l,.mk k' x' n' a' f' e' l',i,h=>by
  rw[layP,layP,eqAll,Bool.and_eq_true] at h;obtain⟨h1,h2,h3,h4⟩:=z4u h.1;have e1:k=k':=h1;have e2:x=x':=h2;have e3:n=n':=h3;subst e1 e2 e3;exact zbt (zui l l' (i+1) h4 h.2)
theorem zui:∀ (l l':List Pt)(i:Nat),kidI i l=kidI i l'->eqAll ndEq (layL i l) (layL i l')=true->smL l l'
 | [],[],_,_,_=>zca
 | [],_::_,_,h,_=>by rw[kidI,kidI] at h;cases h
 | _::_,[],_,h,_=>by rw[kidI,kidI] at h;cases h
 | t::r,t'::r',i,h,h'=>by
  rw[kidI,kidI] at h;injection h with _ h;rw[layL,layL] at h';have hc:cntP t=cntP t':=by
   cases r with
   | nil=>
    cases r' with
    | nil=>
     have y:=zdt h';rw[layL,layL,List.append_nil,List.append_nil,zco,zco] at y;exact y
    | cons u s=>rw[kidI,kidI] at h;cases h
   | cons u s=>
    cases r' with
    | nil=>rw[kidI,kidI] at h;cases h
    | cons u' s'=>
     rw[kidI,kidI] at h;injection h with h _;omega
  obtain⟨C,A⟩:=zi6 (by rw[zco,zco,hc]) h';rw[hc] at h A;exact zb7 (zyb t t' i C) (zui r r' _ h A)
end
theorem z0d {a b:List Nd}(h:eqAll ndEq a b=true):eqAll ndEq b a=true:=by
 have A:=zdt h;rw[zd4 A] at h;rw[zd4 A.symm];intro i x y D C;have:=h i y x C D;unfold ndEq at this ⊢;simp only[Bool.and_eq_true,beq_iff_eq] at this ⊢;exact⟨⟨⟨this.1.1.1.symm,this.1.1.2.symm⟩,this.1.2.symm⟩,this.2.symm⟩
mutual
theorem z4v:∀ (t t':Pt),smP t t'->hdP t=hdP t'
 | .mk k x n a f e l,.mk k' x' n' a' f' e' l',h=>by
  unfold smP at h;rw[hdP,hdP,h.1,h.2.1]
end
theorem zyc:∀ (l l':List Pt),smL l l'->l.map hdP=l'.map hdP
 | [],[],_=>rfl
 | [],_::_,h=>by unfold smL smP.go at h;exact h.elim
 | _::_,[],h=>by unfold smL smP.go at h;exact h.elim
 | t::r,t'::r',h=>by
  unfold smL smP.go at h;rw[List.map_cons,List.map_cons,z4v t t' h.1,zyc r r' h.2]
mutual
theorem z2z:∀ (t t':Pt),smP t t'->wrP t=wrP t'
 | .mk k x n a f e l,.mk k' x' n' a' f' e' l',h=>by
  unfold smP at h;obtain⟨rfl,rfl,rfl,h4⟩:=h;rw[wrP,wrP,zyc l l' h4,zyd l l' h4]
theorem zyd:∀ (l l':List Pt),smL l l'->wrM l=wrM l'
 | [],[],_=>rfl
 | [],_::_,h=>by unfold smL smP.go at h;exact h.elim
 | _::_,[],h=>by unfold smL smP.go at h;exact h.elim
 | t::r,t'::r',h=>by
  unfold smL smP.go at h;rw[wrM,wrM,z2z t t' h.1,zyd r r' h.2]
end
theorem zuj {α β:Type}{b:Bool}{s:Int}{k:Rs α}{f:α->Nat->Rs β}:(Rs.need b s k).bind f=Rs.need b s (k.bind f):=by
 unfold Rs.need
 cases b <;> rfl
theorem zhj {α β γ:Type}{r:Rs α}{f:α->Nat->Rs β}{g:β->Nat->Rs γ}:(r.bind f).bind g=r.bind fun v q=>(f v q).bind g:=by cases r <;> rfl
theorem z21 {α β:Type}{c:Prop} [Decidable c] {a b:Rs α}{g:α->Nat->Rs β}:(if c then a else b).bind g=if c then a.bind g else b.bind g:=by split <;> rfl
theorem z22 {α β:Type}{ts:List Tok}{s:ByteArray}{q:Qs}{k:Tok->Qs->Option α}{g:α->Option β}:(tak ts s q k).bind g=tak ts s q fun t q=>(k t q).bind g:=rfl
theorem zjz {α β:Type}{ts:List Tok}{s:List UInt8}{p:Nat}{k:Nat->Rs α}{f:α->Nat->Rs β}:(expP ts s p k).bind f=expP ts s p fun q=>(k q).bind f:=zuj
section
variable {ts:List Tok}
theorem zuk (n:Nat):∀ p,isT ts p [41]=true->(nxT ts p).kind=4->(∀ k,(fns ts n).bin k p=.bad (herI ts p)∨(fns ts n).bin k p=.out)∧((fns ts n).una p=.bad (herI ts p)∨(fns ts n).una p=.out)∧((fns ts n).post p=.bad (herI ts p)∨(fns ts n).post p=.out)∧((fns ts n).prim p=.bad (herI ts p)∨(fns ts n).prim p=.out):=by
 induction n with
 | zero=>exact fun p _ _=>⟨fun _=>.inr rfl,.inr rfl,.inr rfl,.inr rfl⟩
 | succ n ih=>
  intro p h y;obtain⟨D,F,E,A⟩:=ih p h y;have e:(nxT ts p).text.data.toList=[41]:=eq_of_beq h;have ne:∀ s,s≠[41]->isT ts p s=false:=fun s C=>by
   unfold isT;rw[e,beq_eq_false_iff_ne];exact fun e=>C e.symm
  refine⟨fun k=>?_,?_,?_,.inl ?_⟩
  ·show(if k=5 then(fns ts n).una p else((fns ts n).bin (k+1) p).bind fun t q=>(fns ts n).binL k (herI ts p) t q)=_∨(if k=5 then(fns ts n).una p else((fns ts n).bin (k+1) p).bind fun t q=>(fns ts n).binL k (herI ts p) t q)=_
   split
   ·exact F
   ·rcases D (k+1) with h|h
    ·rw[h];exact .inl rfl
    ·rw[h];exact .inr rfl
  ·show(if _ then _ else(fns ts n).post p)=_∨(if _ then _ else(fns ts n).post p)=_;rw[ne [45] (by simp),ne [33] (by simp)];exact E
  ·show((fns ts n).prim p).bind _=_∨((fns ts n).prim p).bind _=_;rcases A with h|h
   ·rw[h];exact .inl rfl
   ·rw[h];exact .inr rfl
  ·show(if isT ts p [40] then _ else if namB ts p then leaP ts 23 p else va1P ts p)=_;unfold namB va1P;rw[ne [40] (by simp),ne [116,114,117,101] (by simp),ne [102,97,108,115,101] (by simp),y];rfl
variable (hR:RtT ts)
include hR
theorem z23 {p:Nat}{s:List UInt8}(h:isT ts p s=true)(hs:sgQ.contains s=true):(nxT ts p).kind=4:=hR.sg p (by rw[eq_of_beq h];exact List.contains_iff_mem.mp hs)
theorem zj0 {f:Fns}{d:Dns}(hs:∀ l q,AgG ts Eq (f.stmL l q) (d.stmL l ⟨q,false⟩))(hb:∀ l q,Bd (d.stmL l ⟨q,true⟩) q)(p:Nat):AgG ts (IsV (herI ts p)) (bloP ts f p) (bloD ts d ⟨p,false⟩):=by
 unfold bloP bloD linP;rw[zjz];refine zbr (zdc hR p ⟨#[123]⟩ (.inl rfl) rfl) (fun _=>?_) fun t=>zaz (hb _ _) fun l=>zb6 fun _=>zaq _
 dsimp only
 rw[zhj];refine zcg (hs _ _) (fun l l' q y=>?_) fun l q=>zb6 fun _=>zaq _;subst y;rw[zjz];refine zbr (zdc hR _ ⟨#[125]⟩ (.inl rfl) rfl) (fun _=>zc9 ⟨?_,zbv p⟩) fun t=>zaq _;simp only[Qv.pt,zbv]
theorem zye {f:Fns}{d:Dns}(hr:∀ q,AgG ts (IsV (herI ts q)) (f.bin 0 q) (d.row 1 ⟨q,false⟩))(hb:∀ q,Bd (d.row 1 ⟨q,true⟩) q)(p:Nat):AgG ts (IsV (herI ts p)) (varP ts f p) (varD ts d ⟨p,false⟩):=by
 unfold varP varD;refine zoy hR 4 ⟨#[118,97,114]⟩ p (d:=fun w=>if isQ ts (kinD ts w.2).2.p ⟨#[61]⟩ then tak ts ⟨#[61]⟩ (kinD ts w.2).2 fun _ q=>(d.row 1 q).bind fun e=>some ((⟨4,w.1.x,0,w.1.a,w.1.f,behI ts e.2.p,w.1.bg,[(kinD ts w.2).1.pt,e.1.pt]⟩:Qv),e.2) else some ((⟨4,w.1.x,0,w.1.a,w.1.f,behI ts (kinD ts w.2).2.p,w.1.bg,[(kinD ts w.2).1.pt]⟩:Qv),(kinD ts w.2).2)) rfl rfl (fun F=>?_) fun v q=>?_
 ·refine ziw (P':=IsV (herI ts p)) (k:=fun r=>if isQ ts r.2.p ⟨#[61]⟩ then tak ts ⟨#[61]⟩ r.2 fun _ q=>(d.row 1 q).bind fun e=>some ((⟨4,(nxT ts (p+1)).text,0,(nxT ts (p+1)).pos,herI ts p,behI ts e.2.p,herI ts p,[r.1.pt,e.1.pt]⟩:Qv),e.2) else some ((⟨4,(nxT ts (p+1)).text,0,(nxT ts (p+1)).pos,herI ts p,behI ts r.2.p,herI ts p,[r.1.pt]⟩:Qv),r.2)) (zs5 hR _) (fun t v q A=>?_) fun v q=>?_
  ·obtain⟨rfl,E⟩:=A;refine zcy (by rw[zbg hR q ⟨#[61]⟩ (.inl rfl)]) (fun h=>?_) fun _=>zc9 ⟨by simp only[Qv.pt],rfl⟩;refine zdd ((zdc hR q ⟨#[61]⟩ (.inl rfl) rfl).trans h) ?_;refine zcg (hr _) (fun t u q C=>?_) fun v q=>zaq _;obtain⟨rfl,-⟩:=C;exact zc9 ⟨by simp only[Qv.pt],rfl⟩
  ·exact zd9 (zb6 fun _=>zaz (hb _) fun _=>zaq _) (zaq _)
 ·obtain⟨r,y⟩:∃ r,kinD ts ⟨q,true⟩=r:=⟨_,rfl⟩;have D:r.2=⟨q,true⟩:=y ▸ zia;obtain⟨r,q⟩:=r
  cases D
  dsimp only
  rw[y];exact zd9 (zb6 fun _=>zaz (hb _) fun _=>zaq _) (zaq _)
theorem z26 {f:Fns}{d:Dns}(hr:∀ q,AgG ts (IsV (herI ts q)) (f.bin 0 q) (d.row 1 ⟨q,false⟩))(hb:∀ q,Bd (d.row 1 ⟨q,true⟩) q)(hs:∀ l q,AgG ts Eq (f.stmL l q) (d.stmL l ⟨q,false⟩))(hbs:∀ l q,Bd (d.stmL l ⟨q,true⟩) q)(p:Nat):AgG ts (IsV (herI ts p)) (looP ts f p) (looD ts d ⟨p,false⟩):=by
 unfold looP looD;refine zbr (zdc hR p ⟨#[102,111,114]⟩ (.inr rfl) rfl) (fun _=>?_) fun t=>zaz (hb _) fun e=>zaz (zfv fun _=>hbs _ _) fun _=>zaq _;refine zcg (hr _) (fun t v q y=>?_) fun v q=>zaz (zfv fun _=>hbs _ _) fun _=>zaq _;obtain⟨rfl,-⟩:=y;refine zcg (zj0 hR hs hbs _) (fun t v q y=>?_) fun v q=>zaq _;obtain⟨rfl,-⟩:=y;exact zc9 ⟨by simp only[Qv.pt,zbv],zbv p⟩
theorem z27 {f:Fns}{d:Dns}(hr:∀ q,AgG ts (IsV (herI ts q)) (f.bin 0 q) (d.row 1 ⟨q,false⟩))(hb:∀ q,Bd (d.row 1 ⟨q,true⟩) q)(p:Nat):AgG ts (IsV (herI ts p)) (resP ts f p) (resD ts d ⟨p,false⟩):=by
 unfold resP resD;refine zbr (zdc hR p ⟨#[114,101,116,117,114,110]⟩ (.inr rfl) rfl) (fun _=>?_) fun t=>zd9 (zaz (hb _) fun e=>zaq _) (zaq _);refine zcy (by rw[zgt,zbg hR _ ⟨#[125]⟩ (.inl rfl)];rfl) (fun h=>?_) fun _=>zc9 ⟨by simp only[Qv.pt,zbv],zbv p⟩;refine zcg (hr _) (fun t v q y=>?_) fun v q=>zaq _;obtain⟨rfl,-⟩:=y;exact zc9 ⟨by simp only[Qv.pt,zbv],zbv p⟩
theorem z29 {f:Fns}{d:Dns}(hr:∀ q,AgG ts (IsV (herI ts q)) (f.bin 0 q) (d.row 1 ⟨q,false⟩))(hb:∀ q,Bd (d.row 1 ⟨q,true⟩) q)(p:Nat):AgG ts (IsV (herI ts p)) (shoP ts f p) (shoD ts d ⟨p,false⟩):=by
 unfold shoP shoD
 dsimp only
 refine zbr (zdg p) (fun h=>?_) fun t=>zb6 fun _=>zaz (hb _) fun e=>zaq _;obtain⟨D,A,C⟩:=zfw (zek h);refine zbr (zdc hR _ ⟨#[58,61]⟩ (.inl rfl) rfl) (fun _=>?_) fun t=>zaz (hb _) fun e=>zaq _;refine zcg (hr _) (fun t v q y=>?_) fun v q=>zaq _;obtain⟨rfl,-⟩:=y;exact zc9 ⟨by simp only[Qv.pt,zbv,zk5,A],zbv p⟩
theorem z3a {f:Fns}{d:Dns}(hr:∀ q,AgG ts (IsV (herI ts q)) (f.bin 0 q) (d.row 1 ⟨q,false⟩))(hb:∀ q,Bd (d.row 1 ⟨q,true⟩) q)(p:Nat):AgG ts (IsV (herI ts p)) (simP ts f p) (simD ts d ⟨p,false⟩):=by
 unfold simP simD
 dsimp only
 refine zcg (hr _) (fun t v q y=>?_) fun v q=>zd9 (zb6 fun _=>zaz (hb _) fun e=>zaq _) (zaq _);obtain⟨rfl,-⟩:=y;refine zcy (by rw[zbg hR _ ⟨#[61]⟩ (.inl rfl)]) (fun h=>?_) fun _=>zc9 ⟨by simp only[Qv.pt,zbv],zbv p⟩;refine zdd ((zdc hR _ ⟨#[61]⟩ (.inl rfl) rfl).trans h) ?_;refine zcg (hr _) (fun t v q y=>?_) fun v q=>zaq _;obtain⟨rfl,-⟩:=y;exact zc9 ⟨by simp only[Qv.pt,zbv],zbv p⟩
theorem z3b {f:Fns}{d:Dns}(hs:∀ l q,AgG ts Eq (f.fieL l q) (d.fieL l ⟨q,false⟩))(hb:∀ l q,Bd (d.fieL l ⟨q,true⟩) q)(p:Nat):AgG ts (IsV (herI ts p)) (strP ts f p) (strD ts d ⟨p,false⟩):=by
 unfold strP strD linP;refine zoy hR 5 ⟨#[116,121,112,101]⟩ p (d:=fun w=>tak ts ⟨#[115,116,114,117,99,116]⟩ w.2 fun _ q=>tak ts ⟨#[123]⟩ q fun _ q=>(d.fieL [] q).bind fun l=>tak ts ⟨#[125]⟩ l.2 fun _ q=>some ((⟨5,w.1.x,0,w.1.a,w.1.f,behI ts q.p,w.1.bg,l.1⟩:Qv),q)) rfl rfl (fun A=>?_) fun v q=>zb6 fun _=>zb6 fun _=>zaz (hb _ _) fun _=>zb6 fun _=>zaq _;refine zbr (zdc hR _ ⟨#[115,116,114,117,99,116]⟩ (.inr rfl) rfl) (fun _=>?_) fun t=>zb6 fun _=>zaz (hb _ _) fun _=>zb6 fun _=>zaq _
 dsimp only
 rw[zjz];refine zbr (zdc hR _ ⟨#[123]⟩ (.inl rfl) rfl) (fun _=>?_) fun t=>zaz (hb _ _) fun _=>zb6 fun _=>zaq _
 dsimp only
 rw[zhj];refine zcg (hs _ _) (fun l l' q y=>?_) fun l q=>zb6 fun _=>zaq _;subst y;rw[zjz];refine zbr (zdc hR _ ⟨#[125]⟩ (.inl rfl) rfl) (fun _=>zc9 ⟨?_,rfl⟩) fun t=>zaq _;simp only[Qv.pt]
end
end Go.Proofs.YtmclgbkijeidaaaGreatDoor
