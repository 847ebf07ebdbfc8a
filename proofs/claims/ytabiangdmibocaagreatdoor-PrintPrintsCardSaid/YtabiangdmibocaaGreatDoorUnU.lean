import Derived.Test.YtabiangdmibocaaGreatDoorUnT
import Derived.Test.YtabiangdmibocaaGreatDoorUnQ
import Derived.Test.YtabiangdmibocaaGreatDoorUnE
import Derived.Test.YtabiangdmibocaaGreatDoorUnN
import Derived.Test.YtabiangdmibocaaGreatDoorUnR
import Derived.Test.YtabiangdmibocaaGreatDoorUnG
namespace Go.Proofs.YtabiangdmibocaaGreatDoor
set_option maxRecDepth 100000
open Go.RowKit
theorem z07 {acc d:Nat}(h:acc≠0)(hd:d<10):Lib.decDigits (acc * 10+d)=Lib.decDigits acc++[UInt8.ofNat (48+d)]:=by
 rw[Lib.decDigits,dif_neg (by omega),show(acc * 10+d) / 10=acc by omega,show(acc * 10+d) % 10=d by omega]
theorem zox {c:UInt8}(h:clsI c.toNat=4):c.toNat - 48<10∧UInt8.ofNat (48+(c.toNat - 48))=c∧48<=c.toNat:=by
 have h1:=cls4.1 h;refine⟨by omega,?_,h1.1⟩;rw[show 48+(c.toNat - 48)=c.toNat by omega,UInt8.ofNat_toNat]
theorem zic:∀ (L:List UInt8)(acc m:Nat),acc≠0->decF acc L=some m->Lib.decDigits m=Lib.decDigits acc++L
 | [],acc,m,_,h=>by
  rw[decF] at h;injection h with h;rw[h,List.append_nil]
 | c::r,acc,m,ha,h=>by
  rw[decF] at h
  split at h
  ·rename_i hc
   obtain⟨h1,h2,h3⟩:=zox hc.1;rw[zic r _ m (by omega) h,z07 ha h1,h2,List.append_assoc];rfl
  ·cases h
theorem zm4 {L:List UInt8}{m:Nat}(h:decO L=some m):Lib.decDigits m=L:=by
 unfold decO at h
 split at h
 ·cases h
 rename_i hn
 cases L with
 | nil=>exact absurd (.inl rfl) hn
 | cons c r=>
  rw[decF] at h
  split at h
  ·rename_i hc
   obtain⟨h1,h2,h3⟩:=zox hc.1;rw[show 0 * 10+(c.toNat - 48)=c.toNat - 48 by omega] at h;have hs:Lib.decDigits (c.toNat - 48)=[c]:=by rw[Lib.decDigits,dif_pos h1,h2]
   cases r with
   | nil=>
    rw[decF] at h;injection h with h;rw[<-h,hs]
   | cons d r=>
    have h48:c.toNat≠48:=fun e=>hn (.inr ⟨by simp,by rw[List.head?_cons,show c=48 from UInt8.toNat_inj.1 e]⟩);rw[zic _ _ m (by omega) h,hs];rfl
  ·cases h
theorem z08 {L:List UInt8}{m:Nat}(h:decO L=some m):m<=9223372036854775807:=by
 unfold decO at h
 split at h
 ·cases h
 ·exact zzv (by omega) h
theorem zw8:∀ (k:Nat) (L acc:List UInt8)(i:Nat)(v:List UInt8),L.length<=k->unqA acc i L=some (v,i+L.length)->∃ v',v=acc++v'∧v'.length<=L.length∧∀ a,quoG a v'=some (a++L):=by
 intro k
 induction k with
 | zero=>
  intro L acc i v hk h
  cases L with
  | nil=>simp[unqA] at h
  | cons c r=>simp at hk
 | succ k ih=>
  intro L acc i v hk h
  cases L with
  | nil=>simp[unqA] at h
  | cons c r=>
   rw[zb6] at h
   split at h
   ·rename_i hc
    simp only[Option.some.injEq,Prod.mk.injEq,List.length_cons] at h;obtain⟨rfl,h2⟩:=h;have hr:r=[]:=List.eq_nil_of_length_eq_zero (by omega);have hc':c=34:=UInt8.toNat_inj.1 hc;subst hr hc';exact⟨[],by simp,by simp,fun a=>by rw[quoG]⟩
   rename_i hc
   split at h
   ·rename_i h92
    have hc':c=92:=UInt8.toNat_inj.1 h92;subst hc'
    cases r with
    | nil=>simp at h
    | cons d r'=>
     simp only at h
     cases hp:pairU d with
     | none=>rw[hp] at h;cases h
     | some x=>
      rw[hp] at h;simp only[List.length_cons] at h hk;obtain⟨v',e1,e2,e3⟩:=ih r' (acc++[x]) (i+2) v (by omega) (by rw[h];congr 2;omega);have hq:quoB x=some [92,d]:=by
       unfold pairU at hp
       split at hp
       ·rename_i hd
        injection hp with hp;subst hp;unfold quoB;rw[if_pos hd]
       ·split at hp
        ·rename_i h110
         injection hp with hp;subst hp;rw[show d=110 from UInt8.toNat_inj.1 h110];rfl
        ·cases hp
      refine⟨x::v',by rw[e1];simp,by simp;omega,fun a=>?_⟩;rw[quoG,hq];simp only;rw[e3];simp
   rename_i h92
   split at h
   ·rename_i hpl
    simp only[List.length_cons] at h hk;obtain⟨v',e1,e2,e3⟩:=ih r (acc++[c]) (i+1) v (by omega) (by rw[h];congr 2;omega);have hq:quoB c=some [c]:=by
     unfold quoB;rw[if_neg (by omega)];have h10:¬ c.toNat=10:=fun e=>by rw[e] at hpl;revert hpl;decide
     rw[if_neg h10,if_pos hpl]
    refine⟨c::v',by rw[e1];simp,by simp;omega,fun a=>?_⟩;rw[quoG,hq];simp only;rw[e3];simp
   ·cases h
theorem zw9 {L v:List UInt8}(h:unqO L=some (v,L.length)):quoO v=some L∧v.length<=L.length:=by
 cases L with
 | nil=>simp[unqO] at h
 | cons c r=>
  rw[unqO] at h
  split at h
  ·rename_i hc
   have hc':c=34:=UInt8.toNat_inj.1 hc;subst hc';obtain⟨v',e1,e2,e3⟩:=zw8 r.length r [] 1 v (Nat.le_refl _) (by rw[h];simp only[List.length_cons];congr 2;omega);rw[List.nil_append] at e1;subst e1;exact⟨e3 [34],by simp;omega⟩
  ·cases h
theorem zko {t u:Tok}(h:alnB t=true)(hk:u.kind=t.kind)(hx:u.text=t.text):alnB u=true:=by
 unfold alnB at h ⊢;rw[hx]
 cases hl:(lexO t.text.data.toList).1 with
 | nil=>rw[hl] at h;cases h
 | cons x r=>
  rw[hl] at h;simp only[tkEq] at h ⊢;rw[hk,hx];exact h
theorem zm5 {t:Tok}(h:t.kind≠5):bareB t=false:=by
 unfold bareB;rw[show(t.kind == 5)=false by simpa using h];rfl
theorem z09 {c:UInt8}(h:clsI c.toNat=3):plB c=true:=by
 unfold clsI at h;unfold plB;simp only[Bool.or_eq_true,Bool.and_eq_true,decide_eq_true_eq,UInt8.le_iff_toNat_le,beq_iff_eq,<-UInt8.toNat_inj];have e1:(65:UInt8).toNat=65:=rfl;have e2:(90:UInt8).toNat=90:=rfl;have e3:(95:UInt8).toNat=95:=rfl;have e4:(97:UInt8).toNat=97:=rfl;have e5:(122:UInt8).toNat=122:=rfl;have e6:(48:UInt8).toNat=48:=rfl;have e7:(57:UInt8).toNat=57:=rfl;have e8:(34:UInt8).toNat=34:=rfl;rw[e1,e2,e3,e4,e5,e6,e7,e8]
 repeat' split at h
 all_goals first|omega|(exfalso;revert h;decide)
theorem ztz {t:Tok}(h:alnB t=true):(t.kind=1->plF t.text)∧(t.kind=2->∃ m,decO t.text.data.toList=some m)∧(t.kind=3->∃ v,unqO t.text.data.toList=some (v,t.text.data.toList.length)):=by
 obtain⟨h1,h2,h3⟩:=zv6 h;generalize hL:t.text.data.toList=L at h1 h3 ⊢
 cases L with
 | nil=>exact absurd rfl h3
 | cons c r=>
  unfold lookR at h1;simp only at h1
  split at h1
  ·simp at h1;refine⟨fun hk=>?_,fun hk=>?_,fun hk=>?_⟩ <;> (rw[hk] at h1;simp at h1)
  split at h1
  ·simp at h1;refine⟨fun hk=>?_,fun hk=>?_,fun hk=>?_⟩ <;> (rw[hk] at h1;simp at h1)
  split at h1
  ·simp at h1;refine⟨fun hk=>?_,fun hk=>?_,fun hk=>?_⟩ <;> (rw[hk] at h1;simp at h1)
  split at h1
  ·rename_i hc
   simp only[Prod.mk.injEq] at h1;exact⟨fun _=>⟨c,r,hL,z09 hc⟩,fun hk=>by rw[hk] at h1;exact absurd h1.1 (by decide),fun hk=>by rw[hk] at h1;exact absurd h1.1 (by decide)⟩
  split at h1
  ·simp only[Prod.mk.injEq] at h1;refine⟨fun hk=>by rw[hk] at h1;exact absurd h1.1 (by decide),fun _=>?_,fun hk=>by rw[hk] at h1;exact absurd h1.1 (by decide)⟩;have h4:=h1.2;unfold numR at h4
   split at h4
   ·simp at h4
   ·rename_i hn
    simp only[Prod.mk.injEq] at h4;have hd:(decO ((c::r).take (runN (inC [4]) (c::r)))).isSome=true:=by
     cases hs:(decO ((c::r).take (runN (inC [4]) (c::r)))).isSome with
     | true=>rfl
     | false=>exact absurd (.inl hs) hn
    rw[h4.1,List.take_length] at hd;exact Option.isSome_iff_exists.1 hd
  split at h1
  ·simp only[Prod.mk.injEq] at h1;refine⟨fun hk=>by rw[hk] at h1;exact absurd h1.1 (by decide),fun hk=>by rw[hk] at h1;exact absurd h1.1 (by decide),fun _=>?_⟩;have h4:=h1.2;unfold quoR at h4
   cases hu:unqO (c::r) with
   | none=>rw[hu] at h4;simp at h4
   | some p=>
    obtain⟨v,n⟩:=p;rw[hu] at h4;simp only[Prod.mk.injEq] at h4;exact⟨v,by rw[h4.1]⟩
  split at h1
  ·simp at h1;refine⟨fun hk=>?_,fun hk=>?_,fun hk=>?_⟩ <;> (rw[hk] at h1;simp at h1)
  ·simp only[Prod.mk.injEq] at h1;refine⟨fun hk=>?_,fun hk=>?_,fun hk=>?_⟩ <;> (rw[hk] at h1;exact absurd h1.1 (by decide))
theorem zoy {t:Tok}(h:alnB t=true):tgood t:=by
 obtain⟨g1,g2,g3⟩:=ztz h;have hs:t.text.size<=4096:=zk3 h;have hsl:t.text.data.toList.length<=4096:=by
  have:t.text.size=t.text.data.toList.length:=by simp
  omega
 refine⟨fun hk=>⟨g1 hk,ztp (zm5 (by show(1:Int)≠5;decide)) (zko h hk.symm rfl),hs⟩,fun hk=>?_,fun hk=>?_⟩
 ·obtain⟨m,hm⟩:=g2 hk;have hn:numT t=m:=by unfold numT numO;rw[if_pos hk,hm]
  have hd:=zm4 hm;have hi:Lib.itoa (numT t)=t.text.data.toList:=by rw[hn];unfold Lib.itoa;rw[if_neg (by omega),Int.toNat_natCast,hd]
  have hx:(⟨(Lib.itoa (numT t)).toArray⟩:ByteArray)=t.text:=by rw[hi]
  have hle:=z08 hm;refine⟨fun u hu hut=>?_,?_,?_,by rw[hi];exact hsl,by omega,by omega⟩
  ·rw[hx] at hut;show(match numO u with|some n=>(n:Int) | none=>0)=numT t;have:numO u=some m:=by unfold numO;rw[if_pos hu,hut,hm]
   rw[this,hn]
  ·rw[hx];obtain⟨c,r,e,hc⟩:=z29 m;rw[hd] at e;refine⟨c,r,e,?_⟩;unfold plB;simp[hc.1,hc.2]
  ·refine ztp (zm5 (by show(2:Int)≠5;decide)) (zko h hk.symm ?_);exact hx
 ·obtain⟨v,hv⟩:=g3 hk;obtain⟨hq,hl⟩:=zw9 hv;have hz:t.text.size=t.text.data.toList.length:=by simp
  have hval:∀ u:Tok,u.kind=3->u.text=t.text->valT u=strU v:=fun u hu hut=>by
   unfold valT valO;rw[if_pos hu,hut,hv];simp only[hz,if_true]
  have hqt:quoT (strU v)=t.text:=by
   unfold quoT;rw[show(strU v).data.toList=v by simp[strU],hq];rfl
  rw[hval t hk rfl];refine⟨fun u hu hut=>hval u hu (by rw[hut,hqt]),?_,?_,by rw[hqt];exact hs,?_⟩
  ·rw[hqt]
   cases hL:t.text.data.toList with
   | nil=>rw[hL] at hv;simp[unqO] at hv
   | cons c r=>
    rw[hL,unqO] at hv
    split at hv
    ·rename_i hc
     exact⟨c,r,hL,by rw[show c=34 from UInt8.toNat_inj.1 hc];decide⟩
    ·cases hv
  ·rw[hqt];exact ztp (zm5 (by show(3:Int)≠5;decide)) (zko h hk.symm rfl)
  ·have:(strU v).size=v.length:=by simp[strU,ByteArray.size]
   omega
theorem zid:∀ (ts:List Tok)(last:Tok),chkF last ts=true->∀ t ∈ ts,tgood t
 | [],_,_=>fun t ht=>by simp at ht
 | x::r,last,h=>fun t ht=>by
  rw[chkF] at h
  split at h
  ·rename_i hb
   split at h
   ·rcases List.mem_cons.1 ht with rfl|ht
    ·have hk:t.kind=5:=(zn4 hb).2.1;exact⟨fun e=>by rw[hk] at e;exact absurd e (by decide),fun e=>by rw[hk] at e;exact absurd e (by decide),fun e=>by rw[hk] at e;exact absurd e (by decide)⟩
    ·exact zid r x h t ht
   ·cases h
  ·split at h
   ·rename_i ha
    rcases List.mem_cons.1 ht with rfl|ht
    ·exact zoy ha
    ·exact zid r x h t ht
   ·cases h
theorem zxa {ts:List Tok}(h:chkO ts=0):∀ p,tgood (nxT ts p):=by
 intro p;unfold chkO at h
 split at h
 ·cases h
 split at h
 ·rename_i hc
  by_cases hp:p<ts.length
  ·exact zid ts _ hc _ (by unfold nxT;rw[List.getD_eq_getElem?_getD,List.getElem?_eq_getElem hp];simp)
  ·have:nxT ts p=tokZ:=by unfold nxT;rw[List.getD_eq_getElem?_getD,List.getElem?_eq_none (by omega)];rfl
   rw[this];exact⟨fun e=>absurd e (by decide),fun e=>absurd e (by decide),fun e=>absurd e (by decide)⟩
 ·cases h
def tOk (u:Tok):Prop:=wrA u=false∧u.text.size<=4096∧u.pos=0
def aT (ws:List Tok):Prop:=∀ u ∈ ws,tOk u
theorem zlv:aT []:=fun u hu=>by simp at hu
theorem zbx {a b:List Tok}(h:aT a)(h':aT b):aT (a++b):=fun u hu=>(List.mem_append.1 hu).elim (h u) (h' u)
theorem zb3 {u:Tok}(h:tOk u):aT [u]:=fun v hv=>by obtain rfl:=List.mem_singleton.1 hv;exact h
theorem zgs {u:Tok}{a:List Tok}(h:tOk u)(h':aT a):aT (u::a):=fun v hv=>(List.mem_cons.1 hv).elim (fun e=>by rw[e];exact h) (h' v)
theorem zd0 {os:List (List Tok)}(h:∀ o ∈ os,aT o):aT os.flatten:=fun u hu=>by
 obtain⟨o,ho,hu⟩:=List.mem_flatten.1 hu;exact h o ho u hu
theorem z3s:tOk enT:=⟨by kernel_rfl,by decide,rfl⟩
theorem z5p:tOk (sgT [40]):=⟨by kernel_rfl,by decide,rfl⟩
theorem z5q:tOk (sgT [41]):=⟨by kernel_rfl,by decide,rfl⟩
theorem z5r:tOk (sgT [44]):=⟨by kernel_rfl,by decide,rfl⟩
theorem z3t:tOk (sgT [46]):=⟨by kernel_rfl,by decide,rfl⟩
theorem z1a:tOk (sgT [61]):=⟨by kernel_rfl,by decide,rfl⟩
theorem z3u:tOk (sgT [123]):=⟨by kernel_rfl,by decide,rfl⟩
theorem z3v:tOk (sgT [125]):=⟨by kernel_rfl,by decide,rfl⟩
theorem z3w:tOk (sgT [58,61]):=⟨by kernel_rfl,by decide,rfl⟩
theorem zyq {os:List (List Tok)}(h:∀ o ∈ os,aT o):aT (wEnd os):=zd0 fun o ho=>by
 obtain⟨a,ha,rfl⟩:=List.mem_map.1 ho;exact zbx (h a ha) (zb3 z3s)
theorem zt0 {s:List UInt8}(hs:tOk (sgT s)){os:List (List Tok)}(h:∀ o ∈ os,aT o):aT (wPar s os):=by
 cases os with
 | nil=>exact zlv
 | cons o r=>
  refine zbx (h o (by simp)) (zd0 fun o ho=>?_);obtain⟨a,ha,rfl⟩:=List.mem_map.1 ho;exact zgs hs (h a (by simp[ha]))
theorem zoz {os:List (List Tok)}(h:∀ o ∈ os,aT o):aT (wBrk os):=zbx (zbx (zb3 z5p) (zt0 z5r h)) (zb3 z5q)
theorem zyr {os:List (List Tok)}(h:∀ o ∈ os,aT o):aT (wBra os):=zbx (zbx (zb3 z3u) (zyq h)) (zb3 z3v)
theorem zm6 {os:List (List Tok)}(n:Nat)(h:∀ o ∈ os,aT o):∀ o ∈ os.take n,aT o:=fun o ho=>h o (List.mem_of_mem_take ho)
theorem zie {os:List (List Tok)}(n:Nat)(h:∀ o ∈ os,aT o):∀ o ∈ os.drop n,aT o:=fun o ho=>h o (List.mem_of_mem_drop ho)
theorem z5s {os:List (List Tok)}(h:∀ o ∈ os,aT o):aT (wIf os):=by
 unfold wIf;refine zbx (zbx (zd0 (zm6 2 h)) ?_) (zd0 (zie 2 h))
 split
 ·exact zb3 ⟨by kernel_rfl,by decide,rfl⟩
 ·exact zlv
theorem zlw {k:Int}{x:ByteArray}{hs:List (Int × ByteArray)}{os:List (List Tok)}(i:Nat)(h:∀ o ∈ os,aT o):aT (wOpe k x hs os i):=by
 unfold wOpe
 split
 ·rename_i a o _ ho
  have hm:aT o:=h o (List.mem_of_getElem? ho)
  split
  ·exact zoz fun o' ho'=>by obtain rfl:=List.mem_singleton.1 ho';exact hm
  ·exact hm
 ·exact zlv
theorem zea {x:ByteArray}(h:gW x):tOk (tkW 1 x):=⟨h.2.1,h.2.2,rfl⟩
theorem zys {x:ByteArray}(h:gQ x):tOk (tkW 3 (quoT x)):=⟨h.2.2.1,h.2.2.2.1,rfl⟩
theorem z3x {n:Int}(h:gI n):tOk (nuT n):=⟨h.2.2.1,by have:=h.2.2.2.1;show(Lib.itoa n).toArray.size<=4096;simpa using this,rfl⟩
theorem zyt {x:ByteArray}(h:gS x):tOk (tkW 4 x):=⟨h.1,h.2,rfl⟩
theorem z3y {x:ByteArray}{hs:List (Int × ByteArray)}{os:List (List Tok)}(hx:gW x)(h:∀ o ∈ os,aT o):aT (wFun x hs os):=by
 unfold wFun;refine zbx (zbx (zbx (zbx (zb3 ⟨by kernel_rfl,by decide,rfl⟩) ?_) (zb3 (zea hx))) (zoz (zm6 _ (zie _ h)))) (zd0 (zie _ (zie _ h)))
 split
 ·exact zoz (zm6 _ h)
 ·exact zlv
theorem aT_X {k n:Int}{x:ByteArray}{hs:List (Int × ByteArray)}{os:List (List Tok)}(hn:NdOk k x n)(h:∀ o ∈ os,aT o):aT (wrX k x n hs os):=by
 unfold wrX
 split
 ·rename_i e;exact zb3 (z3x (hn.i e))
 split
 ·rename_i e;exact zb3 (zys (hn.q (by omega)))
 split
 ·rename_i e;exact zb3 (zea (hn.w (by omega)))
 split
 ·rename_i e;exact zbx (zbx (zlw 0 h) (zb3 z3t)) (zb3 (zea (hn.w (by omega))))
 split
 ·exact zbx (zlw 0 h) (zoz (zie 1 h))
 split
 ·rename_i e;exact zbx (zb3 (zyt (hn.g (by omega)))) (zlw 0 h)
 split
 ·rename_i e;exact zbx (zbx (zlw 0 h) (zb3 (zyt (hn.g (by omega))))) (zlw 1 h)
 ·exact zlv
theorem aT_S {k n:Int}{x:ByteArray}{hs:List (Int × ByteArray)}{os:List (List Tok)}(hn:NdOk k x n)(h:∀ o ∈ os,aT o):aT (wrS k x n hs os):=by
 unfold wrS
 split
 ·exact zyr h
 split
 ·exact zbx (zb3 ⟨by kernel_rfl,by decide,rfl⟩) (z5s h)
 split
 ·exact zbx (zb3 ⟨by kernel_rfl,by decide,rfl⟩) (zd0 h)
 split
 ·exact zbx (zb3 ⟨by kernel_rfl,by decide,rfl⟩) (zd0 h)
 split
 ·rename_i e;exact zbx (zbx (zb3 (zea (hn.w (by omega)))) (zb3 z3w)) (zd0 h)
 split
 ·exact zt0 z1a h
 split
 ·exact zd0 h
 ·exact aT_X hn h
theorem aT_K {k n:Int}{x:ByteArray}{hs:List (Int × ByteArray)}{os:List (List Tok)}(hn:NdOk k x n)(h:∀ o ∈ os,aT o):aT (wrK k x n hs os):=by
 unfold wrK
 split
 ·rename_i e;exact zbx (zbx (zgs ⟨by kernel_rfl,by decide,rfl⟩ (zb3 (zea (hn.w (by omega))))) (zb3 z3s)) (zyq h)
 split
 ·rename_i e;exact zbx (zb3 ⟨by kernel_rfl,by decide,rfl⟩) (zb3 (zys (hn.q (by omega))))
 split
 ·rename_i e;exact zbx (zbx (zgs ⟨by kernel_rfl,by decide,rfl⟩ (zb3 (zea (hn.w (by omega))))) (zb3 z1a)) (zd0 h)
 split
 ·rename_i e;exact zbx (zgs ⟨by kernel_rfl,by decide,rfl⟩ (zb3 (zea (hn.w (by omega))))) (zt0 z1a h)
 split
 ·rename_i e;exact zbx (zgs ⟨by kernel_rfl,by decide,rfl⟩ (zgs (zea (hn.w (by omega))) (zb3 ⟨by kernel_rfl,by decide,rfl⟩))) (zyr h)
 split
 ·rename_i e;exact z3y (hn.w (by omega)) h
 split
 ·rename_i e;exact zbx (zb3 (zea (hn.w (by omega)))) (zd0 h)
 split
 ·rename_i e;exact zb3 (zea (hn.w (by omega)))
 split
 ·rename_i e;exact zbx (zbx (zd0 h) (zb3 z3t)) (zb3 (zea (hn.w (by omega))))
 ·exact aT_S hn h
mutual
theorem z3z:∀ t:Pt,okP t->aT (wrP t)
 | .mk k x n a f e l,h=>by
  rw[okP] at h;rw[wrP];exact aT_K h.1 (zyu l h.2)
theorem zyu:∀ l:List Pt,okL l->∀ o ∈ wrM l,aT o
 | [],_=>fun o ho=>by simp[wrM] at ho
 | t::r,h=>fun o ho=>by
  rw[okL] at h;rw[wrM] at ho;rcases List.mem_cons.1 ho with rfl|ho
  ·exact z3z t h.1
  ·exact zyu r h.2 o ho
end
mutual
theorem z1b:∀ t:Pt,okP t->GdP t
 | .mk k x n a f e l,h=>by
  rw[okP] at h;rw[GdP];have h1:=h.1.s;have h2:=h.1.r;exact⟨by omega,⟨by omega,h2.2⟩,zyv l h.2⟩
theorem zyv:∀ l:List Pt,okL l->GdL l
 | [],_=>by rw[GdL];trivial
 | t::r,h=>by
  rw[okL] at h;rw[GdL];exact⟨z1b t h.1,zyv r h.2⟩
end
def opeI (k:Int) (x:ByteArray) (d:Nat) (u:Pt) (i:Nat):List Pe:=if nedQ k x (hdP u) i then pBrk [prP d u] else prP d u
theorem zyw (d:Nat)(n a f t:Int)(x:ByteArray):prP d (.mk 20 x n a f t [])=[.t (nuT n)]:=by simp[prP,prK,prS,prX]
theorem zt1 (d:Nat)(n a f t:Int)(x:ByteArray):prP d (.mk 21 x n a f t [])=[.t (tkW 3 (quoT x))]:=by simp[prP,prK,prS,prX]
theorem zkp (d:Nat)(n a f t:Int)(x:ByteArray):prP d (.mk 22 x n a f t [])=[.t (tkW 1 x)]:=by simp[prP,prK,prS,prX]
theorem zgt (d:Nat)(n a f t:Int)(x:ByteArray):prP d (.mk 23 x n a f t [])=[.t (tkW 1 x)]:=by simp[prP,prK,prS,prX]
theorem zo0 (d:Nat)(n a f t:Int)(x:ByteArray)(e:Pt):prP d (.mk 24 x n a f t [e])=opeI 24 x d e 0++[sg [46],.t (tkW 1 x)]:=by simp[prP,prK,prS,prX,prM,pOpe,opeI,kdD]
theorem zkq (d:Nat)(n a f t:Int)(x:ByteArray)(e:Pt)(l:List Pt):prP d (.mk 25 x n a f t (e::l))=opeI 25 x d e 0++pBrk (l.map (prP d)):=by simp[prP,prK,prS,prX,prM,pOpe,opeI,zca,kdD]
theorem zo1 (d:Nat)(n a f t:Int)(x:ByteArray)(e:Pt):prP d (.mk 26 x n a f t [e])=.t (tkW 4 x)::opeI 26 x d e 0:=by simp[prP,prK,prS,prX,prM,pOpe,opeI,kdD]
theorem zo2 (d:Nat)(n a f t:Int)(x:ByteArray)(u v:Pt):prP d (.mk 27 x n a f t [u,v])=opeI 27 x d u 0++sp::.t (tkW 4 x)::sp::opeI 27 x d v 1:=by simp[prP,prK,prS,prX,prM,pOpe,opeI,kdD]
theorem z5t {x:ByteArray}(h:0<=rowI x):rowQ x=rowI x+1:=by
 unfold rowI at h ⊢;unfold rowQ
 repeat' split
 all_goals first|rfl|skip
 all_goals (rename_i h1 h2 h3 h4 h5;rw[if_neg h1,if_neg h2,if_neg h3,if_neg h4,if_neg h5] at h;omega)
theorem zyx (d:Nat)(x:ByteArray)(a f t:Int):prP d (.mk 10 x 0 a f t [])=[.t (tkW 1 x)]:=by simp[prP,prK]
theorem zfc (d:Nat)(x:ByteArray)(a f t:Int):prP d (.mk 11 x 0 a f t [])=[.t (tkW 1 x)]:=by simp[prP,prK]
theorem zlx (d:Nat)(x y:ByteArray)(a f t a' f' t':Int):prP d (.mk 12 x 0 a f t [.mk 23 y 0 a' f' t' []])=[.t (tkW 1 y),sg [46],.t (tkW 1 x)]:=by
 rw[prP,zca];simp[prK,zgt,kdD,pOne]
theorem z1c {k a f t:Int}{x:ByteArray}{v:Pt}(hk:k=6∨k=8∨k=9)(d:Nat):prP d (.mk k x 0 a f t [v])=.t (tkW 1 x)::sp::prP d v:=by
 rcases hk with rfl|rfl|rfl <;> simp[prP,prK,zca,kdD,pOne]
theorem z30 (d:Nat)(a f t:Int)(l:List Pt):prP d (.mk 13 ⟨#[]⟩ 0 a f t l)=pBra d (l.map (prP (d+1))):=by simp[prP,prK,prS,zca,kdD]
theorem z1d (d:Nat)(a f t:Int)(c b:Pt):prP d (.mk 15 ⟨#[]⟩ 0 a f t [c,b])=wd [102,111,114]::sp::(prP d c++sp::prP d b):=by simp[prP,prK,prS,zca,kdD,pPar]
theorem z31 (d:Nat)(a f t:Int)(c b:Pt):prP d (.mk 14 ⟨#[]⟩ 0 a f t [c,b])=wd [105,102]::sp::(prP d c++sp::prP d b):=by simp[prP,prK,prS,zca,kdD,pPar,pBeh]
theorem zyy (d:Nat)(a f t:Int)(c b e:Pt):prP d (.mk 14 ⟨#[]⟩ 0 a f t [c,b,e])=wd [105,102]::sp::(prP d c++sp::(prP d b++sp::wd [101,108,115,101]::sp::prP d e)):=by simp[prP,prK,prS,zca,kdD,pPar,pBeh]
theorem z1e (d:Nat)(a f t:Int)(x:ByteArray)(v:Pt):prP d (.mk 4 x 0 a f t [v])=wd [118,97,114]::sp::.t (tkW 1 x)::sp::prP d v:=by simp[prP,prK,zca,pPar,kdD]
theorem z1f (d:Nat)(a f t:Int)(x:ByteArray)(v e:Pt):prP d (.mk 4 x 0 a f t [v,e])=wd [118,97,114]::sp::.t (tkW 1 x)::sp::(prP d v++sp::sg [61]::sp::prP d e):=by simp[prP,prK,zca,pPar,kdD]
theorem z1g (d:Nat)(a f t:Int):prP d (.mk 16 ⟨#[]⟩ 0 a f t [])=[wd [114,101,116,117,114,110]]:=by simp[prP,prK,prS,zca,pBeh]
theorem z1h (d:Nat)(a f t:Int)(e:Pt):prP d (.mk 16 ⟨#[]⟩ 0 a f t [e])=wd [114,101,116,117,114,110]::sp::prP d e:=by simp[prP,prK,prS,zca,pBeh,kdD]
theorem zxb (d:Nat)(a f t:Int)(x:ByteArray)(e:Pt):prP d (.mk 17 x 0 a f t [e])=.t (tkW 1 x)::sp::sg [58,61]::sp::prP d e:=by simp[prP,prK,prS,zca,pOne,kdD]
theorem zt2 (d:Nat)(a f t:Int)(e u:Pt):prP d (.mk 18 ⟨#[]⟩ 0 a f t [e,u])=prP d e++sp::sg [61]::sp::prP d u:=by simp[prP,prK,prS,zca,pPar,kdD]
theorem z1i (d:Nat)(a f t:Int)(e:Pt):prP d (.mk 19 ⟨#[]⟩ 0 a f t [e])=prP d e:=by simp[prP,prK,prS,zca,pOne,kdD]
theorem z32 (d:Nat)(a f t:Int)(x:ByteArray)(v:Pt):prP d (.mk 3 x 0 a f t [v])=wd [99,111,110,115,116]::sp::.t (tkW 1 x)::sp::sg [61]::sp::prP d v:=by simp[prP,prK,zca,pOne,kdD]
theorem z33 (d:Nat)(a f t:Int)(x:ByteArray)(l:List Pt):prP d (.mk 5 x 0 a f t l)=wd [116,121,112,101]::sp::.t (tkW 1 x)::sp::wd [115,116,114,117,99,116]::sp::pBra d (l.map (prP (d+1))):=by simp[prP,prK,zca,kdD]
def pRec (d:Nat) (rs:List Pt):List Pe:=match rs with | []=>[] | _=>pBrk (rs.map (prP d))++[sp]
theorem z34 {a f t:Int}{x:ByteArray}{rs ps ys:List Pt}{b:Pt}(d:Nat)(h1:ReL rs)(h2:∀ u ∈ ps,Pm 9 u)(h3:TyL ys)(h4:Bl b) :
  prP d (.mk 7 x 0 a f t (rs++ps++ys++[b]))=wd [102,117,110,99]::sp::(pRec d rs++.t (tkW 1 x)::(pBrk (ps.map (prP d))++pBeh [sp] ((ys++[b]).map (prP d)))):=by
 have hr:∀ h ∈ rs.map hdP,h.1=8:=by
  rcases h1 with rfl|⟨y,z,a,f,t,a',f',t',rfl,-⟩
  ·simp
  ·simp[hdP]
 have hy:∀ h ∈ (ys++[b]).map hdP,h.1≠8∧h.1≠9:=by
  intro h hh;obtain⟨u,hu,rfl⟩:=List.mem_map.1 hh;rcases List.mem_append.1 hu with hu|hu
  ·rcases h3 with rfl|⟨v,rfl,hv⟩
   ·simp at hu
   ·obtain rfl:u=v:=by simpa using hu
    exact zm0 hv
  ·obtain rfl:u=b:=by simpa using hu
   exact zm1 h4
 have hp:∀ h ∈ ps.map hdP,h.1=9:=by
  intro h hh;obtain⟨u,hu,rfl⟩:=List.mem_map.1 hh;exact zgr (h2 u hu)
 have c8:cutN 8 ((rs++ps++ys++[b]).map hdP)=rs.length:=by
  rw[show(rs++ps++ys++[b]).map hdP=rs.map hdP++(ps++(ys++[b])).map hdP by simp];rw[zia _ _ hr,List.length_map];intro h hh;rw[List.map_append] at hh;rcases List.mem_append.1 hh with hh|hh
  ·rw[hp h hh];decide
  ·exact(hy h hh).1
 have d8:((rs++ps++ys++[b]).map hdP).drop rs.length=ps.map hdP++(ys++[b]).map hdP:=by
  rw[show(rs++ps++ys++[b]).map hdP=rs.map hdP++(ps++(ys++[b])).map hdP by simp];rw[List.drop_left' (by simp),List.map_append]
 have c9:cutN 9 (((rs++ps++ys++[b]).map hdP).drop rs.length)=ps.length:=by
  rw[d8,zia _ _ hp fun h hh=>(hy h hh).2,List.length_map]
 have d9:((rs++ps++ys++[b]).map (prP d)).drop rs.length=ps.map (prP d)++(ys++[b]).map (prP d):=by
  rw[show(rs++ps++ys++[b]).map (prP d)=rs.map (prP d)++(ps++(ys++[b])).map (prP d) by simp];rw[List.drop_left' (by simp),List.map_append]
 have t8:((rs++ps++ys++[b]).map (prP d)).take rs.length=rs.map (prP d):=by
  rw[show(rs++ps++ys++[b]).map (prP d)=rs.map (prP d)++(ps++(ys++[b])).map (prP d) by simp];rw[List.take_left' (by simp)]
 have e:prP d (.mk 7 x 0 a f t (rs++ps++ys++[b]))=pFun x ((rs++ps++ys++[b]).map hdP) ((rs++ps++ys++[b]).map (prP d)):=by
  rw[prP,zca];simp[prK,kdD]
 rw[e];unfold pFun;rw[c8,c9,d9,t8,List.take_left' (by simp),List.drop_left' (by simp)];have hif:(if 0<rs.length then pBrk (rs.map (prP d))++[sp] else[])=pRec d rs:=by
  cases rs with
  | nil=>rfl
  | cons=>rfl
 rw[hif];simp
def rowD (x:ByteArray):Int :=
 if x.data.toList == [124,124] then 1 else if x.data.toList == [38,38] then 2 else if (x.data.toList == [43]) || (x.data.toList == [45]) then 4
 else if (x.data.toList == [42]) || (x.data.toList == [47]) || (x.data.toList == [37]) then 5 else 3
theorem zxc {x:ByteArray}(h:0<=rowI x):rowD x=rowI x+1:=by
 unfold rowI at h ⊢;unfold rowD;generalize x.data.toList=l at *
 by_cases h1:(l == [124,124])=true
 ·rw[if_pos h1,if_pos h1];rfl
 rw[if_neg h1] at h ⊢;rw[if_neg h1]
 by_cases h2:(l == [38,38])=true
 ·rw[if_pos h2,if_pos h2];rfl
 rw[if_neg h2] at h ⊢;rw[if_neg h2]
 by_cases h3:((l == [61,61]) || (l == [33,61]) || (l == [60]) || (l == [60,61]) || (l == [62]) || (l == [62,61]))=true
 ·rw[if_pos h3];have h4:¬ ((l == [43]) || (l == [45]))=true:=fun e=>by
   simp only[Bool.or_eq_true,beq_iff_eq] at h3 e;rcases h3 with((((h|h) | h) | h) | h) | h <;> subst h <;> simp at e
  have h5:¬ ((l == [42]) || (l == [47]) || (l == [37]))=true:=fun e=>by
   simp only[Bool.or_eq_true,beq_iff_eq] at h3 e;rcases h3 with((((h|h) | h) | h) | h) | h <;> subst h <;> simp at e
  rw[if_neg h4,if_neg h5];rfl
 rw[if_neg h3] at h ⊢
 by_cases h4:((l == [43]) || (l == [45]))=true
 ·rw[if_pos h4,if_pos h4];rfl
 rw[if_neg h4] at h ⊢;rw[if_neg h4]
 by_cases h5:((l == [42]) || (l == [47]) || (l == [37]))=true
 ·rw[if_pos h5,if_pos h5];rfl
 rw[if_neg h5] at h;omega
theorem zm7 {x:ByteArray}(h:0<=rowI x):rowD x=rowQ x:=by rw[zxc h,z5t h]
def nedD (k:Int) (x:ByteArray) (h:Int × ByteArray) (i:Nat):Bool :=
 if k=26 then decide (0<if h.1=27 then rowD h.2 else 0)
 else if k=24∨k=25 then(i == 0) && (decide (0<if h.1=27 then rowD h.2 else 0) || (h.1 == 26))
 else if k=27 then decide (0<if h.1=27 then rowD h.2 else 0) && (decide ((if h.1=27 then rowD h.2 else 0)<rowD x) || (((if h.1=27 then rowD h.2 else 0) == rowD x) && ((i == 1) || (rowD x == 3))))
 else false
theorem zhi (x:ByteArray):0<rowD x:=by
 unfold rowD
 repeat' split
 all_goals omega
theorem z1j {x:ByteArray}{h:Int × ByteArray}{i:Nat}:nedD 26 x h i=nedQ 26 x h i:=by
 unfold nedD nedQ;rw[if_pos rfl,if_pos rfl]
 by_cases h1:h.1=27
 ·rw[if_pos h1,h1];simpa using zhi h.2
 ·rw[if_neg h1];simpa using h1
theorem zo3 {k:Int}{x:ByteArray}{h:Int × ByteArray}(hk:k=24∨k=25):nedD k x h 0=nedQ k x h 0:=by
 unfold nedD nedQ;rw[if_neg (show ¬ k=26 by omega),if_pos hk,if_neg (show ¬ k=26 by omega),if_neg (show ¬ k=27 by omega)]
 by_cases h1:h.1=27
 ·rw[if_pos h1,h1];simpa using zhi h.2
 ·rw[if_neg h1];have:(h.1 == 27)=false:=by simpa using h1
  rw[this];simp
theorem zt3 {x:ByteArray}{h:Int × ByteArray}{i:Nat}(hx:0<=rowI x)(hh:h.1=27->0<=rowI h.2)(hi:i<2):nedD 27 x h i=nedQ 27 x h i:=by
 unfold nedD nedQ;rw[if_neg (show ¬ (27:Int)=26 by decide),if_neg (show ¬ ((27:Int)=24∨(27:Int)=25) by decide),if_pos rfl,if_neg (show ¬ (27:Int)=26 by decide),if_pos rfl]
 by_cases h1:h.1=27
 ·rw[if_pos h1,zm7 hx,zm7 (hh h1),h1];have h2:=zhi h.2;rw[zm7 (hh h1)] at h2;generalize rowQ x=a at *;generalize rowQ h.2=b at *;rw[show decide (0<b)=true by simpa using h2]
  cases hab:(b == a) with
  | false=>simp
  | true=>
   have:b=a:=by simpa using hab
   subst this;have hi':(i == 1)=decide (0<i):=by rw[Bool.eq_iff_iff];simp;omega
   rw[hi'];simp
 ·rw[if_neg h1];have:(h.1 == 27)=false:=by simpa using h1
  rw[this];simp
theorem ex_d {e:Pt}(h:Ex e):∀ d,prP d e=prP 0 e:=by
 induction h with
 | int _ _=>intro d;rw[prP,prP,prM];simp[prK,prS,prX]
 | text _ _=>intro d;rw[prP,prP,prM];simp[prK,prS,prX]
 | bool _=>intro d;rw[zkp,zkp]
 | name _ _=>intro d;rw[zgt,zgt]
 | dot _ _ _ ih=>intro d;rw[zo0,zo0];unfold opeI;rw[ih d]
 | call _ _ ih il=>
  intro d;rw[zkq,zkq];unfold opeI;rw[ih d,List.map_congr_left fun u hu=>il u hu d]
 | una _ _ ih=>intro d;rw[zo1,zo1];unfold opeI;rw[ih d]
 | bin _ _ _ ih ih2=>intro d;rw[zo2,zo2];unfold opeI;rw[ih d,ih2 d]
def stD (d:Nat) (a:List UInt8 × List UInt8 × List UInt8) (u:Pt):List UInt8 × List UInt8 × List UInt8 :=
 if (hdP u).1=8 then(a.1++[40]++rn (prP d u)++[41,32],a.2.1,a.2.2)
 else if (hdP u).1=9 then(a.1,(if a.2.1=[] then[] else a.2.1++[44,32])++rn (prP d u),a.2.2)
 else(a.1,a.2.1,a.2.2++[32]++rn (prP d u))
theorem zyz {d:Nat}:∀ (ps:List Pt) (s P r:List UInt8),(∀ u ∈ ps,(hdP u).1=9)->P≠[]->ps.foldl (stD d) (s,P,r)=(s,P++rn ((ps.map (prP d)).map ([sg [44],sp]++·)).flatten,r)
 | [],s,P,r,_,_=>by simp[rn]
 | u::ps,s,P,r,h,hP=>by
  have hu:=h u (by simp);rw[List.foldl_cons];have e:stD d (s,P,r) u=(s,P++[44,32]++rn (prP d u),r):=by
   unfold stD;rw[if_neg (by omega),if_pos hu,if_neg hP]
  rw[e,zyz ps _ _ _ (fun v hv=>h v (by simp[hv])) (by simp[hP])];simp only[List.map_cons,List.flatten_cons,zac]
  congr 2
  simp[rn,sg,sp,Pe.bs,sgT,tkW,strU]
theorem z1k {d:Nat}(ps:List Pt)(s r:List UInt8)(h:∀ u ∈ ps,(hdP u).1=9)(hn:∀ u ∈ ps,rn (prP d u)≠[]):ps.foldl (stD d) (s,[],r)=(s,rn (pPar [sg [44],sp] (ps.map (prP d))),r):=by
 cases ps with
 | nil=>rfl
 | cons u ps=>
  have hu:=h u (by simp);rw[List.foldl_cons];have e:stD d (s,[],r) u=(s,rn (prP d u),r):=by
   unfold stD;rw[if_neg (by omega),if_pos hu,if_pos rfl];simp
  rw[e,zyz ps _ _ _ (fun v hv=>h v (by simp[hv])) (hn u (by simp))];simp[pPar,zac]
theorem zt4 {d:Nat}:∀ (ys:List Pt) (s P r:List UInt8),(∀ u ∈ ys,(hdP u).1≠8∧(hdP u).1≠9)->ys.foldl (stD d) (s,P,r)=(s,P,r++rn (pBeh [sp] (ys.map (prP d))))
 | [],s,P,r,_=>by simp[pBeh,rn]
 | u::ys,s,P,r,h=>by
  have hu:=h u (by simp);rw[List.foldl_cons];have e:stD d (s,P,r) u=(s,P,r++[32]++rn (prP d u)):=by
   unfold stD;rw[if_neg hu.1,if_neg hu.2]
  rw[e,zt4 ys _ _ _ fun v hv=>h v (by simp[hv])];simp only[pBeh,List.map_cons,List.flatten_cons,zac]
  congr 2
  simp[rn,sp,Pe.bs]
theorem z35 {d:Nat}{rs:List Pt}(h:ReL rs)(s:List UInt8):rs.foldl (stD d) (s,[],[])=(s++rn (pRec d rs),[],[]):=by
 rcases h with rfl|⟨y,z,a,f,t,a',f',t',rfl,-,-⟩
 ·simp[pRec,rn]
 ·rw[List.foldl_cons,List.foldl_nil];unfold stD;rw[if_pos (show(hdP _).1=8 from rfl)];simp[pRec,pBrk,pPar,zac,zaf,zcv,sg,sp,Pe.bs,sgT,tkW,strU]
theorem z1l {d:Nat}{a f t:Int}{x:ByteArray}{rs ps ys:List Pt}{b:Pt}(h1:ReL rs)(h2:∀ u ∈ ps,Pm 9 u)(h3:TyL ys)(h4:Bl b) :
  (((rs++ps++ys++[b]).foldl (stD d) ([102,117,110,99,32],[],[])).1++x.data.toList++[40]++((rs++ps++ys++[b]).foldl (stD d) ([102,117,110,99,32],[],[])).2.1++[41]++((rs++ps++ys++[b]).foldl (stD d) ([102,117,110,99,32],[],[])).2.2)=rn (prP d (.mk 7 x 0 a f t (rs++ps++ys++[b]))):=by
 have hn:∀ u ∈ ps,rn (prP d u)≠[]:=fun u hu=>by
  obtain⟨y,v,a,f,t,rfl,-⟩:=h2 u hu;rw[z1c (.inr (.inr rfl))];simp[zaf,sp,Pe.bs]
 have hy:∀ u ∈ ys++[b],(hdP u).1≠8∧(hdP u).1≠9:=fun u hu=>by
  rcases List.mem_append.1 hu with hu|hu
  ·rcases h3 with rfl|⟨v,rfl,hv⟩
   ·simp at hu
   ·obtain rfl:u=v:=by simpa using hu
    exact zm0 hv
  ·obtain rfl:u=b:=by simpa using hu
   exact zm1 h4
 have e:(rs++ps++ys++[b]).foldl (stD d) ([102,117,110,99,32],[],[])=([102,117,110,99,32]++rn (pRec d rs),rn (pPar [sg [44],sp] (ps.map (prP d))),rn (pBeh [sp] ((ys++[b]).map (prP d)))):=by
  rw[show rs++ps++ys++[b]=rs++(ps++(ys++[b])) by simp,List.foldl_append,z35 h1,List.foldl_append,z1k ps _ _ (fun u hu=>zgr (h2 u hu)) hn,zt4 _ _ _ _ hy,List.nil_append]
 rw[e,z34 d h1 h2 h3 h4];simp[pBrk,zac,zaf,wd,sg,sp,Pe.bs,wdT,sgT,tkW,strU]
def fiD:Bool->List Pt->List UInt8
 | _,[]=>[]
 | was,u::r=>(if (hdP u).1≠2∨was=false then[10] else[])++(rn (prP 0 u)++[10])++fiD ((hdP u).1 == 2) r
theorem zt5:∀ (ds:List Pt)(was:Bool),(∀ u ∈ ds,(hdP u).1≠2)->fiD was ds=rn (pFiK 0 false (ds.map hdP) (ds.map (prP 0)))
 | [],_,_=>rfl
 | u::r,was,h=>by
  have hu:=h u (by simp);rw[fiD,if_pos (.inl hu),zt5 r _ fun v hv=>h v (by simp[hv]),List.map_cons,List.map_cons,pFiK,if_pos (by simpa using hu)];simp[zac,zaf,tb,fe,Pe.bs]
theorem zy0:∀ (is ds:List Pt),(∀ u ∈ is,(hdP u).1=2)->(∀ u ∈ ds,(hdP u).1≠2)->fiD true (is++ds)=rn (pFiK 0 false ((is++ds).map hdP) ((is++ds).map (prP 0)))
 | [],ds,_,h=>zt5 ds _ h
 | u::r,ds,h,h'=>by
  have hu:=h u (by simp);rw[List.cons_append,fiD,if_neg (by simp[hu]),show((hdP u).1 == 2)=true by simpa using hu,zy0 r ds (fun v hv=>h v (by simp[hv])) h',List.map_cons,List.map_cons,pFiK,if_neg (by simp[hu])];simp[zac,zaf,tb,Pe.bs]
theorem z36 (is ds:List Pt)(h:∀ u ∈ is,(hdP u).1=2)(h':∀ u ∈ ds,(hdP u).1≠2):fiD false (is++ds)=rn (pFiK 0 true ((is++ds).map hdP) ((is++ds).map (prP 0))):=by
 cases is with
 | nil=>
  cases ds with
  | nil=>rfl
  | cons u r=>
   have hu:=h' u (by simp);rw[List.nil_append,fiD,if_pos (.inr rfl),zt5 r _ fun v hv=>h' v (by simp[hv]),List.map_cons,List.map_cons,pFiK,if_pos (by simp)];simp[zac,zaf,tb,fe,Pe.bs]
 | cons u r=>
  have hu:=h u (by simp);rw[List.cons_append,fiD,if_pos (.inr rfl),show((hdP u).1 == 2)=true by simpa using hu,zy0 r ds (fun v hv=>h v (by simp[hv])) h',List.map_cons,List.map_cons,pFiK,if_pos (by simp)];simp[zac,zaf,tb,fe,Pe.bs]
inductive Sub:Pt->Pt->Prop
 | self (t:Pt):Sub t t
 | kid {k n a f e:Int}{x:ByteArray}{l:List Pt}{u v:Pt}:v ∈ l->Sub u v->Sub u (.mk k x n a f e l)
mutual
theorem zy1:∀ (t:Pt)(b j:Nat),j<cntP t->∃ u,Sub u t∧∀ m d,(layP (b+j) u)[m]?=some d->(layP b t)[j+m]?=some d
 | .mk k x n a f e l,b,j,h=>by
  cases j with
  | zero=>exact⟨_,.self _,fun m d hd=>by rw[Nat.zero_add];exact hd⟩
  | succ j=>
   rw[cntP] at h;obtain⟨v,hv,u,hu,hl⟩:=zt6 l (b+1) j (by omega);refine⟨u,.kid hv hu,fun m d hd=>?_⟩;rw[layP,show j+1+m=(j+m)+1 by omega,List.getElem?_cons_succ];exact hl m d (by rw[show b+1+j=b+(j+1) by omega];exact hd)
theorem zt6:∀ (l:List Pt)(b j:Nat),j<cntL l->∃ v,v ∈ l∧∃ u,Sub u v∧∀ m d,(layP (b+j) u)[m]?=some d->(layL b l)[j+m]?=some d
 | [],b,j,h=>by rw[cntL] at h;omega
 | t::r,b,j,h=>by
  rw[cntL] at h
  by_cases hj:j<cntP t
  ·obtain⟨u,hu,hl⟩:=zy1 t b j hj;refine⟨t,by simp,u,hu,fun m d hd=>?_⟩;have h1:=hl m d hd;rw[layL,List.getElem?_append_left (List.getElem?_eq_some_iff.1 h1).1];exact h1
  ·obtain⟨v,hv,u,hu,hl⟩:=zt6 r (b+cntP t) (j - cntP t) (by omega);refine⟨v,by simp[hv],u,hu,fun m d hd=>?_⟩;rw[layL,List.getElem?_append_right (by rw[zbt];omega),zbt,show j+m - cntP t=j - cntP t+m by omega];exact hl m d (by rw[show b+cntP t+(j - cntP t)=b+j by omega];exact hd)
end
theorem z1m {t:Pt}{j:Nat}(h:j<cntP t):∃ u,Sub u t∧Emb (layP 0 t) j u:=by
 obtain⟨u,hu,hl⟩:=zy1 t 0 j h;exact⟨u,hu,fun m d hd=>hl m d (by rw[Nat.zero_add];exact hd)⟩
theorem zy2 {u t:Pt}(h:Sub u t):arP t->arP u:=by
 induction h with
 | self=>exact id
 | kid hv _ ih=>
  intro ha;rw[arP] at ha;exact ih (zr9.1 ha.2.2 _ hv)
theorem zt7 {v:Pt}:∀ {l:List Pt},v ∈ l->cntP v<=cntL l
 | t::r,h=>by
  rw[cntL];rcases List.mem_cons.1 h with rfl|h
  ·omega
  ·have:=zt7 h;omega
theorem zt8 {u t:Pt}(h:Sub u t):cntP u<=cntP t:=by
 induction h with
 | self=>exact Nat.le_refl _
 | kid hv _ ih=>
  rw[cntP];have:=zt7 hv;omega
inductive Gr:Pt->Prop
 | file {t:Pt}:FiT t->Gr t
 | imp {t:Pt}:Im t->Gr t
 | decl {t:Pt}:Dc t->Gr t
 | pm {k:Int}{t:Pt}:k=6∨k=9->Pm k t->Gr t
 | recv {y z:ByteArray}{a f t a' f' t':Int}:kepB y=false->kepB z=false->Gr (.mk 8 y 0 a f t [.mk 11 z 0 a' f' t' []])
 | named {z:ByteArray}{a f t:Int}:kepB z=false->Gr (.mk 11 z 0 a f t [])
 | ty {t:Pt}:Ty t->Gr t
 | st {t:Pt}:St t->Gr t
 | ex {t:Pt}:Ex t->Gr t
structure Gk (v:Pt):Prop where
 g:Gr v
 n:(hdP v).1≠1
theorem Gk.imp {t:Pt}(h:Im t):Gk t:=⟨.imp h,by obtain⟨y,a,f,t,rfl,-⟩:=h;simp[hdP]⟩
theorem Gk.decl {t:Pt}(h:Dc t):Gk t:=⟨.decl h,by cases h <;> simp[hdP]⟩
theorem Gk.pm {k:Int}{t:Pt}(hk:k=6∨k=9)(h:Pm k t):Gk t:=⟨.pm hk h,by rw[zgr h];omega⟩
theorem Gk.recv {y z:ByteArray}{a f t a' f' t':Int}(h:kepB y=false)(h':kepB z=false):Gk (.mk 8 y 0 a f t [.mk 11 z 0 a' f' t' []]):=⟨.recv h h',by simp[hdP]⟩
theorem Gk.named {z:ByteArray}{a f t:Int}(h:kepB z=false):Gk (.mk 11 z 0 a f t []):=⟨.named h,by simp[hdP]⟩
theorem Gk.ty {t:Pt}(h:Ty t):Gk t:=⟨.ty h,by cases h <;> simp[hdP]⟩
theorem Gk.st {t:Pt}(h:St t):Gk t:=⟨.st h,by cases h <;> simp[hdP]⟩
theorem Gk.ex {t:Pt}(h:Ex t):Gk t:=⟨.ex h,by cases h <;> simp[hdP]⟩
theorem z5u {e:Pt}(h:Va e):Ex e:=by
 cases h with
 | int h1 h2=>exact .int h1 h2
 | text h1 h2=>exact .text h1 h2
 | bool h1=>exact .bool h1
theorem z38 {e:Pt}(h:Vc e):Ex e:=by
 cases h with
 | va h=>exact z5u h
 | neg h1 h2=>exact .una (.inl rfl) (.int h1 h2)
theorem z39 {b:Pt}(h:Bl b):St b:=by
 obtain⟨a,f,t,l,rfl,hl⟩:=h;exact .block hl
theorem z1n {k n a f e:Int}{x:ByteArray}{l:List Pt}{v:Pt}(h:Ex (.mk k x n a f e l))(hv:v ∈ l):Ex v:=by
 cases h with
 | dot _ _ h=>
  obtain rfl:v=_:=by simpa using hv
  exact h
 | call h hl=>
  rcases List.mem_cons.1 hv with rfl|hv
  ·exact h
  ·exact hl v hv
 | una _ h=>
  obtain rfl:v=_:=by simpa using hv
  exact h
 | bin _ h1 h2=>
  rcases List.mem_cons.1 hv with rfl|hv
  ·exact h1
  ·obtain rfl:v=_:=by simpa using hv
   exact h2
 | _=>simp at hv
theorem zco {v e:Pt}(h:v ∈ [e]):v=e:=by simpa using h
theorem z1o {k n a f e:Int}{x:ByteArray}{l:List Pt}{v:Pt}(h:Ty (.mk k x n a f e l))(hv:v ∈ l):Gk v:=by
 cases h with
 | far _ h2 h3=>rw[zco hv];exact .ex (.name h2 h3)
 | _=>simp at hv
theorem z1p {k n a f e:Int}{x:ByteArray}{l:List Pt}{v:Pt}(h:St (.mk k x n a f e l))(hv:v ∈ l):Gk v:=by
 cases h with
 | block h=>exact .st (h v hv)
 | loop h1 h2=>
  rcases List.mem_cons.1 hv with rfl|hv
  ·exact .ex h1
  ·rw[zco hv];exact .st (.block h2)
 | if1 h1 h2=>
  rcases List.mem_cons.1 hv with rfl|hv
  ·exact .ex h1
  ·rw[zco hv];exact .st (.block h2)
 | if2 h1 h2 h3=>
  rcases List.mem_cons.1 hv with rfl|hv
  ·exact .ex h1
  rcases List.mem_cons.1 hv with rfl|hv
  ·exact .st (.block h2)
  ·rw[zco hv];exact .st (.block h3)
 | if3 h1 h2 h3 _=>
  rcases List.mem_cons.1 hv with rfl|hv
  ·exact .ex h1
  rcases List.mem_cons.1 hv with rfl|hv
  ·exact .st (.block h2)
  ·rw[zco hv];exact .st h3
 | var1 _ h=>rw[zco hv];exact .ty h
 | var2 _ h1 h2=>
  rcases List.mem_cons.1 hv with rfl|hv
  ·exact .ty h1
  ·rw[zco hv];exact .ex h2
 | res0=>simp at hv
 | res1 h=>rw[zco hv];exact .ex h
 | short _ _ h=>rw[zco hv];exact .ex h
 | assign h1 h2=>
  rcases List.mem_cons.1 hv with rfl|hv
  ·exact .ex h1
  ·rw[zco hv];exact .ex h2
 | expr h=>rw[zco hv];exact .ex h
theorem z1q {k n a f e:Int}{x:ByteArray}{l:List Pt}{v:Pt}(h:Dc (.mk k x n a f e l))(hv:v ∈ l):Gk v:=by
 cases h with
 | con _ h=>rw[zco hv];exact .ex (z38 h)
 | var1 _ h=>rw[zco hv];exact .ty h
 | var2 _ h1 h2=>
  rcases List.mem_cons.1 hv with rfl|hv
  ·exact .ty h1
  ·rw[zco hv];exact .ex h2
 | str _ h=>exact .pm (.inl rfl) (h v hv)
 | fn _ _ h1 h2 h3 h4=>
  rcases List.mem_append.1 hv with hv|hv
  ·rcases List.mem_append.1 hv with hv|hv
   ·rcases List.mem_append.1 hv with hv|hv
    ·rcases h1 with rfl|⟨y,z,a,f,t,a',f',t',rfl,g1,g2⟩
     ·simp at hv
     ·rw[zco hv];exact .recv g1 g2
    ·exact .pm (.inr rfl) (h2 v hv)
   ·rcases h3 with rfl|⟨w,rfl,hw⟩
    ·simp at hv
    ·rw[zco hv];exact .ty hw
  ·rw[zco hv];exact .st (z39 h4)
theorem zm8 {k n a f e:Int}{x:ByteArray}{l:List Pt}{v:Pt}(h:Gr (.mk k x n a f e l))(hv:v ∈ l):Gk v:=by
 generalize ht:Pt.mk k x n a f e l=t at h
 cases h with
 | file h=>
  obtain⟨y,a',f',e',is,ds,e1,-,h1,h2⟩:=h;rw[<-ht] at e1;injection e1 with _ _ _ _ _ _ e1;subst e1;rcases List.mem_append.1 hv with hv|hv
  ·exact .imp (h1 v hv)
  ·exact .decl (h2 v hv)
 | imp h=>
  obtain⟨y,a',f',e',e1,-⟩:=h;rw[<-ht] at e1;injection e1 with _ _ _ _ _ _ e1;subst e1;simp at hv
 | decl h=>subst ht;exact z1q h hv
 | pm hk h=>
  obtain⟨y,w,a',f',e',e1,-,-,hw⟩:=h;rw[<-ht] at e1;injection e1 with _ _ _ _ _ _ e1;subst e1;rw[zco hv];exact .ty hw
 | recv h1 h2=>
  injection ht with _ _ _ _ _ _ e1;subst e1;rw[zco hv];exact .named h2
 | named h=>
  injection ht with _ _ _ _ _ _ e1;subst e1;simp at hv
 | ty h=>subst ht;exact z1o h hv
 | st h=>subst ht;exact z1p h hv
 | ex h=>subst ht;exact .ex (z1n h hv)
theorem zy3 {u t:Pt}(h:Sub u t):Gr t->Gr u:=by
 induction h with
 | self=>exact id
 | kid hv _ ih=>exact fun hg=>ih (zm8 hg hv).g
theorem z5v {u:Pt}(h:Gr u)(hk:20<=(hdP u).1):Ex u:=by
 cases h with
 | file h=>obtain⟨y,a',f',e',is,ds,rfl,-⟩:=h;simp[hdP] at hk
 | imp h=>obtain⟨y,a',f',e',rfl,-⟩:=h;simp[hdP] at hk
 | decl h=>cases h <;> simp[hdP] at hk
 | pm h0 h=>rw[zgr h] at hk;omega
 | recv _ _=>simp[hdP] at hk
 | named _=>simp[hdP] at hk
 | ty h=>cases h <;> simp[hdP] at hk
 | st h=>cases h <;> simp[hdP] at hk
 | ex h=>exact h
theorem z5w {u:Pt}(h:Gr u)(hk:(hdP u).1=10∨(hdP u).1=11∨(hdP u).1=12):Ty u∨∃ (z:ByteArray)(a f t:Int),u=.mk 11 z 0 a f t []∧kepB z=false:=by
 cases h with
 | file h=>obtain⟨y,a',f',e',is,ds,rfl,-⟩:=h;simp[hdP] at hk
 | imp h=>obtain⟨y,a',f',e',rfl,-⟩:=h;simp[hdP] at hk
 | decl h=>cases h <;> simp[hdP] at hk
 | pm h0 h=>rw[zgr h] at hk;omega
 | recv _ _=>simp[hdP] at hk
 | named h=>exact .inr ⟨_,_,_,_,rfl,h⟩
 | ty h=>exact .inl h
 | st h=>cases h <;> simp[hdP] at hk
 | ex h=>cases h <;> simp[hdP] at hk
theorem zt9 {x:ByteArray}(h:plF x):x.data.toList≠[]:=fun e=>by
 obtain⟨c,r,h1,-⟩:=h;rw[h1] at e
 cases e
theorem zg6 (x:Tok)(l:List Pe)(h:x.text.data.toList≠[]):rn (.t x::l)≠[]:=by
 rw[zaf];show x.text.data.toList++rn l≠[];simp[h]
theorem z5x {e:Pt}(h:Ex e)(d:Nat):rn (prP d e)≠[]:=by
 cases h with
 | int _ h=>rw[zyw];exact zg6 _ _ (zt9 h)
 | text _ h=>rw[zt1];exact zg6 _ _ (zt9 h)
 | bool h=>rw[zkp];exact zg6 _ _ (by rcases h with rfl | rfl <;> simp[tkW,strU])
 | name _ h=>rw[zgt];exact zg6 _ _ (zt9 h)
 | dot _ _ _=>rw[zo0];simp[zac,zaf,sg,Pe.bs,sgT,tkW,strU]
 | call _ _=>rw[zkq];simp[pBrk,zac,zaf,sg,Pe.bs,sgT,tkW,strU]
 | una h _=>rw[zo1];exact zg6 _ _ (by rcases h with rfl | rfl <;> simp[tkW,strU])
 | bin _ _ _=>rw[zo2];simp[zac,zaf,sp,Pe.bs]
theorem z5y {e:Pt}(h:Ty e)(d:Nat):rn (prP d e)≠[]:=by
 cases h with
 | basic h=>rw[zyx];exact zg6 _ _ (by rcases h with rfl | rfl | rfl <;> simp[tkW,strU])
 | named _ h=>rw[zfc];exact zg6 _ _ (zt9 h)
 | far _ _ _=>rw[zlx];simp[zaf,sg,Pe.bs,sgT,tkW,strU]
structure Std (ts:List Tok) (N:Int):Prop where
 zero:0<=N
 one:∀ p,p<ts.length->0<=(nxT ts p).pos∧(nxT ts p).pos+(nxT ts p).text.size<=N
 two:∀ p,p+1<ts.length->(nxT ts p).pos+(nxT ts p).text.size<=(nxT ts (p+1)).pos
section
variable {ts:List Tok}{N:Int}
theorem Std.hp {p:Nat}(h:p<ts.length):herI ts p=(nxT ts p).pos:=by unfold herI;rw[if_pos h]
theorem Std.bh (hs:Std ts N){p:Nat}(_h:p<=ts.length):behI ts p<=herI ts p:=by
 unfold herI
 split
 ·rename_i hp
  unfold behI
  split
  ·exact(hs.one p hp).1
  ·have:=hs.two (p - 1) (by omega);rw[show p - 1+1=p by omega] at this;exact this
 ·exact Int.le_refl _
theorem Std.hb {p:Nat}(h:p<ts.length):herI ts p<=behI ts (p+1):=by
 rw[Std.hp h];unfold behI;rw[if_neg (by omega),show p+1 - 1=p by omega];omega
theorem Std.bb (hs:Std ts N){p q:Nat}(h:p<=q)(hq:q<=ts.length):behI ts p<=behI ts q:=by
 induction q with
 | zero=>
  obtain rfl:p=0:=by omega
  exact Int.le_refl _
 | succ q ih=>
  rcases Nat.lt_or_ge p (q+1) with h1|h1
  ·have h2:=ih (by omega) (by omega);have h3:=hs.bh (p:=q) (by omega);have h4:=Std.hb (ts:=ts) (p:=q) (by omega);omega
  ·obtain rfl:p=q+1:=by omega
   exact Int.le_refl _
theorem Std.z (hs:Std ts N){p:Nat}(h:p<=ts.length):0<=behI ts p∧behI ts p<=N:=by
 refine⟨hs.bb (p:=0) (Nat.zero_le _) h,?_⟩;unfold behI
 split
 ·exact hs.zero
 ·exact(hs.one (p - 1) (by omega)).2
theorem Std.hz (hs:Std ts N){p:Nat}(h:p<=ts.length):0<=herI ts p:=by
 have:=hs.z h;have:=hs.bh h;omega
end
theorem z1r (t:Tok)(r:List Tok)(p:Nat):nxT (t::r) (p+1)=nxT r p:=rfl
theorem zua {L:List UInt8}:∀ (ms:List Tok)(e:Nat),StL L e ms ->
  (∀ p,p<ms.length->∃ a:Nat,(nxT ms p).pos=a∧e<=a∧a+(nxT ms p).text.size<=L.length∧(L.drop a).take (nxT ms p).text.size=(nxT ms p).text.data.toList) ∧
  ∀ p,p+1<ms.length->(nxT ms p).pos+(nxT ms p).text.size<=(nxT ms (p+1)).pos
 | [],e,_=>⟨fun p hp=>by simp at hp,fun p hp=>by simp at hp⟩
 | t::r,e,h=>by
  obtain⟨a,h1,h2,h3,h4,-,h5⟩:=h;have hsz:t.text.data.toList.length=t.text.size:=by rw[Array.length_toList];rfl
  rw[hsz] at h3 h4 h5;obtain⟨i1,i2⟩:=zua r _ h5
  constructor
  ·intro p hp
   cases p with
   | zero=>exact⟨a,h1,h2,h3,h4⟩
   | succ p=>
    obtain⟨b,k1,k2,k3,k4⟩:=i1 p (by simpa using hp);exact⟨b,k1,by omega,k3,k4⟩
  ·intro p hp
   cases p with
   | zero=>
    obtain⟨b,k1,k2,k3,k4⟩:=i1 0 (by simpa using hp);rw[z1r,k1];show t.pos+t.text.size<=(b:Int);rw[h1];omega
   | succ p=>exact i2 p (by simpa using hp)
theorem z4a {L:List UInt8}{ms:List Tok}(h:StL L 0 ms):Std ms L.length:=by
 obtain⟨h1,h2⟩:=zua ms 0 h;refine⟨by omega,fun p hp=>?_,h2⟩;obtain⟨a,e,-,h3,-⟩:=h1 p hp;omega
end Go.Proofs.YtabiangdmibocaaGreatDoor
