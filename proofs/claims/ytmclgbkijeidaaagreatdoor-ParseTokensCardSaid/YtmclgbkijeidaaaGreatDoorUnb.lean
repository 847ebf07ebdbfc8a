import Derived.Test.YtmclgbkijeidaaaGreatDoorUnZ
import Derived.Test.YtmclgbkijeidaaaGreatDoorUnP
import Derived.Test.YtmclgbkijeidaaaGreatDoorUnE
import Derived.Test.YtmclgbkijeidaaaGreatDoorUnQ
import Derived.Test.YtmclgbkijeidaaaGreatDoorUna
import Derived.Test.YtmclgbkijeidaaaGreatDoorUnPcI
namespace Go.Proofs.YtmclgbkijeidaaaGreatDoor
open Go.RowKit
def alnR (k:Int) (L:List UInt8):Bool:=match L with
 | []=>false
 | c::r=>if clsI c.toNat=1 then false else if clsI c.toNat=2 then false else((nextR (c::r)).2.2 == 0) && (((nextT (c::r)).kind == k) && ((nextT (c::r)).text.data.toList == c::r))
def alnS (t:Tok):Bool:=if t.kind == 5 then(t.text.data.toList == []) || (t.text.data.toList == [59]) else alnR t.kind t.text.data.toList
theorem zga (L:List UInt8):(strU L).data.toList=L:=rfl
theorem pre47 {c:UInt8}{r:List UInt8}(h:Lib.hasPrefix (c::r) [47,47]=true):∃ r',c=47∧r=47::r':=by
 match r with
 | []=>simp[Lib.hasPrefix,List.isPrefixOf] at h
 | d::r'=>
  simp[Lib.hasPrefix,List.isPrefixOf] at h;exact⟨r',h.1.symm,by rw[h.2]⟩
theorem zs2 {t:Tok}(hs:t.text.size<=4096):alnS t=(bareB t || alnB t):=by
 obtain⟨k,x,p⟩:=t;obtain⟨L,rfl⟩:∃ L,x=strU L:=⟨_,(zmp x).symm⟩;have hl4:L.length<=4096:=by
  have:(strU L).size=L.length:=by simp[strU,ByteArray.size]
  have h:(strU L).size<=4096:=hs;omega
 have hlk:alnB ⟨k,strU L,p⟩=true->lookR L false=(k,L.length,0)∧k≠0∧L≠[]:=fun h=>by
  have h':=zix h
  dsimp only at h'
  rw[zga] at h';exact h'
 clear hs
 cases L with
 | nil=>
  have ha:alnB ⟨k,strU [],p⟩=false:=by
   cases h:alnB ⟨k,strU [],p⟩
   ·rfl
   ·exact absurd rfl (hlk h).2.2
  rw[ha,Bool.or_false];unfold alnS bareB;simp only[zga,ByteArray.toList_eq]
  cases hk:k == 5 <;> rfl
 | cons c r=>
  have hb:bareB ⟨k,strU (c::r),p⟩=false:=by
   unfold bareB;simp only[zga,ByteArray.toList_eq]
   cases k == 5 <;> rfl
  rw[hb,Bool.false_or];have hf:alnS ⟨k,strU (c::r),p⟩=if k == 5 then(c::r == []) || (c::r == [59]) else if clsI c.toNat=1 then false else if clsI c.toNat=2 then false else((nextR (c::r)).2.2 == 0) && (((nextT (c::r)).kind == k) && ((nextT (c::r)).text.data.toList == c::r)):=by
   unfold alnS;rfl
  rw[hf];have no:∀ {b:Bool},(alnB ⟨k,strU (c::r),p⟩=true->False)->b=false->b=alnB ⟨k,strU (c::r),p⟩:=fun h e=>by
   cases hh:alnB ⟨k,strU (c::r),p⟩
   ·exact e
   ·exact(h hh).elim
  by_cases k5:k=5
  ·subst k5;rw[if_pos (show((5:Int) == 5)=true from rfl)]
   by_cases he:c::r=[59]
   ·injection he with h1 h2;subst h1 h2;rw[show alnB ⟨5,strU [59],p⟩=true from zfg (by rfl) (by decide) (by decide) (by decide) p];rfl
   ·refine no (fun h=>?_) (Bool.or_eq_false_iff.2 ⟨rfl,beq_eq_false_iff_ne.2 he⟩);obtain⟨h1,-,-⟩:=hlk h
    by_cases c6:clsI c.toNat=6
    ·have e:lookR (c::r) false=(5,1,0):=by simp only[lookR,c6];rfl
     rw[e] at h1;have hr:r=[]:=by
      injection h1 with _ h1;injection h1 with h1 _;rw[List.length_cons] at h1;exact List.length_eq_zero_iff.1 (by omega)
     have hc:=cls6 c6;exact he (by rw[hr,show c=59 from UInt8.toNat_inj.1 hc])
    ·simp only[lookR,c6] at h1
     repeat' split at h1
     all_goals first
      | (simp only[Prod.mk.injEq] at h1;omega)
      | (simp at h1)
  ·rw[if_neg (by simpa using k5)]
   by_cases c1:clsI c.toNat=1
   ·rw[if_pos c1];refine no (fun h=>?_) rfl;obtain⟨h1,h2,-⟩:=hlk h;have e:lookR (c::r) false=(0,1,0):=by simp only[lookR,c1];rfl
    rw[e] at h1;injection h1 with h1 _;exact h2 h1.symm
   ·rw[if_neg c1]
    by_cases c2:clsI c.toNat=2
    ·rw[if_pos c2];refine no (fun h=>?_) rfl;obtain⟨h1,h2,-⟩:=hlk h;have e:lookR (c::r) false=(0,1,0):=by simp only[lookR,c2];rfl
     rw[e] at h1;injection h1 with h1 _;exact h2 h1.symm
    ·rw[if_neg c2]
     by_cases hp:Lib.hasPrefix (c::r) [47,47]=true
     ·obtain⟨r',rfl,rfl⟩:=pre47 hp;refine no (fun h=>?_) ?_
      ·obtain⟨h1,h2,-⟩:=hlk h;have e:lookR (47::47::r') false=(0,comN (47::47::r'),0):=by simp only[lookR,hp];rfl
       rw[e] at h1;injection h1 with h1 _;exact h2 h1.symm
      ·have e:nextR (47::47::r')=(4,1,0):=by rfl
       unfold nextT;rw[e];simp[zga]
     ·have e:=zj2 (en:=false) c1 c2 (by simpa using hp);obtain⟨k',n,er,hn⟩:∃ k' n er,nextR (c::r)=(k',n,er):=⟨_,_,_,rfl⟩;unfold nextT;rw[hn] at e ⊢
      by_cases her:er=0
      ·subst her;have hsz:=zcs e (fun h=>by cases h)
       by_cases hq:k'=k∧n=(c::r).length
       ·obtain⟨rfl,rfl⟩:=hq;rw[zfg e (zf8 hn) (by simp) hl4 p,List.take_length];simp[zga]
       ·refine no (fun h=>?_) ?_
        ·obtain⟨h1,-,-⟩:=hlk h;rw[e] at h1;simp only[Prod.mk.injEq] at h1;exact hq ⟨h1.1,h1.2.1⟩
        ·rw[if_neg (by simp)]
         by_cases hk:k'=k
         ·have hn2:n<(c::r).length:=by
           have:=hsz.1;have:¬ n=(c::r).length:=fun h=>hq ⟨hk,h⟩;omega
          have:((c::r).take n == c::r)=false:=by
           rw[beq_eq_false_iff_ne];intro h;have:=congrArg List.length h;rw[List.length_take] at this;omega
          simp[zga,this]
         ·have:(k' == k)=false:=by simpa using hk
          simp[this]
      ·refine no (fun h=>?_) ?_
       ·obtain⟨h1,-,-⟩:=hlk h;rw[e] at h1;simp only[Prod.mk.injEq] at h1;exact her h1.2.2
       ·have:(er == 0)=false:=by simpa using her
        simp[this]
def rigF:Tok->List Tok->Bool
 | _,[]=>true
 | last,t::r=>(alnS t && !(bareB t && !clo last)) && rigF t r
def lasF:Tok->List Tok->Tok
 | last,[]=>last
 | _,t::r=>lasF t r
theorem zon:∀ (ts:List Tok)(last:Tok),(∀ t ∈ ts,t.text.size<=4096)->(rigF last ts && !clo (lasF last ts))=chkF last ts
 | [],last,_=>by rw[rigF,lasF,chkF,Bool.true_and]
 | t::r,last,h=>by
  rw[rigF,lasF,chkF,zs2 (h t (List.mem_cons_self ..)),<-zon r t fun x hx=>h x (List.mem_cons_of_mem _ hx)]
  cases bareB t <;> cases alnB t <;> cases clo last <;> simp
def rigO (ts:List Tok):Bool:=rigF ⟨0,⟨#[]⟩,0⟩ ts && (decide (ts.length<=1024) && ((ts.length == 0) || !clo (lasF ⟨0,⟨#[]⟩,0⟩ ts)))
theorem zpy {ts:List Tok}(h:∀ t ∈ ts,t.text.size<=4096):rigO ts=(chkO ts == 0):=by
 have hc:=zon ts ⟨0,⟨#[]⟩,0⟩ h;unfold rigO chkO
 by_cases hl:1024<ts.length
 ·have:decide (ts.length<=1024)=false:=by simp;omega
  rw[if_pos hl,this];simp
 ·have:decide (ts.length<=1024)=true:=by simp;omega
  rw[if_neg hl,this,<-hc]
  cases ts with
  | nil=>rfl
  | cons t r=>
   have e:((t::r).length == 0)=false:=by simp
   rw[e,Bool.false_or,Bool.true_and]
   cases rigF ⟨0,⟨#[]⟩,0⟩ (t::r) && !clo (lasF ⟨0,⟨#[]⟩,0⟩ (t::r)) <;> simp
set_option maxRecDepth 100000
set_option maxHeartbeats 4000000
theorem zoo (w:World)(st:Option Addr)(cap:Nat)(ts:List Tok)(hr:RowsT w st ts)(few:ts.length<=100000)(hno:¬ (chkO ts=0∧risB (-1) ts=true)) :
  Calls Tryz.prog 13 #[.slice st ts.length cap] w (PrP w (.inl (2,0))):=by
 have HR:Hid (∀ W,Below w.heap.size w W->RowsT W st ts):=hid fun W hb=>zdo hb.block hr;clear hr
 go_enter Tryz.func13,Tryz.ntmps13
 go_wp2_with fail
 refine zaf (fun W=>PrF w W) ?_ ?_
 ·have n0:=heap_alloc_new w (.cells #[.slice none 0 0] 25);have n1:=heap_alloc_new (w.alloc (.cells #[.slice none 0 0] 25)) (.cells #[.int .i64 0,.int .i64 0] 28);simp only[World.size_alloc] at n1;exact⟨((Below.refl _ _).alloc (Nat.le_refl _) _).alloc (by simp) _,(Below.heap_alloc _ _ _ (by simp)).trans n0,n1⟩
 intro W f;refine(zjc st cap ts W (HR.out W f.b) few).mono ?_;rintro e W1 ⟨rfl,b1⟩;have F1:Hid (PrF w W1):=hid (f.below b1);clear f b1
 by_cases hc:chkO ts=0
 ·have hri:risB (-1) ts=false:=by
   cases h:risB (-1) ts
   ·rfl
   ·exact absurd ⟨hc,h⟩ hno
  rw[hc];clear hno hc
  go_wp2_with fail
  refine(zh4 st cap ts W1 (HR.out W1 F1.out.b) few).mono ?_;rintro e W2 ⟨rfl,b2⟩;have F2:Hid (PrF w W2):=hid (F1.out.below b2);rw[hri];clear F1 b2 hri;obtain⟨c0,c1,c2⟩:=F2.out.c;obtain⟨f0,f1,f2⟩:=F2.out.f
  go_wp2
  exact bodyPost_ret (zbr Tryz.results13 _ _ w.heap.size (w.heap.size+1) _ _ _ _ (0,0) (0,0) _ _ rfl rfl (za2 F2.out _ _ _).2.1 (za2 F2.out _ _ _).2.2 Tryz.underlying25 rfl (by kernel_rfl) Tryz.underlying28 rfl (by kernel_rfl)) rfl ⟨(za2 F2.out _ _ _).1,rfl⟩
 ·clear hno;obtain⟨c0,c1,c2⟩:=F1.out.c;obtain⟨f0,f1,f2⟩:=F1.out.f
  go_wp2
  exact bodyPost_ret (zbr Tryz.results13 _ _ w.heap.size (w.heap.size+1) _ _ _ _ (0,0) (0,0) _ _ rfl rfl (za2 F1.out _ _ _).2.1 (za2 F1.out _ _ _).2.2 Tryz.underlying25 rfl (by kernel_rfl) Tryz.underlying28 rfl (by kernel_rfl)) rfl ⟨(za2 F1.out _ _ _).1,rfl⟩
def posOk (t:Tok) (a:List Tok):Bool:=decide (0<=t.pos) && ((a.length == 0) || decide ((lasF ⟨0,⟨#[]⟩,-1⟩ a).pos<t.pos))
theorem zll:∀ (a:List Tok)(z t:Tok),-1<=z.pos->risB z.pos (a++[t])=(risB z.pos a && decide ((lasF z a).pos<t.pos))∧(risB z.pos a=true->-1<=(lasF z a).pos)
 | [],z,t,hz=>by
  refine⟨?_,fun _=>hz⟩;show(if t.pos<=z.pos then false else true)=_;rw[show risB z.pos []=true from rfl,Bool.true_and,lasF]
  by_cases h:t.pos<=z.pos
  ·rw[if_pos h,decide_eq_false (by omega)]
  ·rw[if_neg h,decide_eq_true (by omega)]
 | x::r,z,t,hz=>by
  rw[List.cons_append,risB,risB,lasF]
  by_cases h:x.pos<=z.pos
  ·rw[if_pos h,if_pos h];exact⟨rfl,fun h=>by cases h⟩
  ·rw[if_neg h,if_neg h];exact zll r x t (by omega)
theorem zpz (a:List Tok)(t:Tok):(risB (-1) a && posOk t a)=risB (-1) (a++[t]):=by
 obtain⟨h1,h2⟩:=zll a ⟨0,⟨#[]⟩,-1⟩ t (Int.le_refl _);have h1':risB (-1) (a++[t])=(risB (-1) a && decide ((lasF ⟨0,⟨#[]⟩,-1⟩ a).pos<t.pos)):=h1;rw[h1']
 cases hr:risB (-1) a
 ·rfl
 ·have h3:-1<=(lasF ⟨0,⟨#[]⟩,-1⟩ a).pos:=h2 hr;unfold posOk;rw[Bool.true_and,Bool.true_and]
  cases a with
  | nil=>
   show(decide (0<=t.pos) && true)=decide ((-1:Int)<t.pos);rw[Bool.and_true];exact decide_eq_decide.mpr (by omega)
  | cons x r=>
   rw[show((x::r).length == 0)=false from rfl,Bool.false_or];rw[Bool.eq_iff_iff];simp only[Bool.and_eq_true,decide_eq_true_eq];omega
theorem zop:∀ (a:List Tok)(z:Tok)(n:Nat),a.length=n+1->a[n]?=some (lasF z a)
 | [],z,n,h=>by cases h
 | [x],z,n,h=>by
  obtain rfl:n=0:=by simpa using h.symm
  rfl
 | x::y::r,z,n,h=>by
  obtain⟨m,rfl⟩:∃ m,n=m+1:=⟨n - 1,by simp at h;omega⟩;have:=zop (y::r) x m (by simpa using h);exact this
theorem zhj (k:Int)(c:UInt8)(r:List UInt8):alnR k (c::r)=if clsI c.toNat=1 then false else if clsI c.toNat=2 then false else((nextR (c::r)).2.2 == 0) && (((nextT (c::r)).kind == k) && ((nextT (c::r)).text.data.toList == c::r)):=rfl
theorem inC1 (c:UInt8):inC [1] c=decide (clsI c.toNat=1):=by rw[Bool.eq_iff_iff];simp[inC]
theorem zi3 (c:UInt8):clsI c.toNat=2 ↔ c.toNat=10:=by
 unfold clsI
 repeat' split
 all_goals simp
 all_goals omega
theorem zre {c:UInt8}(h:clsI c.toNat=2):(c.toNat == 10)=true:=by rw[(zi3 c).1 h];rfl
theorem zp0 {c:UInt8}(h:clsI c.toNat=2):((c.toNat:Int) == 10)=true:=by rw[(zi3 c).1 h];rfl
theorem zp1 {c:UInt8}(h:¬ clsI c.toNat=2):(c.toNat == 10)=false:=beq_eq_false_iff_ne.2 fun e=>h ((zi3 c).2 e)
theorem zoq {c:UInt8}(h:¬ clsI c.toNat=2):((c.toNat:Int) == 10)=false:=beq_eq_false_iff_ne.2 fun e=>h ((zi3 c).2 (by omega))
theorem zmk (t:Tok)(w:World)(hs:t.text.size<=100000):Calls Tryz.prog 31 #[.agg t.cells] w fun e w'=>e=.returned (.bool (alnS t))∧Below w.heap.size w w':=by
 obtain⟨k,x,p⟩:=t;have hs':x.size<=100000:=hs;clear hs;have tlx:x.toList=x.data.toList:=by rw[ByteArray.toList_eq]
 obtain⟨L,hL⟩:∃ L,x.data.toList=L:=⟨_,rfl⟩;have HL:=hid hL;have hxl:x.toList=L:=tlx.trans hL;have HX:Hid (alnS ⟨k,x,p⟩=if k == 5 then(L == []) || (L == [59]) else alnR k L):=hid (by rw[<-hL];rfl);clear tlx hL;unfold Tok.cells
 cases h5:k == 5
 ·cases L with
  | nil=>
   have h0:(x.toList == [])=true:=by rw[hxl];rfl
   have HR:Hid (false=alnS ⟨k,x,p⟩):=hid (by rw[HX.out,h5];rfl);clear hxl HX
   go_enter Tryz.func31,Tryz.ntmps31
   go_wp2
   go_ret
   exact⟨za9 HR.out,(Below.refl _ _).alloc (Nat.le_refl _) _⟩
  | cons c r=>
   have h0:(x.toList == [])=false:=by rw[hxl];rfl
   have hsz:x.size=(c::r).length:=by rw[<-HL.out];simp
   have hp:0<x.size:=by rw[hsz];simp
   have hp':(0:Int)<x.size:=by omega
   have hc:x[0]'hp=c:=by
    have h:=zgv hp;rw[HL.out] at h;simpa using h.symm
   have HXL:=hid hxl;have HC:=hid hc;clear hxl hsz hc
   go_enter Tryz.func31,Tryz.ntmps31
   go_wp2_with fail
   rw[HC.out];refine(zcy c _).mono ?_;rintro e W1 ⟨rfl,rfl⟩;rw[inC1]
   by_cases c1:clsI c.toNat=1
   ·have HR:Hid (false=alnS ⟨k,x,p⟩):=hid (by rw[HX.out,h5,if_neg (by simp)];rw[zhj,if_pos c1]);rw[show decide (clsI c.toNat=1)=true from decide_eq_true c1];clear HX c1
    go_wp2
    go_ret
    exact⟨za9 HR.out,(Below.refl _ _).alloc (Nat.le_refl _) _⟩
   ·rw[show decide (clsI c.toNat=1)=false from decide_eq_false c1]
    by_cases c2:clsI c.toNat=2
    ·have HR:Hid (false=alnS ⟨k,x,p⟩):=hid (by rw[HX.out,h5,if_neg (by simp)];rw[zhj,if_neg c1,if_pos c2]);have h10:((x[0]'hp).toNat == 10)=true:=by rw[HC.out];exact zre c2
     have h10i:(((x[0]'hp).toNat:Int) == 10)=true:=by rw[HC.out];exact zp0 c2
     clear HX c1 c2
     go_wp2
     go_ret
     exact⟨za9 HR.out,(Below.refl _ _).alloc (Nat.le_refl _) _⟩
    ·have h10:((x[0]'hp).toNat == 10)=false:=by rw[HC.out];exact zp1 c2
     have h10i:(((x[0]'hp).toNat:Int) == 10)=false:=by rw[HC.out];exact zoq c2
     have HY:Hid (alnS ⟨k,x,p⟩=(((nextR (c::r)).2.2 == 0) && (((nextT (c::r)).kind == k) && ((nextT (c::r)).text.data.toList == c::r)))):=hid (by rw[HX.out,h5,if_neg (by simp)];rw[zhj,if_neg c1,if_neg c2]);clear HX c1 c2
     go_wp2_with fail
     clear h10 h10i;refine zaf (fun W=>Below w.heap.size w W∧W.heap[w.heap.size]?=some (.cells #[.int .i64 k,.string x,.int .i64 p] 38 (0,0))) ⟨(Below.refl _ _).alloc (Nat.le_refl _) _,heap_alloc_new _ _⟩ ?_;rintro W1 ⟨b1,r1⟩;refine(zj3 x W1 hs' hp).mono ?_;rintro e W2 ⟨rfl,b2⟩;rw[HL.out];obtain⟨nt,hnt⟩:∃ nt,nextT (c::r)=nt:=⟨_,rfl⟩;obtain⟨ne,hne⟩:∃ ne,(nextR (c::r)).2.2=ne:=⟨_,rfl⟩;rw[hnt,hne] at HY ⊢;clear hnt hne;obtain⟨nk,nx,np⟩:=nt;have r2:=(b2.block _ (zaa r1)).trans r1;have B2:=hid (b1.trans (b2.mono b1.size));have hlt:=zaa r2;have hlt2:¬ w.heap.size=W2.heap.size:=by omega
     have c0:W2.cell? ⟨w.heap.size,0,none⟩=some (.int .i64 k):=(cell_of_row _ _ 0 _ _ _ r2).trans rfl;have c1:W2.cell? ⟨w.heap.size,1,none⟩=some (.string x):=(cell_of_row _ _ 1 _ _ _ r2).trans rfl;clear b1 r1 b2 r2;unfold Tok.cells;have HZ:Hid (Below w.heap.size w (W2.alloc (.cells #[.int .i64 nk,.string nx,.int .i64 np] 38))):=hid (B2.out.alloc B2.out.size _);have HY2:Hid (alnS ⟨k,x,p⟩=((ne == 0) && ((nk == k) && (nx.toList == x.toList)))):=hid (by rw[HY.out,ByteArray.toList_eq,HXL.out]);clear HY;obtain⟨q1,hq1⟩:∃ q,(ne == 0)=q:=⟨_,rfl⟩;obtain⟨q2,hq2⟩:∃ q,(nk == k)=q:=⟨_,rfl⟩;obtain⟨q3,hq3⟩:∃ q,(nx.toList == x.toList)=q:=⟨_,rfl⟩;rw[hq1,hq2,hq3] at HY2
     cases q1 <;> cases q2 <;> cases q3
     all_goals go_wp2
     all_goals go_ret
     all_goals exact⟨za9 HY2.out.symm,HZ.out⟩
 ·have h5':k=5:=by simpa using h5
  have HY2:Hid (alnS ⟨k,x,p⟩=((x.toList == []) || (x.toList == [59]))):=hid (by rw[HX.out,h5,if_pos rfl,hxl]);clear HX hxl h5';obtain⟨q1,hq1⟩:∃ q,(x.toList == [])=q:=⟨_,rfl⟩;obtain⟨q2,hq2⟩:∃ q,(x.toList == [59])=q:=⟨_,rfl⟩;rw[hq1,hq2] at HY2
  go_enter Tryz.func31,Tryz.ntmps31
  cases q1 <;> cases q2
  all_goals go_wp2
  all_goals go_ret
  all_goals exact⟨za9 HY2.out.symm,(Below.refl _ _).alloc (Nat.le_refl _) _⟩
theorem zml (sp:Option Addr)(cap:Nat)(ts:List Tok)(w:World)(hr:RowsT w sp ts)(hm:ts.length<=100000)(hs:∀ t ∈ ts,t.text.size<=100000) :
  Calls Tryz.prog 14 #[.slice sp ts.length cap] w fun e w'=>e=.returned (.bool (rigO ts))∧Below w.heap.size w w':=by
 have HR:Hid (RowsT w sp ts):=hid hr;have HS:=hid hs;clear hr hs
 go_enter Tryz.func14,Tryz.ntmps14
 go_wp2
 go_loopw [7] (fun i wr=>∃ (q:Nat) (last:Tok),q<=ts.length∧i=.int .i64 q∧Below w.heap.size w wr∧(q=0->last=⟨0,⟨#[]⟩,0⟩)∧(0<q->ts[q - 1]?=some last)∧rigF last (ts.drop q)=rigF ⟨0,⟨#[]⟩,0⟩ ts∧lasF last (ts.drop q)=lasF ⟨0,⟨#[]⟩,0⟩ ts) (fun i _=>ts.length - (intOf i).toNat)
 case atStart=>exact⟨0,⟨0,⟨#[]⟩,0⟩,Nat.zero_le _,rfl,Below.refl _ _,fun _=>rfl,fun h=>absurd h (by omega),rfl,rfl⟩
 case round=>
  obtain⟨q,last,hq,rfl,hB,hz,hl,hri,hla⟩:=hrel;have HB:=hid hB;have HZ:=hid hz;have HL:=hid hl;have HRI:=hid hri;have HLA:=hid hla;clear hB hz hl hri hla
  by_cases hlt:q<ts.length
  ·have hd:decide ((q:Int)<ts.length)=true:=by simp;omega
   obtain⟨b,o,rfl,-⟩:=HR.out (by omega);obtain⟨x,hx⟩:∃ x,ts[q]?=some x:=⟨_,List.getElem?_eq_getElem (by omega)⟩;have HX:=hid hx;obtain⟨k0,k1,k2⟩:=zcn (RowsAt.below HR.out HB.out) hx;have HD:Hid (ts.drop q=x::ts.drop (q+1)):=hid (by
    have hg:=List.getElem?_eq_some_iff.1 hx;rw[<-List.getElem_cons_drop (h:=hlt),hg.2])
   have hxs:=HS.out x (List.mem_of_getElem? hx);clear hx
   go_wp2_with fail
   refine zaf (fun W=>Below w.heap.size w W∧W.heap[wr.heap.size]?=some (.cells x.cells 38 (0,0))) ⟨HB.out.alloc HB.out.size _,heap_alloc_new _ _⟩ ?_;rintro W1 ⟨b1,r1⟩;clear k0 k1 k2;have e3:(.agg #[.int .i64 x.kind,.string x.text,.int .i64 x.pos]:Value)=.agg x.cells:=rfl;refine(zmk x W1 hxs).mono ?_;rintro e W2 ⟨rfl,b2⟩;have B2:=hid (b1.trans (b2.mono b1.size));have r2:=(b2.block _ (zaa r1)).trans r1;obtain⟨c0,c1,c2⟩:W2.cell? ⟨wr.heap.size,0,none⟩=some (.int .i64 x.kind)∧W2.cell? ⟨wr.heap.size,1,none⟩=some (.string x.text)∧W2.cell? ⟨wr.heap.size,2,none⟩=some (.int .i64 x.pos):=⟨(cell_of_row _ _ 0 _ _ _ r2).trans rfl,(cell_of_row _ _ 1 _ _ _ r2).trans rfl,(cell_of_row _ _ 2 _ _ _ r2).trans rfl⟩;clear b1 r1 b2 r2 e3;have HF:Hid (rigF ⟨0,⟨#[]⟩,0⟩ ts=((alnS x && !(bareB x && !clo last)) && rigF x (ts.drop (q+1)))):=hid (by rw[<-HRI.out,HD.out,rigF]);have HG:Hid (lasF ⟨0,⟨#[]⟩,0⟩ ts=lasF x (ts.drop (q+1))):=hid (by rw[<-HLA.out,HD.out,lasF]);have HBX:Hid (bareB x=((x.kind == 5) && (x.text.toList == []))):=hid (by unfold bareB;cases x.text.toList <;> rfl);clear HRI HLA HD;obtain⟨q5,h5⟩:∃ b,(x.kind == 5)=b:=⟨_,rfl⟩;obtain⟨q0,h0⟩:∃ b,(x.text.toList == [])=b:=⟨_,rfl⟩;obtain⟨qa,ha⟩:∃ b,alnS x=b:=⟨_,rfl⟩;rw[ha] at HF ⊢;rw[h5,h0] at HBX;rw[HBX.out] at HF;have HA:=hid ha;clear HBX ha;have GO:Hid (∀ W:World,Below w.heap.size w W->rigF ⟨0,⟨#[]⟩,0⟩ ts=rigF x (ts.drop (q+1))->(∃ (q':Nat) (last':Tok),q'<=ts.length∧Value.int .i64 ((q:Int)+1)=.int .i64 q'∧Below w.heap.size w W∧(q'=0->last'=⟨0,⟨#[]⟩,0⟩)∧(0<q'->ts[q' - 1]?=some last')∧rigF last' (ts.drop q')=rigF ⟨0,⟨#[]⟩,0⟩ ts∧lasF last' (ts.drop q')=lasF ⟨0,⟨#[]⟩,0⟩ ts)∧ts.length - (intOf (.int .i64 ((q:Int)+1))).toNat<ts.length - (intOf (.int .i64 (q:Int))).toNat):=hid fun W hW he=>⟨⟨q+1,x,by omega,by congr 1,hW,fun h=>absurd h (by omega),fun _=>HX.out,he.symm,HG.out.symm⟩,by show ts.length - ((q:Int)+1).toNat<ts.length - (q:Int).toNat;omega⟩
   cases qa
   ·have HN:Hid (false=rigO ts):=hid (by unfold rigO;rw[HF.out];rfl);clear HF HG GO
    go_wp2
    go_ret
    exact⟨za9 HN.out,B2.out⟩
   ·cases q5
    ·have HE:=hid (show rigF ⟨0,⟨#[]⟩,0⟩ ts=rigF x (ts.drop (q+1)) by rw[HF.out];rfl);clear HF HG
     go_wp2
     exact GO.out _ B2.out HE.out
    ·cases q0
     ·have HE:=hid (show rigF ⟨0,⟨#[]⟩,0⟩ ts=rigF x (ts.drop (q+1)) by rw[HF.out];rfl);clear HF HG
      go_wp2
      exact GO.out _ B2.out HE.out
     ·by_cases hq0:q=0
      ·have HN:Hid (false=rigO ts):=hid (by unfold rigO;rw[HF.out,HZ.out hq0];rfl);have hq0':((q:Int) == 0)=true:=by rw[hq0];rfl
       clear HF HG GO hq0
       go_wp2
       go_ret
       exact⟨za9 HN.out,B2.out⟩
      ·have hq0':((q:Int) == 0)=false:=by rw[beq_eq_false_iff_ne];omega
       have hl:=HL.out (by omega);obtain⟨l0,l1,l2⟩:=zcn (RowsAt.below HR.out B2.out) hl;have hqs:(q:Int) - 1=((q - 1:Nat):Int):=by omega
       obtain⟨qm,hqm⟩:∃ qm,q - 1=qm:=⟨_,rfl⟩;have hqe:q=qm+1:=by omega
       subst hqe;have hqw:((qm+1:Nat):Int) - 1=(qm:Int):=by omega
       rw[Nat.add_sub_cancel] at l0 l1 l2;clear hl hq0 hqm hqs
       go_wp2_with fail
       refine(zch last W2).mono ?_;rintro e W3 ⟨rfl,b3⟩;have B3:=hid (B2.out.trans (b3.mono B2.out.size));clear b3 l0 l1 l2;obtain⟨qc,hc⟩:∃ b,clo last=b:=⟨_,rfl⟩;rw[hc] at HF ⊢;clear hc
       cases qc
       ·have HN:Hid (false=rigO ts):=hid (by unfold rigO;rw[HF.out];rfl);clear HF HG GO
        go_wp2
        go_ret
        exact⟨za9 HN.out,B3.out⟩
       ·have HE:=hid (show rigF ⟨0,⟨#[]⟩,0⟩ ts=rigF x (ts.drop (qm+1+1)) by rw[HF.out];rfl);clear HF HG
        go_wp2
        exact GO.out _ B3.out HE.out
  ·have hd:decide ((q:Int)<ts.length)=false:=by simp;omega
   obtain rfl:q=ts.length:=by omega
   have HN:Hid (rigO ts=(decide (ts.length<=1024) && ((ts.length == 0) || !clo last))):=hid (by
    have h1:=HRI.out;have h2:=HLA.out;rw[List.drop_length] at h1 h2;unfold rigO;rw[<-h1,<-h2,rigF,lasF,Bool.true_and])
   clear HRI HLA
   by_cases h4:ts.length<=1024
   ·have h4':decide ((ts.length:Int)<=1024)=true:=by simp;omega
    by_cases h0:ts.length=0
    ·have h0':((ts.length:Int) == 0)=true:=by rw[h0];rfl
     have HT:Hid (true=rigO ts):=hid (by rw[HN.out,h0];rfl);clear h0 h4 hlt HN
     go_wp2
     go_ret
     exact⟨za9 HT.out,HB.out⟩
    ·have h0':((ts.length:Int) == 0)=false:=by rw[beq_eq_false_iff_ne];omega
     have hl:=HL.out (by omega);obtain⟨b,o,rfl,-⟩:=HR.out (by omega);obtain⟨l0,l1,l2⟩:=zcn (RowsAt.below HR.out HB.out) hl;obtain⟨qm,hqm⟩:∃ qm,ts.length=qm+1:=⟨ts.length - 1,by omega⟩;have HT:Hid ((!clo last)=rigO ts):=hid (by rw[HN.out,show decide (ts.length<=1024)=true from decide_eq_true h4,show(ts.length == 0)=false by simpa using h0];rfl);rw[hqm,Nat.add_sub_cancel] at l0 l1 l2;rw[hqm];have h4i:decide ((qm:Int)+1<=1024)=true:=by simp;omega
     have h0i:((qm:Int)+1 == 0)=false:=by rw[beq_eq_false_iff_ne];omega
     clear HN h0 hl h4 hlt hd h4' h0'
     go_wp2_with fail
     refine(zch last wr).mono ?_;rintro e W3 ⟨rfl,b3⟩;have B3:=hid (HB.out.trans (b3.mono HB.out.size));clear b3 l0 l1 l2
     go_wp2
     go_ret
     exact⟨za9 HT.out,B3.out⟩
   ·have h4':decide ((ts.length:Int)<=1024)=false:=by simp;omega
    have HT:Hid (false=rigO ts):=hid (by rw[HN.out,show decide (ts.length<=1024)=false from decide_eq_false h4];rfl);clear h4 HN hlt
    go_wp2
    go_ret
    exact⟨za9 HT.out,HB.out⟩
theorem zor:∀ (ts:List Tok)(l:Int),risB l ts=true->∀ t ∈ ts,l<t.pos
 | [],_,_=>fun t ht=>by cases ht
 | x::r,l,h=>by
  rw[risB] at h
  split at h
  ·cases h
  ·rename_i hx
   intro t ht;rcases List.mem_cons.1 ht with rfl|ht
   ·omega
   ·have:=zor r x.pos h t ht;omega
theorem zos (w:World)(st:Option Addr)(cap:Nat)(ts:List Tok)(hr:RowsT w st ts)(hT:Tabl w)(few:ts.length<=1500)(hs:∀ t ∈ ts,t.text.size<=3000∧t.pos<=1099511627776) :
  Calls Tryz.prog 13 #[.slice st ts.length cap] w (PrP w (parO ts)):=by
 by_cases h:chkO ts=0∧risB (-1) ts=true
 ·refine zjt w st cap ts hr hT (by omega) fun t ht=>?_;have h1:=zor ts (-1) h.2 t ht;have h3:=hs t ht;omega
 ·have hp:parO ts=.inl (2,0):=by
   unfold parO
   by_cases hc:chkO ts=0
   ·rw[if_neg (by simp[hc])]
    cases hri:risB (-1) ts
    ·rfl
    ·exact absurd ⟨hc,hri⟩ h
   ·rw[if_pos hc]
  rw[hp];exact zoo w st cap ts hr (by omega) h
theorem zot {w:World}{sp:Option Addr}{cap:Nat}{ts:List Tok}(hr:RowsT w sp ts)(hn:sp=none->ts.length=0∧cap=0)(hl:ts.length<=1000000) :
  ∃ s2 c2 w2,(Builtin.append_ #[31,31] 31 #[.slice (some ⟨w.heap.size,0,none⟩) 0 0,.slice sp ts.length cap]).run Tryz.prog (w.alloc (.cells #[] 38))=.ok (.slice s2 ts.length c2) w2∧RowsT w2 s2 ts∧Below w.heap.size w w2:=by
 have ha:Below w.heap.size w (w.alloc (.cells #[] 38)):=(Below.refl _ _).alloc (Nat.le_refl _) _;have ho:OwnT w.heap.size (w.alloc (.cells #[] 38)) (.slice (some ⟨w.heap.size,0,none⟩) 0 0) [] :=
  ⟨by simp[flatG],.inr ⟨w.heap.size,0,#[],rfl,Nat.le_refl _,heap_alloc_new _ _,Nat.le_refl _,Nat.zero_le _,rfl,by simp[flatG]⟩⟩
 obtain⟨v2,w2,h1,h2,h3,h4⟩:=zdi (E:=elT) 31 ho hn (RowsAt.below hr ha) (by simpa using hl) ha.size;rw[List.nil_append] at h2;obtain⟨s2,c2,rfl,r2,-⟩:=OwnG.rows elT h2;exact⟨s2,c2,w2,h1,r2,⟨h3.os.trans ha.os,h3.tape.trans ha.tape,h3.output.trans ha.output,Nat.le_trans ha.size h3.size,fun k hk=>(h3.block k (Nat.lt_of_lt_of_le hk ha.size) (fun e=>by injection e with e;have e':k=w.heap.size:=e;omega)).trans (ha.block k hk)⟩⟩
theorem zhk (sp:Option Addr)(cap:Nat)(ts:List Tok)(x:ByteArray)(w:World)(hr:RowsT w sp ts)(hn:sp=none->ts.length=0∧cap=0)(hlm:ts.length<=maxLen)(hxs:∀ t ∈ ts,t.text.size<=maxLen)(hT:Tabl w) :
  Calls Tryz.prog 4 #[.slice sp ts.length cap,.string x] w fun e w'=>e=.returned (.bool true)∧Below w.heap.size w w':=by
 have HT:Hid (∀ W,Below w.heap.size w W->Tabl W):=hid fun W hb=>zdp hb.block hT;have HR:Hid (∀ W,Below w.heap.size w W->RowsT W sp ts):=hid fun W hb=>zdo hb.block hr;have HN:=hid hn;have hlm':ts.length<=9223372036854775807:=hlm;have HXS:=hid hxs;clear hT hr hn hxs hlm
 go_enter Tryz.func4,Tryz.ntmps4
 go_wp2_with fail
 refine(zhg w (HT.out w (Below.refl _ _))).mono ?_;rintro e W1 ⟨rfl,b1⟩;have HB1:=hid b1;clear b1
 by_cases z1:(ts.length:Int) > 1500
 ·go_wp2
  go_ret
  exact⟨rfl,HB1.out⟩
 have hfew:ts.length<=1500:=by omega
 go_wp2_with fail
 go_loopw [20] (fun i wr=>∃ q:Nat,q<=ts.length∧i=.int .i64 q∧Below w.heap.size w wr∧∀ j t,j<q->ts[j]?=some t->t.text.size<=3000∧t.pos<=1099511627776) (fun i _=>ts.length - (intOf i).toNat)
 case atStart=>exact⟨0,Nat.zero_le _,rfl,HB1.out,fun j t h=>absurd h (Nat.not_lt_zero _)⟩
 case round=>
  clear HB1;obtain⟨q,hq,rfl,hB,hsm⟩:=hrel;have HB:=hid hB;have HSM:=hid hsm;clear hB hsm
  by_cases hlt:q<ts.length
  ·have hd:decide ((q:Int)<ts.length)=true:=by simp;omega
   obtain⟨b,o,rfl,-⟩:=HR.out wr HB.out (by omega);obtain⟨t,ht⟩:∃ t,ts[q]?=some t:=⟨_,List.getElem?_eq_getElem (by omega)⟩;obtain⟨k0,k1,k2⟩:=zcn (HR.out wr HB.out) ht;have HTQ:=hid ht;have hxs:t.text.size<=9223372036854775807:=HXS.out t (List.mem_of_getElem? ht);have HB2:Hid (Below w.heap.size w (wr.alloc (.cells #[.int .i64 t.kind,.string t.text,.int .i64 t.pos] 38))):=hid (HB.out.alloc HB.out.size _);clear ht
   by_cases g1:(t.text.size:Int) > 3000
   ·go_wp2
    go_ret
    exact⟨rfl,HB2.out⟩
   ·by_cases g2:t.pos > 1099511627776
    ·go_wp2
     go_ret
     exact⟨rfl,HB2.out⟩
    ·have HS2:Hid (∀ j t,j<q+1->ts[j]?=some t->t.text.size<=3000∧t.pos<=1099511627776):=hid fun j u hj hu=>by
      by_cases e:j=q
      ·subst e;rw[HTQ.out] at hu;injection hu with hu;subst hu;exact⟨by omega,by omega⟩
      ·exact HSM.out j u (by omega) hu
     go_wp2
     exact⟨⟨q+1,by omega,by congr 1,HB2.out,HS2.out⟩,by simp[intOf];omega⟩
  ·have hd:decide ((q:Int)<ts.length)=false:=by simp;omega
   have HAL:Hid (∀ t ∈ ts,t.text.size<=3000∧t.pos<=1099511627776):=hid fun t ht=>by
    obtain⟨p,hp,he⟩:=List.getElem_of_mem ht;exact HSM.out p t (by omega) (by rw[List.getElem?_eq_getElem hp,he])
   obtain rfl:q=ts.length:=by omega
   clear HSM hlt hd
   go_wp2_with fail
   refine(zii x wr).mono ?_;rintro e W2 ⟨rfl,b2⟩;have HB2:=hid (HB.out.trans (b2.mono HB.out.size));clear b2
   go_wp2_with fail
   refine(zey x W2).mono ?_;rintro e W3 ⟨rfl,b3⟩;have HB3:=hid (HB2.out.trans (b3.mono HB2.out.size));clear b3 HB2 HB;obtain⟨kb,hkb⟩:∃ b,kepB x=b:=⟨_,rfl⟩;rw[hkb];clear hkb;have hkk:(kb != kb)=false:=by cases kb <;> rfl
   obtain⟨s4,c4,W4,hrun,hr4,hb4⟩:=zot (w:=W3) (cap:=cap) (HR.out W3 HB3.out) HN.out (by omega);have HB4:=hid (HB3.out.trans (hb4.mono HB3.out.size));have HR4:=hid hr4;clear hr4 hb4
   go_wp2_with (at_builtin;refine zaz (.tmp 40) (.tmp 41) 31 (by rfl) (by rfl) (by rfl) (by rfl) hrun ?_)
   refine(zos W4 s4 c4 ts HR4.out (HT.out W4 HB4.out) hfew HAL.out).mono ?_;rintro e W5 h5;obtain⟨b5,v5,rfl,t5⟩:=zlj h5;obtain⟨s5,c5,rfl⟩:=t5.shape;have HB5:=hid (HB4.out.trans (b5.mono HB4.out.size));have HT5:=hid t5;have hpb:=zol ts;have hcs:chkO ts=0∧risB (-1) ts=true∨parO ts=.inl (2,0):=by
    by_cases hc:chkO ts=0
    ·cases hri:risB (-1) ts
     ·exact .inr (by unfold parO;rw[if_neg (by simp[hc]),if_pos hri])
     ·exact .inl ⟨hc,rfl⟩
    ·exact .inr (by unfold parO;rw[if_pos hc])
   obtain⟨X,hX⟩:∃ X,parO ts=X:=⟨_,rfl⟩;rw[hX] at hpb hcs HT5 ⊢;have HXE:=hid hX;have HTB:=hid hpb;have HCS:=hid hcs;clear hX hpb hcs h5 b5 t5 hrun HR4 HB4 HB3
   go_wp2_with fail
   refine zaf (fun W=>W.heap[W5.heap.size]?=some (.cells #[.slice s5 (trO X).length c5] 25 (0,0))∧W.heap[W5.heap.size+1]?=some (.cells #[.int .i64 (spO X).1,.int .i64 (spO X).2] 28 (0,0))∧Below w.heap.size w W∧TrAt W4.heap.size W (.slice s5 (trO X).length c5) (trO X)) ?_ ?_
   ·have n0:=heap_alloc_new W5 (.cells #[.slice s5 (trO X).length c5] 25);have n1:=heap_alloc_new (W5.alloc (.cells #[.slice s5 (trO X).length c5] 25)) (.cells #[.int .i64 (spO X).1,.int .i64 (spO X).2] 28);simp only[World.size_alloc] at n1;have hb:=((Below.refl W5.heap.size W5).alloc (Nat.le_refl _) (.cells #[.slice s5 (trO X).length c5] 25)).alloc (by simp) (.cells #[.int .i64 (spO X).1,.int .i64 (spO X).2] 28);exact⟨(Below.heap_alloc _ _ _ (by simp)).trans n0,n1,HB5.out.trans (hb.mono HB5.out.size),HT5.out.below hb⟩
   rintro W6 ⟨hr6,hp6,hB6,hT6⟩;refine(zml sp cap ts W6 (HR.out W6 hB6) (by omega) (fun t ht=>by have:=HAL.out t ht;omega)).mono ?_;rintro e W7 ⟨rfl,b7⟩;have HF7:Hid (∀ W,Below W7.heap.size W7 W->W.heap[W5.heap.size]?=some (.cells #[.slice s5 (trO X).length c5] 25 (0,0))∧W.heap[W5.heap.size+1]?=some (.cells #[.int .i64 (spO X).1,.int .i64 (spO X).2] 28 (0,0))∧Below w.heap.size w W∧TrAt W4.heap.size W (.slice s5 (trO X).length c5) (trO X)):=hid fun W hb=>by
    have bb:Below W6.heap.size W6 W:=b7.trans (hb.mono b7.size);exact⟨(bb.block _ (zaa hr6)).trans hr6,(bb.block _ (zaa hp6)).trans hp6,hB6.trans (bb.mono hB6.size),hT6.below bb⟩
   have HRG:=hid (zpy (ts:=ts) fun t ht=>by have:=HAL.out t ht;omega);obtain⟨rg,hrg⟩:∃ b,rigO ts=b:=⟨_,rfl⟩;rw[hrg] at HRG ⊢;clear hrg hr6 hp6 hB6 hT6 b7 HB5 HT5
   go_wp2_with fail
   go_loopw [9,50] (fun okv i wr=>∃ q:Nat,q<=ts.length∧i=.int .i64 q∧okv=.bool (rg && risB (-1) (ts.take q))∧Below W7.heap.size W7 wr) (fun _ i _=>ts.length - (intOf i).toNat)
   case atStart=>exact⟨0,Nat.zero_le _,rfl,by rw[List.take_zero,show risB (-1) []=true from rfl,Bool.and_true],Below.refl _ _⟩
   case round=>
    obtain⟨q,hq,rfl,rfl,hB⟩:=hrel;have HB:=hid hB;clear hB
    by_cases hlt:q<ts.length
    ·have hd:decide ((q:Int)<ts.length)=true:=by simp;omega
     obtain⟨b,o,rfl,-⟩:=HR.out wr (HF7.out wr HB.out).2.2.1 (by omega);obtain⟨t,ht⟩:∃ t,ts[q]?=some t:=⟨_,List.getElem?_eq_getElem (by omega)⟩;obtain⟨k0,k1,k2⟩:=zcn (HR.out wr (HF7.out wr HB.out).2.2.1) ht;have hst:(rg && risB (-1) (ts.take (q+1)))=((rg && risB (-1) (ts.take q)) && posOk t (ts.take q)):=by
      rw[show ts.take (q+1)=ts.take q++[t] by rw[List.take_add_one,ht];rfl,<-zpz,Bool.and_assoc]
     have htl:(ts.take q).length=q:=by rw[List.length_take];omega
     have hdq:∀ n,Below W7.heap.size W7 (wr.drewN n):=fun n=>HB.out.trans (zgy _ _);have HDQ:=hid hdq;obtain⟨ob,hob⟩:∃ b,(rg && risB (-1) (ts.take q))=b:=⟨_,rfl⟩;rw[hob] at hst ⊢;clear hob ht hdq
     cases ob
     ·have HST:Hid ((rg && risB (-1) (ts.take (q+1)))=false):=hid (by rw[hst,Bool.false_and]);clear hst htl
      go_wp2
      go_quiet (fail)
      go_wp2
      exact⟨⟨q+1,by omega,by congr 1,by rw[HST.out],HDQ.out _⟩,by simp[intOf];omega⟩
     ·rw[Bool.true_and] at hst;unfold posOk at hst;rw[htl] at hst
      by_cases g1:0<=t.pos
      ·have g1':t.pos ≥ 0:=g1;rw[decide_eq_true g1,Bool.true_and] at hst
       by_cases hq0:q=0
       ·have HST:Hid ((rg && risB (-1) (ts.take (q+1)))=true):=hid (by rw[hst,show(q == 0)=true by simpa using hq0,Bool.true_or]);have hq0':((q:Int) == 0)=true:=by rw[hq0];rfl
        clear hst htl hq0
        go_wp2
        go_quiet (fail)
        go_wp2
        exact⟨⟨q+1,by omega,by congr 1,by rw[HST.out],HDQ.out _⟩,by simp[intOf];omega⟩
       ·have hq0':((q:Int) == 0)=false:=by rw[beq_eq_false_iff_ne];omega
        obtain⟨m,rfl⟩:∃ m,q=m+1:=⟨q - 1,by omega⟩;have hl:=zop (ts.take (m+1)) ⟨0,⟨#[]⟩,-1⟩ m htl;rw[List.getElem?_take_of_lt (by omega)] at hl;obtain⟨p,hp⟩:∃ p,lasF ⟨0,⟨#[]⟩,-1⟩ (ts.take (m+1))=p:=⟨_,rfl⟩;rw[hp] at hl hst;obtain⟨l0,l1,l2⟩:=zcn (HR.out wr (HF7.out wr HB.out).2.2.1) hl;rw[show(m+1 == 0)=false from rfl,Bool.false_or] at hst;have hqw:((m+1:Nat):Int) - 1=(m:Int):=by omega
        have hq0i:((m:Int)+1 == 0)=false:=by rw[beq_eq_false_iff_ne];omega
        clear hp hl htl hq0
        by_cases g2:p.pos<t.pos
        ·have HST:Hid ((rg && risB (-1) (ts.take (m+1+1)))=true):=hid (by rw[hst,decide_eq_true g2]);have g2':decide (p.pos<t.pos)=true:=decide_eq_true g2;clear hst
         go_wp2
         go_quiet (fail)
         go_wp2
         exact⟨⟨m+1+1,by omega,by congr 1,by rw[HST.out],HDQ.out _⟩,by simp[intOf];omega⟩
        ·have HST:Hid ((rg && risB (-1) (ts.take (m+1+1)))=false):=hid (by rw[hst,decide_eq_false g2]);have g2':decide (p.pos<t.pos)=false:=decide_eq_false g2;clear hst
         go_wp2
         go_quiet (fail)
         go_wp2
         exact⟨⟨m+1+1,by omega,by congr 1,by rw[HST.out],HDQ.out _⟩,by simp[intOf];omega⟩
      ·have g1':decide (t.pos ≥ 0)=false:=decide_eq_false g1;have g1i:decide (0<=t.pos)=false:=decide_eq_false g1;have HST:Hid ((rg && risB (-1) (ts.take (q+1)))=false):=hid (by rw[hst,decide_eq_false g1,Bool.false_and]);clear hst htl
       go_wp2
       go_quiet (fail)
       go_wp2
       exact⟨⟨q+1,by omega,by congr 1,by rw[HST.out],HDQ.out _⟩,by simp[intOf];omega⟩
    ·obtain rfl:q=ts.length:=by omega
     obtain⟨hr8,hp8,hB8,hT8⟩:=HF7.out wr HB.out;rw[List.take_length];have HB8:=hid hB8;have HT8:=hid hT8;have g0:wr.cell? ⟨W5.heap.size+1,0,none⟩=some (.int .i64 (spO X).1):=(cell_of_row _ _ 0 _ _ _ hp8).trans rfl;have g1:wr.cell? ⟨W5.heap.size+1,1,none⟩=some (.int .i64 (spO X).2):=(cell_of_row _ _ 1 _ _ _ hp8).trans rfl;have g2:wr.cell? ⟨W5.heap.size,0,none⟩=some (.slice s5 (trO X).length c5):=(cell_of_row _ _ 0 _ _ _ hr8).trans rfl;have hl1:=zaa hp8;have hl0:=zaa hr8;obtain⟨ob,hob⟩:∃ b,(rg && risB (-1) ts)=b:=⟨_,rfl⟩;rw[hob];have HOB:=hid hob;clear hob hT8 hB8 hlt
     cases ob
     ·have hx:X=.inl (2,0):=HCS.out.elim (fun h=>by
       exfalso
       have h1:=HOB.out;rw[HRG.out,h.1,h.2] at h1;exact absurd h1 (by decide)) id
      subst hx
      dsimp only[spO,trO] at g0 g1 g2
      clear HT8 HF7 HB HR HXE HTB HCS HRG HOB hr8 hp8
      go_wp2
      go_ret
      exact⟨rfl,HB8.out⟩
     ·have hck:chkO ts=0∧risB (-1) ts=true:=by
       have h1:=HOB.out;rw[Bool.and_eq_true] at h1;refine⟨?_,h1.2⟩;have h2:=HRG.out;rw[h1.1] at h2;exact eq_of_beq h2.symm
      have HCK:=hid hck;clear hck HCS HRG HOB HF7
      go_wp2_with fail
      refine(zh8 wr sp cap ts (HR.out wr HB8.out) (by omega) (fun t ht=>by have h1:=HAL.out t ht;have h2:=zor ts (-1) HCK.out.2 t ht;omega) HCK.out.1 HCK.out.2).mono ?_;rintro e W9 h9;rw[HXE.out] at h9;obtain⟨b9,v9,rfl,t9⟩:=zlj h9;obtain⟨s9,c9,rfl⟩:=t9.shape;have hr9:=(b9.block _ (zaa hr8)).trans hr8;have hp9:=(b9.block _ (zaa hp8)).trans hp8;have HB9:=hid (HB8.out.trans (b9.mono HB8.out.size));have HT9:=hid (HT8.out.below b9);have HU9:=hid t9;clear g0 g1 g2 hl0 hl1;have g0:W9.cell? ⟨W5.heap.size+1,0,none⟩=some (.int .i64 (spO X).1):=(cell_of_row _ _ 0 _ _ _ hp9).trans rfl;have g1:W9.cell? ⟨W5.heap.size+1,1,none⟩=some (.int .i64 (spO X).2):=(cell_of_row _ _ 1 _ _ _ hp9).trans rfl;have g2:W9.cell? ⟨W5.heap.size,0,none⟩=some (.slice s5 (trO X).length c5):=(cell_of_row _ _ 0 _ _ _ hr9).trans rfl;have hl1:=zaa hp9;have hl0:=zaa hr9;have hbl:=HTB.out;obtain⟨L,hL⟩:∃ L,trO X=L:=⟨_,rfl⟩;obtain⟨⟨sa,sb⟩,hS⟩:∃ p,spO X=p:=⟨_,rfl⟩;rw[hL] at HT9 HU9 g2 hbl ⊢;rw[hS] at g0 g1 ⊢;have HBL:=hid hbl;clear hL hS h9 b9 t9 hr9 hp9 hr8 hp8 HT8 HB8 HCK HXE HTB hbl
      try dsimp only at g0 g1 ⊢
      go_wp2_with fail
      refine zaf (fun W=>Below w.heap.size w W∧TrAt W4.heap.size W (.slice s5 L.length c5) L∧TrAt wr.heap.size W (.slice s9 L.length c9) L) ?_ ?_
      ·have hb:=((Below.refl W9.heap.size W9).alloc (Nat.le_refl _) (.cells #[.slice s9 L.length c9] 25)).alloc (by simp) (.cells #[.int .i64 sa,.int .i64 sb] 28);exact⟨HB9.out.trans (hb.mono HB9.out.size),HT9.out.below hb,HU9.out.below hb⟩
      rintro W10 ⟨hB10,⟨N,S,hO,hRp,-⟩,⟨M,S',hO',hRp',-⟩⟩;obtain⟨sp1,cp1,e1,r1,-⟩:=OwnG.rows elN hO;obtain⟨sp2,cp2,e2,r2,-⟩:=OwnG.rows elN hO';injection e1 with u1 u2 u3;subst u1 u3;injection e2 with u4 u5 u6;subst u4 u6;have HB10:=hid hB10;have hll:=HBL.out.1;refine(zhh true s5 s9 c5 c9 N M S S' L L W10 r1 hRp r2 hRp' (by omega) (by omega) (fun d hd=>by have:=(HBL.out.2 d hd).2;omega) (fun d hd=>by have:=(HBL.out.2 d hd).2;omega)).mono ?_;rintro e W11 ⟨rfl,b11⟩;rw[zhi];have HB11:=hid (HB10.out.trans (b11.mono HB10.out.size));clear u2 u5 hO hO' hRp hRp' r1 r2 b11 hB10 HB10 g0 g1 g2
      go_wp2
      go_ret
      exact⟨rfl,HB11.out⟩
end Go.Proofs.YtmclgbkijeidaaaGreatDoor

namespace Go.Proofs.YtmclgbkijeidaaaGreatDoor
set_option maxRecDepth 100000
open Go.ChangeShapes Go.WideShapes Go.ChangeAt Go.RowKit Go.Deep
theorem zou (a:Addr)(m n:Nat):(a.add m).add n=a.add (m+n):=by
 by_cases hm:m=0
 ·subst hm;simp[Addr.add]
 by_cases hn:n=0
 ·subst hn;simp[Addr.add]
 simp[Addr.add,hm,hn,Nat.add_assoc]
section
variable {H:Type}{enc:TypeId × Value->H}{W:World}{base:Nat}{spare:Nat->Bool}{held:Bool}{fuel:Nat}{cs:List Value}{x:DataW H × List MemPlace}
theorem zov {α:Type} [Inhabited α] {t e:TypeId}{m:Nat}{f:α->Array Value}{Q:α->Prop}(ht:Tryz.prog.underlying t=some (.slice e))(hm:Tryz.prog.cellsOf e=m)(hpos:0<m)
  (hel:∀ (n:Nat) (cs':List Value) (y:DataW H × List MemPlace),DataW.trod enc Tryz.prog W base spare held n e cs'=some y->∃ a,cs'=(f a).toList∧Q a)
  (h:DataW.trod enc Tryz.prog W base spare held fuel t cs=some x) :
  ∃ (sp:Option Addr) (cap:Nat) (xs:List α),cs=[.slice sp xs.length cap]∧RowsAt W m f sp xs∧(∀ a ∈ xs,Q a)∧(xs.length<=cap∧cap<=maxLen)∧(sp=none->xs.length=0∧cap=0):=by
 rcases open_slice ht h with⟨rfl,-⟩ | ⟨a,len,cap,k,n,D,Pl,rfl,-,hl,hmx,hk,-,hx⟩
 ·exact⟨none,0,[],rfl,RowsAt.none,fun a ha=>(by simp at ha),⟨Nat.le_refl _,Nat.zero_le _⟩,fun _=>⟨rfl,rfl⟩⟩
 have hkl:len<=k:=by rw[hk];split <;> omega
 have key:∀ i,i<len->∃ y:α,(∀ j u,(f y)[j]?=some u->W.cell? (a.add (i * m+j))=some u)∧0<(f y).size∧Q y:=fun i hi=>by
  obtain⟨cs',h1,h2⟩:=hx i (by omega);obtain⟨y,rfl,hq⟩:=hel n cs' _ h2;rw[hm] at h1;obtain⟨-,hlen,hc⟩:=World.cells?_some h1;have hsz:(f y).size=m:=by simpa using hlen
  refine⟨y,fun j u hu=>?_,by omega,hq⟩;have hj:j<m:=by rw[<-hsz];exact(Array.getElem?_eq_some_iff.1 hu).1
  have:=hc j hj;rw[Array.getElem?_toList,hu] at this;rw[show a.add (i * m+j)=(a.add (i * m)).add j from(zou a (i * m) j).symm];exact this
 obtain⟨g,hg⟩:=choose_lt key;refine⟨some a,cap,(List.range len).map g,by simp,fun hpos'=>?_,fun b hb=>?_,⟨by simpa using hl,hmx⟩,fun h=>by cases h⟩
 ·have h0:0<len:=by simpa using hpos'
  obtain⟨b,off,spot⟩:=a;have hspot:spot=none:=by
   obtain⟨hc,hs,-⟩:=hg 0 h0;have:=hc 0 _ (Array.getElem?_eq_getElem hs);simpa[Addr.add] using World.cell?_spot this
  subst hspot;refine⟨b,off,rfl,fun i y hy j u hu=>?_⟩;have hi:i<len:=by have:=(List.getElem?_eq_some_iff.1 hy).1;simpa using this
  have hy':g i=y:=by simpa[hi] using hy
  subst hy';have:=(hg i hi).1 j u hu;rw[Addr.add_mid] at this;rw[Nat.add_assoc];exact this
 ·obtain⟨i,hi,rfl⟩:=List.mem_map.1 hb;exact(hg i (List.mem_range.1 hi)).2.2
theorem zkm {t:TypeId}{l:List (TypeId × Nat)}(ht:Tryz.prog.underlying t=some (.struct (Tryz.prog.fieldsOf t)))(hl:(Tryz.prog.fieldsOf t).toList.map (fun f=>(f.type,f.offset))=l)
  (h:DataW.trod enc Tryz.prog W base spare held fuel t cs=some x) :
  cs.length=Tryz.prog.cellsOf t∧∃ n,∀ (i:Nat) u o,l[i]?=some (u,o)->∃ y,DataW.trod enc Tryz.prog W base spare held n u ((cs.drop o).take (Tryz.prog.cellsOf u))=some y:=by
 obtain⟨xs,n,rfl,-,hlen,hn,hel⟩:=DataW.trod_struct ht h;refine⟨hlen,n,fun i u o hi=>?_⟩;rw[<-hl,List.getElem?_map,Array.getElem?_toList] at hi
 cases hf:(Tryz.prog.fieldsOf t)[i]? with
 | none=>rw[hf] at hi;cases hi
 | some f=>
  rw[hf] at hi;simp only[Option.map_some,Option.some.injEq,Prod.mk.injEq] at hi;obtain⟨rfl,rfl⟩:=hi;have h1:=hel i f hf;have hi':i<xs.length:=by rw[hn];exact(Array.getElem?_eq_some_iff.1 hf).1
  exact⟨xs[i],h1.trans (List.getElem?_eq_getElem hi')⟩
theorem zqj {l a b:List Value}{i n m:Nat}(h1:(l.drop i).take n=a)(h2:(l.drop (i+n)).take m=b):(l.drop i).take (n+m)=a++b:=by
 rw[<-h1,<-h2,List.take_add,List.drop_drop]
theorem zmm:(Tryz.prog.fieldsOf 38).toList.map (fun f=>(f.type,f.offset))=[(3,0),(9,1),(3,2)]:=by kernel_rfl
theorem zp2 (h:DataW.trod enc Tryz.prog W base spare held fuel 38 cs=some x):∃ t:Tok,cs=t.cells.toList∧t.text.size<=maxLen:=by
 obtain⟨hlen,n,hf⟩:=zkm (by kernel_rfl) zmm h;obtain⟨y0,h0⟩:=hf 0 _ _ rfl;obtain⟨y1,h1⟩:=hf 1 _ _ rfl;obtain⟨y2,h2⟩:=hf 2 _ _ rfl;obtain⟨k,e0,-,-⟩:=DataW.trod_int Tryz.underlying3 h0;obtain⟨s,e1,-,hs⟩:=DataW.trod_string Tryz.underlying9 h1;obtain⟨p,e2,-,-⟩:=DataW.trod_int Tryz.underlying3 h2;have hl:cs.length=3:=hlen.trans (by kernel_rfl);rw[show Tryz.prog.cellsOf 9=1 by kernel_rfl] at e1;rw[show Tryz.prog.cellsOf 3=1 by kernel_rfl] at e0 e2;refine⟨⟨k,s,p⟩,?_,hs⟩;have e:=zqj (zqj e0 e1) e2;rw[List.drop_zero,List.take_of_length_le (by omega)] at e;rw[e];rfl
end
set_option maxRecDepth 100000 in
theorem zow {H:Type}{enc:TypeId × Value->H}{W:World}{base b0:Nat}{spare:Nat->Bool}{held:Bool}{r:Reach}{v:Value}{d:DataW H}{p:List MemPlace}
  (hv:Value.okWide Tryz.prog W r b0 31 v) (h:DataW.Trod enc Tryz.prog W base spare held 31 v d p):∃ (sp:Option Addr) (cap:Nat) (xs:List Tok),v=.slice sp xs.length cap∧RowsT W sp xs∧(∀ t ∈ xs,t.text.size<=maxLen)∧xs.length<=cap∧cap<=maxLen∧(sp=none->cap=0):=by
 obtain⟨a0,len0,cap0,rfl⟩:=okWide_slice Tryz.underlying31 hv;obtain⟨fuel,hf⟩:=h;obtain⟨sp,cap,xs,e,hr,hq,hc,hn⟩:=zov (m:=3) (f:=Tok.cells) (Q:=fun t=>t.text.size<=maxLen) Tryz.underlying31 (by kernel_rfl) (by omega) (fun n cs' y hy=>zp2 hy) hf;have e':Value.slice a0 len0 cap0=.slice sp xs.length cap:=by simpa[Value.cells] using e
 exact⟨sp,cap,xs,e',hr,hq,hc.1,hc.2,fun h=>(hn h).2⟩
end Go.Proofs.YtmclgbkijeidaaaGreatDoor
