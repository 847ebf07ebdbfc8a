import Derived.Test.YtmclgbkijeidaaaGreatDoorUoF
import Derived.Test.YtmclgbkijeidaaaGreatDoorTie
import Derived.Test.YtmclgbkijeidaaaGreatDoorCards
import Derived.ProofKit
import Derived.OpenShut
import Derived.ShutString
import Derived.LaidMore
import Derived.Stop.Joined
import Derived.Deep.Slices
import Derived.Test.YtmclgbkijeidaaaGreatDoorUoP
import Derived.Lib.LaidTab
namespace Go.Proofs.YtmclgbkijeidaaaGreatDoor
set_option maxRecDepth 100000
open Go.ChangeShapes Go.WideShapes Go.ChangeAt Go.RowKit Go.Deep
theorem own:ownKnob Tryz.prog.godebug=none:=by kernel_rfl
theorem laidOut:laidOutB Tryz.prog=true:=by kernel_rfl
theorem gRows:Tryz.prog.globalNamed "shipwright/parse.rows"=some 1:=by kernel_rfl
theorem tRows:(Tryz.prog.globals[1]?).map (·.type)=some 172:=by kernel_rfl
def laid1:List (String × DataW Unit):=[("shipwright/parse.rows",Rows.laid_shipwright_parse_rows)]
section
variable {H:Type}{enc:TypeId × Value->H}{W:World}{base:Nat}{spare:Nat->Bool}{held:Bool}{fuel:Nat}{cs:List Value}{p:List MemPlace}
theorem zvf {l:List (List UInt8)}{r:List (DataW H)}(h0:0<l.length)(h:DataW.trod enc Tryz.prog W base spare held fuel 68 cs=some (.slice (l.map fun x=>.lit (.string x)) r,p)) :
    ∃ q:Option Addr × Nat,cs=[.slice q.1 l.length q.2]∧RowsAt W 1 strC q.1 (l.map strU):=by
  rcases open_slice1 Tryz.underlying68 (by kernel_rfl) h with⟨-,C⟩ | ⟨a,len,cap,m,n,V,D,Pl,rfl,-,hl,-,hm,hx,hc⟩
  . injection C with C
    cases C
  . have ac:len<=m:=by rw[hm];split <;> omega
    injection hx with hx _;injection hx with hx _;have U:l.length=len:=by have:=congrArg List.length hx;simpa using this
    have F:∀ j x,l[j]?=some x->W.cell? (a.add j)=some (.string (strU x)):=fun j x K=>by
      have ab:j<l.length:=(List.getElem?_eq_some_iff.1 K).1;obtain⟨C,h2⟩:=hc j (by omega);obtain⟨s,M,e2,-⟩:=DataW.trod_string Tryz.underlying9 h2;have A:=congrArg (fun y=>y[j]?) hx;simp only[List.getElem?_map,K,Option.map_some,List.getElem?_range (show j<len by omega)] at A;have Y:D j=.lit (.string s.data.toList):=by injection e2
      rw[Y] at A;injection A with A;injection A with A;injection A with A;have Z:V j=.string s:=by injection M
      rw[C,Z,A,zyo]
    refine⟨(some a,cap),by rw[U],fun _=>?_⟩;obtain⟨b,o,aa⟩:=a;have X:aa=none:=by
      have:=F 0 _ (Yh h0);simpa[Addr.add] using World.cell?_spot this
    subst X;refine⟨b,o,rfl,fun i y E j u I=>?_⟩;rw[List.getElem?_map] at E
    cases hx2:l[i]? with
    | none=>rw[hx2] at E;cases E
    | some x=>
      rw[hx2] at E;obtain rfl:strU x=y:=by simpa using E
      have N:j=0:=by have:=(Array.getElem?_eq_some_iff.1 I).1;simpa[strC] using this
      subst N;have:=F i x hx2;rw[Addr.add_mid] at this;obtain rfl:Value.string (strU x)=u:=by simpa[strC] using I
      rw[Nat.mul_one,Nat.add_zero];exact this
end
theorem z0y {W:World}(h:laidMetH Tryz.prog laid1 W):Tabl W:=by
  rw[MakeChecks.laidMetH_plain _ _ _ (by kernel_rfl)] at h;obtain⟨ps,⟨g0,t0,ag,f0,p0,q0,M,N,ab,V,_,_⟩,_,_⟩:=h;obtain rfl:=Yl (gRows.symm.trans M);obtain rfl:=Yl (tRows.symm.trans N);obtain⟨K,m,rfl,hx,af,hn,aa⟩:=DataW.trod_array Tryz.underlying172 V;have ac:Tryz.prog.cellsOf 68=1:=by kernel_rfl
  have hv:=World.var?_cell M ab;have e0:(DataW.agg (rowsL.map fun l=>DataW.slice (l.map fun x=>.lit (.string x)) []):DataW Unit)=.agg (K.map (·.1)):=by injection hx
  injection e0 with e0;have ae:∀ i,i<5->∃ q:Option Addr × Nat,∀ l,rowsL[i]?=some l->W.cell? ⟨1,i,none⟩=some (.slice q.1 l.length q.2)∧RowsAt W 1 strC q.1 (l.map strU):=fun i D=>by
    have E:=aa i D;rw[ac,Nat.mul_one] at E;obtain⟨l,A⟩:∃ l,rowsL[i]?=some l:=⟨_,Yh (by simpa[rowsL] using D)⟩;have U:0<l.length:=by
      match i,D,A with
      | 0,_,h=>obtain rfl:_=l:=by simpa[rowsL] using h
               decide
      | 1,_,h=>obtain rfl:_=l:=by simpa[rowsL] using h
               decide
      | 2,_,h=>obtain rfl:_=l:=by simpa[rowsL] using h
               decide
      | 3,_,h=>obtain rfl:_=l:=by simpa[rowsL] using h
               decide
      | 4,_,h=>obtain rfl:_=l:=by simpa[rowsL] using h
               decide
    have C:=congrArg (fun y=>y[i]?) e0;simp only[List.getElem?_map,A,Option.map_some] at C
    cases hxi:K[i]? with
    | none=>rw[hxi] at C;cases C
    | some y=>
      rw[hxi] at C E;obtain⟨Y,y2⟩:=y;obtain rfl:_=Y:=by simpa using C
      obtain⟨q,h2,Z⟩:=zvf U E;refine⟨q,fun l' I=>?_⟩;rw[A] at I;obtain rfl:l=l':=by injection I
      refine⟨?_,Z⟩;have:=congrArg (fun z=>z[0]?) h2;rw[hv,<-Array.getElem?_toList];simpa using this
  obtain⟨F,X⟩:=choose_lt ae;exact⟨F,fun i l A=>X i (by have:=(List.getElem?_eq_some_iff.1 A).1;simpa[rowsL] using this) l A⟩
end Go.Proofs.YtmclgbkijeidaaaGreatDoor

namespace Go.Proofs.YtmclgbkijeidaaaGreatDoor
set_option maxRecDepth 100000
open Go.ChangeShapes Go.WideShapes Go.ChangeAt Go.RowKit Go.Deep
theorem zvg (a:Addr)(m n:Nat):(a.add m).add n=a.add (m+n):=by
 by_cases hm:m=0
 ·subst hm;simp[Addr.add]
 by_cases hn:n=0
 ·subst hn;simp[Addr.add]
 simp[Addr.add,hm,hn,Nat.add_assoc]
section
variable {H:Type}{enc:TypeId × Value->H}{W:World}{base:Nat}{spare:Nat->Bool}{held:Bool}{fuel:Nat}{cs:List Value}{x:DataW H × List MemPlace}
theorem zvh {α:Type} [Inhabited α] {t e:TypeId}{m:Nat}{f:α->Array Value}{Q:α->Prop}(ht:Tryz.prog.underlying t=some (.slice e))(hm:Tryz.prog.cellsOf e=m)(hpos:0<m)
  (hel:∀ (n:Nat) (cs':List Value) (y:DataW H × List MemPlace),DataW.trod enc Tryz.prog W base spare held n e cs'=some y->∃ a,cs'=(f a).toList∧Q a)
  (h:DataW.trod enc Tryz.prog W base spare held fuel t cs=some x) :
  ∃ (sp:Option Addr) (cap:Nat) (xs:List α),cs=[.slice sp xs.length cap]∧RowsAt W m f sp xs∧(∀ a ∈ xs,Q a)∧(xs.length<=cap∧cap<=maxLen)∧(sp=none->xs.length=0∧cap=0):=by
 rcases open_slice ht h with⟨rfl,-⟩ | ⟨a,len,cap,k,n,D,Pl,rfl,-,hl,hmx,hk,-,hx⟩
 ·exact⟨none,0,[],rfl,RowsAt.none,fun a Z=>(by simp at Z),⟨Ya _,Yk _⟩,fun _=>⟨rfl,rfl⟩⟩
 have ag:len<=k:=by rw[hk];split <;> omega
 have af:∀ i,i<len->∃ y:α,(∀ j u,(f y)[j]?=some u->W.cell? (a.add (i * m+j))=some u)∧0<(f y).size∧Q y:=fun i A=>by
  obtain⟨cs',I,h2⟩:=hx i (by omega);obtain⟨y,rfl,V⟩:=hel n cs' _ h2;rw[hm] at I;obtain⟨-,Y,E⟩:=World.cells?_some I;have N:(f y).size=m:=by simpa using Y
  refine⟨y,fun j u C=>?_,by omega,V⟩;have hj:j<m:=by rw[<-N];exact(Array.getElem?_eq_some_iff.1 C).1
  have:=E j hj;rw[Array.getElem?_toList,C] at this;rw[show a.add (i * m+j)=(a.add (i * m)).add j from(zvg a (i * m) j).symm];exact this
 obtain⟨g,F⟩:=choose_lt af;refine⟨some a,cap,(List.range len).map g,by simp,fun U=>?_,fun b X=>?_,⟨by simpa using hl,hmx⟩,fun h=>by cases h⟩
 ·have h0:0<len:=by simpa using U
  obtain⟨b,ac,ab⟩:=a;have aa:ab=none:=by
   obtain⟨E,M,-⟩:=F 0 h0;have:=E 0 _ (Array.getElem?_eq_getElem M);simpa[Addr.add] using World.cell?_spot this
  subst aa;refine⟨b,ac,rfl,fun i y K j u C=>?_⟩;have A:i<len:=by have:=(List.getElem?_eq_some_iff.1 K).1;simpa using this
  have ae:g i=y:=by simpa[A] using K
  subst ae;have:=(F i A).1 j u C;rw[Addr.add_mid] at this;rw[Nat.add_assoc];exact this
 ·obtain⟨i,A,rfl⟩:=List.mem_map.1 X;exact(F i (List.mem_range.1 A)).2.2
theorem zn9 {t:TypeId}{l:List (TypeId × Nat)}(ht:Tryz.prog.underlying t=some (.struct (Tryz.prog.fieldsOf t)))(hl:(Tryz.prog.fieldsOf t).toList.map (fun f=>(f.type,f.offset))=l)
  (h:DataW.trod enc Tryz.prog W base spare held fuel t cs=some x) :
  cs.length=Tryz.prog.cellsOf t∧∃ n,∀ (i:Nat) u o,l[i]?=some (u,o)->∃ y,DataW.trod enc Tryz.prog W base spare held n u ((cs.drop o).take (Tryz.prog.cellsOf u))=some y:=by
 obtain⟨C,n,rfl,-,I,F,D⟩:=DataW.trod_struct ht h;refine⟨I,n,fun i u o A=>?_⟩;rw[<-hl,List.getElem?_map,Array.getElem?_toList] at A
 cases hf:(Tryz.prog.fieldsOf t)[i]? with
 | none=>rw[hf] at A;cases A
 | some f=>
  rw[hf] at A;simp only[Option.map_some,Option.some.injEq,Prod.mk.injEq] at A;obtain⟨rfl,rfl⟩:=A;have K:=D i f hf;have E:i<C.length:=by rw[F];exact(Array.getElem?_eq_some_iff.1 hf).1
  exact⟨C[i],K.trans (Yh E)⟩
theorem zvi {l a b:List Value}{i n m:Nat}(h1:(l.drop i).take n=a)(h2:(l.drop (i+n)).take m=b):(l.drop i).take (n+m)=a++b:=by
 rw[<-h1,<-h2,List.take_add,List.drop_drop]
end
end Go.Proofs.YtmclgbkijeidaaaGreatDoor

namespace Go.Proofs.YtmclgbkijeidaaaGreatDoor
set_option maxRecDepth 100000
open Go.ChangeShapes Go.WideShapes Go.ChangeAt Go.RowKit Go.Deep
theorem zjc {P:Program}{x:String × DataW Unit}{rest:List (String × DataW Unit)}{W:World}(h:laidMet P (x::rest) W):laidMet P rest W:=by
 obtain⟨n,d⟩:=x;obtain⟨F,⟨g,t,cs,fuel,p,q,E,K,I,D,A,rfl⟩,hnd,hc⟩:=h;exact⟨q,A,(List.nodup_append.1 hnd).2.1,fun b y C=>hc b y (List.mem_append.2 (.inr C))⟩
def laid4:List (String × DataW Unit):=[("math/bits.deBruijn32tab",Rows.laid_math_bits_deBruijn32tab),("math/bits.deBruijn64tab",Rows.laid_math_bits_deBruijn64tab),("internal/strconv.uint64pow10",Rows.laid_internal_strconv_uint64pow10),("shipwright/parse.rows",Rows.laid_shipwright_parse_rows)]
theorem zvj (os:Os)(args:Array Value):laidMetH Tryz.prog laid4 ((World.doorLaid Tryz.prog 400 os).forCall (fun _ _=>0) ⟨#[],args,[]⟩).memory :=
 laidMetH_of_parts3 (fuel:=8) (laidMet_of_run' 8 (by kernel_rfl) (by kernel_rfl)) (by kernel_rfl) (by kernel_rfl)
theorem gPow:Tryz.prog.globalNamed "internal/strconv.uint64pow10"=some 2:=by kernel_rfl
theorem tPow:(Tryz.prog.globals[2]?).map (·.type)=some 185:=by kernel_rfl
theorem zpp {W:World}(h:laidMetH Tryz.prog laid4 W):Tabl W∧TabP W:=by
 rw[MakeChecks.laidMetH_plain _ _ _ (by kernel_rfl)] at h;have y:=zjc (zjc h);refine⟨z0y (by rw[MakeChecks.laidMetH_plain _ _ _ (by kernel_rfl)];exact zjc y),?_⟩;exact Lib.tabIs_of_head gPow tPow Tryz.underlying185 Tryz.underlying107 (by kernel_rfl) (by kernel_rfl) y
end Go.Proofs.YtmclgbkijeidaaaGreatDoor
