import Derived.Test.YtabiangdmibocaaGreatDoorUnF
import Derived.Test.YtabiangdmibocaaGreatDoorTie
import Derived.Test.YtabiangdmibocaaGreatDoorCards
import Derived.ProofKit
import Derived.OpenShut
import Derived.ShutString
import Derived.LaidMore
import Derived.Stop.Joined
import Derived.Deep.Slices
import Derived.Test.YtabiangdmibocaaGreatDoorUnf
import Derived.Test.YtabiangdmibocaaGreatDoorUnP
import Derived.Lib.LaidTab
namespace Go.Proofs.YtabiangdmibocaaGreatDoor
set_option maxRecDepth 100000
open Go.ChangeShapes Go.WideShapes Go.ChangeAt Go.RowKit Go.Deep
theorem own:ownKnob Tryz.prog.godebug=none:=by kernel_rfl
theorem laidOut:laidOutB Tryz.prog=true:=by kernel_rfl
theorem gRows:Tryz.prog.globalNamed "shipwright/parse.rows"=some 1:=by kernel_rfl
theorem tRows:(Tryz.prog.globals[1]?).map (·.type)=some 212:=by kernel_rfl
def laid1:List (String × DataW Unit):=[("shipwright/parse.rows",Rows.laid_shipwright_parse_rows)]
section
variable {H:Type}{enc:TypeId × Value->H}{W:World}{base:Nat}{spare:Nat->Bool}{held:Bool}{fuel:Nat}{cs:List Value}{p:List MemPlace}
theorem zvq {l:List (List UInt8)}{r:List (DataW H)}(h0:0<l.length)(h:DataW.trod enc Tryz.prog W base spare held fuel 62 cs=some (.slice (l.map fun x=>.lit (.string x)) r,p)) :
    ∃ q:Option Addr × Nat,cs=[.slice q.1 l.length q.2]∧RowsAt W 1 strC q.1 (l.map strU):=by
  rcases open_slice1 Tryz.underlying62 (by kernel_rfl) h with⟨-,h1⟩ | ⟨a,len,cap,m,n,V,D,Pl,rfl,-,hl,-,hm,hx,hc⟩
  . injection h1 with h1
    cases h1
  . have hlm:len<=m:=by rw[hm];split <;> omega
    injection hx with hx _;injection hx with hx _;have hlen:l.length=len:=by have:=congrArg List.length hx;simpa using this
    have hcell:∀ j x,l[j]?=some x->W.cell? (a.add j)=some (.string (strU x)):=fun j x hj=>by
      have hj':j<l.length:=(List.getElem?_eq_some_iff.1 hj).1;obtain⟨h1,h2⟩:=hc j (by omega);obtain⟨s,e1,e2,-⟩:=DataW.trod_string Tryz.underlying9 h2;have e3:=congrArg (fun y=>y[j]?) hx;simp only[List.getElem?_map,hj,Option.map_some,List.getElem?_range (show j<len by omega)] at e3;have e4:D j=.lit (.string s.data.toList):=by injection e2
      rw[e4] at e3;injection e3 with e3;injection e3 with e3;injection e3 with e3;have e5:V j=.string s:=by injection e1
      rw[h1,e5,e3,zq7]
    refine⟨(some a,cap),by rw[hlen],fun _=>?_⟩;obtain⟨b,o,spot⟩:=a;have hspot:spot=none:=by
      have:=hcell 0 _ (List.getElem?_eq_getElem h0);simpa[Addr.add] using World.cell?_spot this
    subst hspot;refine⟨b,o,rfl,fun i y hy j u hu=>?_⟩;rw[List.getElem?_map] at hy
    cases hx2:l[i]? with
    | none=>rw[hx2] at hy;cases hy
    | some x=>
      rw[hx2] at hy;obtain rfl:strU x=y:=by simpa using hy
      have hj0:j=0:=by have:=(Array.getElem?_eq_some_iff.1 hu).1;simpa[strC] using this
      subst hj0;have:=hcell i x hx2;rw[Addr.add_mid] at this;obtain rfl:Value.string (strU x)=u:=by simpa[strC] using hu
      rw[Nat.mul_one,Nat.add_zero];exact this
end
theorem z2f {W:World}(h:laidMetH Tryz.prog laid1 W):Tabl W:=by
  rw[MakeChecks.laidMetH_plain _ _ _ (by kernel_rfl)] at h;obtain⟨ps,⟨g0,t0,cs0,f0,p0,q0,hg0,ht0,hv0,hd0,_,_⟩,_,_⟩:=h;obtain rfl:=Option.some.inj (gRows.symm.trans hg0);obtain rfl:=Option.some.inj (tRows.symm.trans ht0);obtain⟨xs,m,rfl,hx,hlen,hn,hel⟩:=DataW.trod_array Tryz.underlying212 hd0;have hce:Tryz.prog.cellsOf 62=1:=by kernel_rfl
  have hv:=World.var?_cell hg0 hv0;have e0:(DataW.agg (rowsL.map fun l=>DataW.slice (l.map fun x=>.lit (.string x)) []):DataW Unit)=.agg (xs.map (·.1)):=by injection hx
  injection e0 with e0;have key:∀ i,i<5->∃ q:Option Addr × Nat,∀ l,rowsL[i]?=some l->W.cell? ⟨1,i,none⟩=some (.slice q.1 l.length q.2)∧RowsAt W 1 strC q.1 (l.map strU):=fun i hi=>by
    have h1:=hel i hi;rw[hce,Nat.mul_one] at h1;obtain⟨l,hl⟩:∃ l,rowsL[i]?=some l:=⟨_,List.getElem?_eq_getElem (by simpa[rowsL] using hi)⟩;have h0:0<l.length:=by
      match i,hi,hl with
      | 0,_,h=>obtain rfl:_=l:=by simpa[rowsL] using h
               decide
      | 1,_,h=>obtain rfl:_=l:=by simpa[rowsL] using h
               decide
      | 2,_,h=>obtain rfl:_=l:=by simpa[rowsL] using h
               decide
      | 3,_,h=>obtain rfl:_=l:=by simpa[rowsL] using h
               decide
      | 4,_,h=>obtain rfl:_=l:=by simpa[rowsL] using h
               decide
    have e1:=congrArg (fun y=>y[i]?) e0;simp only[List.getElem?_map,hl,Option.map_some] at e1
    cases hxi:xs[i]? with
    | none=>rw[hxi] at e1;cases e1
    | some y=>
      rw[hxi] at e1 h1;obtain⟨y1,y2⟩:=y;obtain rfl:_=y1:=by simpa using e1
      obtain⟨q,h2,h3⟩:=zvq h0 h1;refine⟨q,fun l' hl'=>?_⟩;rw[hl] at hl';obtain rfl:l=l':=by injection hl'
      refine⟨?_,h3⟩;have:=congrArg (fun z=>z[0]?) h2;rw[hv,<-Array.getElem?_toList];simpa using this
  obtain⟨F,hF⟩:=choose_lt key;exact⟨F,fun i l hl=>hF i (by have:=(List.getElem?_eq_some_iff.1 hl).1;simpa[rowsL] using this) l hl⟩
end Go.Proofs.YtabiangdmibocaaGreatDoor

namespace Go.Proofs.YtabiangdmibocaaGreatDoor
set_option maxRecDepth 100000
open Go.ChangeShapes Go.WideShapes Go.ChangeAt Go.RowKit Go.Deep
theorem zvr (a:Addr)(m n:Nat):(a.add m).add n=a.add (m+n):=by
 by_cases hm:m=0
 ·subst hm;simp[Addr.add]
 by_cases hn:n=0
 ·subst hn;simp[Addr.add]
 simp[Addr.add,hm,hn,Nat.add_assoc]
section
variable {H:Type}{enc:TypeId × Value->H}{W:World}{base:Nat}{spare:Nat->Bool}{held:Bool}{fuel:Nat}{cs:List Value}{x:DataW H × List MemPlace}
theorem zgj {α:Type} [Inhabited α] {t e:TypeId}{m:Nat}{f:α->Array Value}{Q:α->Prop}(ht:Tryz.prog.underlying t=some (.slice e))(hm:Tryz.prog.cellsOf e=m)(hpos:0<m)
  (hel:∀ (n:Nat) (cs':List Value) (y:DataW H × List MemPlace),DataW.trod enc Tryz.prog W base spare held n e cs'=some y->∃ a,cs'=(f a).toList∧Q a)
  (h:DataW.trod enc Tryz.prog W base spare held fuel t cs=some x) :
  ∃ (sp:Option Addr) (cap:Nat) (xs:List α),cs=[.slice sp xs.length cap]∧RowsAt W m f sp xs∧(∀ a ∈ xs,Q a)∧(xs.length<=cap∧cap<=maxLen)∧(sp=none->xs.length=0∧cap=0):=by
 rcases open_slice ht h with⟨rfl,-⟩ | ⟨a,len,cap,k,n,D,Pl,rfl,-,hl,hmx,hk,-,hx⟩
 ·exact⟨none,0,[],rfl,RowsAt.none,fun a ha=>(by simp at ha),⟨Nat.le_refl _,Nat.zero_le _⟩,fun _=>⟨rfl,rfl⟩⟩
 have hkl:len<=k:=by rw[hk];split <;> omega
 have key:∀ i,i<len->∃ y:α,(∀ j u,(f y)[j]?=some u->W.cell? (a.add (i * m+j))=some u)∧0<(f y).size∧Q y:=fun i hi=>by
  obtain⟨cs',h1,h2⟩:=hx i (by omega);obtain⟨y,rfl,hq⟩:=hel n cs' _ h2;rw[hm] at h1;obtain⟨-,hlen,hc⟩:=World.cells?_some h1;have hsz:(f y).size=m:=by simpa using hlen
  refine⟨y,fun j u hu=>?_,by omega,hq⟩;have hj:j<m:=by rw[<-hsz];exact(Array.getElem?_eq_some_iff.1 hu).1
  have:=hc j hj;rw[Array.getElem?_toList,hu] at this;rw[show a.add (i * m+j)=(a.add (i * m)).add j from(zvr a (i * m) j).symm];exact this
 obtain⟨g,hg⟩:=choose_lt key;refine⟨some a,cap,(List.range len).map g,by simp,fun hpos'=>?_,fun b hb=>?_,⟨by simpa using hl,hmx⟩,fun h=>by cases h⟩
 ·have h0:0<len:=by simpa using hpos'
  obtain⟨b,off,spot⟩:=a;have hspot:spot=none:=by
   obtain⟨hc,hs,-⟩:=hg 0 h0;have:=hc 0 _ (Array.getElem?_eq_getElem hs);simpa[Addr.add] using World.cell?_spot this
  subst hspot;refine⟨b,off,rfl,fun i y hy j u hu=>?_⟩;have hi:i<len:=by have:=(List.getElem?_eq_some_iff.1 hy).1;simpa using this
  have hy':g i=y:=by simpa[hi] using hy
  subst hy';have:=(hg i hi).1 j u hu;rw[Addr.add_mid] at this;rw[Nat.add_assoc];exact this
 ·obtain⟨i,hi,rfl⟩:=List.mem_map.1 hb;exact(hg i (List.mem_range.1 hi)).2.2
theorem zip {t:TypeId}{l:List (TypeId × Nat)}(ht:Tryz.prog.underlying t=some (.struct (Tryz.prog.fieldsOf t)))(hl:(Tryz.prog.fieldsOf t).toList.map (fun f=>(f.type,f.offset))=l)
  (h:DataW.trod enc Tryz.prog W base spare held fuel t cs=some x) :
  cs.length=Tryz.prog.cellsOf t∧∃ n,∀ (i:Nat) u o,l[i]?=some (u,o)->∃ y,DataW.trod enc Tryz.prog W base spare held n u ((cs.drop o).take (Tryz.prog.cellsOf u))=some y:=by
 obtain⟨xs,n,rfl,-,hlen,hn,hel⟩:=DataW.trod_struct ht h;refine⟨hlen,n,fun i u o hi=>?_⟩;rw[<-hl,List.getElem?_map,Array.getElem?_toList] at hi
 cases hf:(Tryz.prog.fieldsOf t)[i]? with
 | none=>rw[hf] at hi;cases hi
 | some f=>
  rw[hf] at hi;simp only[Option.map_some,Option.some.injEq,Prod.mk.injEq] at hi;obtain⟨rfl,rfl⟩:=hi;have h1:=hel i f hf;have hi':i<xs.length:=by rw[hn];exact(Array.getElem?_eq_some_iff.1 hf).1
  exact⟨xs[i],h1.trans (List.getElem?_eq_getElem hi')⟩
theorem zjm {l a b:List Value}{i n m:Nat}(h1:(l.drop i).take n=a)(h2:(l.drop (i+n)).take m=b):(l.drop i).take (n+m)=a++b:=by
 rw[<-h1,<-h2,List.take_add,List.drop_drop]
end
end Go.Proofs.YtabiangdmibocaaGreatDoor

namespace Go.Proofs.YtabiangdmibocaaGreatDoor
set_option maxRecDepth 100000
open Go.ChangeShapes Go.WideShapes Go.ChangeAt Go.RowKit Go.Deep
instance:Inhabited NdM:=⟨⟨0,⟨#[]⟩,0,none,0,0,0,0,0⟩⟩
def NdI (W:World) (m:NdM) (d:NdZ):Prop:=(m.k=d.kind∧m.x=d.text∧m.n=d.num∧m.a=d.pos∧m.f=d.frm∧m.t=d.to)∧m.kn=d.kids.length∧RowsAt W 1 intZ m.ks d.kids∧(m.ks=none->m.kn=0∧m.kc=0)∧m.kn<=m.kc∧m.kc<=maxLen
def NdQ (W:World) (m:NdM):Prop:=∃ d,NdI W m d∧-9223372036854775808<=d.num∧d.num<=9223372036854775807
theorem zvs {W:World}:∀ (N:List NdM),(∀ m ∈ N,NdQ W m)->∃ Z:List NdZ,RepI W N Z∧∀ d ∈ Z,-9223372036854775808<=d.num∧d.num<=9223372036854775807
 | [],_=>⟨[],⟨rfl,fun i m d h=>by simp at h⟩,fun d h=>by simp at h⟩
 | m::N,h=>by
  obtain⟨d,h1,h2⟩:=h m (List.mem_cons_self ..);obtain⟨Z,h3,h4⟩:=zvs N fun m' hm=>h m' (List.mem_cons_of_mem _ hm);refine⟨d::Z,⟨by rw[List.length_cons,List.length_cons,h3.1],fun i m' d' e1 e2=>?_⟩,fun d' hd=>?_⟩
  ·cases i with
   | zero=>
    obtain rfl:m=m':=by simpa using e1
    obtain rfl:d=d':=by simpa using e2
    exact h1
   | succ i=>exact h3.2 i m' d' (by simpa using e1) (by simpa using e2)
  ·rcases List.mem_cons.1 hd with rfl|hd
   ·exact h2
   ·exact h4 d' hd
section
variable {H:Type}{enc:TypeId × Value->H}{W:World}{base:Nat}{spare:Nat->Bool}{held:Bool}{fuel:Nat}{cs:List Value}{x:DataW H × List MemPlace}
theorem zns:(Tryz.prog.fieldsOf 59).toList.map (fun f=>(f.type,f.offset))=[(3,0),(9,1),(2,2),(51,3),(3,4),(3,5),(3,6)]:=by kernel_rfl
theorem znt:(Tryz.prog.fieldsOf 25).toList.map (fun f=>(f.type,f.offset))=[(23,0)]:=by kernel_rfl
theorem z49 {n:Int}(h:(Lit.int .i64 n).wf=true):-9223372036854775808<=n∧n<=9223372036854775807:=by
 simp only[Lit.wf,Bool.and_eq_true,decide_eq_true_eq] at h;exact h
theorem zvt (h:DataW.trod enc Tryz.prog W base spare held fuel 59 cs=some x):∃ m:NdM,cs=m.cells.toList∧NdQ W m:=by
 obtain⟨hlen,n,hf⟩:=zip (by kernel_rfl) zns h;obtain⟨y0,h0⟩:=hf 0 _ _ rfl;obtain⟨y1,h1⟩:=hf 1 _ _ rfl;obtain⟨y2,h2⟩:=hf 2 _ _ rfl;obtain⟨y3,h3⟩:=hf 3 _ _ rfl;obtain⟨y4,h4⟩:=hf 4 _ _ rfl;obtain⟨y5,h5⟩:=hf 5 _ _ rfl;obtain⟨y6,h6⟩:=hf 6 _ _ rfl;obtain⟨k,e0,-,-⟩:=DataW.trod_int Tryz.underlying3 h0;obtain⟨s,e1,-,-⟩:=DataW.trod_string Tryz.underlying9 h1;obtain⟨q,e2,-,hq⟩:=DataW.trod_int Tryz.underlying2 h2;obtain⟨sp,cap,ks,e3,hr,-,hc,hn⟩:=zgj (m:=1) (f:=intZ) (Q:=fun _=>True) Tryz.underlying51 (by kernel_rfl) (by omega) (fun n cs' y hy=>by
  obtain⟨z,e,-,-⟩:=DataW.trod_int Tryz.underlying3 hy;exact⟨z,e,trivial⟩) h3
 obtain⟨a,e4,-,-⟩:=DataW.trod_int Tryz.underlying3 h4;obtain⟨f,e5,-,-⟩:=DataW.trod_int Tryz.underlying3 h5;obtain⟨t,e6,-,-⟩:=DataW.trod_int Tryz.underlying3 h6;have hl:cs.length=7:=hlen.trans (by kernel_rfl);rw[show Tryz.prog.cellsOf 9=1 by kernel_rfl] at e1;rw[show Tryz.prog.cellsOf 51=1 by kernel_rfl] at e3;rw[show Tryz.prog.cellsOf 3=1 by kernel_rfl] at e0 e4 e5 e6;rw[show Tryz.prog.cellsOf 2=1 by kernel_rfl] at e2;refine⟨⟨k,s,q,sp,ks.length,cap,a,f,t⟩,?_,⟨k,s,q,ks,a,f,t⟩,⟨⟨rfl,rfl,rfl,rfl,rfl,rfl⟩,rfl,hr,hn,hc.1,hc.2⟩,z49 hq⟩;have e:=zjm (zjm (zjm (zjm (zjm (zjm e0 e1) e2) e3) e4) e5) e6;rw[List.drop_zero,List.take_of_length_le (by omega)] at e;rw[e];rfl
end
set_option maxRecDepth 100000 in
theorem zvu {H:Type}{enc:TypeId × Value->H}{W:World}{base b0:Nat}{spare:Nat->Bool}{held:Bool}{r:Reach}{v:Value}{d:DataW H}{p:List MemPlace}
  (hv:Value.okWide Tryz.prog W r b0 25 v) (h:DataW.Trod enc Tryz.prog W base spare held 25 v d p):∃ (sp:Option Addr) (cap:Nat) (N:List NdM) (Z:List NdZ),v=.agg #[.slice sp N.length cap]∧RowsAt W 7 NdM.cells sp N∧RepI W N Z∧N.length<=maxLen∧∀ d ∈ Z,-9223372036854775808<=d.num∧d.num<=9223372036854775807:=by
 obtain⟨vs,rfl,hvs⟩:=okWide_struct (fs:=Tryz.prog.fieldsOf 25) (by kernel_rfl) hv;obtain⟨fuel,hf⟩:=h;obtain⟨hlen,n,hf2⟩:=zip (by kernel_rfl) znt hf;obtain⟨y0,h0⟩:=hf2 0 _ _ rfl;obtain⟨sp,cap,N,e,hr,hq,hc,hn⟩:=zgj (m:=7) (f:=NdM.cells) (Q:=NdQ W) Tryz.underlying23 (by kernel_rfl) (by omega) (fun n cs' y hy=>zvt hy) h0;obtain⟨Z,h1,h2⟩:=zvs N hq;have hl1:Tryz.prog.cellsOf 25=1:=by kernel_rfl
 rw[show Tryz.prog.cellsOf 23=1 by kernel_rfl,List.drop_zero,List.take_of_length_le (by omega)] at e;refine⟨sp,cap,N,Z,?_,hr,h1,by omega,h2⟩;have e':vs.toList=[.slice sp N.length cap]:=by simpa[Value.cells] using e
 rw[show vs=#[.slice sp N.length cap] from Array.toList_inj.1 e']
end Go.Proofs.YtabiangdmibocaaGreatDoor

namespace Go.Proofs.YtabiangdmibocaaGreatDoor
set_option maxRecDepth 100000
open Go.ChangeShapes Go.WideShapes Go.ChangeAt Go.RowKit Go.Deep
theorem ziq {P:Program}{x:String × DataW Unit}{rest:List (String × DataW Unit)}{W:World}(h:laidMet P (x::rest) W):laidMet P rest W:=by
 obtain⟨n,d⟩:=x;obtain⟨ps,⟨g,t,cs,fuel,p,q,h1,h2,h3,h4,h5,rfl⟩,hnd,hc⟩:=h;exact⟨q,h5,(List.nodup_append.1 hnd).2.1,fun b off hm=>hc b off (List.mem_append.2 (.inr hm))⟩
def laid4:List (String × DataW Unit):=[("math/bits.deBruijn32tab",Rows.laid_math_bits_deBruijn32tab),("math/bits.deBruijn64tab",Rows.laid_math_bits_deBruijn64tab),("internal/strconv.uint64pow10",Rows.laid_internal_strconv_uint64pow10),("shipwright/parse.rows",Rows.laid_shipwright_parse_rows)]
theorem zmi (os:Os)(args:Array Value):laidMetH Tryz.prog laid4 ((World.doorLaid Tryz.prog 400 os).forCall (fun _ _=>0) ⟨#[],args,[]⟩).memory :=
 laidMetH_of_parts3 (fuel:=8) (laidMet_of_run' 8 (by kernel_rfl) (by kernel_rfl)) (by kernel_rfl) (by kernel_rfl)
theorem gPow:Tryz.prog.globalNamed "internal/strconv.uint64pow10"=some 2:=by kernel_rfl
theorem tPow:(Tryz.prog.globals[2]?).map (·.type)=some 216:=by kernel_rfl
theorem zhj {W:World}(h:laidMetH Tryz.prog laid4 W):Tabl W∧TabP W:=by
 rw[MakeChecks.laidMetH_plain _ _ _ (by kernel_rfl)] at h;have h2:=ziq (ziq h);refine⟨z2f (by rw[MakeChecks.laidMetH_plain _ _ _ (by kernel_rfl)];exact ziq h2),?_⟩;exact Lib.tabIs_of_head gPow tPow Tryz.underlying216 Tryz.underlying129 (by kernel_rfl) (by kernel_rfl) h2
end Go.Proofs.YtabiangdmibocaaGreatDoor
