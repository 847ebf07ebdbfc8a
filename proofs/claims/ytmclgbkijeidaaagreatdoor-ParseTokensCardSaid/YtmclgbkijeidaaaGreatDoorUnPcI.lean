import Derived.Test.YtmclgbkijeidaaaGreatDoorUnE
import Derived.Test.YtmclgbkijeidaaaGreatDoorTie
import Derived.Test.YtmclgbkijeidaaaGreatDoorCards
import Derived.ProofKit
import Derived.OpenShut
import Derived.ShutString
import Derived.LaidMore
import Derived.Stop.Joined
import Derived.Deep.Slices
namespace Go.Proofs.YtmclgbkijeidaaaGreatDoor
set_option maxRecDepth 100000
open Go.ChangeShapes Go.WideShapes Go.ChangeAt Go.RowKit Go.Deep
theorem own:ownKnob Tryz.prog.godebug=none:=by kernel_rfl
theorem laidOut:laidOutB Tryz.prog=true:=by kernel_rfl
theorem gRows:Tryz.prog.globalNamed "shipwright/parse.rows"=some 1:=by kernel_rfl
theorem tRows:(Tryz.prog.globals[1]?).map (·.type)=some 172:=by kernel_rfl
def laid1:List (String × DataW Unit):=[("shipwright/parse.rows",Rows.laid_shipwright_parse_rows)]
theorem zlb (os:Os)(args:Array Value):laidMetH Tryz.prog laid1 ((World.doorLaid Tryz.prog 400 os).forCall (fun _ _=>0) ⟨#[],args,[]⟩).memory :=
  laidMetH_of_parts3 (fuel:=8) (laidMet_of_run' 8 (by kernel_rfl) (by kernel_rfl)) (by kernel_rfl) (by kernel_rfl)
section
variable {H:Type}{enc:TypeId × Value->H}{W:World}{base:Nat}{spare:Nat->Bool}{held:Bool}{fuel:Nat}{cs:List Value}{p:List MemPlace}
theorem zn4 {l:List (List UInt8)}{r:List (DataW H)}(h0:0<l.length)(h:DataW.trod enc Tryz.prog W base spare held fuel 68 cs=some (.slice (l.map fun x=>.lit (.string x)) r,p)) :
    ∃ q:Option Addr × Nat,cs=[.slice q.1 l.length q.2]∧RowsAt W 1 strC q.1 (l.map strU):=by
  rcases open_slice1 Tryz.underlying68 (by kernel_rfl) h with⟨-,h1⟩ | ⟨a,len,cap,m,n,V,D,Pl,rfl,-,hl,-,hm,hx,hc⟩
  . injection h1 with h1
    cases h1
  . have hlm:len<=m:=by rw[hm];split <;> omega
    injection hx with hx _;injection hx with hx _;have hlen:l.length=len:=by have:=congrArg List.length hx;simpa using this
    have hcell:∀ j x,l[j]?=some x->W.cell? (a.add j)=some (.string (strU x)):=fun j x hj=>by
      have hj':j<l.length:=(List.getElem?_eq_some_iff.1 hj).1;obtain⟨h1,h2⟩:=hc j (by omega);obtain⟨s,e1,e2,-⟩:=DataW.trod_string Tryz.underlying9 h2;have e3:=congrArg (fun y=>y[j]?) hx;simp only[List.getElem?_map,hj,Option.map_some,List.getElem?_range (show j<len by omega)] at e3;have e4:D j=.lit (.string s.data.toList):=by injection e2
      rw[e4] at e3;injection e3 with e3;injection e3 with e3;injection e3 with e3;have e5:V j=.string s:=by injection e1
      rw[h1,e5,e3,zmp]
    refine⟨(some a,cap),by rw[hlen],fun _=>?_⟩;obtain⟨b,o,spot⟩:=a;have hspot:spot=none:=by
      have:=hcell 0 _ (List.getElem?_eq_getElem h0);simpa[Addr.add] using World.cell?_spot this
    subst hspot;refine⟨b,o,rfl,fun i y hy j u hu=>?_⟩;rw[List.getElem?_map] at hy
    cases hx2:l[i]? with
    | none=>rw[hx2] at hy;cases hy
    | some x=>
      rw[hx2] at hy;obtain rfl:strU x=y:=by simpa using hy
      have hj0:j=0:=by have:=(Array.getElem?_eq_some_iff.1 hu).1;simpa[strC] using this
      subst hj0;have:=hcell i x hx2;rw[Addr.add_mid] at this;obtain rfl:Value.string (strU x)=u:=by simpa[strC] using hu
      rw[Nat.mul_one,Nat.add_zero];exact this
end
theorem zn5 {W:World}(h:laidMetH Tryz.prog laid1 W):Tabl W:=by
  rw[MakeChecks.laidMetH_plain _ _ _ (by kernel_rfl)] at h;obtain⟨ps,⟨g0,t0,cs0,f0,p0,q0,hg0,ht0,hv0,hd0,_,_⟩,_,_⟩:=h;obtain rfl:=Option.some.inj (gRows.symm.trans hg0);obtain rfl:=Option.some.inj (tRows.symm.trans ht0);obtain⟨xs,m,rfl,hx,hlen,hn,hel⟩:=DataW.trod_array Tryz.underlying172 hd0;have hce:Tryz.prog.cellsOf 68=1:=by kernel_rfl
  have hv:=World.var?_cell hg0 hv0;have e0:(DataW.agg (rowsL.map fun l=>DataW.slice (l.map fun x=>.lit (.string x)) []):DataW Unit)=.agg (xs.map (·.1)):=by injection hx
  injection e0 with e0;have key:∀ i,i<5->∃ q:Option Addr × Nat,∀ l,rowsL[i]?=some l->W.cell? ⟨1,i,none⟩=some (.slice q.1 l.length q.2)∧RowsAt W 1 strC q.1 (l.map strU):=fun i hi=>by
    have h1:=hel i hi;rw[hce,Nat.mul_one] at h1;obtain⟨l,hl⟩:∃ l,rowsL[i]?=some l:=⟨_,List.getElem?_eq_getElem (by simpa[rowsL] using hi)⟩;have h0:0<l.length:=by
      match i,hi,hl with
      | 0,_,h=>obtain rfl:_=l:=by simpa[rowsL] using h
               decide
      | 1,_,h=>obtain rfl:_=l:=by simpa[rowsL] using h
               decide
      | 2,_,h=>obtain rfl:_=l:=by simpa[rowsL] using h
               decide
      | 3,_,h=>obtain rfl:_=l:=by simpa[rowsL] using h
               decide
      | 4,_,h=>obtain rfl:_=l:=by simpa[rowsL] using h
               decide
    have e1:=congrArg (fun y=>y[i]?) e0;simp only[List.getElem?_map,hl,Option.map_some] at e1
    cases hxi:xs[i]? with
    | none=>rw[hxi] at e1;cases e1
    | some y=>
      rw[hxi] at e1 h1;obtain⟨y1,y2⟩:=y;obtain rfl:_=y1:=by simpa using e1
      obtain⟨q,h2,h3⟩:=zn4 h0 h1;refine⟨q,fun l' hl'=>?_⟩;rw[hl] at hl';obtain rfl:l=l':=by injection hl'
      refine⟨?_,h3⟩;have:=congrArg (fun z=>z[0]?) h2;rw[hv,<-Array.getElem?_toList];simpa using this
  obtain⟨F,hF⟩:=choose_lt key;exact⟨F,fun i l hl=>hF i (by have:=(List.getElem?_eq_some_iff.1 hl).1;simpa[rowsL] using this) l hl⟩
end Go.Proofs.YtmclgbkijeidaaaGreatDoor
