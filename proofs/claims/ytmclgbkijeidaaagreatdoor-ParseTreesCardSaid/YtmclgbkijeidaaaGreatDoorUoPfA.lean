import Derived.Test.YtmclgbkijeidaaaGreatDoorUoQ
namespace Go.Proofs.YtmclgbkijeidaaaGreatDoor
set_option maxRecDepth 100000
set_option maxHeartbeats 4000000
open Go.RowKit
structure NdZ where
 kind:Int
 text:ByteArray
 num:Int
 kids:List Int
 pos:Int
 frm:Int
 to:Int
instance:Inhabited NdZ:=⟨⟨0,⟨#[]⟩,0,[],0,0,0⟩⟩
def toZ (d:Nd):NdZ:=⟨d.kind,d.text,d.num,d.kids.map fun n:Nat=>(n:Int),d.pos,d.frm,d.to⟩
def intZ (z:Int):Array Value:=#[.int .i64 z]
def RepZ (w:World) (N:List NdM) (Z:List NdZ):Prop:=N.length=Z.length∧∀ (i:Nat) (m:NdM) (d:NdZ),N[i]?=some m->Z[i]?=some d ->
 (m.k=d.kind∧m.x=d.text∧m.n=d.num∧m.a=d.pos∧m.f=d.frm∧m.t=d.to)∧m.kn=d.kids.length∧RowsAt w 1 intZ m.ks d.kids∧((m.ks=none->m.kn=0∧m.kc=0)∧m.kn<=m.kc∧m.kc<=maxLen)∧m.kn<=100000
theorem RepZ.below {w w':World}{N:List NdM}{Z:List NdZ}(h:RepZ w N Z)(hb:Below w.heap.size w w'):RepZ w' N Z :=
 ⟨h.1,fun i m d y A=>by
  obtain⟨a,b,c,e,f⟩:=h.2 i m d y A;exact⟨a,b,c.below hb,e,f⟩⟩
theorem zwe {w:World}{sp:Option Addr}{ks:List Nat}(h:RowsAt w 1 intZ sp (ks.map fun n:Nat=>(n:Int))):RowsAt w 1 intC sp ks:=fun hl=>by
 obtain⟨b,o,e,hc⟩:=h (by simpa using hl);exact⟨b,o,e,fun i x hx j u hu=>hc i (x:Int) (by rw[List.getElem?_map,hx];rfl) j u hu⟩
theorem RepZ.rep {w:World}{N:List NdM}{L:List Nd}(h:RepZ w N (L.map toZ)):Rep w (fun _=>True) N L:=by
 refine⟨by rw[h.1,List.length_map],fun i m d y A=>?_⟩;obtain⟨a,b,c,e,-⟩:=h.2 i m (toZ d) y (by rw[List.getElem?_map,A];rfl);exact⟨a,by rw[b];simp[toZ],zwe c,e,fun _ _=>trivial⟩
def visZ (Z:List NdZ):Nat->Int->Nat->Option Nat
 | 0,_,_=>none
 | f+1,i,q=>if i=(q:Int)∧q<Z.length then((Z.getD q default).kids).foldl (fun o k=>o.bind fun q=>visZ Z f k q) (some (q+1)) else none
def ordZ (Z:List NdZ):Bool:=visZ Z (Z.length+1) 0 0 == some Z.length
theorem zl9 (g:Int->Nat->Option Nat)(ks:List Int):ks.foldl (fun o k=>o.bind fun q=>g k q) (none:Option Nat)=none:=by
 induction ks with
 | nil=>rfl
 | cons a r ih=>exact ih
theorem zk3 (Z:List NdZ):∀ (f:Nat)(i:Int)(q q':Nat),visZ Z f i q=some q'->i=(q:Int)∧∃ t:Pt,q'=q+cntP t∧∀ j d,(layP q t)[j]?=some d->Z[q+j]?=some (toZ d)
 | 0,i,q,q',h=>by cases h
 | f+1,i,q,q',h=>by
  rw[visZ] at h
  split at h
  ·rename_i hc
   obtain⟨hi,hq⟩:=hc;refine⟨hi,?_⟩;have hz:Z[q]?=some (Z.getD q default):=by rw[List.getD_eq_getElem?_getD,Yh hq];rfl
   generalize Z.getD q default=d at h hz;have M:∀ (D:List Int) (p A:Nat),D.foldl (fun o k=>o.bind fun q=>visZ Z f k q) (some p)=some A->∃ l:List Pt,D=(kidI p l).map (fun n:Nat=>(n:Int))∧A=p+cntL l∧∀ j d,(layL p l)[j]?=some d->Z[p+j]?=some (toZ d):=by
    intro D
    induction D with
    | nil=>
     intro p A h;have y:some p=some A:=h;injection y with y;exact⟨[],by rw[kidI];rfl,by rw[cntL];omega,fun j d hd=>by rw[layL] at hd;simp at hd⟩
    | cons k r ih=>
     intro p A h;rw[List.foldl_cons] at h
     cases hv:visZ Z f k p with
     | none=>
      have y:r.foldl (fun o k=>o.bind fun q=>visZ Z f k q) ((some p).bind fun q=>visZ Z f k q)=some A:=h;rw[Option.bind_some,hv,zl9] at y
      cases y
     | some p1=>
      have y:r.foldl (fun o k=>o.bind fun q=>visZ Z f k q) ((some p).bind fun q=>visZ Z f k q)=some A:=h;rw[Option.bind_some,hv] at y;obtain⟨K,t,I,C⟩:=zk3 Z f k p p1 hv;obtain⟨l,E,N,F⟩:=ih p1 A y;refine⟨t::l,?_,?_,?_⟩
      ·rw[kidI,List.map_cons,<-I,<-E,K]
      ·rw[cntL];omega
      ·intro j d hd;rw[layL] at hd
       by_cases hj:j<(layP p t).length
       ·rw[List.getElem?_append_left hj] at hd;exact C j d hd
       ·rw[List.getElem?_append_right (by omega),zco,<-I] at hd;have:=F (j - cntP t) d hd;rw[zco] at hj;rw[show p+j=p1+(j - cntP t) by omega];exact this
   obtain⟨l,E,N,F⟩:=M d.kids (q+1) q' h;refine⟨.mk d.kind d.text d.num d.pos d.frm d.to l,by rw[cntP];omega,fun j e C=>?_⟩;rw[layP] at C
   cases j with
   | zero=>
    have:(⟨d.kind,d.text,d.num,kidI (q+1) l,d.pos,d.frm,d.to⟩:Nd)=e:=by simpa using C
    rw[<-this,Nat.add_zero,hz];show some d=some ⟨d.kind,d.text,d.num,_,d.pos,d.frm,d.to⟩;rw[<-E]
   | succ j=>
    rw[List.getElem?_cons_succ] at C;have:=F j e C;rw[show q+(j+1)=q+1+j by omega];exact this
  ·cases h
theorem zwf {Z:List NdZ}(h:ordZ Z=true):∃ t:Pt,Z=(layP 0 t).map toZ:=by
 unfold ordZ at h;rw[beq_iff_eq] at h;obtain⟨-,t,C,A⟩:=zk3 Z _ _ _ _ h;refine⟨t,?_⟩;apply List.ext_getElem?;intro j;rw[List.getElem?_map]
 cases hd:(layP 0 t)[j]? with
 | some d=>
  have:=A j d hd;rw[Nat.zero_add] at this;rw[this];rfl
 | none=>
  have y:(layP 0 t).length<=j:=by
   by_cases hh:j<(layP 0 t).length
   ·rw[Yh hh] at hd;cases hd
   ·omega
  rw[zco] at y;rw[List.getElem?_eq_none (by omega)];rfl
theorem z1a (Z:List NdZ):∀ (f:Nat)(i:Int)(q q':Nat),visZ Z f i q=some q'->q+1<=q':=fun f i q q' h=>by
 obtain⟨-,t,h1,-⟩:=zk3 Z f i q q' h;have:=zd3 t;omega
structure EnZ (w0:World) (nv:Value) (Z:List NdZ):Prop where
 x:∃ sn cn N,nv=.slice sn Z.length cn∧RowsAt w0 7 NdM.cells sn N∧RepZ w0 N Z
 l:Z.length<=100000
theorem EnZ.below {w0 w:World}{nv:Value}{Z:List NdZ}(h:EnZ w0 nv Z)(hb:Below w0.heap.size w0 w):EnZ w nv Z:=by
 obtain⟨y,A,N,e,C,D⟩:=h.x;exact⟨⟨y,A,N,e,C.below hb,D.below hb⟩,h.l⟩
theorem zqc {w0:World}{sn:Option Addr}{cn:Nat}{Z:List NdZ}(hE:EnZ w0 (.slice sn Z.length cn) Z):∀ (f:Nat)(i:Int)(q:Nat)(w:World),Z.length<q+f->q<=Z.length->Vis w0 sn cn Z.length w q ->
  Calls Tryz.prog 84 #[.int .i64 i,.pointer (some ⟨w0.heap.size+1,0,none⟩),.pointer (some ⟨w0.heap.size,0,none⟩),.pointer (some ⟨w0.heap.size+1+1,0,none⟩)] w fun e w'=>e=.returned (.bool (visZ Z f i q).isSome)∧∃ q',Vis w0 sn cn Z.length w' q'∧(visZ Z f i q=some q'∨visZ Z f i q=none)∧q'<=Z.length:=by
 intro f
 induction f with
 | zero=>intro i q w h C;omega
 | succ f ih=>
  intro i q w hz ab E;have aw:Hid (∀ (i:Int) (q:Nat) (w:World),Z.length<q+f->q<=Z.length->Vis w0 sn cn Z.length w q ->
   Calls Tryz.prog 84 #[.int .i64 i,.pointer (some ⟨w0.heap.size+1,0,none⟩),.pointer (some ⟨w0.heap.size,0,none⟩),.pointer (some ⟨w0.heap.size+1+1,0,none⟩)] w fun e w'=>e=.returned (.bool (visZ Z f i q).isSome)∧∃ q',Vis w0 sn cn Z.length w' q'∧(visZ Z f i q=some q'∨visZ Z f i q=none)∧q'<=Z.length):=ih
  have A:Hid (visZ Z (f+1) i q=if i=(q:Int)∧q<Z.length then((Z.getD q default).kids).foldl (fun o k=>o.bind fun q=>visZ Z f k q) (some (q+1)) else none):=by show _=_;rw[visZ]
  have aF:=hE.l;have cq:w.cell? ⟨w0.heap.size+1,0,none⟩=some (.int .i64 q):=Yp 0 E.n rfl;have zq:w.frozen? ⟨w0.heap.size+1,0,none⟩=false:=Yj _ _ 0 _ _ E.n;have ct:w.cell? ⟨w0.heap.size,0,none⟩=some (.slice sn Z.length cn):=Yp 0 E.t rfl;have F:=J E;have HE:=J hE;generalize visZ Z (f+1) i q=R at A ⊢;clear hE E ih
  cases z1:(i == (q:Int))
  ·have I:Hid (R=none):=by
    show _=_;rw[A.out,if_neg (fun h=>by rw[h.1] at z1;simp at z1)]
   have aa:(i != (q:Int))=true:=by simp[bne,z1]
   go_enter Tryz.func84,Tryz.ntmps84
   go_wp2
   go_ret
   exact⟨by rw[I.out];rfl,q,F.out,.inr I.out,ab⟩
  have ay:i=(q:Int):=by simpa using z1
  subst ay;clear z1
  by_cases C:q<Z.length
  rotate_left
  ·have I:Hid (R=none):=by
    show _=_;rw[A.out,if_neg (fun h=>C h.2)]
   have au:decide ((Z.length:Int)<=q)=true:=by simp;omega
   have aa:((q:Int) != (q:Int))=false:=by simp
   go_enter Tryz.func84,Tryz.ntmps84
   go_wp2
   go_ret
   exact⟨by rw[I.out];rfl,q,F.out,.inr I.out,ab⟩
  obtain⟨aE,aC,N,az,X,hR⟩:=HE.out.x;injection az with e1 _ e2;subst e1 e2;have V:Z[q]?=some (Z.getD q default):=by rw[List.getD_eq_getElem?_getD,Yh C];rfl
  generalize Z.getD q default=d at A V;obtain⟨m,U⟩:∃ m,N[q]?=some m:=⟨_,Yh (by have:=hR.1;omega)⟩;obtain⟨-,h2,h3,-,aq⟩:=hR.2 q m _ U V;obtain⟨Y,on,av,-⟩:=X (by have:=hR.1;omega);subst av;have ai:Hid (R=(d.kids).foldl (fun o k=>o.bind fun q=>visZ Z f k q) (some (q+1))):=by
   show _=_;rw[A.out,if_pos ⟨rfl,C⟩]
  have c3:=(za5 (X.below (F.out.set (q+1)).b) U).2.2.2.1;rw[h2,Int.natCast_add,show((1:Nat):Int)=1 from rfl] at c3;have ap:(w.setCell ⟨w0.heap.size+1,0,none⟩ (.int .i64 (q+1))).cell? ⟨w0.heap.size,0,none⟩=some (.slice (some ⟨Y,on,none⟩) Z.length cn):=(Yc _ _ 0 _ _ _ (F.out.set (q+1)).t).trans rfl;have au:decide ((Z.length:Int)<=q)=false:=by simp;omega
  have aG:decide ((q:Int)<Z.length)=true:=by simp;omega
  have aa:((q:Int) != (q:Int))=false:=by simp
  have HK:=J h3;have aD:d.kids.length<=100000:=by omega
  have HS:Hid (Vis w0 (some ⟨Y,on,none⟩) cn Z.length (w.setCell ⟨w0.heap.size+1,0,none⟩ (.int .i64 (q+1))) (q+1)):=F.out.set (q+1);clear X hR U h2 h3 V A aq
  go_enter Tryz.func84,Tryz.ntmps84
  go_wp2_with fail
  clear c3 ct ap cq zq
  go_loopw [27] (fun u wr=>∃ j p:Nat,j<=d.kids.length∧u=.int .i64 j∧Vis w0 (some ⟨Y,on,none⟩) cn Z.length wr p∧q+1<=p∧p<=Z.length∧(d.kids.take j).foldl (fun o k=>o.bind fun q=>visZ Z f k q) (some (q+1))=some p) (fun u _=>d.kids.length - (intOf u).toNat)
  case atStart=>exact⟨0,q+1,Yk _,rfl,HS.out,Ya _,C,rfl⟩
  case round=>
   obtain⟨j,p,hj,rfl,ag,aH,al,af⟩:=hrel;have K:=J ag;have am:Hid _:=af;clear ag af
   by_cases hlt:j<d.kids.length
   ·have hd:decide ((j:Int)<d.kids.length)=true:=by simp;omega
    obtain⟨k,M⟩:∃ k,d.kids[j]?=some k:=⟨_,Yh hlt⟩;have an:=HK.out.below K.out.b;obtain⟨b,o,ao,hc⟩:=an (by omega);have kc:=hc j k M 0 (.int .i64 k) rfl;simp only[Nat.mul_one,Nat.add_zero] at kc;have aj:Hid ((d.kids.take (j+1)).foldl (fun o k=>o.bind fun q=>visZ Z f k q) (some (q+1))=visZ Z f k p):=by
     show _=_;rw[List.take_add_one,M];show((d.kids.take j)++[k]).foldl _ _=_;rw[List.foldl_append,am.out];rfl
    have ax:Hid (visZ Z f k p=none->R=none):=fun h=>by
     rw[ai.out];have e:d.kids=d.kids.take (j+1)++d.kids.drop (j+1):=(List.take_append_drop _ _).symm;rw[e,List.foldl_append,aj.out,h];exact zl9 _ _
    have HC:=aw.out k p wr (by omega) al K;have cv:wr.cell? ⟨w0.heap.size+1+1,0,none⟩=some (.func (.func 84) #[] #[.pointer (some ⟨w0.heap.size+1,0,none⟩),.pointer (some ⟨w0.heap.size,0,none⟩),.pointer (some ⟨w0.heap.size+1+1,0,none⟩)]):=Yp 0 K.out.v rfl;have aI:=zhe;have ar:Hid _:=ao;have aB:Hid (∀ y,visZ Z f k p=some y->q+1<=y):=fun y h=>by have:=z1a Z f k p y h;omega
    generalize visZ Z f k p=Rk at *;clear M an ao hc;rw[ar.out]
    go_wp2_with fail
    refine HC.mono ?_;rintro e W2 ⟨rfl,y,ac,ak,ah⟩;have ae:=J ac;clear ac HC cv kc
    cases Rk with
    | none=>
     have D:Hid (R=none):=ax.out rfl;simp only[Option.isSome_none]
     go_wp2
     go_ret
     exact⟨by rw[D.out];rfl,y,ae.out,.inr D.out,ah⟩
    | some p2=>
     have aA:p2=y:=by
      rcases ak with h|h
      ·injection h
      ·cases h
     subst aA;have HU:Hid (q+1<=p2):=aB.out p2 rfl;simp only[Option.isSome_some];clear ak
     go_wp2
     exact⟨⟨j+1,p2,by omega,by go_num,ae.out,HU.out,ah,aj.out⟩,by simp[intOf];omega⟩
   ·have hd:decide ((j:Int)<d.kids.length)=false:=by simp;omega
    have D:Hid (R=some p):=by
     show _=_;rw[ai.out];have:=am.out;rw[List.take_of_length_le (by omega)] at this;exact this
    go_wp2
    go_ret
    exact⟨by rw[D.out];rfl,p,K.out,.inl D.out,al⟩
end Go.Proofs.YtmclgbkijeidaaaGreatDoor
