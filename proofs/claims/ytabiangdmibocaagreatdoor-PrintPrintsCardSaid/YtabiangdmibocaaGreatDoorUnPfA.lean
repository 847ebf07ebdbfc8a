import Derived.Test.YtabiangdmibocaaGreatDoorUnQ
namespace Go.Proofs.YtabiangdmibocaaGreatDoor
set_option maxRecDepth 100000
set_option maxHeartbeats 4000000
open Go.RowKit
structure NdZ where
 kind:Int
 text:ByteArray
 num:Int
 kids:List Int
 pos:Int
 frm:Int
 to:Int
instance:Inhabited NdZ:=⟨⟨0,⟨#[]⟩,0,[],0,0,0⟩⟩
def toZ (d:Nd):NdZ:=⟨d.kind,d.text,d.num,d.kids.map fun n:Nat=>(n:Int),d.pos,d.frm,d.to⟩
def intZ (z:Int):Array Value:=#[.int .i64 z]
def RepZ (w:World) (N:List NdM) (Z:List NdZ):Prop:=N.length=Z.length∧∀ (i:Nat) (m:NdM) (d:NdZ),N[i]?=some m->Z[i]?=some d ->
 (m.k=d.kind∧m.x=d.text∧m.n=d.num∧m.a=d.pos∧m.f=d.frm∧m.t=d.to)∧m.kn=d.kids.length∧RowsAt w 1 intZ m.ks d.kids∧((m.ks=none->m.kn=0∧m.kc=0)∧m.kn<=m.kc∧m.kc<=maxLen)∧m.kn<=100000
theorem RepZ.below {w w':World}{N:List NdM}{Z:List NdZ}(h:RepZ w N Z)(hb:Below w.heap.size w w'):RepZ w' N Z :=
 ⟨h.1,fun i m d h1 h2=>by
  obtain⟨a,b,c,e,f⟩:=h.2 i m d h1 h2;exact⟨a,b,c.below hb,e,f⟩⟩
theorem zxw {w:World}{sp:Option Addr}{ks:List Nat}(h:RowsAt w 1 intZ sp (ks.map fun n:Nat=>(n:Int))):RowsAt w 1 intC sp ks:=fun hl=>by
 obtain⟨b,o,e,hc⟩:=h (by simpa using hl);exact⟨b,o,e,fun i x hx j u hu=>hc i (x:Int) (by rw[List.getElem?_map,hx];rfl) j u hu⟩
theorem RepZ.rep {w:World}{N:List NdM}{L:List Nd}(h:RepZ w N (L.map toZ)):Rep w (fun _=>True) N L:=by
 refine⟨by rw[h.1,List.length_map],fun i m d h1 h2=>?_⟩;obtain⟨a,b,c,e,-⟩:=h.2 i m (toZ d) h1 (by rw[List.getElem?_map,h2];rfl);exact⟨a,by rw[b];simp[toZ],zxw c,e,fun _ _=>trivial⟩
def visZ (Z:List NdZ):Nat->Int->Nat->Option Nat
 | 0,_,_=>none
 | f+1,i,q=>if i=(q:Int)∧q<Z.length then((Z.getD q default).kids).foldl (fun o k=>o.bind fun q=>visZ Z f k q) (some (q+1)) else none
def ordZ (Z:List NdZ):Bool:=visZ Z (Z.length+1) 0 0 == some Z.length
theorem zl8 (g:Int->Nat->Option Nat)(ks:List Int):ks.foldl (fun o k=>o.bind fun q=>g k q) (none:Option Nat)=none:=by
 induction ks with
 | nil=>rfl
 | cons a r ih=>exact ih
theorem zkt (Z:List NdZ):∀ (f:Nat)(i:Int)(q q':Nat),visZ Z f i q=some q'->i=(q:Int)∧∃ t:Pt,q'=q+cntP t∧∀ j d,(layP q t)[j]?=some d->Z[q+j]?=some (toZ d)
 | 0,i,q,q',h=>by cases h
 | f+1,i,q,q',h=>by
  rw[visZ] at h
  split at h
  ·rename_i hc
   obtain⟨hi,hq⟩:=hc;refine⟨hi,?_⟩;have hz:Z[q]?=some (Z.getD q default):=by rw[List.getD_eq_getElem?_getD,List.getElem?_eq_getElem hq];rfl
   generalize Z.getD q default=d at h hz;have key:∀ (ks:List Int) (p p':Nat),ks.foldl (fun o k=>o.bind fun q=>visZ Z f k q) (some p)=some p'->∃ l:List Pt,ks=(kidI p l).map (fun n:Nat=>(n:Int))∧p'=p+cntL l∧∀ j d,(layL p l)[j]?=some d->Z[p+j]?=some (toZ d):=by
    intro ks
    induction ks with
    | nil=>
     intro p p' h;have h':some p=some p':=h;injection h' with h';exact⟨[],by rw[kidI];rfl,by rw[cntL];omega,fun j d hd=>by rw[layL] at hd;simp at hd⟩
    | cons k r ih=>
     intro p p' h;rw[List.foldl_cons] at h
     cases hv:visZ Z f k p with
     | none=>
      have h':r.foldl (fun o k=>o.bind fun q=>visZ Z f k q) ((some p).bind fun q=>visZ Z f k q)=some p':=h;rw[Option.bind_some,hv,zl8] at h'
      cases h'
     | some p1=>
      have h':r.foldl (fun o k=>o.bind fun q=>visZ Z f k q) ((some p).bind fun q=>visZ Z f k q)=some p':=h;rw[Option.bind_some,hv] at h';obtain⟨hk,t,ht,he⟩:=zkt Z f k p p1 hv;obtain⟨l,h1,h2,h3⟩:=ih p1 p' h';refine⟨t::l,?_,?_,?_⟩
      ·rw[kidI,List.map_cons,<-ht,<-h1,hk]
      ·rw[cntL];omega
      ·intro j d hd;rw[layL] at hd
       by_cases hj:j<(layP p t).length
       ·rw[List.getElem?_append_left hj] at hd;exact he j d hd
       ·rw[List.getElem?_append_right (by omega),zbt,<-ht] at hd;have:=h3 (j - cntP t) d hd;rw[zbt] at hj;rw[show p+j=p1+(j - cntP t) by omega];exact this
   obtain⟨l,h1,h2,h3⟩:=key d.kids (q+1) q' h;refine⟨.mk d.kind d.text d.num d.pos d.frm d.to l,by rw[cntP];omega,fun j e he=>?_⟩;rw[layP] at he
   cases j with
   | zero=>
    have:(⟨d.kind,d.text,d.num,kidI (q+1) l,d.pos,d.frm,d.to⟩:Nd)=e:=by simpa using he
    rw[<-this,Nat.add_zero,hz];show some d=some ⟨d.kind,d.text,d.num,_,d.pos,d.frm,d.to⟩;rw[<-h1]
   | succ j=>
    rw[List.getElem?_cons_succ] at he;have:=h3 j e he;rw[show q+(j+1)=q+1+j by omega];exact this
  ·cases h
theorem zxx {Z:List NdZ}(h:ordZ Z=true):∃ t:Pt,Z=(layP 0 t).map toZ:=by
 unfold ordZ at h;rw[beq_iff_eq] at h;obtain⟨-,t,h1,h2⟩:=zkt Z _ _ _ _ h;refine⟨t,?_⟩;apply List.ext_getElem?;intro j;rw[List.getElem?_map]
 cases hd:(layP 0 t)[j]? with
 | some d=>
  have:=h2 j d hd;rw[Nat.zero_add] at this;rw[this];rfl
 | none=>
  have hj:(layP 0 t).length<=j:=by
   by_cases hh:j<(layP 0 t).length
   ·rw[List.getElem?_eq_getElem hh] at hd;cases hd
   ·omega
  rw[zbt] at hj;rw[List.getElem?_eq_none (by omega)];rfl
theorem z4w (Z:List NdZ):∀ (f:Nat)(i:Int)(q q':Nat),visZ Z f i q=some q'->q+1<=q':=fun f i q q' h=>by
 obtain⟨-,t,h1,-⟩:=zkt Z f i q q' h;have:=zdp t;omega
structure EnZ (w0:World) (nv:Value) (Z:List NdZ):Prop where
 x:∃ sn cn N,nv=.slice sn Z.length cn∧RowsAt w0 7 NdM.cells sn N∧RepZ w0 N Z
 l:Z.length<=100000
theorem EnZ.below {w0 w:World}{nv:Value}{Z:List NdZ}(h:EnZ w0 nv Z)(hb:Below w0.heap.size w0 w):EnZ w nv Z:=by
 obtain⟨sn,cn,N,e,h1,h2⟩:=h.x;exact⟨⟨sn,cn,N,e,h1.below hb,h2.below hb⟩,h.l⟩
theorem zqp {w0:World}{sn:Option Addr}{cn:Nat}{Z:List NdZ}(hE:EnZ w0 (.slice sn Z.length cn) Z):∀ (f:Nat)(i:Int)(q:Nat)(w:World),Z.length<q+f->q<=Z.length->Vis w0 sn cn Z.length w q ->
  Calls Tryz.prog 112 #[.int .i64 i,.pointer (some ⟨w0.heap.size+1,0,none⟩),.pointer (some ⟨w0.heap.size,0,none⟩),.pointer (some ⟨w0.heap.size+1+1,0,none⟩)] w fun e w'=>e=.returned (.bool (visZ Z f i q).isSome)∧∃ q',Vis w0 sn cn Z.length w' q'∧(visZ Z f i q=some q'∨visZ Z f i q=none)∧q'<=Z.length:=by
 intro f
 induction f with
 | zero=>intro i q w h hq;omega
 | succ f ih=>
  intro i q w hz hql hv;have HIH:Hid (∀ (i:Int) (q:Nat) (w:World),Z.length<q+f->q<=Z.length->Vis w0 sn cn Z.length w q ->
   Calls Tryz.prog 112 #[.int .i64 i,.pointer (some ⟨w0.heap.size+1,0,none⟩),.pointer (some ⟨w0.heap.size,0,none⟩),.pointer (some ⟨w0.heap.size+1+1,0,none⟩)] w fun e w'=>e=.returned (.bool (visZ Z f i q).isSome)∧∃ q',Vis w0 sn cn Z.length w' q'∧(visZ Z f i q=some q'∨visZ Z f i q=none)∧q'<=Z.length):=ih
  have HVD:Hid (visZ Z (f+1) i q=if i=(q:Int)∧q<Z.length then((Z.getD q default).kids).foldl (fun o k=>o.bind fun q=>visZ Z f k q) (some (q+1)) else none):=by show _=_;rw[visZ]
  have hLl:=hE.l;have cq:w.cell? ⟨w0.heap.size+1,0,none⟩=some (.int .i64 q):=(cell_of_row _ _ 0 _ _ _ hv.n).trans rfl;have zq:w.frozen? ⟨w0.heap.size+1,0,none⟩=false:=frozen_of_row _ _ 0 _ _ hv.n;have ct:w.cell? ⟨w0.heap.size,0,none⟩=some (.slice sn Z.length cn):=(cell_of_row _ _ 0 _ _ _ hv.t).trans rfl;have HV:=hid hv;have HE:=hid hE;generalize visZ Z (f+1) i q=R at HVD ⊢;clear hE hv ih
  cases z1:(i == (q:Int))
  ·have HR:Hid (R=none):=by
    show _=_;rw[HVD.out,if_neg (fun h=>by rw[h.1] at z1;simp at z1)]
   have z1':(i != (q:Int))=true:=by simp[bne,z1]
   go_enter Tryz.func112,Tryz.ntmps112
   go_wp2
   go_ret
   exact⟨by rw[HR.out];rfl,q,HV.out,.inr HR.out,hql⟩
  have hiq:i=(q:Int):=by simpa using z1
  subst hiq;clear z1
  by_cases hq:q<Z.length
  rotate_left
  ·have HR:Hid (R=none):=by
    show _=_;rw[HVD.out,if_neg (fun h=>hq h.2)]
   have hge:decide ((Z.length:Int)<=q)=true:=by simp;omega
   have z1':((q:Int) != (q:Int))=false:=by simp
   go_enter Tryz.func112,Tryz.ntmps112
   go_wp2
   go_ret
   exact⟨by rw[HR.out];rfl,q,HV.out,.inr HR.out,hql⟩
  obtain⟨sn',cn',N,hnv,hN,hR⟩:=HE.out.x;injection hnv with e1 _ e2;subst e1 e2;have hz0:Z[q]?=some (Z.getD q default):=by rw[List.getD_eq_getElem?_getD,List.getElem?_eq_getElem hq];rfl
  generalize Z.getD q default=d at HVD hz0;obtain⟨m,hm⟩:∃ m,N[q]?=some m:=⟨_,List.getElem?_eq_getElem (by have:=hR.1;omega)⟩;obtain⟨-,h2,h3,-,hkn⟩:=hR.2 q m _ hm hz0;obtain⟨bn,on,hsn,-⟩:=hN (by have:=hR.1;omega);subst hsn;have HRR:Hid (R=(d.kids).foldl (fun o k=>o.bind fun q=>visZ Z f k q) (some (q+1))):=by
   show _=_;rw[HVD.out,if_pos ⟨rfl,hq⟩]
  have c3:=(zai (hN.below (HV.out.set (q+1)).b) hm).2.2.2.1;rw[h2,Int.natCast_add,show((1:Nat):Int)=1 from rfl] at c3;have ct':(w.setCell ⟨w0.heap.size+1,0,none⟩ (.int .i64 (q+1))).cell? ⟨w0.heap.size,0,none⟩=some (.slice (some ⟨bn,on,none⟩) Z.length cn):=(cell_of_row _ _ 0 _ _ _ (HV.out.set (q+1)).t).trans rfl;have hge:decide ((Z.length:Int)<=q)=false:=by simp;omega
  have hlt0:decide ((q:Int)<Z.length)=true:=by simp;omega
  have z1':((q:Int) != (q:Int))=false:=by simp
  have HK:=hid h3;have hkl:d.kids.length<=100000:=by omega
  have HS:Hid (Vis w0 (some ⟨bn,on,none⟩) cn Z.length (w.setCell ⟨w0.heap.size+1,0,none⟩ (.int .i64 (q+1))) (q+1)):=HV.out.set (q+1);clear hN hR hm h2 h3 hz0 HVD hkn
  go_enter Tryz.func112,Tryz.ntmps112
  go_wp2_with fail
  clear c3 ct ct' cq zq
  go_loopw [27] (fun u wr=>∃ j p:Nat,j<=d.kids.length∧u=.int .i64 j∧Vis w0 (some ⟨bn,on,none⟩) cn Z.length wr p∧q+1<=p∧p<=Z.length∧(d.kids.take j).foldl (fun o k=>o.bind fun q=>visZ Z f k q) (some (q+1))=some p) (fun u _=>d.kids.length - (intOf u).toNat)
  case atStart=>exact⟨0,q+1,Nat.zero_le _,rfl,HS.out,Nat.le_refl _,hq,rfl⟩
  case round=>
   obtain⟨j,p,hj,rfl,hvis,hp1,hp2,hfo⟩:=hrel;have HVI:=hid hvis;have HFO:Hid _:=hfo;clear hvis hfo
   by_cases hlt:j<d.kids.length
   ·have hd:decide ((j:Int)<d.kids.length)=true:=by simp;omega
    obtain⟨k,hk⟩:∃ k,d.kids[j]?=some k:=⟨_,List.getElem?_eq_getElem hlt⟩;have hrk:=HK.out.below HVI.out.b;obtain⟨b,o,hks,hc⟩:=hrk (by omega);have kc:=hc j k hk 0 (.int .i64 k) rfl;simp only[Nat.mul_one,Nat.add_zero] at kc;have HTK:Hid ((d.kids.take (j+1)).foldl (fun o k=>o.bind fun q=>visZ Z f k q) (some (q+1))=visZ Z f k p):=by
     show _=_;rw[List.take_add_one,hk];show((d.kids.take j)++[k]).foldl _ _=_;rw[List.foldl_append,HFO.out];rfl
    have HRN:Hid (visZ Z f k p=none->R=none):=fun h=>by
     rw[HRR.out];have e:d.kids=d.kids.take (j+1)++d.kids.drop (j+1):=(List.take_append_drop _ _).symm;rw[e,List.foldl_append,HTK.out,h];exact zl8 _ _
    have HC:=HIH.out k p wr (by omega) hp2 HVI.out;have cv:wr.cell? ⟨w0.heap.size+1+1,0,none⟩=some (.func (.func 112) #[] #[.pointer (some ⟨w0.heap.size+1,0,none⟩),.pointer (some ⟨w0.heap.size,0,none⟩),.pointer (some ⟨w0.heap.size+1+1,0,none⟩)]):=(cell_of_row _ _ 0 _ _ _ HVI.out.v).trans rfl;have hcf:=zga;have HKS:Hid _:=hks;have HUP:Hid (∀ p',visZ Z f k p=some p'->q+1<=p'):=fun p' h=>by have:=z4w Z f k p p' h;omega
    generalize visZ Z f k p=Rk at *;clear hk hrk hks hc;rw[HKS.out]
    go_wp2_with fail
    refine HC.mono ?_;rintro e W2 ⟨rfl,p',hv2,hor,hp3⟩;have HV2:=hid hv2;clear hv2 HC cv kc
    cases Rk with
    | none=>
     have HRz:Hid (R=none):=HRN.out rfl;simp only[Option.isSome_none]
     go_wp2
     go_ret
     exact⟨by rw[HRz.out];rfl,p',HV2.out,.inr HRz.out,hp3⟩
    | some p2=>
     have hpe:p2=p':=by
      rcases hor with h|h
      ·injection h
      ·cases h
     subst hpe;have HU:Hid (q+1<=p2):=HUP.out p2 rfl;simp only[Option.isSome_some];clear hor
     go_wp2
     exact⟨⟨j+1,p2,by omega,by go_num,HV2.out,HU.out,hp3,HTK.out⟩,by simp[intOf];omega⟩
   ·have hd:decide ((j:Int)<d.kids.length)=false:=by simp;omega
    have HRz:Hid (R=some p):=by
     show _=_;rw[HRR.out];have:=HFO.out;rw[List.take_of_length_le (by omega)] at this;exact this
    go_wp2
    go_ret
    exact⟨by rw[HRz.out];rfl,p,HVI.out,.inl HRz.out,hp2⟩
end Go.Proofs.YtabiangdmibocaaGreatDoor
