import Derived.Test.YtmclgbkijeidaaaGreatDoorUnE
namespace Go.Proofs.YtmclgbkijeidaaaGreatDoor
set_option maxRecDepth 100000
set_option maxHeartbeats 4000000
open Go.RowKit
structure Qdr (T:Nat) (w:World) (g:Nat) (st:Option Addr) (cap:Nat) (ts:List Tok) (p:Nat) (bad:Bool):Prop where
 row:w.heap[g]?=some (.cells #[.slice st ts.length cap,.int .i64 p,.bool bad] 60 (0,0))
 le:p<=ts.length
 few:ts.length<=100000
 ok:∀ t ∈ ts,-1000000000000000000<=t.pos∧t.pos<=1000000000000000000∧t.text.size<=100000
 hg:g<T
 hT:T<=w.heap.size
 env:∀ W:World,(∀ k,k<T->k≠g->W.heap[k]?=w.heap[k]?)->RowsT W st ts
section
variable {T:Nat}{w w':World}{g:Nat}{st:Option Addr}{cap:Nat}{ts:List Tok}{p q:Nat}{bad bd:Bool}
theorem Qdr.lt (h:Qdr T w g st cap ts p bad):g<w.heap.size:=zaa h.row
theorem Qdr.stay (h:Qdr T w g st cap ts p bad)(hs:w.heap.size<=w'.heap.size)(hw:∀ k,k<T->k≠g->w'.heap[k]?=w.heap[k]?)(hr:w'.heap[g]?=some (.cells #[.slice st ts.length cap,.int .i64 q,.bool bd] 60 (0,0)))(hq:q<=ts.length):Qdr T w' g st cap ts q bd :=
 ⟨hr,hq,h.few,h.ok,h.hg,Nat.le_trans h.hT hs,fun W hW=>h.env W fun k hk hkg=>(hW k hk hkg).trans (hw k hk hkg)⟩
theorem Qdr.keep (h:Qdr T w g st cap ts p bad)(hw:w.grownBy w' (some g))(hr:w'.heap[g]?=some (.cells #[.slice st ts.length cap,.int .i64 q,.bool bd] 60 (0,0)))(hq:q<=ts.length):Qdr T w' g st cap ts q bd :=
 h.stay hw.size (fun k hk hkg=>hw.block k (Nat.lt_of_lt_of_le hk h.hT) fun e=>hkg (by injection e)) hr hq
theorem Qdr.below {B:Nat}(h:Qdr T w g st cap ts p bad)(hT:T<=B)(hb:Below B w w'):Qdr T w' g st cap ts p bad :=
 h.stay hb.size (fun k hk _=>hb.block k (by omega)) ((hb.block _ (Nat.lt_of_lt_of_le h.hg hT)).trans h.row) h.le
theorem Qdr.low (h:Qdr T w g st cap ts p bad)(hb:Below w.heap.size w w'):Qdr T w' g st cap ts p bad:=h.below h.hT hb
theorem Qdr.c0 (h:Qdr T w g st cap ts p bad):w.cell? ⟨g,0,none⟩=some (.slice st ts.length cap):=(cell_of_row _ _ _ _ _ _ h.row).trans rfl
theorem Qdr.c1 (h:Qdr T w g st cap ts p bad):w.cell? ⟨g,1,none⟩=some (.int .i64 p):=(cell_of_row _ _ _ _ _ _ h.row).trans rfl
theorem Qdr.c2 (h:Qdr T w g st cap ts p bad):w.cell? ⟨g,2,none⟩=some (.bool bad):=(cell_of_row _ _ _ _ _ _ h.row).trans rfl
theorem Qdr.z (h:Qdr T w g st cap ts p bad)(j:Nat):w.frozen? ⟨g,j,none⟩=false:=frozen_of_row _ _ _ _ _ h.row
theorem Qdr.go (h:Qdr T w g st cap ts p bad)(hq:q<=ts.length):Qdr T (w.setCell ⟨g,1,none⟩ (.int .i64 q)) g st cap ts q bad:=by
 have hb:=(Below.refl 0 w).setCell (p:=⟨g,1,none⟩) (Nat.zero_le _) (.int .i64 q);refine h.keep ⟨hb.os,hb.tape,hb.output,hb.size,fun k hk hkg=>heap_setCell_other _ _ _ _ fun e=>hkg (by rw[show k=g from e])⟩ ?_ hq;exact heap_setCell_same _ _ 1 _ _ _ h.row
theorem Qdr.wrong (h:Qdr T w g st cap ts p bad):Qdr T (w.setCell ⟨g,2,none⟩ (.bool true)) g st cap ts p true:=by
 have hb:=(Below.refl 0 w).setCell (p:=⟨g,2,none⟩) (Nat.zero_le _) (.bool true);refine h.keep ⟨hb.os,hb.tape,hb.output,hb.size,fun k hk hkg=>heap_setCell_other _ _ _ _ fun e=>hkg (by rw[show k=g from e])⟩ ?_ h.le;exact heap_setCell_same _ _ 2 _ _ _ h.row
theorem Qdr.tok (h:Qdr T w g st cap ts p bad){i:Nat}(hi:i<ts.length):∃ b o,st=some ⟨b,o,none⟩∧w.cell? ⟨b,o+i * 3,none⟩=some (.int .i64 (nxT ts i).kind)∧w.cell? ⟨b,o+i * 3+1,none⟩=some (.string (nxT ts i).text)∧w.cell? ⟨b,o+i * 3+2,none⟩=some (.int .i64 (nxT ts i).pos):=by
 have hr:=h.env w fun _ _ _=>rfl;obtain⟨b,o,e,-⟩:=hr (by omega);subst e;have hx:ts[i]?=some (nxT ts i):=by unfold nxT;rw[List.getD_eq_getElem?_getD,List.getElem?_eq_getElem hi];rfl
 exact⟨b,o,rfl,zcn hr hx⟩
theorem Qdr.bound (h:Qdr T w g st cap ts p bad)(i:Nat):-1000000000000000000<=(nxT ts i).pos∧(nxT ts i).pos<=1000000000000000000∧(nxT ts i).text.size<=100000:=by
 by_cases hi:i<ts.length
 ·refine h.ok _ ?_;unfold nxT;rw[List.getD_eq_getElem?_getD,List.getElem?_eq_getElem hi];exact List.getElem_mem hi
 ·rw[zm3 hi];exact⟨by decide,by decide,by decide⟩
theorem zje (hR:Qdr T w g st cap ts p bad) :
  Calls Tryz.prog 51 #[.pointer (some ⟨g,0,none⟩)] w fun e w'=>e=.returned (.int .i64 (behI ts p))∧Below w.heap.size w w':=by
 have c0:=hR.c0;have c1:=hR.c1;have hle:=hR.le;have hfe:=hR.few;obtain⟨q1,q2,q3⟩:=hR.bound (p - 1)
 by_cases h:p=0
 ·subst h;clear hR
  go_enter Tryz.func51,Tryz.ntmps51
  go_wp2
  go_ret
  exact⟨rfl,Below.refl _ _⟩
 ·have hb:behI ts p=(nxT ts (p - 1)).pos+(nxT ts (p - 1)).text.size:=by unfold behI;rw[if_neg h]
  obtain⟨b,o,rfl,k0,k1,k2⟩:=hR.tok (show p - 1<ts.length by omega);have HBI:Hid _:=hb;obtain⟨m,rfl⟩:∃ m,p=m+1:=⟨p - 1,by omega⟩;rw[Nat.add_sub_cancel] at HBI q1 q2 q3 k0 k1 k2;clear hR hb h;have h0:((((m+1:Nat):Int)) == 0)=false:=by rw[beq_eq_false_iff_ne];omega
  have h1:(((m+1:Nat):Int)) - 1=m:=by omega
  go_enter Tryz.func51,Tryz.ntmps51
  go_wp2
  go_region
  go_wp2
  go_ret
  exact⟨by rw[HBI.out];rfl,(Below.refl _ _).drew⟩
end
structure Qs where
 p:Nat
 bad:Bool
structure Qv where
 k:Int
 x:ByteArray
 n:Int
 a:Int
 f:Int
 t:Int
 bg:Int
 l:List Pt
def Qv.pt (v:Qv):Pt:=.mk v.k v.x v.n v.a v.f v.t v.l
abbrev Rq:=Option (Qv × Qs)
section
variable (ts:List Tok)
def nxQ (p:Nat):Tok:=if p<ts.length then nxT ts p else⟨0,⟨#[]⟩,behI ts p⟩
def isQ (p:Nat) (s:ByteArray):Bool:=((nxQ ts p).text.data.toList == s.data.toList) && (((nxQ ts p).kind == 4) || (((nxQ ts p).kind == 1) && kepB s))
def okQ (p:Nat) (s:ByteArray):Bool :=
 if s.data.toList == [101,110,100] then(nxQ ts p).kind == 5 else if s.data.toList == [116,101,120,116] then(nxQ ts p).kind == 3 else if s.data.toList == [110,117,109,98,101,114] then(nxQ ts p).kind == 2
 else if s.data.toList == [110,97,109,101] then((nxQ ts p).kind == 1) && !kepB (nxQ ts p).text else isQ ts p s
def takS (s:ByteArray) (q:Qs):Qs:=if q.bad || !okQ ts q.p s then⟨q.p,true⟩ else⟨q.p+1,false⟩
def takT (s:ByteArray) (q:Qs):Tok:=if q.bad || !okQ ts q.p s then tokZ else nxQ ts q.p
def tak {β:Type}(s:ByteArray) (q:Qs) (k:Tok->Qs->β):β:=k (takT ts s q) (takS ts s q)
def wrQ (b:Bool) (q:Qs):Qs:=if b then⟨q.p,true⟩ else q
def worD (k:Int) (w:ByteArray) (q:Qs):Qv × Qs:=tak ts w q fun t q=>tak ts ⟨#[110,97,109,101]⟩ q fun n q=>(⟨k,n.text,0,n.pos,t.pos,0,t.pos,[]⟩,q)
def litD (q:Qs):Qv × Qs :=
 let t:=nxQ ts q.p
 if t.kind == 2 then tak ts ⟨#[110,117,109,98,101,114]⟩ q fun _ q=>(⟨20,⟨#[]⟩,numT t,t.pos,t.pos,behI ts q.p,t.pos,[]⟩,q)
 else if t.kind == 3 then tak ts ⟨#[116,101,120,116]⟩ q fun _ q=>(⟨21,valT t,0,t.pos,t.pos,behI ts q.p,t.pos,[]⟩,q)
 else if isQ ts q.p ⟨#[116,114,117,101]⟩ then tak ts ⟨#[116,114,117,101]⟩ q fun t q=>(⟨22,⟨#[116,114,117,101]⟩,0,t.pos,t.pos,behI ts q.p,t.pos,[]⟩,q)
 else tak ts ⟨#[102,97,108,115,101]⟩ q fun t q=>(⟨22,⟨#[102,97,108,115,101]⟩,0,t.pos,t.pos,behI ts q.p,t.pos,[]⟩,q)
def valD (q:Qs):Qv × Qs :=
 if isQ ts q.p ⟨#[45]⟩ then tak ts ⟨#[45]⟩ q fun t q=>
  let r:=litD ts (wrQ ((nxQ ts q.p).kind != 2) q)
  (⟨26,⟨#[45]⟩,0,t.pos,t.pos,behI ts r.2.p,t.pos,[r.1.pt]⟩,r.2)
 else litD ts q
def kinD (q:Qs):Qv × Qs :=
 let t:=nxQ ts q.p
 if isQ ts q.p ⟨#[105,110,116]⟩ || isQ ts q.p ⟨#[98,111,111,108]⟩ || isQ ts q.p ⟨#[115,116,114,105,110,103]⟩ then tak ts t.text q fun _ q=>(⟨10,t.text,0,t.pos,t.pos,behI ts q.p,t.pos,[]⟩,q)
 else tak ts ⟨#[110,97,109,101]⟩ q fun n q=>
  if isQ ts q.p ⟨#[46]⟩ then tak ts ⟨#[46]⟩ q fun _ q2=>tak ts ⟨#[110,97,109,101]⟩ q2 fun m q3=>(⟨12,m.text,0,m.pos,n.pos,behI ts q3.p,n.pos,[.mk 23 n.text 0 n.pos n.pos (behI ts q.p) []]⟩,q3)
  else(⟨11,n.text,0,n.pos,n.pos,behI ts q.p,n.pos,[]⟩,q)
def tydD (k:Int) (q:Qs):Qv × Qs:=tak ts ⟨#[110,97,109,101]⟩ q fun t q=>
 let r:=kinD ts q
 (⟨k,t.text,0,t.pos,t.pos,behI ts r.2.p,t.pos,[r.1.pt]⟩,r.2)
def impD (q:Qs):Qv × Qs:=tak ts ⟨#[105,109,112,111,114,116]⟩ q fun i q=>tak ts ⟨#[116,101,120,116]⟩ q fun t q=>(⟨2,valT t,0,t.pos,i.pos,behI ts q.p,i.pos,[]⟩,q)
def conD (q:Qs):Qv × Qs :=
 let w:=worD ts 3 ⟨#[99,111,110,115,116]⟩ q
 tak ts ⟨#[61]⟩ w.2 fun _ q=>
 let r:=valD ts q
 (⟨3,w.1.x,0,w.1.a,w.1.f,behI ts r.2.p,w.1.bg,[r.1.pt]⟩,r.2)
structure Dns where
 row:Nat->Qs->Rq
 rowL:Nat->Qv->Qs->Rq
 una:Qs->Rq
 post:Qs->Rq
 posL:Qv->Qs->Rq
 prim:Qs->Rq
 argL:List Pt->Qs->Option (List Pt × Qs)
 parL:List Pt->Qs->Option (List Pt × Qs)
 fieL:List Pt->Qs->Option (List Pt × Qs)
 stmt:Qs->Rq
 bran:Qs->Rq
 stmL:List Pt->Qs->Option (List Pt × Qs)
 impL:List Pt->Qs->Option (List Pt × Qs)
 decL:List Pt->Qs->Option (List Pt × Qs)
def bloD (f:Dns) (q:Qs):Rq:=tak ts ⟨#[123]⟩ q fun t q=>(f.stmL [] q).bind fun l=>tak ts ⟨#[125]⟩ l.2 fun _ q=>some (⟨13,⟨#[]⟩,0,t.pos,t.pos,behI ts q.p,t.pos,l.1⟩,q)
def varD (f:Dns) (q:Qs):Rq :=
 let w:=worD ts 4 ⟨#[118,97,114]⟩ q
 let r:=kinD ts w.2
 if isQ ts r.2.p ⟨#[61]⟩ then tak ts ⟨#[61]⟩ r.2 fun _ q=>(f.row 1 q).bind fun e=>some (⟨4,w.1.x,0,w.1.a,w.1.f,behI ts e.2.p,w.1.bg,[r.1.pt,e.1.pt]⟩,e.2)
 else some (⟨4,w.1.x,0,w.1.a,w.1.f,behI ts r.2.p,w.1.bg,[r.1.pt]⟩,r.2)
def looD (f:Dns) (q:Qs):Rq :=
 tak ts ⟨#[102,111,114]⟩ q fun t q=>(f.row 1 q).bind fun e=>(bloD ts f e.2).bind fun b=>some (⟨15,⟨#[]⟩,0,t.pos,t.pos,behI ts b.2.p,t.pos,[e.1.pt,b.1.pt]⟩,b.2)
def resD (f:Dns) (q:Qs):Rq :=
 tak ts ⟨#[114,101,116,117,114,110]⟩ q fun t q=>if (nxQ ts q.p).kind != 5 && !isQ ts q.p ⟨#[125]⟩ then(f.row 1 q).bind fun e=>some (⟨16,⟨#[]⟩,0,t.pos,t.pos,behI ts e.2.p,t.pos,[e.1.pt]⟩,e.2)
  else some (⟨16,⟨#[]⟩,0,t.pos,t.pos,behI ts q.p,t.pos,[]⟩,q)
def shoD (f:Dns) (q:Qs):Rq :=
 let x:=(nxQ ts q.p).text
 tak ts ⟨#[110,97,109,101]⟩ q fun t q=>tak ts ⟨#[58,61]⟩ q fun _ q=>(f.row 1 q).bind fun e=>some (⟨17,x,0,t.pos,t.pos,behI ts e.2.p,t.pos,[e.1.pt]⟩,e.2)
def simD (f:Dns) (q:Qs):Rq :=
 let t:=nxQ ts q.p
 (f.row 1 q).bind fun e=>if isQ ts e.2.p ⟨#[61]⟩ then tak ts ⟨#[61]⟩ e.2 fun _ q=>(f.row 1 q).bind fun d=>some (⟨18,⟨#[]⟩,0,t.pos,t.pos,behI ts d.2.p,t.pos,[e.1.pt,d.1.pt]⟩,d.2)
  else some (⟨19,⟨#[]⟩,0,t.pos,t.pos,behI ts e.2.p,t.pos,[e.1.pt]⟩,e.2)
def strD (f:Dns) (q:Qs):Rq :=
 let w:=worD ts 5 ⟨#[116,121,112,101]⟩ q
 tak ts ⟨#[115,116,114,117,99,116]⟩ w.2 fun _ q=>tak ts ⟨#[123]⟩ q fun _ q=>(f.fieL [] q).bind fun l=>tak ts ⟨#[125]⟩ l.2 fun _ q=>some (⟨5,w.1.x,0,w.1.a,w.1.f,behI ts q.p,w.1.bg,l.1⟩,q)
def recD (q:Qs):List Pt × Qs :=
 if isQ ts q.p ⟨#[40]⟩ then tak ts ⟨#[40]⟩ q fun _ q=>tak ts ⟨#[110,97,109,101]⟩ q fun n q=>tak ts ⟨#[110,97,109,101]⟩ q fun t q=>
  tak ts ⟨#[41]⟩ q fun _ q2=>([.mk 8 n.text 0 n.pos n.pos (behI ts q.p) [.mk 11 t.text 0 t.pos t.pos (behI ts q.p) []]],q2)
 else([],q)
def funD (f:Dns) (q:Qs):Rq :=
 tak ts ⟨#[102,117,110,99]⟩ q fun u q=>
 let r:=recD ts q
 tak ts ⟨#[110,97,109,101]⟩ r.2 fun n q=>tak ts ⟨#[40]⟩ q fun _ q=>(f.parL r.1 q).bind fun l=>tak ts ⟨#[41]⟩ l.2 fun _ q=>
 if isQ ts q.p ⟨#[123]⟩ then(bloD ts f q).bind fun b=>some (⟨7,n.text,0,n.pos,u.pos,behI ts b.2.p,u.pos,l.1++[b.1.pt]⟩,b.2)
 else
  let k:=kinD ts q
  (bloD ts f k.2).bind fun b=>some (⟨7,n.text,0,n.pos,u.pos,behI ts b.2.p,u.pos,l.1++[k.1.pt]++[b.1.pt]⟩,b.2)
def decD (f:Dns) (q:Qs):Rq :=
 if isQ ts q.p ⟨#[99,111,110,115,116]⟩ then some (conD ts q) else if isQ ts q.p ⟨#[118,97,114]⟩ then varD ts f q else if isQ ts q.p ⟨#[116,121,112,101]⟩ then strD ts f q else funD ts f q
def rowQ (s:ByteArray):Int:=rowI s+1
def dns:Nat->Dns
 | 0=>⟨fun _ _=>none,fun _ _ _=>none,fun _=>none,fun _=>none,fun _ _=>none,fun _=>none,fun _ _=>none,fun _ _=>none,fun _ _=>none,fun _=>none,fun _=>none,fun _ _=>none,fun _ _=>none,fun _ _=>none⟩
 | n+1=>{
  row:=fun k q=>if k=6 then(dns n).una q else((dns n).row (k+1) q).bind fun v=>(dns n).rowL k v.1 v.2
  rowL:=fun k v q=>if !q.bad && (((nxQ ts q.p).kind == 4) && (rowQ (nxQ ts q.p).text == k)) then
    tak ts (nxQ ts q.p).text q fun _ q'=>((dns n).row (k+1) q').bind fun u=>
     let x:Qv:=⟨27,(nxQ ts q.p).text,0,(nxQ ts q.p).pos,v.bg,behI ts u.2.p,v.bg,[v.pt,u.1.pt]⟩
     if k=3 then some (x,u.2) else(dns n).rowL k x u.2
   else some (v,q)
  una:=fun q=>if !q.bad && (isQ ts q.p ⟨#[45]⟩ || isQ ts q.p ⟨#[33]⟩) then
    tak ts (nxQ ts q.p).text q fun _ q'=>((dns n).una q').bind fun u=>some (⟨26,(nxQ ts q.p).text,0,(nxQ ts q.p).pos,(nxQ ts q.p).pos,behI ts u.2.p,(nxQ ts q.p).pos,[u.1.pt]⟩,u.2)
   else(dns n).post q
  post:=fun q=>((dns n).prim q).bind fun v=>(dns n).posL v.1 v.2
  posL:=fun v q=>if !q.bad && (isQ ts q.p ⟨#[46]⟩ || isQ ts q.p ⟨#[40]⟩) then
    (if isQ ts q.p ⟨#[46]⟩ then tak ts ⟨#[46]⟩ q fun _ q=>tak ts ⟨#[110,97,109,101]⟩ q fun m q=>(dns n).posL ⟨24,m.text,0,m.pos,v.bg,behI ts q.p,v.bg,[v.pt]⟩ q
    else tak ts ⟨#[40]⟩ q fun _ q=>((dns n).argL [v.pt] q).bind fun l=>tak ts ⟨#[41]⟩ l.2 fun _ q=>(dns n).posL ⟨25,⟨#[]⟩,0,v.bg,v.bg,behI ts q.p,v.bg,l.1⟩ q)
   else some (v,q)
  prim:=fun q=>if !q.bad && isQ ts q.p ⟨#[40]⟩ then
    tak ts ⟨#[40]⟩ q fun _ q'=>((dns n).row 1 q').bind fun v=>tak ts ⟨#[41]⟩ v.2 fun _ q2=>some (⟨v.1.k,v.1.x,v.1.n,v.1.a,v.1.f,v.1.t,(nxQ ts q.p).pos,v.1.l⟩,q2)
   else if (((nxQ ts q.p).kind == 2) || ((nxQ ts q.p).kind == 3)) || (isQ ts q.p ⟨#[116,114,117,101]⟩ || isQ ts q.p ⟨#[102,97,108,115,101]⟩) then some (litD ts q)
   else tak ts ⟨#[110,97,109,101]⟩ q fun _ q'=>some (⟨23,(nxQ ts q.p).text,0,(nxQ ts q.p).pos,(nxQ ts q.p).pos,behI ts q'.p,(nxQ ts q.p).pos,[]⟩,q')
  argL:=fun l q=>if !q.bad && !isQ ts q.p ⟨#[41]⟩ then((dns n).row 1 q).bind fun u=>
    if isQ ts u.2.p ⟨#[41]⟩ then some (l++[u.1.pt],u.2) else tak ts ⟨#[44]⟩ u.2 fun _ q=>(dns n).argL (l++[u.1.pt]) (wrQ (isQ ts q.p ⟨#[41]⟩) q)
   else some (l,q)
  parL:=fun l q=>if !q.bad && !isQ ts q.p ⟨#[41]⟩ then
    let u:=tydD ts 9 q
    if isQ ts u.2.p ⟨#[41]⟩ then some (l++[u.1.pt],u.2) else tak ts ⟨#[44]⟩ u.2 fun _ q=>(dns n).parL (l++[u.1.pt]) (wrQ (isQ ts q.p ⟨#[41]⟩) q)
   else some (l,q)
  fieL:=fun l q=>if !q.bad && !isQ ts q.p ⟨#[125]⟩ then
    let u:=tydD ts 6 q
    (dns n).fieL (l++[u.1.pt]) (if isQ ts u.2.p ⟨#[125]⟩ then u.2 else takS ts ⟨#[101,110,100]⟩ u.2)
   else some (l,q)
  stmt:=fun q=>
   if isQ ts q.p ⟨#[123]⟩ then bloD ts (dns n) q else if isQ ts q.p ⟨#[118,97,114]⟩ then varD ts (dns n) q else if isQ ts q.p ⟨#[105,102]⟩ then(dns n).bran q
   else if isQ ts q.p ⟨#[102,111,114]⟩ then looD ts (dns n) q else if isQ ts q.p ⟨#[114,101,116,117,114,110]⟩ then resD ts (dns n) q
   else if (((nxQ ts q.p).kind == 1) && !kepB (nxQ ts q.p).text) && (decide (q.p+1<ts.length) && (((nxT ts (q.p+1)).kind == 4) && isT ts (q.p+1) [58,61])) then shoD ts (dns n) q else simD ts (dns n) q
  bran:=fun q=>tak ts ⟨#[105,102]⟩ q fun t q=>((dns n).row 1 q).bind fun e=>(bloD ts (dns n) e.2).bind fun b=>
   if isQ ts b.2.p ⟨#[101,108,115,101]⟩ then tak ts ⟨#[101,108,115,101]⟩ b.2 fun _ q=>(if isQ ts q.p ⟨#[105,102]⟩ then(dns n).bran q else bloD ts (dns n) q).bind fun c=>some (⟨14,⟨#[]⟩,0,t.pos,t.pos,behI ts c.2.p,t.pos,[e.1.pt,b.1.pt,c.1.pt]⟩,c.2)
   else some (⟨14,⟨#[]⟩,0,t.pos,t.pos,behI ts b.2.p,t.pos,[e.1.pt,b.1.pt]⟩,b.2)
  stmL:=fun l q=>if !q.bad && !isQ ts q.p ⟨#[125]⟩ then((dns n).stmt q).bind fun u=>(dns n).stmL (l++[u.1.pt]) (if isQ ts u.2.p ⟨#[125]⟩ then u.2 else takS ts ⟨#[101,110,100]⟩ u.2) else some (l,q)
  impL:=fun l q=>if !q.bad && isQ ts q.p ⟨#[105,109,112,111,114,116]⟩ then
    let u:=impD ts q
    (dns n).impL (l++[u.1.pt]) (takS ts ⟨#[101,110,100]⟩ u.2)
   else some (l,q)
  decL:=fun l q=>if !q.bad && decide (q.p<ts.length) then(decD ts (dns n) q).bind fun u=>(dns n).decL (l++[u.1.pt]) (takS ts ⟨#[101,110,100]⟩ u.2) else some (l,q) }
def filD (n:Nat) (q:Qs):Rq :=
 let w:=worD ts 1 ⟨#[112,97,99,107,97,103,101]⟩ q
 ((dns ts n).impL [] (takS ts ⟨#[101,110,100]⟩ w.2)).bind fun l=>((dns ts n).decL l.1 l.2).bind fun l=>some (⟨1,w.1.x,0,w.1.a,w.1.f,behI ts l.2.p,w.1.bg,l.1⟩,l.2)
end
def Bd {α:Type}(d:Option (α × Qs)) (p:Nat):Prop:=∃ v,d=some (v,⟨p,true⟩)
section
variable {ts:List Tok}{p:Nat}
theorem zkw (s:ByteArray):takS ts s ⟨p,true⟩=⟨p,true⟩:=rfl
theorem zaq {α:Type}(v:α):Bd (some (v,(⟨p,true⟩:Qs))) p:=⟨v,rfl⟩
theorem zbw {α:Type}{s:ByteArray}{k:Tok->Qs->Option (α × Qs)}(h:∀ t,Bd (k t ⟨p,true⟩) p):Bd (tak ts s ⟨p,true⟩ k) p:=h _
theorem zax {α β:Type}{d:Option (α × Qs)}{k:α × Qs->Option (β × Qs)}(h:Bd d p)(hk:∀ v,Bd (k (v,⟨p,true⟩)) p):Bd (d.bind k) p:=by
 obtain⟨v,rfl⟩:=h;exact hk v
theorem zdf {α:Type}{c:Prop} [Decidable c] {a b:Option (α × Qs)}(h:Bd a p)(h':Bd b p):Bd (if c then a else b) p:=by
 split
 ·exact h
 ·exact h'
theorem zo5 {α:Type}{c:Prop} [Decidable c] {a b:Option (α × Qs)}(h:c->Bd a p)(h':¬ c->Bd b p):Bd (if c then a else b) p:=by
 split
 ·rename_i hc;exact h hc
 ·rename_i hc;exact h' hc
theorem zj7 (b:Bool):wrQ b ⟨p,true⟩=⟨p,true⟩:=by cases b <;> rfl
theorem zgb {α:Type}{c:Prop} [Decidable c] {a b:α × Qs}{q:Qs}(h:a.2=q)(h':b.2=q):(if c then a else b).2=q:=by
 split
 ·exact h
 ·exact h'
theorem zgm:(litD ts ⟨p,true⟩).2=⟨p,true⟩:=by
 unfold litD;exact zgb rfl (zgb rfl (zgb rfl rfl))
theorem zkx:(valD ts ⟨p,true⟩).2=⟨p,true⟩:=by
 unfold valD;refine zgb ?_ zgm;show(litD ts (wrQ _ ⟨p,true⟩)).2=_;rw[zj7,zgm]
theorem zgn:(kinD ts ⟨p,true⟩).2=⟨p,true⟩:=by
 unfold kinD;refine zgb rfl ?_;show(if _ then _ else _:Qv × Qs).2=_;exact zgb rfl rfl
theorem zo6:(recD ts ⟨p,true⟩).2=⟨p,true⟩:=by
 unfold recD;exact zgb rfl rfl
theorem zlq {α:Type}{d:α × Qs}(h:d.2=⟨p,true⟩):Bd (some d) p:=⟨d.1,by rw[<-h]⟩
theorem zej {f:Dns}(hs:∀ l,Bd (f.stmL l ⟨p,true⟩) p):Bd (bloD ts f ⟨p,true⟩) p:=zbw fun _=>zax (hs _) fun _=>zbw fun _=>zaq _
theorem zrl {f:Dns}(hr:Bd (f.row 1 ⟨p,true⟩) p):Bd (varD ts f ⟨p,true⟩) p:=by
 unfold varD
 dsimp only
 obtain⟨r,hr'⟩:∃ r,kinD ts (worD ts 4 ⟨#[118,97,114]⟩ ⟨p,true⟩).2=r:=⟨_,rfl⟩;have h2:r.2=⟨p,true⟩:=hr' ▸ zgn;obtain⟨r,q⟩:=r
 cases h2
 rw[hr'];exact zdf (zbw fun _=>zax hr fun _=>zaq _) (zaq _)
theorem zrm {f:Dns}(hr:Bd (f.row 1 ⟨p,true⟩) p)(hs:∀ l,Bd (f.stmL l ⟨p,true⟩) p):Bd (looD ts f ⟨p,true⟩) p:=zbw fun _=>zax hr fun _=>zax (zej hs) fun _=>zaq _
theorem zrn {f:Dns}(hr:Bd (f.row 1 ⟨p,true⟩) p):Bd (resD ts f ⟨p,true⟩) p:=zbw fun _=>zdf (zax hr fun _=>zaq _) (zaq _)
theorem zro {f:Dns}(hr:Bd (f.row 1 ⟨p,true⟩) p):Bd (shoD ts f ⟨p,true⟩) p:=by
 unfold shoD;exact zbw fun _=>zbw fun _=>zax hr fun _=>zaq _
theorem zrp {f:Dns}(hr:Bd (f.row 1 ⟨p,true⟩) p):Bd (simD ts f ⟨p,true⟩) p:=zax hr fun _=>zdf (zbw fun _=>zax hr fun _=>zaq _) (zaq _)
structure BdA (ts:List Tok) (p m:Nat):Prop where
 prim:1<=m->Bd ((dns ts m).prim ⟨p,true⟩) p
 posL:1<=m->∀ v,Bd ((dns ts m).posL v ⟨p,true⟩) p
 post:2<=m->Bd ((dns ts m).post ⟨p,true⟩) p
 una:3<=m->Bd ((dns ts m).una ⟨p,true⟩) p
 rowL:1<=m->∀ k v,Bd ((dns ts m).rowL k v ⟨p,true⟩) p
 row:∀ k,k<=6->10<=m+k->Bd ((dns ts m).row k ⟨p,true⟩) p
 argL:1<=m->∀ l,Bd ((dns ts m).argL l ⟨p,true⟩) p
 parL:1<=m->∀ l,Bd ((dns ts m).parL l ⟨p,true⟩) p
 fieL:1<=m->∀ l,Bd ((dns ts m).fieL l ⟨p,true⟩) p
 stmt:11<=m->Bd ((dns ts m).stmt ⟨p,true⟩) p
 bran:10<=m->Bd ((dns ts m).bran ⟨p,true⟩) p
 stmL:1<=m->∀ l,Bd ((dns ts m).stmL l ⟨p,true⟩) p
 impL:1<=m->∀ l,Bd ((dns ts m).impL l ⟨p,true⟩) p
 decL:1<=m->∀ l,Bd ((dns ts m).decL l ⟨p,true⟩) p
theorem bdA (ts:List Tok)(p m:Nat):BdA ts p m:=by
 induction m with
 | zero=>constructor <;> (intros;omega)
 | succ m ih=>
  constructor
  ·intro _;exact zdf (zlq zgm) (zbw (k:=fun _ q'=>some (_,q')) fun _=>zaq _)
  ·intro _ v;exact zaq _
  ·intro h;exact zax (ih.prim (by omega)) fun v=>ih.posL (by omega) _
  ·intro h;exact ih.post (by omega)
  ·intro _ k v;exact zaq _
  ·intro k hk h;refine zo5 (fun h=>ih.una (by omega)) fun h=>zax (ih.row _ (by omega) (by omega)) fun v=>ih.rowL (by omega) _ _
  ·intro _ l;exact zaq _
  ·intro _ l;exact zaq _
  ·intro _ l;exact zaq _
  ·intro h;have hr:=ih.row 1 (by omega) (by omega);have hs:=ih.stmL (by omega);exact zdf (zej hs) (zdf (zrl hr) (zdf (ih.bran (by omega)) (zdf (zrm hr hs) (zdf (zrn hr) (zdf (zro hr) (zrp hr))))))
  ·intro h;have hr:=ih.row 1 (by omega) (by omega);have hs:=ih.stmL (by omega);unfold dns
   dsimp only
   refine zbw fun _=>?_;refine zax hr fun e=>zax (zej hs) fun b=>zo5 (fun h1=>zbw fun _=>zax (zo5 (fun h2=>?_) fun _=>zej hs) fun _=>zaq _) fun _=>zaq _
   exfalso
   have h1:isQ ts p ⟨#[101,108,115,101]⟩=true:=h1;have h2:isQ ts p ⟨#[105,102]⟩=true:=h2;unfold isQ at h1 h2;rw[Bool.and_eq_true] at h1 h2;have e:=(eq_of_beq h1.1).symm.trans (eq_of_beq h2.1);simp at e
  ·intro _ l;exact zaq _
  ·intro _ l;exact zaq _
  ·intro _ l;exact zaq _
end
def sgQ:List (List UInt8):=[[45],[33],[46],[40],[41],[123],[125],[44],[61],[58,61],[124,124],[38,38],[61,61],[33,61],[60],[60,61],[62],[62,61],[43],[42],[47],[37]]
structure RtT (ts:List Tok):Prop where
 sg:∀ p,(nxT ts p).text.data.toList ∈ sgQ->(nxT ts p).kind=4
 kw:∀ p,kepB (nxT ts p).text=true->(nxT ts p).kind=1
def AgG (ts:List Tok) {α β:Type}(P:β->α->Prop) (r:Rs β) (d:Option (α × Qs)):Prop:=match r with
 | .ok t q=>∃ v,d=some (v,⟨q,false⟩)∧P t v
 | .bad s=>∃ v q,d=some (v,⟨q,true⟩)∧herI ts q=s
 | .out=>True
def IsV (bg:Int) (t:Pt) (v:Qv):Prop:=v.pt=t∧v.bg=bg
section
variable {ts:List Tok}
theorem ze7 {s t:ByteArray}(h:s.data.toList=t.data.toList):s=t:=by
 obtain⟨⟨s⟩⟩:=s;obtain⟨⟨t⟩⟩:=t
 cases(show s=t from h)
 rfl
theorem nxP {p:Nat}(h:p<ts.length):nxQ ts p=nxT ts p:=if_pos h
theorem herP {p:Nat}(h:p<ts.length):herI ts p=(nxT ts p).pos:=if_pos h
theorem zbl (p:Nat):(nxQ ts p).pos=herI ts p:=by
 unfold nxQ herI
 split <;> rfl
theorem zgo {p:Nat}(h:¬ p<ts.length):nxT ts p=tokZ:=by
 unfold nxT;rw[List.getD_eq_getElem?_getD,List.getElem?_eq_none (by omega)];rfl
theorem zfb (p:Nat):(nxQ ts p).kind=(nxT ts p).kind:=by
 by_cases h:p<ts.length
 ·rw[nxP h]
 ·rw[zgo h];unfold nxQ;rw[if_neg h];rfl
theorem zij (p:Nat):(nxQ ts p).text=(nxT ts p).text:=by
 by_cases h:p<ts.length
 ·rw[nxP h]
 ·rw[zgo h];unfold nxQ;rw[if_neg h];rfl
theorem zba (hR:RtT ts)(p:Nat)(s:ByteArray)(h:sgQ.contains s.data.toList=true∨kepB s=true):isQ ts p s=isT ts p s.data.toList:=by
 unfold isQ isT;rw[zij,zfb]
 cases hb:(nxT ts p).text.data.toList == s.data.toList
 ·rfl
 ·have e:=eq_of_beq hb;rcases h with h|h
  ·rw[hR.sg p (by rw[e];exact List.contains_iff_mem.mp h)];rfl
  ·rw[hR.kw p (by rw[ze7 e];exact h),h];rfl
theorem zik {p:Nat}{s:ByteArray}(h:isQ ts p s=true):(nxQ ts p).text=s:=by
 unfold isQ at h;rw[Bool.and_eq_true] at h;exact ze7 (eq_of_beq h.1)
def spc (s:ByteArray):Bool:=(s.data.toList == [101,110,100]) || (s.data.toList == [116,101,120,116]) || (s.data.toList == [110,117,109,98,101,114]) || (s.data.toList == [110,97,109,101])
theorem zky {p:Nat}{s:ByteArray}(h:spc s=false):okQ ts p s=isQ ts p s:=by
 unfold spc at h;simp only[Bool.or_eq_false_iff] at h;unfold okQ;rw[h.1.1.1,h.1.1.2,h.1.2,h.2];rfl
theorem zcx (p:Nat):okQ ts p ⟨#[110,97,109,101]⟩=namB ts p:=by
 show(((nxQ ts p).kind == 1) && !kepB (nxQ ts p).text)=_;rw[zfb,zij];rfl
theorem zdw (p:Nat):okQ ts p ⟨#[101,110,100]⟩=((nxT ts p).kind == 5)∧okQ ts p ⟨#[116,101,120,116]⟩=((nxT ts p).kind == 3)∧okQ ts p ⟨#[110,117,109,98,101,114]⟩=((nxT ts p).kind == 2):=by
 refine⟨?_,?_,?_⟩
 ·show((nxQ ts p).kind == 5)=_;rw[zfb]
 ·show((nxQ ts p).kind == 3)=_;rw[zfb]
 ·show((nxQ ts p).kind == 2)=_;rw[zfb]
theorem zct (hR:RtT ts)(p:Nat)(s:ByteArray)(h:sgQ.contains s.data.toList=true∨kepB s=true)(h':spc s=false):okQ ts p s=isT ts p s.data.toList:=(zky h').trans (zba hR p s h)
section
variable {α β γ δ:Type}{P:β->α->Prop}{P':δ->γ->Prop}{p:Nat}
theorem zhl {d:Option (α × Qs)}{s:Int}(h:Bd d p)(hs:herI ts p=s):AgG ts P (.bad s) d:=by
 obtain⟨v,rfl⟩:=h;exact⟨v,p,rfl,hs⟩
theorem zcp {t:β}{v:α}(h:P t v):AgG ts P (.ok t p) (some (v,⟨p,false⟩)):=⟨v,rfl,h⟩
theorem zbh {b:Bool}{s:ByteArray}{r:Rs β}{k:Tok->Qs->Option (α × Qs)}(hb:okQ ts p s=b)(h:b=true->AgG ts P r (k (nxQ ts p) ⟨p+1,false⟩))(h':∀ t,Bd (k t ⟨p,true⟩) p):AgG ts P (.need b (herI ts p) r) (tak ts s ⟨p,false⟩ k):=by
 have e1:takT ts s ⟨p,false⟩=if b then nxQ ts p else tokZ:=by
  unfold takT;simp only[Bool.false_or];rw[hb]
  cases b <;> rfl
 have e2:takS ts s ⟨p,false⟩=if b then⟨p+1,false⟩ else⟨p,true⟩:=by
  unfold takS;simp only[Bool.false_or];rw[hb]
  cases b <;> rfl
 unfold tak;rw[e1,e2]
 cases b
 ·exact zhl (h' _) rfl
 ·exact h rfl
theorem zcu {s:ByteArray}{r:Rs β}{k:Tok->Qs->Option (α × Qs)}(hb:okQ ts p s=true)(h:AgG ts P r (k (nxQ ts p) ⟨p+1,false⟩)):AgG ts P r (tak ts s ⟨p,false⟩ k):=by
 unfold tak takT takS;simp only[Bool.false_or];rw[hb];exact h
theorem zb2 {r:Rs β}{d:Option (α × Qs)}{f:β->Nat->Rs δ}{k:α × Qs->Option (γ × Qs)}(h:AgG ts P r d)(hk:∀ t v q,P t v->AgG ts P' (f t q) (k (v,⟨q,false⟩)))(hb:∀ v q,Bd (k (v,⟨q,true⟩)) q):AgG ts P' (r.bind f) (d.bind k):=by
 cases r with
 | ok t q=>
  obtain⟨v,rfl,hv⟩:=h;exact hk t v q hv
 | bad s=>
  obtain⟨v,q,rfl,hv⟩:=h;exact zhl (hb v q) hv
 | out=>trivial
theorem zg3 {r:Rs β}{d:α × Qs}{f:β->Nat->Rs δ}{k:α × Qs->Option (γ × Qs)}(h:AgG ts P r (some d))(hk:∀ t v q,P t v->AgG ts P' (f t q) (k (v,⟨q,false⟩)))(hb:∀ v q,Bd (k (v,⟨q,true⟩)) q):AgG ts P' (r.bind f) (k d):=by
 cases r with
 | ok t q=>
  obtain⟨v,e,hv⟩:=h
  cases e
  exact hk t v q hv
 | bad s=>
  obtain⟨v,q,e,hv⟩:=h
  cases e
  exact zhl (hb v q) hv
 | out=>trivial
theorem zcf {a b:Rs β}{a' b':Option (α × Qs)}{c c':Prop} [Decidable c] [Decidable c'] (hc:c' ↔ c)(h:c->AgG ts P a a')(h':¬ c->AgG ts P b b'):AgG ts P (if c then a else b) (if c' then a' else b'):=by
 by_cases hx:c
 ·rw[if_pos hx,if_pos (hc.mpr hx)];exact h hx
 ·rw[if_neg hx,if_neg (fun e=>hx (hc.mp e))];exact h' hx
end
theorem zhs {α:Type}{c:Prop} [Decidable c] {a b:α × Qs}:some (if c then a else b)=if c then some a else some b:=by split <;> rfl
theorem zek {p:Nat}(h:p<ts.length):(nxQ ts p).pos=herI ts p∧(nxT ts p).pos=herI ts p∧nxQ ts p=nxT ts p:=⟨zbl p,(herP h).symm,nxP h⟩
variable (hR:RtT ts)
include hR
theorem zm4 (p:Nat):AgG ts (IsV (herI ts p)) (va1P ts p) (some (litD ts ⟨p,false⟩)):=by
 unfold va1P litD
 dsimp only
 rw[zhs,zhs,zhs];refine zcf (by rw[zfb]) (fun h=>?_) fun h2=>zcf (by rw[zfb]) (fun h=>?_) fun h3=>?_
 ·obtain⟨e1,e2,e3⟩:=zek (zfl h (by decide));exact zcu (k:=fun _ q=>some ((⟨20,⟨#[]⟩,numT (nxQ ts p),(nxQ ts p).pos,(nxQ ts p).pos,behI ts q.p,(nxQ ts p).pos,[]⟩:Qv),q)) ((zdw p).2.2.trans h) (zcp ⟨by unfold Qv.pt;dsimp only;rw[e1,e2,e3],e1⟩)
 ·obtain⟨e1,e2,e3⟩:=zek (zfl h (by decide));exact zcu (k:=fun _ q=>some ((⟨21,valT (nxQ ts p),0,(nxQ ts p).pos,(nxQ ts p).pos,behI ts q.p,(nxQ ts p).pos,[]⟩:Qv),q)) ((zdw p).2.1.trans h) (zcp ⟨by unfold Qv.pt;dsimp only;rw[e1,e2,e3],e1⟩)
 ·rw[zba hR p ⟨#[116,114,117,101]⟩ (.inr rfl)]
  cases h4:isT ts p [116,114,117,101]
  ·cases h5:isT ts p [102,97,108,115,101]
   ·refine zhl (p:=p) ?_ rfl;have e:okQ ts p ⟨#[102,97,108,115,101]⟩=false:=(zct hR p ⟨#[102,97,108,115,101]⟩ (.inr rfl) rfl).trans h5;show Bd (some (tak ts ⟨#[102,97,108,115,101]⟩ ⟨p,false⟩ fun t q=>(_,q))) p;unfold tak takS;rw[e];exact zaq _
   ·obtain⟨e1,e2,e3⟩:=zek (zcg h5 (by simp));refine zcu (k:=fun t q=>some ((⟨22,⟨#[102,97,108,115,101]⟩,0,t.pos,t.pos,behI ts q.p,t.pos,[]⟩:Qv),q)) ((zct hR p ⟨#[102,97,108,115,101]⟩ (.inr rfl) rfl).trans h5) (zcp ⟨?_,e1⟩);unfold Qv.pt
    dsimp only
    rw[e1,e2,show(nxT ts p).text=⟨#[102,97,108,115,101]⟩ from ze7 (eq_of_beq h5)]
  ·obtain⟨e1,e2,e3⟩:=zek (zcg h4 (by simp));refine zcu (k:=fun t q=>some ((⟨22,⟨#[116,114,117,101]⟩,0,t.pos,t.pos,behI ts q.p,t.pos,[]⟩:Qv),q)) ((zct hR p ⟨#[116,114,117,101]⟩ (.inr rfl) rfl).trans h4) (zcp ⟨?_,e1⟩);unfold Qv.pt
   dsimp only
   rw[e1,e2,show(nxT ts p).text=⟨#[116,114,117,101]⟩ from ze7 (eq_of_beq h4)]
theorem zrq (p:Nat):AgG ts (IsV (herI ts p)) (valP ts p) (some (valD ts ⟨p,false⟩)):=by
 unfold valP valD;rw[zhs];refine zcf (by rw[zba hR p ⟨#[45]⟩ (.inl rfl)]) (fun h=>?_) fun _=>zm4 hR p;obtain⟨e1,e2,e3⟩:=zek (zcg h (by simp));have hk:okQ ts p ⟨#[45]⟩=true:=(zct hR p ⟨#[45]⟩ (.inl rfl) rfl).trans h;refine zcu (k:=fun t q=>some ((⟨26,⟨#[45]⟩,0,t.pos,t.pos,behI ts (litD ts (wrQ ((nxQ ts q.p).kind != 2) q)).2.p,t.pos,[(litD ts (wrQ ((nxQ ts q.p).kind != 2) q)).1.pt]⟩:Qv),(litD ts (wrQ ((nxQ ts q.p).kind != 2) q)).2)) hk ?_
 dsimp only
 rw[zfb]
 cases h2:(nxT ts (p+1)).kind == 2
 ·rw[if_neg (by simp)];refine zhl (p:=p+1) ?_ rfl;have e:wrQ ((nxT ts (p+1)).kind != 2) ⟨p+1,false⟩=⟨p+1,true⟩:=by
   unfold wrQ bne;rw[h2];rfl
  rw[e];exact zlq zgm
 ·rw[if_pos rfl];have e:wrQ ((nxT ts (p+1)).kind != 2) ⟨p+1,false⟩=⟨p+1,false⟩:=by
   unfold wrQ bne;rw[h2];rfl
  rw[e];refine zg3 (P':=IsV (herI ts p)) (k:=fun r=>some ((⟨26,⟨#[45]⟩,0,(nxQ ts p).pos,(nxQ ts p).pos,behI ts r.2.p,(nxQ ts p).pos,[r.1.pt]⟩:Qv),r.2)) (zm4 hR (p+1)) (fun t v q hv=>zcp ⟨?_,e1⟩) fun v q=>zaq _;unfold Qv.pt
  dsimp only
  rw[e1,e2,show(nxT ts p).text=⟨#[45]⟩ from ze7 (eq_of_beq h),<-hv.1];rfl
theorem zm5 (p:Nat):AgG ts (IsV (herI ts p)) (typP ts p) (some (kinD ts ⟨p,false⟩)):=by
 unfold typP kinD
 dsimp only
 rw[zhs];refine zcf (by rw[zba hR p ⟨#[105,110,116]⟩ (.inr rfl),zba hR p ⟨#[98,111,111,108]⟩ (.inr rfl),zba hR p ⟨#[115,116,114,105,110,103]⟩ (.inr rfl)]) (fun h=>?_) fun _=>?_
 ·have hq:isQ ts p (nxQ ts p).text=true∧spc (nxQ ts p).text=false:=by
   have:isQ ts p ⟨#[105,110,116]⟩=true∨isQ ts p ⟨#[98,111,111,108]⟩=true∨isQ ts p ⟨#[115,116,114,105,110,103]⟩=true:=by
    rw[zba hR p ⟨#[105,110,116]⟩ (.inr rfl),zba hR p ⟨#[98,111,111,108]⟩ (.inr rfl),zba hR p ⟨#[115,116,114,105,110,103]⟩ (.inr rfl)];simpa[or_assoc] using h
   rcases this with h|h|h
   all_goals
    have e:=zik h;rw[e];exact⟨h,rfl⟩
  have hp:p<ts.length:=by
   rw[Bool.or_eq_true,Bool.or_eq_true] at h;rcases h with(h|h) | h <;> exact zcg h (by simp)
  obtain⟨e1,e2,e3⟩:=zek hp;refine zcu (k:=fun _ q=>some ((⟨10,(nxQ ts p).text,0,(nxQ ts p).pos,(nxQ ts p).pos,behI ts q.p,(nxQ ts p).pos,[]⟩:Qv),q)) ((zky hq.2).trans hq.1) (zcp ⟨?_,e1⟩);unfold Qv.pt
  dsimp only
  rw[e1,e2,e3]
 ·have hn:=zcx (ts:=ts) p;have hs:∀ q,okQ ts q ⟨#[46]⟩=isT ts q [46]:=fun q=>zct hR q ⟨#[46]⟩ (.inl rfl) rfl;have hd:isQ ts (p+1) ⟨#[46]⟩=isT ts (p+1) [46]:=zba hR _ ⟨#[46]⟩ (.inl rfl)
  cases hb:namB ts p
  ·have e:AgG ts (IsV (herI ts p)) (.bad (herI ts p)) (some (tak ts ⟨#[110,97,109,101]⟩ ⟨p,false⟩ fun n q=>
     if isQ ts q.p ⟨#[46]⟩ then tak ts ⟨#[46]⟩ q fun _ q2=>tak ts ⟨#[110,97,109,101]⟩ q2 fun m q3=>((⟨12,m.text,0,m.pos,n.pos,behI ts q3.p,n.pos,[.mk 23 n.text 0 n.pos n.pos (behI ts q.p) []]⟩:Qv),q3)
     else((⟨11,n.text,0,n.pos,n.pos,behI ts q.p,n.pos,[]⟩:Qv),q))):=by
    refine zhl (p:=p) ?_ rfl;unfold tak takS;rw[hn,hb];exact zlq (zgb rfl rfl)
   split
   ·unfold worP;rw[hb];exact e
   ·unfold worP;rw[hb];exact e
  ·obtain⟨e1,e2,e3⟩:=zek (zdq hb);refine zcu (k:=fun n q=>some (if isQ ts q.p ⟨#[46]⟩ then tak ts ⟨#[46]⟩ q fun _ q2=>tak ts ⟨#[110,97,109,101]⟩ q2 fun m q3=>((⟨12,m.text,0,m.pos,n.pos,behI ts q3.p,n.pos,[.mk 23 n.text 0 n.pos n.pos (behI ts q.p) []]⟩:Qv),q3)
     else((⟨11,n.text,0,n.pos,n.pos,behI ts q.p,n.pos,[]⟩:Qv),q))) (hn.trans hb) ?_
   dsimp only
   rw[zhs,hd];refine zcf Iff.rfl (fun h=>?_) fun h=>?_
   ·unfold worP;rw[hb];show AgG ts _ (expP ts [46] (p+1) fun q=>namP ts q fun t q=>_) _;refine zbh (s:=⟨#[46]⟩) (k:=fun _ q2=>some (tak ts ⟨#[110,97,109,101]⟩ q2 fun m q3=>((⟨12,m.text,0,m.pos,(nxQ ts p).pos,behI ts q3.p,(nxQ ts p).pos,[.mk 23 (nxQ ts p).text 0 (nxQ ts p).pos (nxQ ts p).pos (behI ts (p+1)) []]⟩:Qv),q3))) (hs _) (fun _=>?_) fun t=>zaq _;refine zbh (s:=⟨#[110,97,109,101]⟩) (k:=fun m q3=>some ((⟨12,m.text,0,m.pos,(nxQ ts p).pos,behI ts q3.p,(nxQ ts p).pos,[.mk 23 (nxQ ts p).text 0 (nxQ ts p).pos (nxQ ts p).pos (behI ts (p+1)) []]⟩:Qv),q3)) (zcx _) (fun hm=>zcp ⟨?_,e1⟩) fun t=>zaq _;obtain⟨m1,m2,m3⟩:=zek (zdq hm);unfold Qv.pt
    dsimp only
    rw[e1,e2,e3,m3]
   ·unfold worP;rw[hb];refine zcp ⟨?_,e1⟩;unfold Qv.pt
    dsimp only
    rw[e1,e2,e3]
theorem zm6 (k:Int)(p:Nat):AgG ts (IsV (herI ts p)) (tydP ts k p) (some (tydD ts k ⟨p,false⟩)):=by
 unfold tydP tydD;refine zbh (s:=⟨#[110,97,109,101]⟩) (k:=fun t q=>some ((⟨k,t.text,0,t.pos,t.pos,behI ts (kinD ts q).2.p,t.pos,[(kinD ts q).1.pt]⟩:Qv),(kinD ts q).2)) (zcx _) (fun h=>?_) fun t=>?_
 ·obtain⟨e1,e2,e3⟩:=zek (zdq h);refine zg3 (P':=IsV (herI ts p)) (k:=fun r=>some ((⟨k,(nxQ ts p).text,0,(nxQ ts p).pos,(nxQ ts p).pos,behI ts r.2.p,(nxQ ts p).pos,[r.1.pt]⟩:Qv),r.2)) (zm5 hR (p+1)) (fun t v q hv=>zcp ⟨?_,e1⟩) fun v q=>zaq _;unfold Qv.pt
  dsimp only
  rw[e1,e2,e3,<-hv.1];rfl
 ·exact zlq zgn
theorem zrr (p:Nat):AgG ts (IsV (herI ts p)) (impP ts p) (some (impD ts ⟨p,false⟩)):=by
 unfold impP impD;refine zbh (s:=⟨#[105,109,112,111,114,116]⟩) (k:=fun i q=>some (tak ts ⟨#[116,101,120,116]⟩ q fun t q=>((⟨2,valT t,0,t.pos,i.pos,behI ts q.p,i.pos,[]⟩:Qv),q))) (zct hR p ⟨#[105,109,112,111,114,116]⟩ (.inr rfl) rfl) (fun h=>?_) fun t=>zaq _;refine zbh (s:=⟨#[116,101,120,116]⟩) (k:=fun t q=>some ((⟨2,valT t,0,t.pos,(nxQ ts p).pos,behI ts q.p,(nxQ ts p).pos,[]⟩:Qv),q)) (zdw _).2.1 (fun h=>zcp ⟨?_,zbl p⟩) fun t=>zaq _;obtain⟨e1,e2,e3⟩:=zek (zfl h (by decide));unfold Qv.pt
 dsimp only
 rw[e3,zbl p]
theorem zkz {α β:Type}{P:β->α->Prop}(k:Int)(w:ByteArray)(p:Nat){f:Tok->Nat->Rs β}{d:Qv × Qs->Option (α × Qs)}(hw:kepB w=true)(hs:spc w=false)
  (h:p<ts.length->AgG ts P (f (nxT ts (p+1)) (p+1+1)) (d (⟨k,(nxT ts (p+1)).text,0,(nxT ts (p+1)).pos,herI ts p,0,herI ts p,[]⟩,⟨p+1+1,false⟩))) (hb:∀ v q,Bd (d (v,⟨q,true⟩)) q) :
  AgG ts P (expP ts w.data.toList p fun q=>namP ts q f) (d (worD ts k w ⟨p,false⟩)):=by
 unfold worD;refine zbh (s:=w) (k:=fun t q=>d (tak ts ⟨#[110,97,109,101]⟩ q fun n q=>(⟨k,n.text,0,n.pos,t.pos,0,t.pos,[]⟩,q))) (zct hR p w (.inr hw) hs) (fun h1=>?_) fun t=>hb _ _;refine zbh (s:=⟨#[110,97,109,101]⟩) (k:=fun n q=>d (⟨k,n.text,0,n.pos,(nxQ ts p).pos,0,(nxQ ts p).pos,[]⟩,q)) (zcx _) (fun h2=>?_) fun t=>hb _ _;have hp:p<ts.length:=zcg h1 (fun e=>by
  have:kepB w=false:=by unfold kepB;rw[e];rfl
  rw[hw] at this
  cases this)
 rw[zbl p,nxP (zdq h2)];exact h hp
theorem zrs (p:Nat):AgG ts (IsV (herI ts p)) (conP ts p) (some (conD ts ⟨p,false⟩)):=by
 unfold conP conD;refine zkz hR 3 ⟨#[99,111,110,115,116]⟩ p (d:=fun w=>some (tak ts ⟨#[61]⟩ w.2 fun _ q=>((⟨3,w.1.x,0,w.1.a,w.1.f,behI ts (valD ts q).2.p,w.1.bg,[(valD ts q).1.pt]⟩:Qv),(valD ts q).2))) rfl rfl (fun hp=>?_) fun v q=>zlq zkx;refine zbh (s:=⟨#[61]⟩) (k:=fun _ q=>some ((⟨3,(nxT ts (p+1)).text,0,(nxT ts (p+1)).pos,herI ts p,behI ts (valD ts q).2.p,herI ts p,[(valD ts q).1.pt]⟩:Qv),(valD ts q).2)) (zct hR _ ⟨#[61]⟩ (.inl rfl) rfl) (fun _=>?_) fun t=>zlq zkx;refine zg3 (P':=IsV (herI ts p)) (k:=fun r=>some ((⟨3,(nxT ts (p+1)).text,0,(nxT ts (p+1)).pos,herI ts p,behI ts r.2.p,herI ts p,[r.1.pt]⟩:Qv),r.2)) (zrq hR _) (fun t v q hv=>zcp ⟨?_,rfl⟩) fun v q=>zaq _;unfold Qv.pt
 dsimp only
 rw[<-hv.1];rfl
end
section
variable {T:Nat}{w w':World}{g:Nat}{st:Option Addr}{cap:Nat}{ts:List Tok}{p q:Nat}{bad bd:Bool}
theorem zbe (hR:Qdr T w g st cap ts p bad) :
  Calls Tryz.prog 25 #[.pointer (some ⟨g,0,none⟩)] w fun e w'=>e=.returned (.agg (nxQ ts p).cells)∧Below w.heap.size w w':=by
 have HR:=hid hR;have hle:=hR.le;have hfe:=hR.few;clear hR
 go_enter Tryz.func25,Tryz.ntmps25
 go_wp2
 refine zdd (fun W=>Below w.heap.size w W∧W.heap[w.heap.size]?=some (.cells tokZ.cells 38 (0,0))) ⟨(Below.refl _ _).alloc (Nat.le_refl _) _,heap_alloc_new _ _⟩ ?_;rintro W ⟨hB,hz⟩;have HRW:=hid (HR.out.low hB);have HB:=hid hB;have HZ:=hid hz;clear HR hB hz;have c0:=HRW.out.c0;have c1:=HRW.out.c1;have z0:W.cell? ⟨w.heap.size,0,none⟩=some (.int .i64 0):=(cell_of_row _ _ 0 _ _ _ HZ.out).trans rfl;have z1:W.cell? ⟨w.heap.size,1,none⟩=some (.string ⟨#[]⟩):=(cell_of_row _ _ 1 _ _ _ HZ.out).trans rfl;have z2:W.cell? ⟨w.heap.size,2,none⟩=some (.int .i64 0):=(cell_of_row _ _ 2 _ _ _ HZ.out).trans rfl;have f0:W.frozen? ⟨w.heap.size,0,none⟩=false:=frozen_of_row _ _ _ _ _ HZ.out;have f1:W.frozen? ⟨w.heap.size,1,none⟩=false:=frozen_of_row _ _ _ _ _ HZ.out;have f2:W.frozen? ⟨w.heap.size,2,none⟩=false:=frozen_of_row _ _ _ _ _ HZ.out;have HT:Hid (∀ a b c:Value,(((W.setCell ⟨w.heap.size,0,none⟩ a).setCell ⟨w.heap.size,1,none⟩ b).setCell ⟨w.heap.size,2,none⟩ c).heap[w.heap.size]?=some (.cells #[a,b,c] 38 (0,0))∧Below w.heap.size w (((W.setCell ⟨w.heap.size,0,none⟩ a).setCell ⟨w.heap.size,1,none⟩ b).setCell ⟨w.heap.size,2,none⟩ c)):=fun a b c=>
  ⟨heap_setCell_same _ _ 2 _ _ _ (heap_setCell_same _ _ 1 _ _ _ (heap_setCell_same _ _ 0 _ _ _ HZ.out)),((HB.out.setCell (Nat.le_refl _) _).setCell (Nat.le_refl _) _).setCell (Nat.le_refl _) _⟩
 by_cases h:p<ts.length
 ·have HX:Hid (nxQ ts p=nxT ts p):=if_pos h;obtain⟨b,o,rfl,k0,k1,k2⟩:=HRW.out.tok h;have h':(p:Int)<ts.length:=by omega
  go_region
  go_wp2
  go_region
  go_wp2
  exact zbq Tryz.results25 rfl (HT.out _ _ _).1 ⟨by rw[HX.out],(HT.out _ _ _).2.drew.drew⟩
 ·have HX:Hid (nxQ ts p=⟨0,⟨#[]⟩,behI ts p⟩):=if_neg h;have h':¬ ((p:Int)<ts.length):=by omega
  go_region
  go_wp2_with fail
  refine(zje (HRW.out.low (Below.refl _ _).drew)).mono ?_;rintro e W1 ⟨rfl,b1⟩;have HZ1:Hid (W1.heap[w.heap.size]?=some (.cells tokZ.cells 38 (0,0))):=(b1.block _ (zaa HZ.out)).trans HZ.out;have HB1:Hid (Below w.heap.size w W1):=HB.out.drew.trans (b1.mono HB.out.size);clear b1
  go_wp2_with (refine zb0 (by rfl) (.tmp 2) (.tmp 25) (by rfl) (t:=⟨0,⟨#[]⟩,behI ts p⟩) (by rfl) (by rfl) HZ1.out ?_)
  exact zbq Tryz.results25 rfl (zad HZ1.out) ⟨by rw[HX.out],zai HB1.out (Nat.le_refl _) _⟩
end
def kwQ:List (List UInt8):=[[112,97,99,107,97,103,101],[105,109,112,111,114,116],[99,111,110,115,116],[118,97,114],[116,121,112,101],[115,116,114,117,99,116],[102,117,110,99],[105,102],
 [101,108,115,101],[102,111,114],[114,101,116,117,114,110],[116,114,117,101],[102,97,108,115,101],[105,110,116],[98,111,111,108],[115,116,114,105,110,103]]
theorem kepQ (s:ByteArray):kepB s=kwQ.any fun k=>s.data.toList == k:=by
 unfold kepB kwQ;simp only[List.any_cons,List.any_nil,Bool.or_false,Bool.or_assoc]
theorem zqo {s:ByteArray}{k:Nat}(hk:k<16)(h:((kwQ.take k).any fun k=>s.data.toList == k)=false)(hn:s.data.toList≠kwQ.getD k []):((kwQ.take (k+1)).any fun k=>s.data.toList == k)=false:=by
 have hl:k<kwQ.length:=hk;rw[List.getD_eq_getElem?_getD,List.getElem?_eq_getElem hl] at hn;rw[List.take_succ_eq_append_getElem hl,List.any_append,h];simpa using hn
theorem zrt {s:ByteArray}{k:Nat}(hk:k<16)(he:s.data.toList=kwQ.getD k []):kepB s=true:=by
 have hl:k<kwQ.length:=hk;rw[List.getD_eq_getElem?_getD,List.getElem?_eq_getElem hl] at he;rw[kepQ,List.any_eq_true];exact⟨_,List.getElem_mem hl,by rw[he];simp⟩
theorem zey (s:ByteArray)(w:World):Calls Tryz.prog 12 #[.string s] w fun e w'=>e=.returned (.bool (kepB s))∧Below w.heap.size w w':=by
 go_enter Tryz.func12,Tryz.ntmps12
 go_wp2
 refine zdd (fun W=>Below w.heap.size w W∧∀ k,k<16->W.cell? ⟨w.heap.size,k,none⟩=some (.string (strU (kwQ.getD k [])))) ⟨(Below.refl _ _).alloc (Nat.le_refl _) _,?_⟩ ?_
 ·intro k hk
  iterate 16 (rcases k with _|k;· exact(cell_of_row _ _ _ _ _ _ (heap_alloc_new _ _)).trans rfl)
  omega
 rintro W ⟨hB,hC⟩;have HB:=hid hB;have HC:=hid hC;clear hB hC
 go_loopw [4] (fun i wr=>∃ k:Nat,i=.int .i64 k∧k<=16∧((kwQ.take k).any fun k=>s.data.toList == k)=false∧wr=W) (fun i _=>16 - (intOf i).toNat)
 case atStart=>exact⟨0,rfl,by omega,rfl,rfl⟩
 case round=>
  obtain⟨k,rfl,hk,hf,rfl⟩:=hrel;have HF:Hid _:=hf;clear hf
  by_cases h:k<16
  ·have hc:=HC.out k h;have z1:decide ((k:Int)<16)=true:=by simp;omega
   by_cases he:s.data.toList=kwQ.getD k []
   ·have HK:Hid (kepB s=true):=zrt h he;have e:((strU (kwQ[k]?.getD [])).toList == s.toList)=true:=by
     rw[ByteArray.toList_eq,ByteArray.toList_eq,beq_iff_eq,he,List.getD_eq_getElem?_getD];simp[strU]
    clear he
    go_wp2
    go_ret
    exact⟨by rw[HK.out];rfl,HB.out⟩
   ·have HS:Hid _:=zqo h HF.out he;have e:((strU (kwQ[k]?.getD [])).toList == s.toList)=false:=by
     rw[ByteArray.toList_eq,ByteArray.toList_eq,beq_eq_false_iff_ne];intro e;refine he ?_;rw[<-e,List.getD_eq_getElem?_getD];simp[strU]
    clear he
    go_wp2
    exact⟨⟨k+1,by simp,by omega,HS.out,trivial⟩,by simp[intOf];omega⟩
  ·have z1:decide ((k:Int)<16)=false:=by simp;omega
   have HK:Hid (kepB s=false):=by
    show _=_;obtain rfl:k=16:=by omega
    rw[kepQ];exact HF.out
   go_wp2
   go_ret
   exact⟨by rw[HK.out];rfl,HB.out⟩
theorem zm7 {w:World}{b:Nat}{ty:TypeId}{old cs:Array Value}(h:w.heap[b]?=some (.cells old ty (0,0)))(ho:old.size=cs.size)(h1:cs.all (·.oneCell')=true) :
  Sem.run Tryz.prog (storeCells ⟨b,0,none⟩ cs.toList) w=.ok () (w.setRow b cs):=by
 have:=run_storeCells_from (P:=Tryz.prog) b ty cs.toList 0 old w h (by simp;omega) (fun v hv=>(Array.all_eq_true_iff_forall_mem.1 h1) v (by simpa using hv));simpa using this
theorem zjf (W:World)(ty:TypeId)(z cs:Array Value)(ho:z.size=cs.size)(h1:cs.all (·.oneCell')=true) :
  ∃ W2,Sem.run Tryz.prog (storeCells ⟨W.heap.size,0,none⟩ cs.toList) (W.alloc (.cells z ty))=.ok () W2∧Below W.heap.size W W2∧W2.heap[W.heap.size]?=some (.cells cs ty (0,0)) :=
 ⟨_,zm7 (heap_alloc_new _ _) ho h1,zai ((Below.refl _ _).alloc (Nat.le_refl _) _) (Nat.le_refl _) _,zad (heap_alloc_new _ _)⟩
theorem zp6 {W:World}{b:Nat}{ty:TypeId}{old cs:Array Value}(h:W.heap[b]?=some (.cells old ty (0,0)))(ho:old.size=cs.size)(h1:cs.all (·.oneCell')=true) :
  ∃ W2,Sem.run Tryz.prog (storeCells ⟨b,0,none⟩ cs.toList) W=.ok () W2∧Below b W W2∧W2.heap[b]?=some (.cells cs ty (0,0))∧∀ k,k≠b->W2.heap[k]?=W.heap[k]? :=
 ⟨_,zm7 h ho h1,zai (Below.refl _ _) (Nat.le_refl _) _,zad h,fun _ hk=>setRow_other _ _ _ _ hk⟩
theorem zqp (t:Tok):t.cells.all (·.oneCell')=true:=by simp[Tok.cells,Value.oneCell']
theorem zfc (W:World)(t:Tok):∃ W2,Sem.run Tryz.prog (storeCells ⟨W.heap.size,0,none⟩ t.cells.toList) (W.alloc (.cells #[.int .i64 0,.string ⟨#[]⟩,.int .i64 0] 38))=.ok () W2∧Below W.heap.size W W2∧W2.heap[W.heap.size]?=some (.cells t.cells 38 (0,0)) :=
 zjf W 38 _ _ rfl (zqp t)
structure Qe where
 k:Int
 x:ByteArray
 n:Int
 a:Int
 f:Int
 t:Int
 bg:Int
 sp:Option Addr
 len:Nat
 cap:Nat
def paQ (k:Int) (x:ByteArray) (n a f t bg:Int) (v:Value):Array Value:=#[.int .i64 k,.string x,.int .i64 n,.slice none 0 0,.int .i64 a,.int .i64 f,.int .i64 t,.int .i64 bg,v]
def Qe.cells (e:Qe):Array Value:=paQ e.k e.x e.n e.a e.f e.t e.bg (.slice e.sp e.len e.cap)
theorem Qe.one (e:Qe):e.cells.all (·.oneCell')=true:=by simp[Qe.cells,paQ,Value.oneCell']
theorem zgp (W:World)(e:Qe):∃ W2,Sem.run Tryz.prog (storeCells ⟨W.heap.size,0,none⟩ e.cells.toList) (W.alloc (.cells #[.int .i64 0,.string ⟨#[]⟩,.int .i64 0,.slice none 0 0,.int .i64 0,.int .i64 0,.int .i64 0,.int .i64 0,.slice none 0 0] 63))=.ok () W2∧Below W.heap.size W W2∧W2.heap[W.heap.size]?=some (.cells e.cells 63 (0,0)) :=
 zjf W 63 _ _ rfl e.one
theorem elQ:El 61 63 9 Qe.cells:=by
 have h:(Tryz.prog.info? 63).map (fun i=>(i.zero,i.size,i.bytes))=some (some (.agg (paQ 0 ⟨#[]⟩ 0 0 0 0 0 (.slice none 0 0))),9,112):=by kernel_rfl
 refine⟨Tryz.underlying61,?_,fun _=>rfl,fun e=>e.one,by omega⟩
 cases hi:Tryz.prog.info? 63 with
 | none=>rw[hi] at h;cases h
 | some i=>
  rw[hi] at h;simp only[Option.map_some,Option.some.injEq,Prod.mk.injEq] at h;exact⟨i,_,rfl,h.1,h.2.1,by rw[h.2.2];decide,rfl⟩
end Go.Proofs.YtmclgbkijeidaaaGreatDoor
