import Derived.Test.YtmclgbkijeidaaaGreatDoorUoF
import Derived.Test.YtmclgbkijeidaaaGreatDoorUoR
import Derived.Test.YtmclgbkijeidaaaGreatDoorUoG
namespace Go.Proofs.YtmclgbkijeidaaaGreatDoor
open Go.RowKit
structure Qs where
 p:Nat
 bad:Bool
structure Qv where
 k:Int
 x:ByteArray
 n:Int
 a:Int
 f:Int
 t:Int
 bg:Int
 l:List Pt
def Qv.pt (v:Qv):Pt:=.mk v.k v.x v.n v.a v.f v.t v.l
abbrev Rq:=Option (Qv × Qs)
section
variable (ts:List Tok)
def nxQ (p:Nat):Tok:=if p<ts.length then nxT ts p else⟨0,⟨#[]⟩,behI ts p⟩
def isQ (p:Nat) (s:ByteArray):Bool:=((nxQ ts p).text.data.toList == s.data.toList) && (((nxQ ts p).kind == 4) || (((nxQ ts p).kind == 1) && kepB s))
def okQ (p:Nat) (s:ByteArray):Bool :=
 if s.data.toList == [101,110,100] then(nxQ ts p).kind == 5 else if s.data.toList == [116,101,120,116] then(nxQ ts p).kind == 3 else if s.data.toList == [110,117,109,98,101,114] then(nxQ ts p).kind == 2
 else if s.data.toList == [110,97,109,101] then((nxQ ts p).kind == 1) && !kepB (nxQ ts p).text else isQ ts p s
def takS (s:ByteArray) (q:Qs):Qs:=if q.bad || !okQ ts q.p s then⟨q.p,true⟩ else⟨q.p+1,false⟩
def takT (s:ByteArray) (q:Qs):Tok:=if q.bad || !okQ ts q.p s then tokZ else nxQ ts q.p
def tak {β:Type}(s:ByteArray) (q:Qs) (k:Tok->Qs->β):β:=k (takT ts s q) (takS ts s q)
def wrQ (b:Bool) (q:Qs):Qs:=if b then⟨q.p,true⟩ else q
def worD (k:Int) (w:ByteArray) (q:Qs):Qv × Qs:=tak ts w q fun t q=>tak ts ⟨#[110,97,109,101]⟩ q fun n q=>(⟨k,n.text,0,n.pos,t.pos,0,t.pos,[]⟩,q)
def litD (q:Qs):Qv × Qs :=
 let t:=nxQ ts q.p
 if t.kind == 2 then tak ts ⟨#[110,117,109,98,101,114]⟩ q fun _ q=>(⟨20,⟨#[]⟩,numT t,t.pos,t.pos,behI ts q.p,t.pos,[]⟩,q)
 else if t.kind == 3 then tak ts ⟨#[116,101,120,116]⟩ q fun _ q=>(⟨21,valT t,0,t.pos,t.pos,behI ts q.p,t.pos,[]⟩,q)
 else if isQ ts q.p ⟨#[116,114,117,101]⟩ then tak ts ⟨#[116,114,117,101]⟩ q fun t q=>(⟨22,⟨#[116,114,117,101]⟩,0,t.pos,t.pos,behI ts q.p,t.pos,[]⟩,q)
 else tak ts ⟨#[102,97,108,115,101]⟩ q fun t q=>(⟨22,⟨#[102,97,108,115,101]⟩,0,t.pos,t.pos,behI ts q.p,t.pos,[]⟩,q)
def valD (q:Qs):Qv × Qs :=
 if isQ ts q.p ⟨#[45]⟩ then tak ts ⟨#[45]⟩ q fun t q=>
  let r:=litD ts (wrQ ((nxQ ts q.p).kind != 2) q)
  (⟨26,⟨#[45]⟩,0,t.pos,t.pos,behI ts r.2.p,t.pos,[r.1.pt]⟩,r.2)
 else litD ts q
def kinD (q:Qs):Qv × Qs :=
 let t:=nxQ ts q.p
 if isQ ts q.p ⟨#[105,110,116]⟩ || isQ ts q.p ⟨#[98,111,111,108]⟩ || isQ ts q.p ⟨#[115,116,114,105,110,103]⟩ then tak ts t.text q fun _ q=>(⟨10,t.text,0,t.pos,t.pos,behI ts q.p,t.pos,[]⟩,q)
 else tak ts ⟨#[110,97,109,101]⟩ q fun n q=>
  if isQ ts q.p ⟨#[46]⟩ then tak ts ⟨#[46]⟩ q fun _ q2=>tak ts ⟨#[110,97,109,101]⟩ q2 fun m q3=>(⟨12,m.text,0,m.pos,n.pos,behI ts q3.p,n.pos,[.mk 23 n.text 0 n.pos n.pos (behI ts q.p) []]⟩,q3)
  else(⟨11,n.text,0,n.pos,n.pos,behI ts q.p,n.pos,[]⟩,q)
def tydD (k:Int) (q:Qs):Qv × Qs:=tak ts ⟨#[110,97,109,101]⟩ q fun t q=>
 let r:=kinD ts q
 (⟨k,t.text,0,t.pos,t.pos,behI ts r.2.p,t.pos,[r.1.pt]⟩,r.2)
def impD (q:Qs):Qv × Qs:=tak ts ⟨#[105,109,112,111,114,116]⟩ q fun i q=>tak ts ⟨#[116,101,120,116]⟩ q fun t q=>(⟨2,valT t,0,t.pos,i.pos,behI ts q.p,i.pos,[]⟩,q)
def conD (q:Qs):Qv × Qs :=
 let w:=worD ts 3 ⟨#[99,111,110,115,116]⟩ q
 tak ts ⟨#[61]⟩ w.2 fun _ q=>
 let r:=valD ts q
 (⟨3,w.1.x,0,w.1.a,w.1.f,behI ts r.2.p,w.1.bg,[r.1.pt]⟩,r.2)
structure Dns where
 row:Nat->Qs->Rq
 rowL:Nat->Qv->Qs->Rq
 una:Qs->Rq
 post:Qs->Rq
 posL:Qv->Qs->Rq
 prim:Qs->Rq
 argL:List Pt->Qs->Option (List Pt × Qs)
 parL:List Pt->Qs->Option (List Pt × Qs)
 fieL:List Pt->Qs->Option (List Pt × Qs)
 stmt:Qs->Rq
 bran:Qs->Rq
 stmL:List Pt->Qs->Option (List Pt × Qs)
 impL:List Pt->Qs->Option (List Pt × Qs)
 decL:List Pt->Qs->Option (List Pt × Qs)
def bloD (f:Dns) (q:Qs):Rq:=tak ts ⟨#[123]⟩ q fun t q=>(f.stmL [] q).bind fun l=>tak ts ⟨#[125]⟩ l.2 fun _ q=>some (⟨13,⟨#[]⟩,0,t.pos,t.pos,behI ts q.p,t.pos,l.1⟩,q)
def varD (f:Dns) (q:Qs):Rq :=
 let w:=worD ts 4 ⟨#[118,97,114]⟩ q
 let r:=kinD ts w.2
 if isQ ts r.2.p ⟨#[61]⟩ then tak ts ⟨#[61]⟩ r.2 fun _ q=>(f.row 1 q).bind fun e=>some (⟨4,w.1.x,0,w.1.a,w.1.f,behI ts e.2.p,w.1.bg,[r.1.pt,e.1.pt]⟩,e.2)
 else some (⟨4,w.1.x,0,w.1.a,w.1.f,behI ts r.2.p,w.1.bg,[r.1.pt]⟩,r.2)
def looD (f:Dns) (q:Qs):Rq :=
 tak ts ⟨#[102,111,114]⟩ q fun t q=>(f.row 1 q).bind fun e=>(bloD ts f e.2).bind fun b=>some (⟨15,⟨#[]⟩,0,t.pos,t.pos,behI ts b.2.p,t.pos,[e.1.pt,b.1.pt]⟩,b.2)
def resD (f:Dns) (q:Qs):Rq :=
 tak ts ⟨#[114,101,116,117,114,110]⟩ q fun t q=>if (nxQ ts q.p).kind != 5 && !isQ ts q.p ⟨#[125]⟩ then(f.row 1 q).bind fun e=>some (⟨16,⟨#[]⟩,0,t.pos,t.pos,behI ts e.2.p,t.pos,[e.1.pt]⟩,e.2)
  else some (⟨16,⟨#[]⟩,0,t.pos,t.pos,behI ts q.p,t.pos,[]⟩,q)
def shoD (f:Dns) (q:Qs):Rq :=
 let x:=(nxQ ts q.p).text
 tak ts ⟨#[110,97,109,101]⟩ q fun t q=>tak ts ⟨#[58,61]⟩ q fun _ q=>(f.row 1 q).bind fun e=>some (⟨17,x,0,t.pos,t.pos,behI ts e.2.p,t.pos,[e.1.pt]⟩,e.2)
def simD (f:Dns) (q:Qs):Rq :=
 let t:=nxQ ts q.p
 (f.row 1 q).bind fun e=>if isQ ts e.2.p ⟨#[61]⟩ then tak ts ⟨#[61]⟩ e.2 fun _ q=>(f.row 1 q).bind fun d=>some (⟨18,⟨#[]⟩,0,t.pos,t.pos,behI ts d.2.p,t.pos,[e.1.pt,d.1.pt]⟩,d.2)
  else some (⟨19,⟨#[]⟩,0,t.pos,t.pos,behI ts e.2.p,t.pos,[e.1.pt]⟩,e.2)
def strD (f:Dns) (q:Qs):Rq :=
 let w:=worD ts 5 ⟨#[116,121,112,101]⟩ q
 tak ts ⟨#[115,116,114,117,99,116]⟩ w.2 fun _ q=>tak ts ⟨#[123]⟩ q fun _ q=>(f.fieL [] q).bind fun l=>tak ts ⟨#[125]⟩ l.2 fun _ q=>some (⟨5,w.1.x,0,w.1.a,w.1.f,behI ts q.p,w.1.bg,l.1⟩,q)
def recD (q:Qs):List Pt × Qs :=
 if isQ ts q.p ⟨#[40]⟩ then tak ts ⟨#[40]⟩ q fun _ q=>tak ts ⟨#[110,97,109,101]⟩ q fun n q=>tak ts ⟨#[110,97,109,101]⟩ q fun t q=>
  tak ts ⟨#[41]⟩ q fun _ q2=>([.mk 8 n.text 0 n.pos n.pos (behI ts q.p) [.mk 11 t.text 0 t.pos t.pos (behI ts q.p) []]],q2)
 else([],q)
def funD (f:Dns) (q:Qs):Rq :=
 tak ts ⟨#[102,117,110,99]⟩ q fun u q=>
 let r:=recD ts q
 tak ts ⟨#[110,97,109,101]⟩ r.2 fun n q=>tak ts ⟨#[40]⟩ q fun _ q=>(f.parL r.1 q).bind fun l=>tak ts ⟨#[41]⟩ l.2 fun _ q=>
 if isQ ts q.p ⟨#[123]⟩ then(bloD ts f q).bind fun b=>some (⟨7,n.text,0,n.pos,u.pos,behI ts b.2.p,u.pos,l.1++[b.1.pt]⟩,b.2)
 else
  let k:=kinD ts q
  (bloD ts f k.2).bind fun b=>some (⟨7,n.text,0,n.pos,u.pos,behI ts b.2.p,u.pos,l.1++[k.1.pt]++[b.1.pt]⟩,b.2)
def decD (f:Dns) (q:Qs):Rq :=
 if isQ ts q.p ⟨#[99,111,110,115,116]⟩ then some (conD ts q) else if isQ ts q.p ⟨#[118,97,114]⟩ then varD ts f q else if isQ ts q.p ⟨#[116,121,112,101]⟩ then strD ts f q else funD ts f q
def rowQ (s:ByteArray):Int:=rowI s+1
def dns:Nat->Dns
 | 0=>⟨fun _ _=>none,fun _ _ _=>none,fun _=>none,fun _=>none,fun _ _=>none,fun _=>none,fun _ _=>none,fun _ _=>none,fun _ _=>none,fun _=>none,fun _=>none,fun _ _=>none,fun _ _=>none,fun _ _=>none⟩
 | n+1=>{
  row:=fun k q=>if k=6 then(dns n).una q else((dns n).row (k+1) q).bind fun v=>(dns n).rowL k v.1 v.2
  rowL:=fun k v q=>if !q.bad && (((nxQ ts q.p).kind == 4) && (rowQ (nxQ ts q.p).text == k)) then
    tak ts (nxQ ts q.p).text q fun _ q'=>((dns n).row (k+1) q').bind fun u=>
     let x:Qv:=⟨27,(nxQ ts q.p).text,0,(nxQ ts q.p).pos,v.bg,behI ts u.2.p,v.bg,[v.pt,u.1.pt]⟩
     if k=3 then some (x,u.2) else(dns n).rowL k x u.2
   else some (v,q)
  una:=fun q=>if !q.bad && (isQ ts q.p ⟨#[45]⟩ || isQ ts q.p ⟨#[33]⟩) then
    tak ts (nxQ ts q.p).text q fun _ q'=>((dns n).una q').bind fun u=>some (⟨26,(nxQ ts q.p).text,0,(nxQ ts q.p).pos,(nxQ ts q.p).pos,behI ts u.2.p,(nxQ ts q.p).pos,[u.1.pt]⟩,u.2)
   else(dns n).post q
  post:=fun q=>((dns n).prim q).bind fun v=>(dns n).posL v.1 v.2
  posL:=fun v q=>if !q.bad && (isQ ts q.p ⟨#[46]⟩ || isQ ts q.p ⟨#[40]⟩) then
    (if isQ ts q.p ⟨#[46]⟩ then tak ts ⟨#[46]⟩ q fun _ q=>tak ts ⟨#[110,97,109,101]⟩ q fun m q=>(dns n).posL ⟨24,m.text,0,m.pos,v.bg,behI ts q.p,v.bg,[v.pt]⟩ q
    else tak ts ⟨#[40]⟩ q fun _ q=>((dns n).argL [v.pt] q).bind fun l=>tak ts ⟨#[41]⟩ l.2 fun _ q=>(dns n).posL ⟨25,⟨#[]⟩,0,v.bg,v.bg,behI ts q.p,v.bg,l.1⟩ q)
   else some (v,q)
  prim:=fun q=>if !q.bad && isQ ts q.p ⟨#[40]⟩ then
    tak ts ⟨#[40]⟩ q fun _ q'=>((dns n).row 1 q').bind fun v=>tak ts ⟨#[41]⟩ v.2 fun _ q2=>some (⟨v.1.k,v.1.x,v.1.n,v.1.a,v.1.f,v.1.t,(nxQ ts q.p).pos,v.1.l⟩,q2)
   else if (((nxQ ts q.p).kind == 2) || ((nxQ ts q.p).kind == 3)) || (isQ ts q.p ⟨#[116,114,117,101]⟩ || isQ ts q.p ⟨#[102,97,108,115,101]⟩) then some (litD ts q)
   else tak ts ⟨#[110,97,109,101]⟩ q fun _ q'=>some (⟨23,(nxQ ts q.p).text,0,(nxQ ts q.p).pos,(nxQ ts q.p).pos,behI ts q'.p,(nxQ ts q.p).pos,[]⟩,q')
  argL:=fun l q=>if !q.bad && !isQ ts q.p ⟨#[41]⟩ then((dns n).row 1 q).bind fun u=>
    if isQ ts u.2.p ⟨#[41]⟩ then some (l++[u.1.pt],u.2) else tak ts ⟨#[44]⟩ u.2 fun _ q=>(dns n).argL (l++[u.1.pt]) (wrQ (isQ ts q.p ⟨#[41]⟩) q)
   else some (l,q)
  parL:=fun l q=>if !q.bad && !isQ ts q.p ⟨#[41]⟩ then
    let u:=tydD ts 9 q
    if isQ ts u.2.p ⟨#[41]⟩ then some (l++[u.1.pt],u.2) else tak ts ⟨#[44]⟩ u.2 fun _ q=>(dns n).parL (l++[u.1.pt]) (wrQ (isQ ts q.p ⟨#[41]⟩) q)
   else some (l,q)
  fieL:=fun l q=>if !q.bad && !isQ ts q.p ⟨#[125]⟩ then
    let u:=tydD ts 6 q
    (dns n).fieL (l++[u.1.pt]) (if isQ ts u.2.p ⟨#[125]⟩ then u.2 else takS ts ⟨#[101,110,100]⟩ u.2)
   else some (l,q)
  stmt:=fun q=>
   if isQ ts q.p ⟨#[123]⟩ then bloD ts (dns n) q else if isQ ts q.p ⟨#[118,97,114]⟩ then varD ts (dns n) q else if isQ ts q.p ⟨#[105,102]⟩ then(dns n).bran q
   else if isQ ts q.p ⟨#[102,111,114]⟩ then looD ts (dns n) q else if isQ ts q.p ⟨#[114,101,116,117,114,110]⟩ then resD ts (dns n) q
   else if (((nxQ ts q.p).kind == 1) && !kepB (nxQ ts q.p).text) && (decide (q.p+1<ts.length) && (((nxT ts (q.p+1)).kind == 4) && isT ts (q.p+1) [58,61])) then shoD ts (dns n) q else simD ts (dns n) q
  bran:=fun q=>tak ts ⟨#[105,102]⟩ q fun t q=>((dns n).row 1 q).bind fun e=>(bloD ts (dns n) e.2).bind fun b=>
   if isQ ts b.2.p ⟨#[101,108,115,101]⟩ then tak ts ⟨#[101,108,115,101]⟩ b.2 fun _ q=>(if isQ ts q.p ⟨#[105,102]⟩ then(dns n).bran q else bloD ts (dns n) q).bind fun c=>some (⟨14,⟨#[]⟩,0,t.pos,t.pos,behI ts c.2.p,t.pos,[e.1.pt,b.1.pt,c.1.pt]⟩,c.2)
   else some (⟨14,⟨#[]⟩,0,t.pos,t.pos,behI ts b.2.p,t.pos,[e.1.pt,b.1.pt]⟩,b.2)
  stmL:=fun l q=>if !q.bad && !isQ ts q.p ⟨#[125]⟩ then((dns n).stmt q).bind fun u=>(dns n).stmL (l++[u.1.pt]) (if isQ ts u.2.p ⟨#[125]⟩ then u.2 else takS ts ⟨#[101,110,100]⟩ u.2) else some (l,q)
  impL:=fun l q=>if !q.bad && isQ ts q.p ⟨#[105,109,112,111,114,116]⟩ then
    let u:=impD ts q
    (dns n).impL (l++[u.1.pt]) (takS ts ⟨#[101,110,100]⟩ u.2)
   else some (l,q)
  decL:=fun l q=>if !q.bad && decide (q.p<ts.length) then(decD ts (dns n) q).bind fun u=>(dns n).decL (l++[u.1.pt]) (takS ts ⟨#[101,110,100]⟩ u.2) else some (l,q) }
def filD (n:Nat) (q:Qs):Rq :=
 let w:=worD ts 1 ⟨#[112,97,99,107,97,103,101]⟩ q
 ((dns ts n).impL [] (takS ts ⟨#[101,110,100]⟩ w.2)).bind fun l=>((dns ts n).decL l.1 l.2).bind fun l=>some (⟨1,w.1.x,0,w.1.a,w.1.f,behI ts l.2.p,w.1.bg,l.1⟩,l.2)
end
def Bd {α:Type}(d:Option (α × Qs)) (p:Nat):Prop:=∃ v,d=some (v,⟨p,true⟩)
section
variable {ts:List Tok}{p:Nat}
theorem zov (s:ByteArray):takS ts s ⟨p,true⟩=⟨p,true⟩:=rfl
theorem zaq {α:Type}(v:α):Bd (some (v,(⟨p,true⟩:Qs))) p:=⟨v,rfl⟩
theorem zb6 {α:Type}{s:ByteArray}{k:Tok->Qs->Option (α × Qs)}(h:∀ t,Bd (k t ⟨p,true⟩) p):Bd (tak ts s ⟨p,true⟩ k) p:=h _
theorem zaz {α β:Type}{d:Option (α × Qs)}{k:α × Qs->Option (β × Qs)}(h:Bd d p)(hk:∀ v,Bd (k (v,⟨p,true⟩)) p):Bd (d.bind k) p:=by
 obtain⟨v,rfl⟩:=h;exact hk v
theorem zd9 {α:Type}{c:Prop} [Decidable c] {a b:Option (α × Qs)}(h:Bd a p)(h':Bd b p):Bd (if c then a else b) p:=by
 split
 ·exact h
 ·exact h'
theorem zwk {α:Type}{c:Prop} [Decidable c] {a b:Option (α × Qs)}(h:c->Bd a p)(h':¬ c->Bd b p):Bd (if c then a else b) p:=by
 split
 ·rename_i hc;exact h hc
 ·rename_i hc;exact h' hc
theorem znp (b:Bool):wrQ b ⟨p,true⟩=⟨p,true⟩:=by cases b <;> rfl
theorem zhx {α:Type}{c:Prop} [Decidable c] {a b:α × Qs}{q:Qs}(h:a.2=q)(h':b.2=q):(if c then a else b).2=q:=by
 split
 ·exact h
 ·exact h'
theorem zh9:(litD ts ⟨p,true⟩).2=⟨p,true⟩:=by
 unfold litD;exact zhx rfl (zhx rfl (zhx rfl rfl))
theorem zow:(valD ts ⟨p,true⟩).2=⟨p,true⟩:=by
 unfold valD;refine zhx ?_ zh9;show(litD ts (wrQ _ ⟨p,true⟩)).2=_;rw[znp,zh9]
theorem zia:(kinD ts ⟨p,true⟩).2=⟨p,true⟩:=by
 unfold kinD;refine zhx rfl ?_;show(if _ then _ else _:Qv × Qs).2=_;exact zhx rfl rfl
theorem zwl:(recD ts ⟨p,true⟩).2=⟨p,true⟩:=by
 unfold recD;exact zhx rfl rfl
theorem zqr {α:Type}{d:α × Qs}(h:d.2=⟨p,true⟩):Bd (some d) p:=⟨d.1,by rw[<-h]⟩
theorem zfv {f:Dns}(hs:∀ l,Bd (f.stmL l ⟨p,true⟩) p):Bd (bloD ts f ⟨p,true⟩) p:=zb6 fun _=>zaz (hs _) fun _=>zb6 fun _=>zaq _
theorem z1f {f:Dns}(hr:Bd (f.row 1 ⟨p,true⟩) p):Bd (varD ts f ⟨p,true⟩) p:=by
 unfold varD
 dsimp only
 obtain⟨r,y⟩:∃ r,kinD ts (worD ts 4 ⟨#[118,97,114]⟩ ⟨p,true⟩).2=r:=⟨_,rfl⟩;have A:r.2=⟨p,true⟩:=y ▸ zia;obtain⟨r,q⟩:=r
 cases A
 rw[y];exact zd9 (zb6 fun _=>zaz hr fun _=>zaq _) (zaq _)
theorem z1g {f:Dns}(hr:Bd (f.row 1 ⟨p,true⟩) p)(hs:∀ l,Bd (f.stmL l ⟨p,true⟩) p):Bd (looD ts f ⟨p,true⟩) p:=zb6 fun _=>zaz hr fun _=>zaz (zfv hs) fun _=>zaq _
theorem z1h {f:Dns}(hr:Bd (f.row 1 ⟨p,true⟩) p):Bd (resD ts f ⟨p,true⟩) p:=zb6 fun _=>zd9 (zaz hr fun _=>zaq _) (zaq _)
theorem z1i {f:Dns}(hr:Bd (f.row 1 ⟨p,true⟩) p):Bd (shoD ts f ⟨p,true⟩) p:=by
 unfold shoD;exact zb6 fun _=>zb6 fun _=>zaz hr fun _=>zaq _
theorem z1j {f:Dns}(hr:Bd (f.row 1 ⟨p,true⟩) p):Bd (simD ts f ⟨p,true⟩) p:=zaz hr fun _=>zd9 (zb6 fun _=>zaz hr fun _=>zaq _) (zaq _)
structure BdA (ts:List Tok) (p m:Nat):Prop where
 prim:1<=m->Bd ((dns ts m).prim ⟨p,true⟩) p
 posL:1<=m->∀ v,Bd ((dns ts m).posL v ⟨p,true⟩) p
 post:2<=m->Bd ((dns ts m).post ⟨p,true⟩) p
 una:3<=m->Bd ((dns ts m).una ⟨p,true⟩) p
 rowL:1<=m->∀ k v,Bd ((dns ts m).rowL k v ⟨p,true⟩) p
 row:∀ k,k<=6->10<=m+k->Bd ((dns ts m).row k ⟨p,true⟩) p
 argL:1<=m->∀ l,Bd ((dns ts m).argL l ⟨p,true⟩) p
 parL:1<=m->∀ l,Bd ((dns ts m).parL l ⟨p,true⟩) p
 fieL:1<=m->∀ l,Bd ((dns ts m).fieL l ⟨p,true⟩) p
 stmt:11<=m->Bd ((dns ts m).stmt ⟨p,true⟩) p
 bran:10<=m->Bd ((dns ts m).bran ⟨p,true⟩) p
 stmL:1<=m->∀ l,Bd ((dns ts m).stmL l ⟨p,true⟩) p
 impL:1<=m->∀ l,Bd ((dns ts m).impL l ⟨p,true⟩) p
 decL:1<=m->∀ l,Bd ((dns ts m).decL l ⟨p,true⟩) p
theorem bdA (ts:List Tok)(p m:Nat):BdA ts p m:=by
 induction m with
 | zero=>constructor <;> (intros;omega)
 | succ m ih=>
  constructor
  ·intro _;exact zd9 (zqr zh9) (zb6 (k:=fun _ E=>some (_,E)) fun _=>zaq _)
  ·intro _ v;exact zaq _
  ·intro h;exact zaz (ih.prim (by omega)) fun v=>ih.posL (by omega) _
  ·intro h;exact ih.post (by omega)
  ·intro _ k v;exact zaq _
  ·intro k F h;refine zwk (fun h=>ih.una (by omega)) fun h=>zaz (ih.row _ (by omega) (by omega)) fun v=>ih.rowL (by omega) _ _
  ·intro _ l;exact zaq _
  ·intro _ l;exact zaq _
  ·intro _ l;exact zaq _
  ·intro h;have y:=ih.row 1 (by omega) (by omega);have A:=ih.stmL (by omega);exact zd9 (zfv A) (zd9 (z1f y) (zd9 (ih.bran (by omega)) (zd9 (z1g y A) (zd9 (z1h y) (zd9 (z1i y) (z1j y))))))
  ·intro h;have y:=ih.row 1 (by omega) (by omega);have A:=ih.stmL (by omega);unfold dns
   dsimp only
   refine zb6 fun _=>?_;refine zaz y fun e=>zaz (zfv A) fun b=>zwk (fun C=>zb6 fun _=>zaz (zwk (fun D=>?_) fun _=>zfv A) fun _=>zaq _) fun _=>zaq _
   exfalso
   have C:isQ ts p ⟨#[101,108,115,101]⟩=true:=C;have D:isQ ts p ⟨#[105,102]⟩=true:=D;unfold isQ at C D;rw[Bool.and_eq_true] at C D;have e:=(eq_of_beq C.1).symm.trans (eq_of_beq D.1);simp at e
  ·intro _ l;exact zaq _
  ·intro _ l;exact zaq _
  ·intro _ l;exact zaq _
end
def sgQ:List (List UInt8):=[[45],[33],[46],[40],[41],[123],[125],[44],[61],[58,61],[124,124],[38,38],[61,61],[33,61],[60],[60,61],[62],[62,61],[43],[42],[47],[37]]
structure RtT (ts:List Tok):Prop where
 sg:∀ p,(nxT ts p).text.data.toList ∈ sgQ->(nxT ts p).kind=4
 kw:∀ p,kepB (nxT ts p).text=true->(nxT ts p).kind=1
def AgG (ts:List Tok) {α β:Type}(P:β->α->Prop) (r:Rs β) (d:Option (α × Qs)):Prop:=match r with
 | .ok t q=>∃ v,d=some (v,⟨q,false⟩)∧P t v
 | .bad s=>∃ v q,d=some (v,⟨q,true⟩)∧herI ts q=s
 | .out=>True
def IsV (bg:Int) (t:Pt) (v:Qv):Prop:=v.pt=t∧v.bg=bg
section
variable {ts:List Tok}
theorem zgi {s t:ByteArray}(h:s.data.toList=t.data.toList):s=t:=by
 obtain⟨⟨s⟩⟩:=s;obtain⟨⟨t⟩⟩:=t
 cases(show s=t from h)
 rfl
theorem nxP {p:Nat}(h:p<ts.length):nxQ ts p=nxT ts p:=if_pos h
theorem herP {p:Nat}(h:p<ts.length):herI ts p=(nxT ts p).pos:=if_pos h
theorem zbv (p:Nat):(nxQ ts p).pos=herI ts p:=by
 unfold nxQ herI
 split <;> rfl
theorem zib {p:Nat}(h:¬ p<ts.length):nxT ts p=tokZ:=by
 unfold nxT;rw[List.getD_eq_getElem?_getD,List.getElem?_eq_none (by omega)];rfl
theorem zgt (p:Nat):(nxQ ts p).kind=(nxT ts p).kind:=by
 by_cases h:p<ts.length
 ·rw[nxP h]
 ·rw[zib h];unfold nxQ;rw[if_neg h];rfl
theorem zk5 (p:Nat):(nxQ ts p).text=(nxT ts p).text:=by
 by_cases h:p<ts.length
 ·rw[nxP h]
 ·rw[zib h];unfold nxQ;rw[if_neg h];rfl
theorem zbg (hR:RtT ts)(p:Nat)(s:ByteArray)(h:sgQ.contains s.data.toList=true∨kepB s=true):isQ ts p s=isT ts p s.data.toList:=by
 unfold isQ isT;rw[zk5,zgt]
 cases hb:(nxT ts p).text.data.toList == s.data.toList
 ·rfl
 ·have e:=eq_of_beq hb;rcases h with h|h
  ·rw[hR.sg p (by rw[e];exact List.contains_iff_mem.mp h)];rfl
  ·rw[hR.kw p (by rw[zgi e];exact h),h];rfl
theorem zk6 {p:Nat}{s:ByteArray}(h:isQ ts p s=true):(nxQ ts p).text=s:=by
 unfold isQ at h;rw[Bool.and_eq_true] at h;exact zgi (eq_of_beq h.1)
def spc (s:ByteArray):Bool:=(s.data.toList == [101,110,100]) || (s.data.toList == [116,101,120,116]) || (s.data.toList == [110,117,109,98,101,114]) || (s.data.toList == [110,97,109,101])
theorem zox {p:Nat}{s:ByteArray}(h:spc s=false):okQ ts p s=isQ ts p s:=by
 unfold spc at h;simp only[Bool.or_eq_false_iff] at h;unfold okQ;rw[h.1.1.1,h.1.1.2,h.1.2,h.2];rfl
theorem zdg (p:Nat):okQ ts p ⟨#[110,97,109,101]⟩=namB ts p:=by
 show(((nxQ ts p).kind == 1) && !kepB (nxQ ts p).text)=_;rw[zgt,zk5];rfl
theorem zey (p:Nat):okQ ts p ⟨#[101,110,100]⟩=((nxT ts p).kind == 5)∧okQ ts p ⟨#[116,101,120,116]⟩=((nxT ts p).kind == 3)∧okQ ts p ⟨#[110,117,109,98,101,114]⟩=((nxT ts p).kind == 2):=by
 refine⟨?_,?_,?_⟩
 ·show((nxQ ts p).kind == 5)=_;rw[zgt]
 ·show((nxQ ts p).kind == 3)=_;rw[zgt]
 ·show((nxQ ts p).kind == 2)=_;rw[zgt]
theorem zdc (hR:RtT ts)(p:Nat)(s:ByteArray)(h:sgQ.contains s.data.toList=true∨kepB s=true)(h':spc s=false):okQ ts p s=isT ts p s.data.toList:=(zox h').trans (zbg hR p s h)
section
variable {α β γ δ:Type}{P:β->α->Prop}{P':δ->γ->Prop}{p:Nat}
theorem zjf {d:Option (α × Qs)}{s:Int}(h:Bd d p)(hs:herI ts p=s):AgG ts P (.bad s) d:=by
 obtain⟨v,rfl⟩:=h;exact⟨v,p,rfl,hs⟩
theorem zc9 {t:β}{v:α}(h:P t v):AgG ts P (.ok t p) (some (v,⟨p,false⟩)):=⟨v,rfl,h⟩
theorem zbr {b:Bool}{s:ByteArray}{r:Rs β}{k:Tok->Qs->Option (α × Qs)}(hb:okQ ts p s=b)(h:b=true->AgG ts P r (k (nxQ ts p) ⟨p+1,false⟩))(h':∀ t,Bd (k t ⟨p,true⟩) p):AgG ts P (.need b (herI ts p) r) (tak ts s ⟨p,false⟩ k):=by
 have A:takT ts s ⟨p,false⟩=if b then nxQ ts p else tokZ:=by
  unfold takT;simp only[Bool.false_or];rw[hb]
  cases b <;> rfl
 have y:takS ts s ⟨p,false⟩=if b then⟨p+1,false⟩ else⟨p,true⟩:=by
  unfold takS;simp only[Bool.false_or];rw[hb]
  cases b <;> rfl
 unfold tak;rw[A,y]
 cases b
 ·exact zjf (h' _) rfl
 ·exact h rfl
theorem zdd {s:ByteArray}{r:Rs β}{k:Tok->Qs->Option (α × Qs)}(hb:okQ ts p s=true)(h:AgG ts P r (k (nxQ ts p) ⟨p+1,false⟩)):AgG ts P r (tak ts s ⟨p,false⟩ k):=by
 unfold tak takT takS;simp only[Bool.false_or];rw[hb];exact h
theorem zcg {r:Rs β}{d:Option (α × Qs)}{f:β->Nat->Rs δ}{k:α × Qs->Option (γ × Qs)}(h:AgG ts P r d)(hk:∀ t v q,P t v->AgG ts P' (f t q) (k (v,⟨q,false⟩)))(hb:∀ v q,Bd (k (v,⟨q,true⟩)) q):AgG ts P' (r.bind f) (d.bind k):=by
 cases r with
 | ok t q=>
  obtain⟨v,rfl,y⟩:=h;exact hk t v q y
 | bad s=>
  obtain⟨v,q,rfl,y⟩:=h;exact zjf (hb v q) y
 | out=>trivial
theorem ziw {r:Rs β}{d:α × Qs}{f:β->Nat->Rs δ}{k:α × Qs->Option (γ × Qs)}(h:AgG ts P r (some d))(hk:∀ t v q,P t v->AgG ts P' (f t q) (k (v,⟨q,false⟩)))(hb:∀ v q,Bd (k (v,⟨q,true⟩)) q):AgG ts P' (r.bind f) (k d):=by
 cases r with
 | ok t q=>
  obtain⟨v,e,y⟩:=h
  cases e
  exact hk t v q y
 | bad s=>
  obtain⟨v,q,e,y⟩:=h
  cases e
  exact zjf (hb v q) y
 | out=>trivial
theorem zcy {a b:Rs β}{a' b':Option (α × Qs)}{c c':Prop} [Decidable c] [Decidable c'] (hc:c' ↔ c)(h:c->AgG ts P a a')(h':¬ c->AgG ts P b b'):AgG ts P (if c then a else b) (if c' then a' else b'):=by
 by_cases hx:c
 ·rw[if_pos hx,if_pos (hc.mpr hx)];exact h hx
 ·rw[if_neg hx,if_neg (fun e=>hx (hc.mp e))];exact h' hx
end
theorem zju {α:Type}{c:Prop} [Decidable c] {a b:α × Qs}:some (if c then a else b)=if c then some a else some b:=by split <;> rfl
theorem zfw {p:Nat}(h:p<ts.length):(nxQ ts p).pos=herI ts p∧(nxT ts p).pos=herI ts p∧nxQ ts p=nxT ts p:=⟨zbv p,(herP h).symm,nxP h⟩
variable (hR:RtT ts)
include hR
theorem zs4 (p:Nat):AgG ts (IsV (herI ts p)) (va1P ts p) (some (litD ts ⟨p,false⟩)):=by
 unfold va1P litD
 dsimp only
 rw[zju,zju,zju];refine zcy (by rw[zgt]) (fun h=>?_) fun E=>zcy (by rw[zgt]) (fun h=>?_) fun D=>?_
 ·obtain⟨y,A,C⟩:=zfw (zg4 h (by decide));exact zdd (k:=fun _ q=>some ((⟨20,⟨#[]⟩,numT (nxQ ts p),(nxQ ts p).pos,(nxQ ts p).pos,behI ts q.p,(nxQ ts p).pos,[]⟩:Qv),q)) ((zey p).2.2.trans h) (zc9 ⟨by unfold Qv.pt;dsimp only;rw[y,A,C],y⟩)
 ·obtain⟨y,A,C⟩:=zfw (zg4 h (by decide));exact zdd (k:=fun _ q=>some ((⟨21,valT (nxQ ts p),0,(nxQ ts p).pos,(nxQ ts p).pos,behI ts q.p,(nxQ ts p).pos,[]⟩:Qv),q)) ((zey p).2.1.trans h) (zc9 ⟨by unfold Qv.pt;dsimp only;rw[y,A,C],y⟩)
 ·rw[zbg hR p ⟨#[116,114,117,101]⟩ (.inr rfl)]
  cases h4:isT ts p [116,114,117,101]
  ·cases h5:isT ts p [102,97,108,115,101]
   ·refine zjf (p:=p) ?_ rfl;have e:okQ ts p ⟨#[102,97,108,115,101]⟩=false:=(zdc hR p ⟨#[102,97,108,115,101]⟩ (.inr rfl) rfl).trans h5;show Bd (some (tak ts ⟨#[102,97,108,115,101]⟩ ⟨p,false⟩ fun t q=>(_,q))) p;unfold tak takS;rw[e];exact zaq _
   ·obtain⟨y,A,C⟩:=zfw (zcx h5 (by simp));refine zdd (k:=fun t q=>some ((⟨22,⟨#[102,97,108,115,101]⟩,0,t.pos,t.pos,behI ts q.p,t.pos,[]⟩:Qv),q)) ((zdc hR p ⟨#[102,97,108,115,101]⟩ (.inr rfl) rfl).trans h5) (zc9 ⟨?_,y⟩);unfold Qv.pt
    dsimp only
    rw[y,A,show(nxT ts p).text=⟨#[102,97,108,115,101]⟩ from zgi (eq_of_beq h5)]
  ·obtain⟨y,A,C⟩:=zfw (zcx h4 (by simp));refine zdd (k:=fun t q=>some ((⟨22,⟨#[116,114,117,101]⟩,0,t.pos,t.pos,behI ts q.p,t.pos,[]⟩:Qv),q)) ((zdc hR p ⟨#[116,114,117,101]⟩ (.inr rfl) rfl).trans h4) (zc9 ⟨?_,y⟩);unfold Qv.pt
   dsimp only
   rw[y,A,show(nxT ts p).text=⟨#[116,114,117,101]⟩ from zgi (eq_of_beq h4)]
theorem z1k (p:Nat):AgG ts (IsV (herI ts p)) (valP ts p) (some (valD ts ⟨p,false⟩)):=by
 unfold valP valD;rw[zju];refine zcy (by rw[zbg hR p ⟨#[45]⟩ (.inl rfl)]) (fun h=>?_) fun _=>zs4 hR p;obtain⟨y,D,E⟩:=zfw (zcx h (by simp));have C:okQ ts p ⟨#[45]⟩=true:=(zdc hR p ⟨#[45]⟩ (.inl rfl) rfl).trans h;refine zdd (k:=fun t q=>some ((⟨26,⟨#[45]⟩,0,t.pos,t.pos,behI ts (litD ts (wrQ ((nxQ ts q.p).kind != 2) q)).2.p,t.pos,[(litD ts (wrQ ((nxQ ts q.p).kind != 2) q)).1.pt]⟩:Qv),(litD ts (wrQ ((nxQ ts q.p).kind != 2) q)).2)) C ?_
 dsimp only
 rw[zgt]
 cases h2:(nxT ts (p+1)).kind == 2
 ·rw[if_neg (by simp)];refine zjf (p:=p+1) ?_ rfl;have e:wrQ ((nxT ts (p+1)).kind != 2) ⟨p+1,false⟩=⟨p+1,true⟩:=by
   unfold wrQ bne;rw[h2];rfl
  rw[e];exact zqr zh9
 ·rw[if_pos rfl];have e:wrQ ((nxT ts (p+1)).kind != 2) ⟨p+1,false⟩=⟨p+1,false⟩:=by
   unfold wrQ bne;rw[h2];rfl
  rw[e];refine ziw (P':=IsV (herI ts p)) (k:=fun r=>some ((⟨26,⟨#[45]⟩,0,(nxQ ts p).pos,(nxQ ts p).pos,behI ts r.2.p,(nxQ ts p).pos,[r.1.pt]⟩:Qv),r.2)) (zs4 hR (p+1)) (fun t v q A=>zc9 ⟨?_,y⟩) fun v q=>zaq _;unfold Qv.pt
  dsimp only
  rw[y,D,show(nxT ts p).text=⟨#[45]⟩ from zgi (eq_of_beq h),<-A.1];rfl
theorem zs5 (p:Nat):AgG ts (IsV (herI ts p)) (typP ts p) (some (kinD ts ⟨p,false⟩)):=by
 unfold typP kinD
 dsimp only
 rw[zju];refine zcy (by rw[zbg hR p ⟨#[105,110,116]⟩ (.inr rfl),zbg hR p ⟨#[98,111,111,108]⟩ (.inr rfl),zbg hR p ⟨#[115,116,114,105,110,103]⟩ (.inr rfl)]) (fun h=>?_) fun _=>?_
 ·have E:isQ ts p (nxQ ts p).text=true∧spc (nxQ ts p).text=false:=by
   have:isQ ts p ⟨#[105,110,116]⟩=true∨isQ ts p ⟨#[98,111,111,108]⟩=true∨isQ ts p ⟨#[115,116,114,105,110,103]⟩=true:=by
    rw[zbg hR p ⟨#[105,110,116]⟩ (.inr rfl),zbg hR p ⟨#[98,111,111,108]⟩ (.inr rfl),zbg hR p ⟨#[115,116,114,105,110,103]⟩ (.inr rfl)];simpa[or_assoc] using h
   rcases this with h|h|h
   all_goals
    have e:=zk6 h;rw[e];exact⟨h,rfl⟩
  have N:p<ts.length:=by
   rw[Bool.or_eq_true,Bool.or_eq_true] at h;rcases h with(h|h) | h <;> exact zcx h (by simp)
  obtain⟨y,D,C⟩:=zfw N;refine zdd (k:=fun _ q=>some ((⟨10,(nxQ ts p).text,0,(nxQ ts p).pos,(nxQ ts p).pos,behI ts q.p,(nxQ ts p).pos,[]⟩:Qv),q)) ((zox E.2).trans E.1) (zc9 ⟨?_,y⟩);unfold Qv.pt
  dsimp only
  rw[y,D,C]
 ·have F:=zdg (ts:=ts) p;have I:∀ q,okQ ts q ⟨#[46]⟩=isT ts q [46]:=fun q=>zdc hR q ⟨#[46]⟩ (.inl rfl) rfl;have hd:isQ ts (p+1) ⟨#[46]⟩=isT ts (p+1) [46]:=zbg hR _ ⟨#[46]⟩ (.inl rfl)
  cases hb:namB ts p
  ·have e:AgG ts (IsV (herI ts p)) (.bad (herI ts p)) (some (tak ts ⟨#[110,97,109,101]⟩ ⟨p,false⟩ fun n q=>
     if isQ ts q.p ⟨#[46]⟩ then tak ts ⟨#[46]⟩ q fun _ A=>tak ts ⟨#[110,97,109,101]⟩ A fun m q3=>((⟨12,m.text,0,m.pos,n.pos,behI ts q3.p,n.pos,[.mk 23 n.text 0 n.pos n.pos (behI ts q.p) []]⟩:Qv),q3)
     else((⟨11,n.text,0,n.pos,n.pos,behI ts q.p,n.pos,[]⟩:Qv),q))):=by
    refine zjf (p:=p) ?_ rfl;unfold tak takS;rw[F,hb];exact zqr (zhx rfl rfl)
   split
   ·unfold worP;rw[hb];exact e
   ·unfold worP;rw[hb];exact e
  ·obtain⟨y,D,C⟩:=zfw (zek hb);refine zdd (k:=fun n q=>some (if isQ ts q.p ⟨#[46]⟩ then tak ts ⟨#[46]⟩ q fun _ A=>tak ts ⟨#[110,97,109,101]⟩ A fun m q3=>((⟨12,m.text,0,m.pos,n.pos,behI ts q3.p,n.pos,[.mk 23 n.text 0 n.pos n.pos (behI ts q.p) []]⟩:Qv),q3)
     else((⟨11,n.text,0,n.pos,n.pos,behI ts q.p,n.pos,[]⟩:Qv),q))) (F.trans hb) ?_
   dsimp only
   rw[zju,hd];refine zcy Iff.rfl (fun h=>?_) fun h=>?_
   ·unfold worP;rw[hb];show AgG ts _ (expP ts [46] (p+1) fun q=>namP ts q fun t q=>_) _;refine zbr (s:=⟨#[46]⟩) (k:=fun _ A=>some (tak ts ⟨#[110,97,109,101]⟩ A fun m q3=>((⟨12,m.text,0,m.pos,(nxQ ts p).pos,behI ts q3.p,(nxQ ts p).pos,[.mk 23 (nxQ ts p).text 0 (nxQ ts p).pos (nxQ ts p).pos (behI ts (p+1)) []]⟩:Qv),q3))) (I _) (fun _=>?_) fun t=>zaq _;refine zbr (s:=⟨#[110,97,109,101]⟩) (k:=fun m q3=>some ((⟨12,m.text,0,m.pos,(nxQ ts p).pos,behI ts q3.p,(nxQ ts p).pos,[.mk 23 (nxQ ts p).text 0 (nxQ ts p).pos (nxQ ts p).pos (behI ts (p+1)) []]⟩:Qv),q3)) (zdg _) (fun K=>zc9 ⟨?_,y⟩) fun t=>zaq _;obtain⟨U,V,M⟩:=zfw (zek K);unfold Qv.pt
    dsimp only
    rw[y,D,C,M]
   ·unfold worP;rw[hb];refine zc9 ⟨?_,y⟩;unfold Qv.pt
    dsimp only
    rw[y,D,C]
theorem zs6 (k:Int)(p:Nat):AgG ts (IsV (herI ts p)) (tydP ts k p) (some (tydD ts k ⟨p,false⟩)):=by
 unfold tydP tydD;refine zbr (s:=⟨#[110,97,109,101]⟩) (k:=fun t q=>some ((⟨k,t.text,0,t.pos,t.pos,behI ts (kinD ts q).2.p,t.pos,[(kinD ts q).1.pt]⟩:Qv),(kinD ts q).2)) (zdg _) (fun h=>?_) fun t=>?_
 ·obtain⟨y,D,A⟩:=zfw (zek h);refine ziw (P':=IsV (herI ts p)) (k:=fun r=>some ((⟨k,(nxQ ts p).text,0,(nxQ ts p).pos,(nxQ ts p).pos,behI ts r.2.p,(nxQ ts p).pos,[r.1.pt]⟩:Qv),r.2)) (zs5 hR (p+1)) (fun t v q C=>zc9 ⟨?_,y⟩) fun v q=>zaq _;unfold Qv.pt
  dsimp only
  rw[y,D,A,<-C.1];rfl
 ·exact zqr zia
theorem z1l (p:Nat):AgG ts (IsV (herI ts p)) (impP ts p) (some (impD ts ⟨p,false⟩)):=by
 unfold impP impD;refine zbr (s:=⟨#[105,109,112,111,114,116]⟩) (k:=fun i q=>some (tak ts ⟨#[116,101,120,116]⟩ q fun t q=>((⟨2,valT t,0,t.pos,i.pos,behI ts q.p,i.pos,[]⟩:Qv),q))) (zdc hR p ⟨#[105,109,112,111,114,116]⟩ (.inr rfl) rfl) (fun h=>?_) fun t=>zaq _;refine zbr (s:=⟨#[116,101,120,116]⟩) (k:=fun t q=>some ((⟨2,valT t,0,t.pos,(nxQ ts p).pos,behI ts q.p,(nxQ ts p).pos,[]⟩:Qv),q)) (zey _).2.1 (fun h=>zc9 ⟨?_,zbv p⟩) fun t=>zaq _;obtain⟨A,C,y⟩:=zfw (zg4 h (by decide));unfold Qv.pt
 dsimp only
 rw[y,zbv p]
theorem zoy {α β:Type}{P:β->α->Prop}(k:Int)(w:ByteArray)(p:Nat){f:Tok->Nat->Rs β}{d:Qv × Qs->Option (α × Qs)}(hw:kepB w=true)(hs:spc w=false)
  (h:p<ts.length->AgG ts P (f (nxT ts (p+1)) (p+1+1)) (d (⟨k,(nxT ts (p+1)).text,0,(nxT ts (p+1)).pos,herI ts p,0,herI ts p,[]⟩,⟨p+1+1,false⟩))) (hb:∀ v q,Bd (d (v,⟨q,true⟩)) q) :
  AgG ts P (expP ts w.data.toList p fun q=>namP ts q f) (d (worD ts k w ⟨p,false⟩)):=by
 unfold worD;refine zbr (s:=w) (k:=fun t q=>d (tak ts ⟨#[110,97,109,101]⟩ q fun n q=>(⟨k,n.text,0,n.pos,t.pos,0,t.pos,[]⟩,q))) (zdc hR p w (.inr hw) hs) (fun A=>?_) fun t=>hb _ _;refine zbr (s:=⟨#[110,97,109,101]⟩) (k:=fun n q=>d (⟨k,n.text,0,n.pos,(nxQ ts p).pos,0,(nxQ ts p).pos,[]⟩,q)) (zdg _) (fun C=>?_) fun t=>hb _ _;have y:p<ts.length:=zcx A (fun e=>by
  have:kepB w=false:=by unfold kepB;rw[e];rfl
  rw[hw] at this
  cases this)
 rw[zbv p,nxP (zek C)];exact h y
theorem z1m (p:Nat):AgG ts (IsV (herI ts p)) (conP ts p) (some (conD ts ⟨p,false⟩)):=by
 unfold conP conD;refine zoy hR 3 ⟨#[99,111,110,115,116]⟩ p (d:=fun w=>some (tak ts ⟨#[61]⟩ w.2 fun _ q=>((⟨3,w.1.x,0,w.1.a,w.1.f,behI ts (valD ts q).2.p,w.1.bg,[(valD ts q).1.pt]⟩:Qv),(valD ts q).2))) rfl rfl (fun A=>?_) fun v q=>zqr zow;refine zbr (s:=⟨#[61]⟩) (k:=fun _ q=>some ((⟨3,(nxT ts (p+1)).text,0,(nxT ts (p+1)).pos,herI ts p,behI ts (valD ts q).2.p,herI ts p,[(valD ts q).1.pt]⟩:Qv),(valD ts q).2)) (zdc hR _ ⟨#[61]⟩ (.inl rfl) rfl) (fun _=>?_) fun t=>zqr zow;refine ziw (P':=IsV (herI ts p)) (k:=fun r=>some ((⟨3,(nxT ts (p+1)).text,0,(nxT ts (p+1)).pos,herI ts p,behI ts r.2.p,herI ts p,[r.1.pt]⟩:Qv),r.2)) (z1k hR _) (fun t v q y=>zc9 ⟨?_,rfl⟩) fun v q=>zaq _;unfold Qv.pt
 dsimp only
 rw[<-y.1];rfl
end
set_option maxRecDepth 100000
set_option maxHeartbeats 4000000
section
variable {T:Nat}{w w':World}{g:Nat}{st:Option Addr}{cap:Nat}{ts:List Tok}{p q:Nat}{bad bd:Bool}
theorem zbk (hR:Qdr T w g st cap ts p bad) :
  Calls Tryz.prog 25 #[.pointer (some ⟨g,0,none⟩)] w fun e w'=>e=.returned (.agg (nxQ ts p).cells)∧Below w.heap.size w w':=by
 have N:=J hR;have aa:=hR.le;have ab:=hR.few;clear hR
 go_enter Tryz.func25,Tryz.ntmps25
 go_wp2
 refine zdq (fun W=>Below w.heap.size w W∧W.heap[w.heap.size]?=some (.cells tokZ.cells 38 (0,0))) ⟨(Yb _ _).alloc (Ya _) _,Yd _ _⟩ ?_;rintro W ⟨E,I⟩;have A:=J (N.out.low E);have C:=J E;have y:=J I;clear N E I;have c0:=A.out.c0;have c1:=A.out.c1;have z0:W.cell? ⟨w.heap.size,0,none⟩=some (.int .i64 0):=Yp 0 y rfl;have Y:W.cell? ⟨w.heap.size,1,none⟩=some (.string ⟨#[]⟩):=Yp 1 y rfl;have z2:W.cell? ⟨w.heap.size,2,none⟩=some (.int .i64 0):=Yp 2 y rfl;have Z:W.frozen? ⟨w.heap.size,0,none⟩=false:=Yj _ _ _ _ _ y;have X:W.frozen? ⟨w.heap.size,1,none⟩=false:=Yj _ _ _ _ _ y;have f2:W.frozen? ⟨w.heap.size,2,none⟩=false:=Yj _ _ _ _ _ y;have M:Hid (∀ a b c:Value,(((W.setCell ⟨w.heap.size,0,none⟩ a).setCell ⟨w.heap.size,1,none⟩ b).setCell ⟨w.heap.size,2,none⟩ c).heap[w.heap.size]?=some (.cells #[a,b,c] 38 (0,0))∧Below w.heap.size w (((W.setCell ⟨w.heap.size,0,none⟩ a).setCell ⟨w.heap.size,1,none⟩ b).setCell ⟨w.heap.size,2,none⟩ c)):=fun a b c=>
  ⟨Yf _ _ 2 _ _ _ (Yf _ _ 1 _ _ _ (Yf _ _ 0 _ _ _ y)),((C.out.setCell (Ya _) _).setCell (Ya _) _).setCell (Ya _) _⟩
 by_cases h:p<ts.length
 ·have D:Hid (nxQ ts p=nxT ts p):=if_pos h;obtain⟨b,o,rfl,k0,k1,k2⟩:=A.out.tok h;have U:(p:Int)<ts.length:=by omega
  go_region
  go_wp2
  go_region
  go_wp2
  exact zbz Tryz.results25 rfl (M _ _ _).1 ⟨by rw[D.out],(M _ _ _).2.drew.drew⟩
 ·have D:Hid (nxQ ts p=⟨0,⟨#[]⟩,behI ts p⟩):=if_neg h;have U:¬ ((p:Int)<ts.length):=by omega
  go_region
  go_wp2_with fail
  refine(zmk (A.out.low (Yb _ _).drew)).mono ?_;rintro e W1 ⟨rfl,F⟩;have K:Hid (W1.heap[w.heap.size]?=some (.cells tokZ.cells 38 (0,0))):=(F.block _ (zaa y)).trans y;have V:Hid (Below w.heap.size w W1):=C.out.drew.trans (F.mono C.out.size);clear F
  go_wp2_with (refine zcc (by rfl) (.tmp 2) (.tmp 25) (by rfl) (t:=⟨0,⟨#[]⟩,behI ts p⟩) (by rfl) (by rfl) K.out ?_)
  exact zbz Tryz.results25 rfl (zad K) ⟨by rw[D.out],zak V.out (Ya _) _⟩
end
def kwQ:List (List UInt8):=[[112,97,99,107,97,103,101],[105,109,112,111,114,116],[99,111,110,115,116],[118,97,114],[116,121,112,101],[115,116,114,117,99,116],[102,117,110,99],[105,102],
 [101,108,115,101],[102,111,114],[114,101,116,117,114,110],[116,114,117,101],[102,97,108,115,101],[105,110,116],[98,111,111,108],[115,116,114,105,110,103]]
theorem kepQ (s:ByteArray):kepB s=kwQ.any fun k=>s.data.toList == k:=by
 unfold kepB kwQ;simp only[List.any_cons,List.any_nil,Bool.or_false,Bool.or_assoc]
theorem zzc {s:ByteArray}{k:Nat}(hk:k<16)(h:((kwQ.take k).any fun k=>s.data.toList == k)=false)(hn:s.data.toList≠kwQ.getD k []):((kwQ.take (k+1)).any fun k=>s.data.toList == k)=false:=by
 have y:k<kwQ.length:=hk;rw[List.getD_eq_getElem?_getD,Yh y] at hn;rw[List.take_succ_eq_append_getElem y,List.any_append,h];simpa using hn
theorem z1n {s:ByteArray}{k:Nat}(hk:k<16)(he:s.data.toList=kwQ.getD k []):kepB s=true:=by
 have y:k<kwQ.length:=hk;rw[List.getD_eq_getElem?_getD,Yh y] at he;rw[kepQ,List.any_eq_true];exact⟨_,List.getElem_mem y,by rw[he];simp⟩
theorem zhs (s:ByteArray)(w:World):Calls Tryz.prog 12 #[.string s] w fun e w'=>e=.returned (.bool (kepB s))∧Below w.heap.size w w':=by
 go_enter Tryz.func12,Tryz.ntmps12
 go_wp2
 refine zdq (fun W=>Below w.heap.size w W∧∀ k,k<16->W.cell? ⟨w.heap.size,k,none⟩=some (.string (strU (kwQ.getD k [])))) ⟨(Yb _ _).alloc (Ya _) _,?_⟩ ?_
 ·intro k I
  iterate 16 (rcases k with _|k;· exact(Yc _ _ _ _ _ _ (Yd _ _)).trans rfl)
  omega
 rintro W ⟨C,A⟩;have D:=J C;have M:=J A;clear C A
 go_loopw [4] (fun i wr=>∃ k:Nat,i=.int .i64 k∧k<=16∧((kwQ.take k).any fun k=>s.data.toList == k)=false∧wr=W) (fun i _=>16 - (intOf i).toNat)
 case atStart=>exact⟨0,rfl,by omega,rfl,rfl⟩
 case round=>
  obtain⟨k,rfl,I,F,rfl⟩:=hrel;have E:Hid _:=F;clear F
  by_cases h:k<16
  ·have U:=M.out k h;have K:decide ((k:Int)<16)=true:=by simp;omega
   by_cases he:s.data.toList=kwQ.getD k []
   ·have y:Hid (kepB s=true):=z1n h he;have e:((strU (kwQ[k]?.getD [])).toList == s.toList)=true:=by
     rw[ByteArray.toList_eq,ByteArray.toList_eq,beq_iff_eq,he,List.getD_eq_getElem?_getD];simp[strU]
    clear he
    go_wp2
    go_ret
    exact⟨by rw[y.out];rfl,D.out⟩
   ·have N:Hid _:=zzc h E he;have e:((strU (kwQ[k]?.getD [])).toList == s.toList)=false:=by
     rw[ByteArray.toList_eq,ByteArray.toList_eq,beq_eq_false_iff_ne];intro e;refine he ?_;rw[<-e,List.getD_eq_getElem?_getD];simp[strU]
    clear he
    go_wp2
    exact⟨⟨k+1,by simp,by omega,N.out,trivial⟩,by simp[intOf];omega⟩
  ·have K:decide ((k:Int)<16)=false:=by simp;omega
   have y:Hid (kepB s=false):=by
    show _=_;obtain rfl:k=16:=by omega
    rw[kepQ];exact E
   go_wp2
   go_ret
   exact⟨by rw[y.out];rfl,D.out⟩
theorem zs7 {w:World}{b:Nat}{ty:TypeId}{old cs:Array Value}(h:w.heap[b]?=some (.cells old ty (0,0)))(ho:old.size=cs.size)(h1:cs.all (·.oneCell')=true) :
  Sem.run Tryz.prog (storeCells ⟨b,0,none⟩ cs.toList) w=.ok () (w.setRow b cs):=by
 have:=run_storeCells_from (P:=Tryz.prog) b ty cs.toList 0 old w h (by simp;omega) (fun v y=>(Array.all_eq_true_iff_forall_mem.1 h1) v (by simpa using y));simpa using this
theorem zml (W:World)(ty:TypeId)(z cs:Array Value)(ho:z.size=cs.size)(h1:cs.all (·.oneCell')=true) :
  ∃ W2,Sem.run Tryz.prog (storeCells ⟨W.heap.size,0,none⟩ cs.toList) (W.alloc (.cells z ty))=.ok () W2∧Below W.heap.size W W2∧W2.heap[W.heap.size]?=some (.cells cs ty (0,0)) :=
 ⟨_,zs7 (Yd _ _) ho h1,zak ((Yb _ _).alloc (Ya _) _) (Ya _) _,zad (Yd _ _)⟩
theorem zxt {W:World}{b:Nat}{ty:TypeId}{old cs:Array Value}(h:W.heap[b]?=some (.cells old ty (0,0)))(ho:old.size=cs.size)(h1:cs.all (·.oneCell')=true) :
  ∃ W2,Sem.run Tryz.prog (storeCells ⟨b,0,none⟩ cs.toList) W=.ok () W2∧Below b W W2∧W2.heap[b]?=some (.cells cs ty (0,0))∧∀ k,k≠b->W2.heap[k]?=W.heap[k]? :=
 ⟨_,zs7 h ho h1,zak (Yb _ _) (Ya _) _,zad h,fun _ y=>setRow_other _ _ _ _ y⟩
theorem zzd (t:Tok):t.cells.all (·.oneCell')=true:=by simp[Tok.cells,Value.oneCell']
theorem zgu (W:World)(t:Tok):∃ W2,Sem.run Tryz.prog (storeCells ⟨W.heap.size,0,none⟩ t.cells.toList) (W.alloc (.cells #[.int .i64 0,.string ⟨#[]⟩,.int .i64 0] 38))=.ok () W2∧Below W.heap.size W W2∧W2.heap[W.heap.size]?=some (.cells t.cells 38 (0,0)) :=
 zml W 38 _ _ rfl (zzd t)
structure Qe where
 k:Int
 x:ByteArray
 n:Int
 a:Int
 f:Int
 t:Int
 bg:Int
 sp:Option Addr
 len:Nat
 cap:Nat
def paQ (k:Int) (x:ByteArray) (n a f t bg:Int) (v:Value):Array Value:=#[.int .i64 k,.string x,.int .i64 n,.slice none 0 0,.int .i64 a,.int .i64 f,.int .i64 t,.int .i64 bg,v]
def Qe.cells (e:Qe):Array Value:=paQ e.k e.x e.n e.a e.f e.t e.bg (.slice e.sp e.len e.cap)
theorem Qe.one (e:Qe):e.cells.all (·.oneCell')=true:=by simp[Qe.cells,paQ,Value.oneCell']
theorem zic (W:World)(e:Qe):∃ W2,Sem.run Tryz.prog (storeCells ⟨W.heap.size,0,none⟩ e.cells.toList) (W.alloc (.cells #[.int .i64 0,.string ⟨#[]⟩,.int .i64 0,.slice none 0 0,.int .i64 0,.int .i64 0,.int .i64 0,.int .i64 0,.slice none 0 0] 63))=.ok () W2∧Below W.heap.size W W2∧W2.heap[W.heap.size]?=some (.cells e.cells 63 (0,0)) :=
 zml W 63 _ _ rfl e.one
theorem elQ:El 61 63 9 Qe.cells:=by
 have h:(Tryz.prog.info? 63).map (fun i=>(i.zero,i.size,i.bytes))=some (some (.agg (paQ 0 ⟨#[]⟩ 0 0 0 0 0 (.slice none 0 0))),9,112):=by kernel_rfl
 refine⟨Tryz.underlying61,?_,fun _=>rfl,fun e=>e.one,by omega⟩
 cases hi:Tryz.prog.info? 63 with
 | none=>rw[hi] at h;cases h
 | some i=>
  rw[hi] at h;simp only[Option.map_some,Option.some.injEq,Prod.mk.injEq] at h;exact⟨i,_,rfl,h.1,h.2.1,by rw[h.2.2];decide,rfl⟩
inductive QAt (w:World) (S:Nat->Prop):Pt->Qe->Prop
 | mk (k:Int) (x:ByteArray) (n a f t:Int) (l:List Pt) (bg:Int) (es:List Qe) (sp:Option Addr) (cap:Nat)
  (hr:RowsAt w 9 Qe.cells sp es) (hs:∀ q,sp=some q->S q.block) (hl:es.length=l.length)
  (hk:∀ (i:Nat) (e':Qe) (t':Pt),es[i]?=some e'->l[i]?=some t'->QAt w S t' e'):QAt w S (.mk k x n a f t l) ⟨k,x,n,a,f,t,bg,sp,es.length,cap⟩
theorem QAt.keep {w w':World}{S S':Nat->Prop}{e:Qe}{t:Pt}(h:QAt w S t e)(hS:∀ k,S k->S' k)(hh:∀ k,S k->w'.heap[k]?=w.heap[k]?):QAt w' S' t e:=by
 induction h with
 | mk k x n a f t l bg es sp cap hr hs hl hk ih=>
  exact .mk k x n a f t l bg es sp cap (hr.stay fun q e=>hh _ (hs q e)) (fun q e=>hS _ (hs q e)) hl ih
theorem QAt.fresh {w:World}{S:Nat->Prop}(k:Int)(x:ByteArray)(n a f t bg:Int):QAt w S (.mk k x n a f t []) ⟨k,x,n,a,f,t,bg,none,0,0⟩ :=
 .mk k x n a f t [] bg [] none 0 (fun h=>absurd h (by simp)) (fun q e=>by cases e) rfl fun i y t' h=>by simp at h
theorem QAt.ends {w:World}{S:Nat->Prop}{k:Int}{x:ByteArray}{n a f t t2:Int}{l:List Pt}{e:Qe}(h:QAt w S (.mk k x n a f t l) e):QAt w S (.mk k x n a f t2 l) { e with t:=t2 }:=by
 cases h with
 | mk _ _ _ _ _ _ _ bg es sp cap hr hs hl hk=>exact .mk k x n a f t2 l bg es sp cap hr hs hl hk
theorem QAt.begs {w:World}{S:Nat->Prop}{t:Pt}{e:Qe}(h:QAt w S t e)(b2:Int):QAt w S t { e with bg:=b2 }:=by
 cases h with
 | mk k x n a f t l bg es sp cap hr hs hl hk=>exact .mk k x n a f t l b2 es sp cap hr hs hl hk
structure QV (w:World) (S:Nat->Prop) (v:Qv) (e:Qe):Prop where
 is:QAt w S v.pt e
 bg:e.bg=v.bg
def QsAt (w:World) (S:Nat->Prop) (es:List Qe) (l:List Pt):Prop:=es.length=l.length∧∀ (i:Nat) (e:Qe) (t:Pt),es[i]?=some e->l[i]?=some t->QAt w S t e
theorem QsAt.keep {w w':World}{S S':Nat->Prop}{es:List Qe}{l:List Pt}(h:QsAt w S es l)(hS:∀ k,S k->S' k)(hh:∀ k,S k->w'.heap[k]?=w.heap[k]?):QsAt w' S' es l :=
 ⟨h.1,fun i e t y A=>(h.2 i e t y A).keep hS hh⟩
theorem QsAt.nil (w:World) (S:Nat->Prop):QsAt w S [] []:=⟨rfl,fun i e t h=>by simp at h⟩
theorem QsAt.snoc {w:World}{S:Nat->Prop}{es:List Qe}{l:List Pt}{e:Qe}{t:Pt}(h:QsAt w S es l)(h':QAt w S t e):QsAt w S (es++[e]) (l++[t]) :=
 ⟨by rw[List.length_append,List.length_append,h.1];rfl,fun i C t' y A=>by
  by_cases hi:i<es.length
  ·rw[List.getElem?_append_left hi] at y;rw[List.getElem?_append_left (by rw[<-h.1];exact hi)] at A;exact h.2 i C t' y A
  ·rw[List.getElem?_append_right (by omega)] at y;rw[List.getElem?_append_right (by rw[<-h.1];omega),<-h.1] at A;have E:i - es.length=0:=by have:=(List.getElem?_eq_some_iff.1 y).1;simp at this;omega
   rw[E] at y A;have D:e=C:=by simpa using y
   have F:t=t':=by simpa using A
   rw[<-D,<-F];exact h'⟩
abbrev OwnQ:=OwnG 63 9 Qe.cells
structure Qk (B z:Nat) (w:World) (b:Nat) (k:Int) (x:ByteArray) (n a f t bg:Int) (v:Value) (l:List Pt):Prop where
 hB:B<=b
 row:w.heap[b]?=some (.cells (paQ k x n a f t bg v) 63 (0,0))
 hz:z<w.heap.size
 ob:v.ownBlock≠some b
 oz:v.ownBlock≠some z
 ex:∃ (es:List Qe) (S:Nat->Prop),OwnQ B w v es∧QsAt w S es l∧∀ j,S j->B<=j∧j<w.heap.size∧j≠b∧j≠z∧v.ownBlock≠some j
section
variable {B z:Nat}{w w':World}{b:Nat}{k:Int}{x:ByteArray}{n a f t bg:Int}{v:Value}{l:List Pt}
theorem Qk.lt (h:Qk B z w b k x n a f t bg v l):b<w.heap.size:=zaa h.row
theorem Qk.own (h:Qk B z w b k x n a f t bg v l){q:Nat}(hq:v.ownBlock=some q):B<=q∧q<w.heap.size:=by
 obtain⟨A,S,y,-⟩:=h.ex;exact y.lt hq
theorem Qk.len (h:Qk B z w b k x n a f t bg v l):∃ sp cap,v=.slice sp l.length cap:=by
 obtain⟨C,S,A,y,-⟩:=h.ex;obtain⟨sp,cap,e⟩:=A.shape;exact⟨sp,cap,by rw[e,y.1]⟩
theorem Qk.sl (h:Qk B z w b k x n a f t bg v l):∃ sp n cap,v=.slice sp n cap:=by
 obtain⟨sp,cap,e⟩:=h.len;exact⟨sp,_,cap,e⟩
theorem Qk.keep (h:Qk B z w b k x n a f t bg v l)(hs:w.heap.size<=w'.heap.size)(hh:∀ j,B<=j->j<w.heap.size->w'.heap[j]?=w.heap[j]?):Qk B z w' b k x n a f t bg v l:=by
 have I:=h.lt;obtain⟨E,K,Y,N,V,U,S,C,X,A⟩:=h;refine⟨E,(hh _ E I).trans K,by omega,N,V,U,S,C.keep fun q D=>hh _ (C.lt D).1 (C.lt D).2,X.keep (fun _ h=>h) fun j y=>hh _ (A j y).1 (A j y).2.1,fun j y=>?_⟩;obtain⟨c1,c2,F,M⟩:=A j y;exact⟨c1,by omega,F,M⟩
theorem Qk.grow {g:Nat}(h:Qk B z w b k x n a f t bg v l)(hg:g<B)(hw:w.grownBy w' (some g)):Qk B z w' b k x n a f t bg v l :=
 h.keep hw.size fun j A y=>hw.block j y (fun e=>by injection e with e;omega)
theorem Qk.below (h:Qk B z w b k x n a f t bg v l)(hw:Below w.heap.size w w'):Qk B z w' b k x n a f t bg v l :=
 h.keep hw.size fun j _ y=>hw.block j y
theorem Qk.turn {k':Int}{x':ByteArray}{n' a' f' t' bg':Int}(h:Qk B z w b k x n a f t bg v l)(hs:w.heap.size<=w'.heap.size)(hh:∀ j,j≠b->j<w.heap.size->w'.heap[j]?=w.heap[j]?)
  (hr:w'.heap[b]?=some (.cells (paQ k' x' n' a' f' t' bg' v) 63 (0,0))):Qk B z w' b k' x' n' a' f' t' bg' v l:=by
 obtain⟨K,V,X,D,M,N,S,E,U,A⟩:=h;refine⟨K,hr,by omega,D,M,N,S,E.keep fun q C=>hh _ (fun e=>D (by rw[C,e])) (E.lt C).2,U.keep (fun _ h=>h) fun j y=>hh _ (A j y).2.2.1 (A j y).2.1,fun j y=>?_⟩;obtain⟨c1,c2,F,I⟩:=A j y;exact⟨c1,by omega,F,I⟩
theorem Qk.fin (h:Qk B z w b k x n a f t bg v l):∃ sp len cap,v=.slice sp len cap∧QAt w (fun j=>B<=j∧j<w.heap.size∧j≠z) (.mk k x n a f t l) ⟨k,x,n,a,f,t,bg,sp,len,cap⟩:=by
 obtain⟨Z,V,X,Y,K,D,S,C,E,y⟩:=h;obtain⟨sp,cap,rfl,U,-⟩:=OwnG.rows elQ C;refine⟨sp,D.length,cap,rfl,.mk k x n a f t l bg D sp cap U (fun q I=>?_) E.1 fun i N t' F M=>(E.2 i N t' F M).keep (fun j A=>⟨(y j A).1,(y j A).2.1,(y j A).2.2.2.1⟩) fun _ _=>rfl⟩;subst I;exact⟨(C.lt rfl).1,(C.lt rfl).2,fun e=>K (by rw[<-e];rfl)⟩
theorem Qk.new (hB:B<=b)(hz:z<w.heap.size)(hr:w.heap[b]?=some (.cells (⟨k,x,n,a,f,t,bg,none,0,0⟩:Qe).cells 63 (0,0))):Qk B z w b k x n a f t bg (.slice none 0 0) [] :=
 ⟨hB,hr,hz,by simp[Value.ownBlock],by simp[Value.ownBlock],[],fun _=>False,zcz _ _,QsAt.nil _ _,fun _ h=>h.elim⟩
theorem Qk.one {c:Nat}{e:Qe}{tx:Pt}{S:Nat->Prop}{bs:Value}{l0:List Pt}(h:Qk B z w b k x n a f t bg bs l0)(hs:w.heap.size<=w'.heap.size)(hh:∀ j,j≠b->j<w.heap.size->w'.heap[j]?=w.heap[j]?)
  (hc:w'.heap[c]?=some (.cells e.cells 63 (0,0))) (hcB:B<=c) (hcb:c≠b) (hcz:c≠z) (hx:QAt w S tx e) (hS:∀ j,S j->B<=j∧j<w.heap.size∧j≠b∧j≠z∧j≠c)
  (hr:w'.heap[b]?=some (.cells (paQ k x n a f t bg (.slice (some ⟨c,0,none⟩) 1 1)) 63 (0,0))):Qk B z w' b k x n a f t bg (.slice (some ⟨c,0,none⟩) 1 1) [tx]:=by
 have E:=h.hz;refine⟨h.hB,hr,by omega,fun e=>hcb (by injection e),fun e=>hcz (by injection e),[e],S,⟨by simp[flatG,Qe.cells,paQ],.inr ⟨c,1,e.cells,rfl,hcB,hc,Ya _,by decide,rfl,by simp[flatG,Qe.cells,paQ]⟩⟩,?_,fun j y=>?_⟩
 ·exact(QsAt.nil w' S).snoc (hx.keep (fun _ h=>h) fun j y=>hh _ (hS j y).2.2.1 (hS j y).2.1)
 ·obtain⟨c1,c2,D,C,A⟩:=hS j y;exact⟨c1,by omega,D,C,fun e=>A (by injection e with e;exact e.symm)⟩
theorem Qk.app {c:Nat}{e:Qe}{tx:Pt}{S:Nat->Prop}(ty:TypeId)(h:Qk B z w b k x n a f t bg v l)(hc:w.heap[c]?=some (.cells e.cells 63 (0,0)))(hx:QAt w S tx e)
  (hS:∀ j,S j->B<=j∧j<w.heap.size∧j≠b∧j≠z∧v.ownBlock≠some j) (hl:l.length<=200000) :
  ∃ v' w1,(Builtin.append_ #[61,61] ty #[v,.slice (some ⟨c,0,none⟩) 1 1]).run Tryz.prog w=.ok v' w1∧w1.heap[b]?=some (.cells (paQ k x n a f t bg v) 63 (0,0)) ∧
   Below B w (w1.setCell ⟨b,8,none⟩ v')∧Qk B z (w1.setCell ⟨b,8,none⟩ v') b k x n a f t bg v' (l++[tx])∧w.grownBy w1 v.ownBlock∧(v'.ownBlock=v.ownBlock∨v'.ownBlock=some w.heap.size):=by
 have hb:=h.lt;obtain⟨Y,h1,hz,X,ae,es,K,N,h3,V⟩:=h;obtain⟨v',w1,q1,q2,q3,C⟩:=zdn (E:=elQ) ty N (sp:=some ⟨c,0,none⟩) (ys:=[e]) (cap:=1) (fun h=>by cases h) (zar hc) (by rw[h3.1];simp;omega) (by omega);have U:w1.heap[b]?=some (.cells (paQ k x n a f t bg v) 63 (0,0)):=(q3.block b hb (fun e=>X e.symm)).trans h1;have ab:Below B w w1:=⟨q3.os,q3.tape,q3.output,q3.size,fun j A=>q3.block j (by omega) fun e=>by have:=(N.lt e.symm).1;omega⟩;have F:∀ q,v.ownBlock≠some q->q<w.heap.size->v'.ownBlock≠some q:=fun q D hl=>by
  rcases C with C|C
  ·rw[C];exact D
  ·rw[C];intro e;injection e with e;omega
 have M:∀ j,j≠b->(w1.setCell ⟨b,8,none⟩ v').heap[j]?=w1.heap[j]?:=fun j A=>Ye _ _ _ _ A;have aa:w1.heap.size<=(w1.setCell ⟨b,8,none⟩ v').heap.size:=((Yb 0 w1).setCell (p:=⟨b,8,none⟩) (Yk _) v').size;have af:=q3.size;have ac:(w1.setCell ⟨b,8,none⟩ v').heap[b]?=some (.cells (paQ k x n a f t bg v') 63 (0,0)):=Yf _ _ 8 _ _ _ U;have Z:=F b X hb;refine⟨v',w1,q1,U,ab.setCell Y _,⟨Y,ac,by omega,Z,F z ae hz,es++[e],fun j=>K j∨S j,q2.keep fun q D=>M q fun e=>Z (by rw[D,e]),?_,?_⟩,q3,C⟩
 ·have I:∀ j,(K j∨S j)->(w1.setCell ⟨b,8,none⟩ v').heap[j]?=w.heap[j]?:=fun j A=>by
   have y:j<w.heap.size∧j≠b∧j≠z∧v.ownBlock≠some j:=A.elim (fun h=>(V j h).2) fun h=>(hS j h).2;exact(M j y.2.1).trans (q3.block j y.1 fun e=>y.2.2.2 e.symm)
  exact(h3.keep (fun _ h=>.inl h) fun j A=>I j (.inl A)).snoc (hx.keep (fun _ h=>.inr h) fun j A=>I j (.inr A))
 ·intro j A;have y:B<=j∧j<w.heap.size∧j≠b∧j≠z∧v.ownBlock≠some j:=A.elim (fun h=>V j h) fun h=>hS j h;exact⟨y.1,Yg (Yg y.2.1 q3.size) aa,y.2.2.1,y.2.2.2.1,F j y.2.2.2.2 y.2.1⟩
end
abbrev QdS (T:Nat) (w:World) (g:Nat) (st:Option Addr) (cap:Nat) (ts:List Tok) (s:Qs):Prop:=Qdr T w g st cap ts s.p s.bad
def QoP (T:Nat) (w:World) (g:Nat) (st:Option Addr) (cap:Nat) (ts:List Tok) (r:Qv × Qs) (e:Ending) (w':World):Prop :=
 ∃ q:Qe,e=.returned (.agg q.cells)∧QV w' (fun j=>w.heap.size<=j∧j<w'.heap.size) r.1 q∧w.grownBy w' (some g)∧QdS T w' g st cap ts r.2
end Go.Proofs.YtmclgbkijeidaaaGreatDoor
