import Derived.Test.YtmclgbkijeidaaaGreatDoorUoK
import Derived.Test.YtmclgbkijeidaaaGreatDoorUoC
namespace Go.Proofs.YtmclgbkijeidaaaGreatDoor
set_option maxRecDepth 100000
open Go.RowKit
structure NdM where
 k:Int
 x:ByteArray
 n:Int
 ks:Option Addr
 kn:Nat
 kc:Nat
 a:Int
 f:Int
 t:Int
def NdM.cells (m:NdM):Array Value:=#[.int .i64 m.k,.string m.x,.int .i64 m.n,.slice m.ks m.kn m.kc,.int .i64 m.a,.int .i64 m.f,.int .i64 m.t]
def intC (n:Nat):Array Value:=#[.int .i64 n]
theorem elI:El 51 3 1 intC:=by
 have h:(Tryz.prog.info? 3).map (fun i=>(i.zero,i.size,i.bytes))=some (some (.int .i64 0),1,8):=by kernel_rfl
 refine⟨Tryz.underlying51,?_,fun _=>rfl,fun _=>by simp[intC,Value.oneCell'],by omega⟩
 cases hi:Tryz.prog.info? 3 with
 | none=>rw[hi] at h;cases h
 | some i=>
  rw[hi] at h;simp only[Option.map_some,Option.some.injEq,Prod.mk.injEq] at h;exact⟨i,_,rfl,h.1,h.2.1,by omega,rfl⟩
theorem elN:El 23 53 7 NdM.cells:=by
 have h:(Tryz.prog.info? 53).map (fun i=>(i.zero,i.size,i.bytes))=some (some (.agg (NdM.cells ⟨0,⟨#[]⟩,0,none,0,0,0,0,0⟩)),7,80):=by kernel_rfl
 refine⟨Tryz.underlying23,?_,fun _=>rfl,fun _=>by simp[NdM.cells,Value.oneCell'],by omega⟩
 cases hi:Tryz.prog.info? 53 with
 | none=>rw[hi] at h;cases h
 | some i=>
  rw[hi] at h;simp only[Option.map_some,Option.some.injEq,Prod.mk.injEq] at h;exact⟨i,_,rfl,h.1,h.2.1,by omega,rfl⟩
abbrev OwnI:=OwnG 3 1 intC
abbrev OwnN:=OwnG 53 7 NdM.cells
theorem zlz:∀ (xs:List NdM)(i:Nat)(m:NdM)(ks:Option Addr)(kn kc:Nat),xs[i]?=some m->(flatG NdM.cells xs).set (i * 7+3) (.slice ks kn kc)=flatG NdM.cells (xs.set i ⟨m.k,m.x,m.n,ks,kn,kc,m.a,m.f,m.t⟩)
 | [],i,m,_,_,_,h=>by simp at h
 | a::r,0,m,_,_,_,h=>by
  obtain rfl:a=m:=by simpa using h
  rfl
 | a::r,i+1,m,ks,kn,kc,h=>by
  have ih:=zlz r i m ks kn kc (by simpa using h);unfold flatG at ih ⊢;rw[List.flatMap_cons,List.set_cons_succ,List.flatMap_cons,<-ih];have y:a.cells.toList.length=7:=rfl;rw[List.set_append_right _ _ (by omega),y]
  congr 2
  omega
theorem OwnN.set {B:Nat}{w:World}{sp:Option Addr}{n cap:Nat}{xs:List NdM}(h:OwnN B w (.slice sp n cap) xs){i:Nat}{m:NdM}(hi:xs[i]?=some m)(ks:Option Addr)(kn kc:Nat) :
  ∃ g,sp=some ⟨g,0,none⟩∧B<=g∧g<w.heap.size∧w.cell? ⟨g,i * 7+3,none⟩=some (.slice m.ks m.kn m.kc)∧w.frozen? ⟨g,i * 7+3,none⟩=false∧OwnN B (w.setCell ⟨g,i * 7+3,none⟩ (.slice ks kn kc)) (.slice sp n cap) (xs.set i ⟨m.k,m.x,m.n,ks,kn,kc,m.a,m.f,m.t⟩):=by
 have A:=(List.getElem?_eq_some_iff.1 hi).1;rcases h.2 with⟨e,y⟩ | ⟨g,cap',cur,e,h1,h2,h3,h4,h5,h6⟩
 ·omega
 ·injection e with e1 e2 e3;subst e1 e2 e3;refine⟨g,rfl,h1,zaa h2,?_,Yj _ _ _ _ _ h2,?_,.inr ⟨g,cap,cur.setIfInBounds (i * 7+3) (.slice ks kn kc),by rw[List.length_set],h1,Yf _ _ _ _ _ _ h2,by rw[List.length_set];exact h3,h4,by rw[Array.size_setIfInBounds];exact h5,?_⟩⟩
  ·rw[Yc _ _ _ _ _ _ h2,<-Array.getElem?_toList];have:(cur.toList.take (xs.length * 7))[i * 7+3]?=(flatG NdM.cells xs)[i * 7+3]?:=by rw[h6]
   rw[List.getElem?_take,if_pos (by omega),zgx elN xs i 3 m hi (by omega)] at this;rw[this];rfl
  ·rw[List.length_set,zev elN,List.length_set]
  ·rw[List.length_set,Array.toList_setIfInBounds,List.take_set,h6];exact zlz xs i m ks kn kc hi
def Rep (w:World) (S:Nat->Prop) (N:List NdM) (L:List Nd):Prop:=N.length=L.length∧∀ (i:Nat) (m:NdM) (d:Nd),N[i]?=some m->L[i]?=some d ->
 (m.k=d.kind∧m.x=d.text∧m.n=d.num∧m.a=d.pos∧m.f=d.frm∧m.t=d.to)∧m.kn=d.kids.length∧RowsAt w 1 intC m.ks d.kids∧((m.ks=none->m.kn=0∧m.kc=0)∧m.kn<=m.kc∧m.kc<=maxLen)∧∀ q,m.ks=some q->S q.block
theorem Rep.keep {w w':World}{S S':Nat->Prop}{N:List NdM}{L:List Nd}(h:Rep w S N L)(hS:∀ k,S k->S' k)(hh:∀ k,S k->w'.heap[k]?=w.heap[k]?):Rep w' S' N L :=
 ⟨h.1,fun i m d A C=>by
  obtain⟨a,b,c,e,f⟩:=h.2 i m d A C;exact⟨a,b,c.stay fun q y=>hh _ (f q y),e,fun q y=>hS _ (f q y)⟩⟩
theorem Rep.snoc {w:World}{S:Nat->Prop}{N:List NdM}{L:List Nd}{m:NdM}{d:Nd}(h:Rep w S N L)(h1:(m.k=d.kind∧m.x=d.text∧m.n=d.num∧m.a=d.pos∧m.f=d.frm∧m.t=d.to)∧m.kn=d.kids.length∧RowsAt w 1 intC m.ks d.kids∧((m.ks=none->m.kn=0∧m.kc=0)∧m.kn<=m.kc∧m.kc<=maxLen)∧∀ q,m.ks=some q->S q.block):Rep w S (N++[m]) (L++[d]) :=
 ⟨by simp[h.1],fun i m' d' y A=>by
  by_cases hi:i<N.length
  ·rw[List.getElem?_append_left hi] at y;rw[List.getElem?_append_left (by rw[<-h.1];exact hi)] at A;exact h.2 i m' d' y A
  ·rw[List.getElem?_append_right (by omega)] at y;rw[List.getElem?_append_right (by rw[<-h.1];omega),<-h.1] at A;have C:i - N.length=0:=by have:=(List.getElem?_eq_some_iff.1 y).1;simp at this;omega
   rw[C] at y A;obtain rfl:m=m':=by simpa using y
   obtain rfl:d=d':=by simpa using A
   exact h1⟩
structure Oth (gt:Nat) (v:Value) (w w':World):Prop where
 os:w'.os=w.os
 tape:w'.tape=w.tape
 output:w'.output=w.output
 size:w.heap.size<=w'.heap.size
 block:∀ j,j<w.heap.size->j≠gt->v.ownBlock≠some j->w'.heap[j]?=w.heap[j]?
structure Lay (B gt gl:Nat) (w:World) (v:Value) (S:Nat->Prop) (L:List Nd):Prop where
 rt:w.heap[gt]?=some (.cells #[v] 25 (0,0))
 rl:w.heap[gl]?=some (.cells #[.func (Fn.func 73) #[] #[.pointer (some ⟨gt,0,none⟩),.pointer (some ⟨gl,0,none⟩)]] 110 (0,0))
 ne:gt≠gl∧B<=gt∧B<=gl
 ex:∃ N:List NdM,OwnN B w v N∧Rep w S N L∧∀ j,S j->B<=j∧j<w.heap.size∧j≠gt∧j≠gl∧v.ownBlock≠some j
section
variable {B gt gl:Nat}{w w':World}{v:Value}{S:Nat->Prop}{L:List Nd}
theorem Lay.shape (h:Lay B gt gl w v S L):∃ s c,v=.slice s L.length c:=by
 obtain⟨N,y,A,-⟩:=h.ex;obtain⟨s,c,e⟩:=OwnG.shape y;exact⟨s,c,by rw[e,A.1]⟩
theorem Lay.own (h:Lay B gt gl w v S L){q:Nat}(hq:v.ownBlock=some q):B<=q∧q<w.heap.size∧q≠gt∧q≠gl:=by
 obtain⟨N,y,-⟩:=h.ex;refine⟨(y.lt hq).1,(y.lt hq).2,fun e=>?_,fun e=>?_⟩
 ·exact y.ne h.rt (by decide) (by rw[hq,e])
 ·exact y.ne h.rl (by decide) (by rw[hq,e])
theorem Lay.below (h:Lay B gt gl w v S L)(hb:Below w.heap.size w w'):Lay B gt gl w' v S L:=by
 obtain⟨N,D,E,y⟩:=h.ex;refine⟨(hb.block _ (zaa h.rt)).trans h.rt,(hb.block _ (zaa h.rl)).trans h.rl,h.ne,N,D.below hb,E.keep (fun _ h=>h) fun k A=>hb.block k (y k A).2.1,fun j C=>?_⟩;obtain⟨a,b,c,d,e⟩:=y j C;exact⟨a,Yg b hb.size,c,d,e⟩
theorem Lay.one (h:Lay B gt gl w v S L)(m:NdM)(hm:m.ks=none∧m.kn=0∧m.kc=0)(hl:L.length+1<=1000000) :
  ∃ s0 n0 c0 s1 c1 W2,v=.slice s0 n0 c0∧w.cell? ⟨gt,0,none⟩=some v∧(w.alloc (.cells m.cells 53)).cell? ⟨gt,0,none⟩=some v ∧
   (Builtin.append_ #[23,23] 23 #[v,.slice (some ⟨w.heap.size,0,none⟩) 1 1]).run Tryz.prog (w.alloc (.cells m.cells 53))=.ok (.slice s1 (L.length+1) c1) W2∧Below B w W2∧W2.cell? ⟨gt,0,none⟩=some v∧W2.frozen? ⟨gt,0,none⟩=false ∧
   Lay B gt gl (W2.setCell ⟨gt,0,none⟩ (.slice s1 (L.length+1) c1)) (.slice s1 (L.length+1) c1) S (L++[⟨m.k,m.x,m.n,[],m.a,m.f,m.t⟩])∧Oth gt v w (W2.setCell ⟨gt,0,none⟩ (.slice s1 (L.length+1) c1)) ∧
   ((Value.slice s1 (L.length+1) c1).ownBlock=v.ownBlock∨∃ q,(Value.slice s1 (L.length+1) c1).ownBlock=some q∧w.heap.size<=q):=by
 have U:=zaa h.rt;have ag:=zaa h.rl;have M:∀ q,v.ownBlock=some q->B<=q∧q<w.heap.size∧q≠gt∧q≠gl:=fun q y=>h.own y;obtain⟨rt,rl,⟨ac,af,ak⟩,N,h1,h2,h3⟩:=h;obtain⟨s0,c0,rfl⟩:=OwnG.shape h1;have C:Below w.heap.size w (w.alloc (.cells m.cells 53)):=(Yb _ _).alloc (Ya _) _;have ab:=Yd w (.cells m.cells 53);have aj:(w.alloc (.cells m.cells 53)).heap.size=w.heap.size+1:=by simp
 generalize w.alloc (.cells m.cells 53)=X at C ab aj ⊢;have k1:OwnN B X (.slice s0 N.length c0) N:=h1.below C;obtain⟨v',W2,aa,V,F,y⟩:=zdn (ys:=[m]) (cap:=1) elN 23 k1 (fun e=>by cases e) (zar ab) (by rw[h2.1];exact hl) (by omega);obtain⟨s1,c1,rfl⟩:=OwnG.shape V;have e1:(N++[m]).length=L.length+1:=by simp[h2.1]
 rw[e1] at aa V y;have an:=F.size;have D:∀ j,j<w.heap.size->(Value.slice s0 N.length c0).ownBlock≠some j->W2.heap[j]?=w.heap[j]?:=fun j A Y=>(F.block j (by omega) fun e=>Y e.symm).trans (C.block j A);have nt:(Value.slice s0 N.length c0).ownBlock≠some gt:=fun e=>(M _ e).2.2.1 rfl;have nl:(Value.slice s0 N.length c0).ownBlock≠some gl:=fun e=>(M _ e).2.2.2 rfl;have ae:∀ j,j<w.heap.size->(Value.slice s0 N.length c0).ownBlock≠some j->(Value.slice s1 (L.length+1) c1).ownBlock≠some j:=fun j A Y e=>by
  rcases y with y|y
  ·exact Y (y.symm.trans e)
  ·rw[y] at e;injection e with e;omega
 have Z:=(D gt U nt).trans rt;have ai:=(D gl ag nl).trans rl;have E:Below B w W2:=⟨F.os.trans C.os,F.tape.trans C.tape,F.output.trans C.output,by omega,fun j A=>D j (by omega) fun e=>by have:=(M _ e).1;omega⟩;refine⟨s0,_,c0,s1,c1,W2,rfl,(Yc _ _ _ _ _ _ rt).trans rfl,(Yc _ _ _ _ _ _ ((C.block _ U).trans rt)).trans rfl,aa,E,(Yc _ _ _ _ _ _ Z).trans rfl,Yj _ _ _ _ _ Z,⟨Yf _ _ 0 _ _ _ Z,(Ye _ _ _ _ (fun e=>ac e.symm)).trans ai,⟨ac,af,ak⟩,N++[m],?_,?_,?_⟩,?_,?_⟩
 ·exact V.keep fun q K=>Ye _ _ _ _ fun e=>ae gt U nt (by rw[K,show q=gt from e])
 ·refine Rep.snoc (h2.keep (fun _ h=>h) fun j A=>(Ye _ _ _ _ (h3 j A).2.2.1).trans (D j (h3 j A).2.1 (h3 j A).2.2.2.2)) ⟨⟨rfl,rfl,rfl,rfl,rfl,rfl⟩,hm.2.1,RowsAt.none,⟨fun _=>hm.2,by rw[hm.2.1];exact Yk _,by rw[hm.2.2];exact Yk _⟩,fun q K=>?_⟩;rw[hm.1] at K
  cases K
 ·intro j A;obtain⟨a,b,c,d,e⟩:=h3 j A;have am:(W2.setCell ⟨gt,0,none⟩ (.slice s1 (L.length+1) c1)).heap.size=W2.heap.size:=by simp
  exact⟨a,by omega,c,d,ae j b e⟩
 ·have I:=(Yb 0 W2).setCell (p:=⟨gt,0,none⟩) (Yk _) (.slice s1 (L.length+1) c1);exact⟨I.os.trans E.os,I.tape.trans E.tape,I.output.trans E.output,Yo E.size I.size,fun j A ah al=>(Ye _ _ _ _ ah).trans (D j A al)⟩
 ·rcases y with y|y
  ·exact .inl y
  ·exact .inr ⟨_,y,by omega⟩
theorem Oth.trans {v1:Value}{w1 w2:World}(h:Oth gt v w w1)(hv:v1.ownBlock=v.ownBlock∨∃ q,v1.ownBlock=some q∧w.heap.size<=q)(h':Oth gt v1 w1 w2):Oth gt v w w2 :=
 ⟨h'.os.trans h.os,h'.tape.trans h.tape,h'.output.trans h.output,Yo h.size h'.size,fun j A y C=>(h'.block j (Yg A h.size) y (by
  rcases hv with hv|⟨q,hv,hq⟩
  ·rw[hv];exact C
  ·rw[hv];intro e;injection e with e;omega)).trans (h.block j A y C)⟩
theorem Lay.apart {C:Nat}{u:Value}{ks:List Nat}(h:Lay B gt gl w v S L)(hu:OwnI C w u ks):(∀ q,u.ownBlock=some q->q≠gt∧q≠gl∧v.ownBlock≠some q):=fun q hq=>by
 refine⟨fun e=>hu.ne h.rt (by decide) (by rw[hq,e]),fun e=>hu.ne h.rl (by decide) (by rw[hq,e]),fun e=>?_⟩;obtain⟨N,h1,-⟩:=h.ex;rcases h1.2 with⟨rfl,h0⟩ | ⟨g',cap,cur,rfl,-,h2,-⟩
 ·cases e
 ·have e1:g'=q:=by injection e
  exact hu.ne h2 (by decide) (by rw[hq,e1])
theorem Lay.beside {C:Nat}{u:Value}{ks:List Nat}(h:Lay B gt gl w v S L)(hu:OwnI C w u ks)(hS:∀ j,S j->u.ownBlock≠some j)(hg:w.grownBy w' u.ownBlock):Lay B gt gl w' v S L:=by
 have D:=h.apart hu;obtain⟨N,F,M,I⟩:=h.ex;have A:∀ j,j<w.heap.size->u.ownBlock≠some j->w'.heap[j]?=w.heap[j]?:=fun j y K=>hg.block j y fun e=>K e.symm;refine⟨(A _ (zaa h.rt) fun e=>(D _ e).1 rfl).trans h.rt,(A _ (zaa h.rl) fun e=>(D _ e).2.1 rfl).trans h.rl,h.ne,N,F.keep fun q E=>A q (F.lt E).2 fun e=>(D _ e).2.2 E,M.keep (fun _ h=>h) fun j y=>A j (I j y).2.1 (hS j y),fun j y=>?_⟩;obtain⟨a,b,c,d,e⟩:=I j y;exact⟨a,Yg b hg.size,c,d,e⟩
theorem Lay.kids {C:Nat}{u:Value}{ks:List Nat}{d:Nd}{R:List Nd}(h:Lay B gt gl w v S (L++d::R))(hu:OwnI C w u ks)(hC:B<=C) :
  ∃ g su cu n c old,v=.slice (some ⟨g,0,none⟩) n c∧L.length<n∧u=.slice su ks.length cu∧w.cell? ⟨g,L.length * 7+3,none⟩=some old∧w.frozen? ⟨g,L.length * 7+3,none⟩=false ∧
   Lay B gt gl (w.setCell ⟨g,L.length * 7+3,none⟩ u) v (fun j=>S j∨u.ownBlock=some j) (L++⟨d.kind,d.text,d.num,ks,d.pos,d.frm,d.to⟩::R)∧Oth gt v w (w.setCell ⟨g,L.length * 7+3,none⟩ u):=by
 have U:=h.apart hu;have ab:∀ q,v.ownBlock=some q->B<=q∧q<w.heap.size∧q≠gt∧q≠gl:=fun q y=>h.own y;obtain⟨rt,rl,al,N,h1,M,V⟩:=h;obtain⟨s,c,rfl⟩:=OwnG.shape h1;obtain⟨su,cu,rfl,am,ag,aj⟩:=OwnG.rows elI hu;have ae:N.length=L.length+(R.length+1):=by rw[M.1];simp
 obtain⟨m,Y⟩:∃ m,N[L.length]?=some m:=⟨_,Yh (by omega)⟩;obtain⟨g,rfl,ao,aq,af,ai,ac⟩:=OwnN.set h1 Y su ks.length cu;obtain⟨hf,-⟩:=M.2 L.length m d Y (by simp);have aa:=ab g rfl;have F:∀ j,j≠g->(w.setCell ⟨g,L.length * 7+3,none⟩ (.slice su ks.length cu)).heap[j]?=w.heap[j]?:=fun j A=>Ye _ _ _ _ A;have X:(w.setCell ⟨g,L.length * 7+3,none⟩ (.slice su ks.length cu)).heap.size=w.heap.size:=by simp
 have ah:(Value.slice su ks.length cu).ownBlock≠some g:=fun e=>(U _ e).2.2 rfl;refine⟨g,su,cu,_,c,_,rfl,by omega,rfl,af,ai,⟨(F _ fun e=>aa.2.2.1 e.symm).trans rt,(F _ fun e=>aa.2.2.2 e.symm).trans rl,al,_,ac,⟨by simp[ae],fun i m' d' D E=>?_⟩,?_⟩,?_⟩
 ·by_cases hi:i=L.length
  ·subst hi;rw[List.getElem?_set_self (by omega)] at D;injection D with D;subst D;obtain rfl:_=d':=by simpa using E
   refine⟨hf,rfl,am.stay fun q y=>F _ fun e=>?_,⟨ag,aj⟩,fun q y=>.inr ?_⟩
   ·exact ah (by rw[y,<-e];rfl)
   ·have an:su=some q:=y;rw[an];rfl
  ·rw[List.getElem?_set_ne (fun e=>hi e.symm)] at D;have e3:(L++d::R)[i]?=some d':=by
    by_cases hlt:i<L.length
    ·rw[List.getElem?_append_left hlt] at E ⊢;exact E
    ·rw[List.getElem?_append_right (by omega)] at E ⊢;obtain⟨k,hk⟩:∃ k,i - L.length=k+1:=⟨i - L.length - 1,by omega⟩;rw[hk] at E ⊢;simpa using E
   obtain⟨q1,q2,q3,q4,Z⟩:=M.2 i m' d' D e3;exact⟨q1,q2,q3.stay fun q y=>F _ fun e=>(V _ (Z q y)).2.2.2.2 (by rw[e];rfl),q4,fun q y=>.inl (Z q y)⟩
 ·rintro j (A|A)
  ·obtain⟨a,b,c,d,e⟩:=V j A;exact⟨a,by rw[X];exact b,c,d,e⟩
  ·have K:=U j A;have h6:=hu.lt A;exact⟨by omega,by rw[X];exact h6.2,K.1,K.2.1,K.2.2⟩
 ·have I:=(Yb 0 w).setCell (p:=⟨g,L.length * 7+3,none⟩) (Yk _) (.slice su ks.length cu);exact⟨I.os,I.tape,I.output,I.size,fun j A ap ak=>F j fun e=>ak (by rw[e];rfl)⟩
end
theorem cells7 {W:World}{b:Nat}{t:TypeId}{fr:Nat × Nat}{v0 v1 v2 v3 v4 v5 v6:Value}(h:W.heap[b]?=some (.cells #[v0,v1,v2,v3,v4,v5,v6] t fr)):W.cell? ⟨b,0,none⟩=some v0∧W.cell? ⟨b,1,none⟩=some v1∧W.cell? ⟨b,2,none⟩=some v2∧W.cell? ⟨b,3,none⟩=some v3∧W.cell? ⟨b,4,none⟩=some v4∧W.cell? ⟨b,5,none⟩=some v5∧W.cell? ⟨b,6,none⟩=some v6 :=
 ⟨Yp 0 h rfl,Yp 1 h rfl,Yp 2 h rfl,Yp 3 h rfl,Yp 4 h rfl,Yp 5 h rfl,Yp 6 h rfl⟩
set_option maxHeartbeats 4000000
section
variable {P:Program}{ops:Array Oper}{Q:Exit->Act->World->Prop}{md:Region.Mode}{S:World->Prop}{fuel:Nat}{listed:Array Bool}{tm:Array Value}{df:List Deferred}{w:World}
 {ty0:TypeId}{pos:String}{aft:Array Edge}
theorem zxl (i d:Nat)(ty:TypeId)(x:Operand)(hi:ops[i]?=some ⟨some d,.load ty x,ty0,pos,aft,none⟩)(g o:Nat)(cs:Array Value)(hx:Act.eval ⟨tm,df⟩ x=.pointer (some ⟨g,o,none⟩))
  (hs:Q3 md ops listed i=true)
  (hQ:∀ c a w,Q (.panic c) (a.put (some d) (.agg cs)) w->Q (.panic c) a w) (D:TypeDesc) (hc:∀ w,S w->∀ j u,cs[j]?=some u->w.cell? ⟨g,o+j,none⟩=some u) (hu:P.underlying ty=some D)
  (hd:D.isRow=true) (hsz:(P.info? ty).map (·.size)=some cs.size) (hS:S w)
  (h:wpAnyH P md ops Q S fuel (listed.setIfInBounds i true) ⟨tm.setIfInBounds d (.agg cs),df⟩ w):wpAnyH P md ops Q S (fuel+1) listed ⟨tm,df⟩ w :=
 zal i d (.agg cs) hi hs hQ (fun w' y=>by
  unfold execOp;simp only[hx,Instr.loadAt,Instr.sureAddr,Sem.run_bind,Sem.run_pure,Result.andThen_ok,zrd (hc w' y) hu hd hsz]) hS h
theorem zok {Q:Exit->Act->World->Prop}{e:Exit}{a:Act}{w0:World}(F:World->Prop)(h0:F w0)(h:∀ W1,F W1->Q e a W1):Q e a w0:=h _ h0
end
theorem zha (i:Nat):∀ (l:List Pt)(t:Pt),layL i (l++[t])=layL i l++layP (i+cntL l) t
 | [],t=>by simp[layL,cntL]
 | a::l,t=>by
  rw[List.cons_append,layL,layL,zha _ l t,cntL,List.append_assoc,Nat.add_assoc]
theorem zhb (i:Nat):∀ (l:List Pt)(t:Pt),kidI i (l++[t])=kidI i l++[i+cntL l]
 | [],t=>by simp[kidI,cntL]
 | a::l,t=>by
  rw[List.cons_append,kidI,kidI,zhb _ l t,cntL,List.cons_append,Nat.add_assoc]
theorem zem:∀ (l:List Pt)(t:Pt),cntL (l++[t])=cntL l+cntP t
 | [],t=>by simp[cntL]
 | a::l,t=>by
  rw[List.cons_append,cntL,cntL,zem l t,Nat.add_assoc]
mutual
theorem zol (i:Nat):∀ t:Pt,(layP i t).length=cntP t
 | .mk k x n a f t l=>by rw[layP,List.length_cons,zga,cntP,Nat.add_comm]
theorem zga (i:Nat):∀ l:List Pt,(layL i l).length=cntL l
 | []=>rfl
 | t::l=>by rw[layL,List.length_append,zol,zga,cntL]
end
theorem zd2 (i:Nat):∀ l:List Pt,(kidI i l).length=l.length
 | []=>rfl
 | t::l=>by rw[kidI,List.length_cons,zd2,List.length_cons]
theorem zgp:∀ (l:List Pt)(j:Nat)(t:Pt),l[j]?=some t->cntL (l.take j)+cntP t<=cntL l
 | [],j,t,h=>by simp at h
 | a::l,0,t,h=>by
  obtain rfl:a=t:=by simpa using h
  simp[cntL]
 | a::l,j+1,t,h=>by
  have:=zgp l j t (by simpa using h);rw[List.take_succ_cons,cntL,cntL];omega
theorem zd3 (t:Pt):1<=cntP t:=by cases t;rw[cntP];omega
theorem zgq:∀ l:List Pt,l.length<=cntL l
 | []=>Ya _
 | t::l=>by
  have:=zgq l;have:=zd3 t;rw[List.length_cons,cntL];omega
def LayR (B gt gl:Nat) (w:World) (v:Value) (S:Nat->Prop) (L:List Nd) (t:Pt) (e:Ending) (w':World):Prop :=
 e=.returned (.int .i64 L.length)∧∃ v' S',Lay B gt gl w' v' S' (L++layP L.length t)∧Oth gt v w w'∧(v'.ownBlock=v.ownBlock∨∃ q,v'.ownBlock=some q∧w.heap.size<=q)∧∀ j,S' j->S j∨w.heap.size<=j
theorem bldNd (m:NdM) (W:World):(Instr.buildSlice 23 1 #[(0,.agg m.cells)]).run Tryz.prog W=.ok (.slice (some ⟨W.heap.size,0,none⟩) 1 1) (W.alloc (.cells m.cells 53)):=by kernel_rfl
theorem zip (args:Array Value) (W:World):(callFunc 73 args).run Tryz.prog W=.ok (.enter 73 args) W:=by rfl
structure LayRest (B gt gl:Nat) (w:World) (v:Value) (S:Nat->Prop) (L:List Nd) (m:NdM) (W:World) (v1:Value):Prop where
 lay:Lay B gt gl W v1 S (L++[⟨m.k,m.x,m.n,[],m.a,m.f,m.t⟩])
 oth:Oth gt v w W
 bel:Below B w W
 own:v1.ownBlock=v.ownBlock∨∃ q,v1.ownBlock=some q∧w.heap.size<=q
set_option maxHeartbeats 8000000 in
theorem zyv (B gt gl:Nat) (SP:Nat->Prop)(hSP:∀ j,SP j->j<B)(n:Nat):∀ (t:Pt)(w:World)(b:Nat)(v:Value) (S:Nat->Prop) (L:List Nd),cntP t<=n->PtAt w SP b t->Lay B gt gl w v S L->L.length+cntP t<=500000 ->
  Calls Tryz.prog 73 #[.pointer (some ⟨b,0,none⟩),.pointer (some ⟨gt,0,none⟩),.pointer (some ⟨gl,0,none⟩)] w (LayR B gt gl w v S L t):=by
 induction n with
 | zero=>intro t w b v S L h;cases t with | mk k x n a f t l=>rw[cntP] at h;omega
 | succ n ih=>
  intro t w b v S L ba bl am a4;have a8:Hid (∀ (t:Pt) (w:World) (b:Nat) (v:Value) (S:Nat->Prop) (L:List Nd),cntP t<=n->PtAt w SP b t->Lay B gt gl w v S L->L.length+cntP t<=500000->Calls Tryz.prog 73 #[.pointer (some ⟨b,0,none⟩),.pointer (some ⟨gt,0,none⟩),.pointer (some ⟨gl,0,none⟩)] w (LayR B gt gl w v S L t)):=ih;have a1:=J hSP;clear ih hSP
  cases bl with
  | mk _ k x nn a f tt l bs sp cp hrow hb hr hs hl hk=>
  have bx:1+cntL l<=n+1:=ba;have bA:L.length+(1+cntL l)<=500000:=a4;have bz:=zgq l;clear ba a4;obtain⟨m,hm⟩:∃ m:NdM,m=⟨k,x,nn,none,0,0,a,f,tt⟩:=⟨_,rfl⟩;obtain⟨E,n0,c0,s1,c1,W2,rfl,d0,dX,aP,a7,dW,zW,bf,bb,bc⟩:=(am.below ((Yb w.heap.size w).drew)).one m (by rw[hm];exact⟨rfl,rfl,rfl⟩) (by omega);have aR:=J hm;clear hm;have aY:Hid _:=bf;have av:Hid _:=bb;have a5:Hid _:=bc;have au:Hid _:=a7;obtain⟨s9,c9,e9⟩:=am.shape;obtain⟨bk,bp,bi⟩:E=s9∧n0=L.length∧c0=c9:=by injection e9 with a b c;exact⟨a,b,c⟩
  subst bp;clear e9 bk bi bf bb bc a7;have a3:Hid (∀ W,Below B w W->W.heap[b]?=some (.cells (paC k x nn a f tt (.slice sp bs.length cp)) 113 (0,0))):=fun W h=>(h.block _ (a1 _ hb)).trans hrow;have a9:Hid (∀ W,Below B w W->RowsP W sp bs):=fun W h=>hr.stay fun q y=>h.block _ (a1 _ (hs q y));have be:Hid (∀ W,Below B w W->∀ (i b':Nat) (t':Pt),bs[i]?=some b'->l[i]?=some t'->PtAt W SP b' t'):=fun W h i b' t' e1 e2=>(hk i b' t' e1 e2).keep (fun _ h=>h) fun j hj=>h.block j (a1 j hj);have hw:B<=w.heap.size:=Yo am.ne.2.1 (Nat.le_of_lt (zaa am.rt));have a6:w.cell? ⟨gt,0,none⟩=some (.slice E L.length c0):=(Yc _ _ _ _ _ _ am.rt).trans rfl;have bh:Hid (∀ q,(Value.slice E L.length c0).ownBlock=some q->B<=q):=fun q y=>(am.own y).1;clear hrow hb hr hs hk am
  go_enter Tryz.func73,Tryz.ntmps73
  go_wp2
  have af:Below B w w.drew:=(Yb _ _).drew;refine zbc (S:=fun w'=>Below B w w') 10 rfl (by kernel_rfl) ?_;refine zaj 0 12 (.pointer (some ⟨gt,0,none⟩)) rfl (by rfl) (by kernel_rfl) (fun _ _ _ h=>h) (fun w' _=>by first|rfl|go_simp) af ?_;simp only[sI,sS,sZ];refine zaj 2 14 (.pointer (some ⟨b,0,none⟩)) rfl (by rfl) (by kernel_rfl) (fun _ _ _ h=>h) (fun w' _=>by first|rfl|go_simp) af ?_;simp only[sI,sS,sZ];refine zaj 3 15 (.pointer (some ⟨b,0,none⟩)) rfl (by rfl) (by kernel_rfl) (fun _ _ _ h=>h) (fun w' _=>by first|rfl|go_simp) af ?_;simp only[sI,sS,sZ];refine zaj 4 16 (.pointer (some ⟨b,0,none⟩)) rfl (by rfl) (by kernel_rfl) (fun _ _ _ h=>h) (fun w' _=>by first|rfl|go_simp) af ?_;simp only[sI,sS,sZ];refine zxl 5 17 53 (.tmp 16) rfl b 0 m.cells (by rfl) (by kernel_rfl) (fun _ _ _ h=>h) _ (fun w' bn j u I=>by
   have h:=Yc _ _ (0+j) _ _ _ (a3 w' bn);rw[h];rw[aR.out] at I;have hj:j<7:=by have:=(Array.getElem?_eq_some_iff.1 I).1;exact this
   match j,hj with
   | 0,_=>exact I
   | 1,_=>exact I
   | 2,_=>exact I
   | 3,_=>exact I
   | 4,_=>exact I
   | 5,_=>exact I
   | 6,_=>exact I) Tryz.underlying53 rfl (by kernel_rfl) af ?_
  simp only[sI,sS,sZ];have aM:Below B w (w.drew.alloc (.cells m.cells 53)):=af.alloc hw _;have ao:Below B w W2:=⟨au.out.os,au.out.tape,au.out.output,au.out.size,au.out.block⟩;have ar:Hid (LayRest B gt gl w (.slice E L.length c0) S L m (W2.setCell ⟨gt,0,none⟩ (.slice s1 (L.length+1) c1)) (.slice s1 (L.length+1) c1)):=⟨aY.out,⟨av.out.os,av.out.tape,av.out.output,av.out.size,av.out.block⟩,ao.setCell (p:=⟨gt,0,none⟩) aY.out.ne.2.1 _,a5.out⟩;clear aY av a5 au;refine wpAnyH_all (rs:=[1,6]) (by kernel_rfl) (by simp) fun i hi=>?_;simp only[List.mem_cons,List.not_mem_nil,or_false] at hi;rcases hi with rfl|rfl
  ·refine zf8 rfl rfl ?_;refine zh5 (.slice E L.length c0) (by go_simp) ?_;refine⟨af,?_⟩;simp only[Act.put];refine zac 6 rfl (by kernel_rfl) ?_;refine zfi 23 (.tmp 17) rfl (.agg m.cells) rfl (bldNd m w.drew) ?_;refine⟨aM,?_⟩;simp only[Act.put];refine zac 7 rfl (by kernel_rfl) ?_;refine zaf (.tmp 13) (.tmp 18) 23 rfl rfl rfl aP ?_;refine⟨ao,?_⟩;simp only[Act.put];refine zaj 8 20 (.pointer (some ⟨gt,0,none⟩)) rfl (by rfl) (by kernel_rfl) (fun _ _ _ h=>h) (fun w' _=>by first|rfl|go_simp) ao ?_;simp only[sI,sS,sZ];refine zac 9 rfl (by kernel_rfl) ?_
   go_simp
   refine⟨ar.out.bel,?_⟩;refine wpAnyH_done (by kernel_rfl) ?_ _;refine zok (fun W=>LayRest B gt gl w (.slice E L.length c0) S L m W (.slice s1 (L.length+1) c1)) ar.out ?_;clear ar aP d0 dX dW zW aM ao af a6;intro W3 hF;have X:Hid _:=hF;clear hF;have c7:W3.cell? ⟨b,7,none⟩=some (.slice sp bs.length cp):=Yp 7 (a3 W3 X.out.bel) rfl
   go_wp2
   go_loopw [6,26] (fun u i wr=>∃ (j:Nat) (Z:Value) (S':Nat->Prop),j<=l.length∧i=.int .i64 j∧OwnI w.heap.size wr u (kidI (L.length+1) (l.take j))∧Lay B gt gl wr Z S' (L++⟨m.k,m.x,m.n,[],m.a,m.f,m.t⟩::layL (L.length+1) (l.take j))∧Oth gt (.slice E L.length c0) w wr∧Below B w wr∧(Z.ownBlock=(Value.slice E L.length c0).ownBlock∨∃ q,Z.ownBlock=some q∧w.heap.size<=q)∧(∀ q,S' q->S q∨w.heap.size<=q)∧∀ q,S' q->u.ownBlock≠some q) (fun _ i _=>l.length - (intOf i).toNat)
   case atStart=>exact⟨0,_,S,Yk _,rfl,zcz _ _,X.out.lay,X.out.oth,X.out.bel,X.out.own,fun _ h=>.inl h,fun _ _ e=>by cases e⟩
   case round=>
    obtain⟨j,Z,S',hj,rfl,I,hL,hO,hB,hv,aJ,aF⟩:=hrel;have D:=J I;have C:=J hL;have HO:=J hO;have HB:=J hB;have HV:=J hv;have ai:=J aJ;have ak:=J aF;have bo:=hO.size;clear I hL hO hB hv aJ aF X c7;have al:Hid ((L++(⟨m.k,m.x,m.n,[],m.a,m.f,m.t⟩:Nd)::layL (L.length+1) (l.take j)).length=L.length+1+cntL (l.take j)):=by show _=_;rw[List.length_append,List.length_cons,zga];omega
    by_cases hlt:j<l.length
    ·obtain⟨K,ap⟩:∃ K,bs[j]?=some K:=⟨_,Yh (by omega)⟩;obtain⟨tj,ab⟩:∃ tj,l[j]?=some tj:=⟨_,Yh (by omega)⟩;have bv:=zgp l j tj ab;have az:Hid (l.take (j+1)=l.take j++[tj]):=by show _=_;rw[List.take_add_one,ab];rfl
     have aL:Hid (PtAt wr SP K tj):=be.out wr HB j K tj ap ab;obtain⟨pb,po,aQ,aO⟩:=a9.out wr HB (by omega);have cj:wr.cell? ⟨pb,po+j,none⟩=some (.pointer (some ⟨K,0,none⟩)):=by
      have h:=aO j K ap 0 _ rfl;rw[Nat.mul_one,Nat.add_zero] at h;exact h
     have cg:wr.cell? ⟨gl,0,none⟩=some (.func (Fn.func 73) #[] #[.pointer (some ⟨gt,0,none⟩),.pointer (some ⟨gl,0,none⟩)]):=(Yc _ _ _ _ _ _ C.out.rl).trans rfl;have hd:decide ((j:Int)<bs.length)=true:=by simp;omega
     have br:j<bs.length:=by omega
     have bw:=zip;subst aQ;clear ap ab aO
     go_wp2_with fail
     refine(a8 tj wr K Z S' _ (by omega) aL.out C (by rw[al.out];omega)).mono ?_;rintro e A ⟨rfl,v4,M,ag,ae,ax,aj⟩;rw[al.out] at ag ⊢;have aA:Hid (Lay B gt gl A v4 M (L++⟨m.k,m.x,m.n,[],m.a,m.f,m.t⟩::layL (L.length+1) (l.take (j+1)))):=by
      show Lay _ _ _ _ _ _ _;rw[az.out,zha,<-List.cons_append,<-List.append_assoc];exact ag
     have an:=C.out.apart D;have aa:Hid (OwnI w.heap.size A u6 (kidI (L.length+1) (l.take j))):=D.out.keep fun q y=>ae.block q (D.out.lt y).2 (an q y).1 (an q y).2.2;have Y:=J (HO.out.trans HV ae);have a0:Hid (v4.ownBlock=(Value.slice E L.length c0).ownBlock∨∃ q,v4.ownBlock=some q∧w.heap.size<=q):=by
      show _∨_;rcases ax with h|⟨q,h,y⟩
      ·rw[h];exact HV
      ·exact .inr ⟨q,h,by omega⟩
     have aT:Hid (∀ q,M q->S q∨w.heap.size<=q):=fun q y=>(aj q y).elim (ai q) fun h=>.inr (by omega);have aq:Hid (∀ q,M q->u6.ownBlock≠some q):=fun q y=>(aj q y).elim (ak q) fun h e=>by have:=(D.out.lt e).2;omega
     have bt:=ae.size;have aD:Hid (∀ q,M q->q<A.heap.size):=fun q y=>by
      obtain⟨N,-,-,h3⟩:=ag.ex;exact(h3 q y).2.1
     clear ag ae ax aj an C HO HV ai ak D aL cj cg;obtain⟨s6,c6,rfl⟩:=OwnG.shape aa;have F:Below A.heap.size A (A.alloc (.cells #[.int .i64 ((L.length+1+cntL (l.take j):Nat):Int)] 3)):=(Yb _ _).alloc (Ya _) _;have aC:=Yd A (.cells #[.int .i64 ((L.length+1+cntL (l.take j):Nat):Int)] 3);have a2:(A.alloc (.cells #[.int .i64 ((L.length+1+cntL (l.take j):Nat):Int)] 3)).heap.size=A.heap.size+1:=by simp
     obtain⟨v7,W7,aN,ac,U,ah⟩:=zdn (ys:=[L.length+1+cntL (l.take j)]) (cap:=1) elI 51 (aa.out.below F) (fun e=>by cases e) (zar aC) (by rw[zd2,List.length_take,List.length_singleton];omega) (by omega);obtain⟨n7,aH⟩:∃ n7,(kidI (L.length+1) (l.take j)++[L.length+1+cntL (l.take j)]).length=n7:=⟨_,rfl⟩;obtain⟨s7,c7,rfl⟩:=OwnG.shape ac;rw[aH] at aN ac ah;have aU:Hid (OwnI w.heap.size W7 (.slice s7 n7 c7) (kidI (L.length+1) (l.take (j+1)))):=by
      show OwnG _ _ _ _ _ _ _;rw[az.out,zhb];exact ac
     have ay:Hid (Lay B gt gl W7 v4 M (L++⟨m.k,m.x,m.n,[],m.a,m.f,m.t⟩::layL (L.length+1) (l.take (j+1)))):=(aA.out.below F).beside (aa.out.below F) aq.out U;have bm:=U.size;have aE:∀ q,q<w.heap.size->W7.heap[q]?=A.heap[q]?:=fun q y=>(U.block q (by omega) fun e=>by have:=(aa.out.lt e.symm).1;omega).trans (F.block q (by omega));have V:Hid (Oth gt (.slice E L.length c0) w W7):=⟨(U.os.trans F.os).trans Y.out.os,(U.tape.trans F.tape).trans Y.out.tape,(U.output.trans F.output).trans Y.out.output,by omega,fun q y aX aZ=>(aE q y).trans (Y.out.block q y aX aZ)⟩;have aW:Hid (Below B w W7):=⟨V.out.os,V.out.tape,V.out.output,V.out.size,fun q y=>V.out.block q (by omega) (by have:=ay.out.ne.2.1;omega) fun e=>by have:=bh.out q e;omega⟩;have aV:Hid (∀ q,M q->(Value.slice s7 n7 c7).ownBlock≠some q):=fun q y e=>by
      rcases ah with h|h
      ·exact aq q y (h.symm.trans e)
      ·rw[h] at e;injection e with e;have:=aD.out q y;omega
     clear ac U ah aC F a2 aE aA aa Y aq aD aH
     go_wp2_with (refine za8 (.tmp 30) (.tmp 34) 51 (by rfl) (by rfl) (by rfl) (by rfl) aN ?_)
     exact⟨⟨j+1,v4,M,by omega,by go_num,aU.out,ay.out,V.out,aW.out,a0.out,aT.out,aV.out⟩,by simp[intOf];omega⟩
    ·obtain rfl:j=l.length:=by omega
     have hd:decide ((l.length:Int)<bs.length)=false:=by simp;omega
     rw[List.take_length] at C D;obtain⟨g9,su,cu,n9,c9,old,rfl,bq,rfl,q1,q2,aK,aB⟩:=C.out.kids D (by have:=C.out.ne.2.1;have:=hw;omega);have aI:Hid _:=aK;have aw:=J (HO.out.trans HV aB);have cg:wr.cell? ⟨gt,0,none⟩=some (.slice (some ⟨g9,0,none⟩) n9 c9):=(Yc _ _ _ _ _ _ C.out.rt).trans rfl;have aG:Hid (∀ q,(Value.slice su (kidI (L.length+1) l).length cu).ownBlock=some q->w.heap.size<=q):=fun q y=>(D.out.lt y).1;clear aK aB C HO D ak al;generalize (kidI (L.length+1) l).length=nk at aI aw aG q1 q2 ⊢
     go_wp2
     go_ret
     have h:=aI.out;rw[aR.out] at h;exact⟨rfl,_,_,h,aw.out,HV.out,fun q y=>by
      rcases y with y|y
      ·exact ai q y
      ·exact .inr (aG q y)⟩
  ·refine zf8 rfl rfl ?_;refine zfi 23 (.tmp 17) rfl (.agg m.cells) rfl (bldNd m w.drew) ?_;refine⟨aM,?_⟩;simp only[Act.put];refine zac 1 rfl (by kernel_rfl) ?_;have bu:(w.alloc (.cells m.cells 53)).cell? ⟨gt,0,none⟩=some (.slice E L.length c0):=dX;refine zh5 (.slice E L.length c0) (by go_simp) ?_;clear bu;refine⟨aM,?_⟩;simp only[Act.put];refine zac 7 rfl (by kernel_rfl) ?_;refine zaf (.tmp 13) (.tmp 18) 23 rfl rfl rfl aP ?_;refine⟨ao,?_⟩;simp only[Act.put];refine zaj 8 20 (.pointer (some ⟨gt,0,none⟩)) rfl (by rfl) (by kernel_rfl) (fun _ _ _ h=>h) (fun w' _=>by first|rfl|go_simp) ao ?_;simp only[sI,sS,sZ];refine zac 9 rfl (by kernel_rfl) ?_
   go_simp
   refine⟨ar.out.bel,?_⟩;refine wpAnyH_done (by kernel_rfl) ?_ _;refine zok (fun W=>LayRest B gt gl w (.slice E L.length c0) S L m W (.slice s1 (L.length+1) c1)) ar.out ?_;clear ar aP d0 dX dW zW aM ao af a6;intro W3 hF;have X:Hid _:=hF;clear hF;have c7:W3.cell? ⟨b,7,none⟩=some (.slice sp bs.length cp):=Yp 7 (a3 W3 X.out.bel) rfl
   go_wp2
   go_loopw [6,26] (fun u i wr=>∃ (j:Nat) (Z:Value) (S':Nat->Prop),j<=l.length∧i=.int .i64 j∧OwnI w.heap.size wr u (kidI (L.length+1) (l.take j))∧Lay B gt gl wr Z S' (L++⟨m.k,m.x,m.n,[],m.a,m.f,m.t⟩::layL (L.length+1) (l.take j))∧Oth gt (.slice E L.length c0) w wr∧Below B w wr∧(Z.ownBlock=(Value.slice E L.length c0).ownBlock∨∃ q,Z.ownBlock=some q∧w.heap.size<=q)∧(∀ q,S' q->S q∨w.heap.size<=q)∧∀ q,S' q->u.ownBlock≠some q) (fun _ i _=>l.length - (intOf i).toNat)
   case atStart=>exact⟨0,_,S,Yk _,rfl,zcz _ _,X.out.lay,X.out.oth,X.out.bel,X.out.own,fun _ h=>.inl h,fun _ _ e=>by cases e⟩
   case round=>
    obtain⟨j,Z,S',hj,rfl,I,hL,hO,hB,hv,aJ,aF⟩:=hrel;have D:=J I;have C:=J hL;have HO:=J hO;have HB:=J hB;have HV:=J hv;have ai:=J aJ;have ak:=J aF;have bo:=hO.size;clear I hL hO hB hv aJ aF X c7;have al:Hid ((L++(⟨m.k,m.x,m.n,[],m.a,m.f,m.t⟩:Nd)::layL (L.length+1) (l.take j)).length=L.length+1+cntL (l.take j)):=by show _=_;rw[List.length_append,List.length_cons,zga];omega
    by_cases hlt:j<l.length
    ·obtain⟨K,ap⟩:∃ K,bs[j]?=some K:=⟨_,Yh (by omega)⟩;obtain⟨tj,ab⟩:∃ tj,l[j]?=some tj:=⟨_,Yh (by omega)⟩;have bv:=zgp l j tj ab;have az:Hid (l.take (j+1)=l.take j++[tj]):=by show _=_;rw[List.take_add_one,ab];rfl
     have aL:Hid (PtAt wr SP K tj):=be.out wr HB j K tj ap ab;obtain⟨pb,po,aQ,aO⟩:=a9.out wr HB (by omega);have cj:wr.cell? ⟨pb,po+j,none⟩=some (.pointer (some ⟨K,0,none⟩)):=by
      have h:=aO j K ap 0 _ rfl;rw[Nat.mul_one,Nat.add_zero] at h;exact h
     have cg:wr.cell? ⟨gl,0,none⟩=some (.func (Fn.func 73) #[] #[.pointer (some ⟨gt,0,none⟩),.pointer (some ⟨gl,0,none⟩)]):=(Yc _ _ _ _ _ _ C.out.rl).trans rfl;have hd:decide ((j:Int)<bs.length)=true:=by simp;omega
     have br:j<bs.length:=by omega
     have bw:=zip;subst aQ;clear ap ab aO
     go_wp2_with fail
     refine(a8 tj wr K Z S' _ (by omega) aL.out C (by rw[al.out];omega)).mono ?_;rintro e A ⟨rfl,v4,M,ag,ae,ax,aj⟩;rw[al.out] at ag ⊢;have aA:Hid (Lay B gt gl A v4 M (L++⟨m.k,m.x,m.n,[],m.a,m.f,m.t⟩::layL (L.length+1) (l.take (j+1)))):=by
      show Lay _ _ _ _ _ _ _;rw[az.out,zha,<-List.cons_append,<-List.append_assoc];exact ag
     have an:=C.out.apart D;have aa:Hid (OwnI w.heap.size A u6 (kidI (L.length+1) (l.take j))):=D.out.keep fun q y=>ae.block q (D.out.lt y).2 (an q y).1 (an q y).2.2;have Y:=J (HO.out.trans HV ae);have a0:Hid (v4.ownBlock=(Value.slice E L.length c0).ownBlock∨∃ q,v4.ownBlock=some q∧w.heap.size<=q):=by
      show _∨_;rcases ax with h|⟨q,h,y⟩
      ·rw[h];exact HV
      ·exact .inr ⟨q,h,by omega⟩
     have aT:Hid (∀ q,M q->S q∨w.heap.size<=q):=fun q y=>(aj q y).elim (ai q) fun h=>.inr (by omega);have aq:Hid (∀ q,M q->u6.ownBlock≠some q):=fun q y=>(aj q y).elim (ak q) fun h e=>by have:=(D.out.lt e).2;omega
     have bt:=ae.size;have aD:Hid (∀ q,M q->q<A.heap.size):=fun q y=>by
      obtain⟨N,-,-,h3⟩:=ag.ex;exact(h3 q y).2.1
     clear ag ae ax aj an C HO HV ai ak D aL cj cg;obtain⟨s6,c6,rfl⟩:=OwnG.shape aa;have F:Below A.heap.size A (A.alloc (.cells #[.int .i64 ((L.length+1+cntL (l.take j):Nat):Int)] 3)):=(Yb _ _).alloc (Ya _) _;have aC:=Yd A (.cells #[.int .i64 ((L.length+1+cntL (l.take j):Nat):Int)] 3);have a2:(A.alloc (.cells #[.int .i64 ((L.length+1+cntL (l.take j):Nat):Int)] 3)).heap.size=A.heap.size+1:=by simp
     obtain⟨v7,W7,aN,ac,U,ah⟩:=zdn (ys:=[L.length+1+cntL (l.take j)]) (cap:=1) elI 51 (aa.out.below F) (fun e=>by cases e) (zar aC) (by rw[zd2,List.length_take,List.length_singleton];omega) (by omega);obtain⟨n7,aH⟩:∃ n7,(kidI (L.length+1) (l.take j)++[L.length+1+cntL (l.take j)]).length=n7:=⟨_,rfl⟩;obtain⟨s7,c7,rfl⟩:=OwnG.shape ac;rw[aH] at aN ac ah;have aU:Hid (OwnI w.heap.size W7 (.slice s7 n7 c7) (kidI (L.length+1) (l.take (j+1)))):=by
      show OwnG _ _ _ _ _ _ _;rw[az.out,zhb];exact ac
     have ay:Hid (Lay B gt gl W7 v4 M (L++⟨m.k,m.x,m.n,[],m.a,m.f,m.t⟩::layL (L.length+1) (l.take (j+1)))):=(aA.out.below F).beside (aa.out.below F) aq.out U;have bm:=U.size;have aE:∀ q,q<w.heap.size->W7.heap[q]?=A.heap[q]?:=fun q y=>(U.block q (by omega) fun e=>by have:=(aa.out.lt e.symm).1;omega).trans (F.block q (by omega));have V:Hid (Oth gt (.slice E L.length c0) w W7):=⟨(U.os.trans F.os).trans Y.out.os,(U.tape.trans F.tape).trans Y.out.tape,(U.output.trans F.output).trans Y.out.output,by omega,fun q y aX aZ=>(aE q y).trans (Y.out.block q y aX aZ)⟩;have aW:Hid (Below B w W7):=⟨V.out.os,V.out.tape,V.out.output,V.out.size,fun q y=>V.out.block q (by omega) (by have:=ay.out.ne.2.1;omega) fun e=>by have:=bh.out q e;omega⟩;have aV:Hid (∀ q,M q->(Value.slice s7 n7 c7).ownBlock≠some q):=fun q y e=>by
      rcases ah with h|h
      ·exact aq q y (h.symm.trans e)
      ·rw[h] at e;injection e with e;have:=aD.out q y;omega
     clear ac U ah aC F a2 aE aA aa Y aq aD aH
     go_wp2_with (refine za8 (.tmp 30) (.tmp 34) 51 (by rfl) (by rfl) (by rfl) (by rfl) aN ?_)
     exact⟨⟨j+1,v4,M,by omega,by go_num,aU.out,ay.out,V.out,aW.out,a0.out,aT.out,aV.out⟩,by simp[intOf];omega⟩
    ·obtain rfl:j=l.length:=by omega
     have hd:decide ((l.length:Int)<bs.length)=false:=by simp;omega
     rw[List.take_length] at C D;obtain⟨g9,su,cu,n9,c9,old,rfl,bq,rfl,q1,q2,aK,aB⟩:=C.out.kids D (by have:=C.out.ne.2.1;have:=hw;omega);have aI:Hid _:=aK;have aw:=J (HO.out.trans HV aB);have cg:wr.cell? ⟨gt,0,none⟩=some (.slice (some ⟨g9,0,none⟩) n9 c9):=(Yc _ _ _ _ _ _ C.out.rt).trans rfl;have aG:Hid (∀ q,(Value.slice su (kidI (L.length+1) l).length cu).ownBlock=some q->w.heap.size<=q):=fun q y=>(D.out.lt y).1;clear aK aB C HO D ak al;generalize (kidI (L.length+1) l).length=nk at aI aw aG q1 q2 ⊢
     go_wp2
     go_ret
     have h:=aI.out;rw[aR.out] at h;exact⟨rfl,_,_,h,aw.out,HV.out,fun q y=>by
      rcases y with y|y
      ·exact ai q y
      ·exact .inr (aG q y)⟩
def TrAt (B:Nat) (w:World) (v:Value) (L:List Nd):Prop:=∃ (N:List NdM) (S:Nat->Prop),OwnN B w v N∧Rep w S N L∧∀ j,S j->B<=j∧j<w.heap.size
theorem TrAt.below {B:Nat}{w w':World}{v:Value}{L:List Nd}(h:TrAt B w v L)(hb:Below w.heap.size w w'):TrAt B w' v L:=by
 obtain⟨N,S,C,D,A⟩:=h;exact⟨N,S,C.below hb,D.keep (fun _ h=>h) fun j y=>hb.block j (A j y).2,fun j y=>⟨(A j y).1,Yg (A j y).2 hb.size⟩⟩
theorem TrAt.mono {B C:Nat}{w:World}{v:Value}{L:List Nd}(h:TrAt B w v L)(hC:C<=B):TrAt C w v L:=by
 obtain⟨N,S,D,E,y⟩:=h;exact⟨N,S,D.mono hC,E,fun j A=>⟨Yo hC (y j A).1,(y j A).2⟩⟩
theorem TrAt.nil (B:Nat)(w:World):TrAt B w (.slice none 0 0) []:=⟨[],fun _=>False,zcz _ _,⟨rfl,fun i m d h=>by simp at h⟩,fun _ h=>h.elim⟩
theorem TrAt.shape {B:Nat}{w:World}{v:Value}{L:List Nd}(h:TrAt B w v L):∃ s c,v=.slice s L.length c:=by
 obtain⟨N,S,y,A,-⟩:=h;obtain⟨s,c,e⟩:=OwnG.shape y;exact⟨s,c,by rw[e,A.1]⟩
theorem zl0 {w:World}{SP:Nat->Prop}{b:Nat}{t:Pt}(hpt:PtAt w SP b t)(hSP:∀ j,SP j->j<w.heap.size)(hc:cntP t<=400000) :
  Calls Tryz.prog 53 #[.pointer (some ⟨b,0,none⟩)] w fun e w'=>∃ v,e=.returned (.agg #[v])∧TrAt w.heap.size w' v (layP 0 t)∧Below w.heap.size w w':=by
 have aa:=J hpt;have U:=J hSP;clear hpt hSP;have ag:∀ (I:Fn) (first cap:Array Value) (w:World),(Instr.makeFunc I first cap).run Tryz.prog w=.ok (.func I first cap) w:=fun _ _ _ _=>rfl;have ak:=zip;have aj:∀ (a:Addr) (I:Fn) (first cap:Array Value) (W:World),(store a (.func I first cap)).run Tryz.prog W=stored Tryz.prog W a (.func I first cap) .plain:=fun a I first cap W=>run_store _ W a _ _ rfl
 go_enter Tryz.func53,Tryz.ntmps53
 go_wp2_with fail
 refine zag (fun W=>Lay w.heap.size (w.heap.size+1) (w.heap.size+1+1) W (.slice none 0 0) (fun _=>False) []∧Below w.heap.size w W∧W.heap[w.heap.size]?=some (.cells #[.slice none 0 0] 25 (0,0))) ?_ ?_
 ·have n0:=Yd w (.cells #[.slice none 0 0] 25);have n1:=Yd (w.alloc (.cells #[.slice none 0 0] 25)) (.cells #[.slice none 0 0] 25);have X:=Yd ((w.alloc (.cells #[.slice none 0 0] 25)).alloc (.cells #[.slice none 0 0] 25)) (.cells #[.func (Fn.func 73) #[] #[.pointer (some ⟨w.heap.size+1,0,none⟩),.pointer (some ⟨w.heap.size+1+1,0,none⟩)]] 110);simp only[World.size_alloc] at n1 X;exact⟨⟨(Yn _ _ _ (by simp)).trans n1,X,⟨by omega,by omega,by omega⟩,[],zcz _ _,⟨rfl,fun i m d h=>by simp at h⟩,fun _ h=>h.elim⟩,(((Yb _ _).alloc (Ya _) _).alloc (by simp) _).alloc (by simp;try omega) _,(Yn _ _ _ (by simp;try omega)).trans ((Yn _ _ _ (by simp)).trans n0)⟩
 rintro W ⟨V,F,Y⟩;have ai:w.heap.size+1+1<W.heap.size:=zaa V.rl;refine(zyv w.heap.size (w.heap.size+1) (w.heap.size+1+1) SP U (cntP t) t W b (.slice none 0 0) (fun _=>False) [] (Ya _) (aa.out.keep (fun _ h=>h) fun j A=>F.block j (U j A)) V (by simp;omega)).mono ?_;rintro e C ⟨rfl,v',S',M,E,af,ac⟩;have K:C.heap[w.heap.size]?=some (.cells #[.slice none 0 0] 25 (0,0)):=(E.block _ (by omega) (by omega) (fun e=>by cases e)).trans Y;obtain⟨y,D,rfl⟩:=M.shape;have ah:=E.size;have ae:Hid (TrAt w.heap.size (C.setCell ⟨w.heap.size,0,none⟩ (.slice y ([]++layP 0 t).length D)) (.slice y ([]++layP 0 t).length D) (layP 0 t)):=by
  obtain⟨N,h1,h2,h3⟩:=M.ex;refine⟨N,S',h1.keep fun q hq=>Ye _ _ _ _ fun e=>?_,h2.keep (fun _ h=>h) fun j A=>Ye _ _ _ _ fun e=>?_,fun j A=>⟨(h3 j A).1,by simp;exact(h3 j A).2.1⟩⟩
  ·exact h1.ne K (by decide) (by rw[hq,show q=w.heap.size from e])
  ·have h5:j=w.heap.size:=e;rcases ac j A with h|h
   ·exact h
   ·omega
 have Z:Hid (Below w.heap.size w (C.setCell ⟨w.heap.size,0,none⟩ (.slice y ([]++layP 0 t).length D))):=by
  have hb:Below w.heap.size w C:=⟨E.os.trans F.os,E.tape.trans F.tape,E.output.trans F.output,by have:=F.size;omega,fun j A=>(E.block j (by omega) (by omega) (fun e=>by cases e)).trans (F.block j A)⟩;exact hb.setCell (p:=⟨w.heap.size,0,none⟩) (Ya _) _
 have ab:Hid ((C.setCell ⟨w.heap.size,0,none⟩ (.slice y ([]++layP 0 t).length D)).heap[w.heap.size]?=some (.cells #[.slice y ([]++layP 0 t).length D] 25 (0,0))):=Yf _ _ 0 _ _ _ K;have ct:C.cell? ⟨w.heap.size+1,0,none⟩=some (.slice y ([]++layP 0 t).length D):=(Yc _ _ _ _ _ _ M.rt).trans rfl;have cz:C.cell? ⟨w.heap.size,0,none⟩=some (.slice none 0 0):=(Yc _ _ _ _ _ _ K).trans rfl;have fz:C.frozen? ⟨w.heap.size,0,none⟩=false:=Yj _ _ _ _ _ K;clear V F Y M E af ac K aa U;generalize ([]++layP 0 t).length=nn at ae Z ab ct ⊢
 go_wp2
 exact bodyPost_ret (v:=.agg #[.slice y nn D]) (zdr Tryz.results53 _ _ w.heap.size 25 #[.slice y nn D] (0,0) _ rfl ab Tryz.underlying25 rfl (by kernel_rfl)) rfl ⟨_,rfl,ae.out,Z.out⟩
end Go.Proofs.YtmclgbkijeidaaaGreatDoor
