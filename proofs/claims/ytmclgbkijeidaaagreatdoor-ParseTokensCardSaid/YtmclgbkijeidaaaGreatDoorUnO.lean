import Derived.Test.YtmclgbkijeidaaaGreatDoorUnN
import Derived.Test.YtmclgbkijeidaaaGreatDoorUnC
namespace Go.Proofs.YtmclgbkijeidaaaGreatDoor
set_option maxRecDepth 100000
open Go.RowKit
structure NdM where
 k:Int
 x:ByteArray
 n:Int
 ks:Option Addr
 kn:Nat
 kc:Nat
 a:Int
 f:Int
 t:Int
def NdM.cells (m:NdM):Array Value:=#[.int .i64 m.k,.string m.x,.int .i64 m.n,.slice m.ks m.kn m.kc,.int .i64 m.a,.int .i64 m.f,.int .i64 m.t]
def intC (n:Nat):Array Value:=#[.int .i64 n]
theorem elI:El 51 3 1 intC:=by
 have h:(Tryz.prog.info? 3).map (fun i=>(i.zero,i.size,i.bytes))=some (some (.int .i64 0),1,8):=by kernel_rfl
 refine⟨Tryz.underlying51,?_,fun _=>rfl,fun _=>by simp[intC,Value.oneCell'],by omega⟩
 cases hi:Tryz.prog.info? 3 with
 | none=>rw[hi] at h;cases h
 | some i=>
  rw[hi] at h;simp only[Option.map_some,Option.some.injEq,Prod.mk.injEq] at h;exact⟨i,_,rfl,h.1,h.2.1,by omega,rfl⟩
theorem elN:El 23 53 7 NdM.cells:=by
 have h:(Tryz.prog.info? 53).map (fun i=>(i.zero,i.size,i.bytes))=some (some (.agg (NdM.cells ⟨0,⟨#[]⟩,0,none,0,0,0,0,0⟩)),7,80):=by kernel_rfl
 refine⟨Tryz.underlying23,?_,fun _=>rfl,fun _=>by simp[NdM.cells,Value.oneCell'],by omega⟩
 cases hi:Tryz.prog.info? 53 with
 | none=>rw[hi] at h;cases h
 | some i=>
  rw[hi] at h;simp only[Option.map_some,Option.some.injEq,Prod.mk.injEq] at h;exact⟨i,_,rfl,h.1,h.2.1,by omega,rfl⟩
abbrev OwnI:=OwnG 3 1 intC
abbrev OwnN:=OwnG 53 7 NdM.cells
theorem zjo:∀ (xs:List NdM)(i:Nat)(m:NdM)(ks:Option Addr)(kn kc:Nat),xs[i]?=some m->(flatG NdM.cells xs).set (i * 7+3) (.slice ks kn kc)=flatG NdM.cells (xs.set i ⟨m.k,m.x,m.n,ks,kn,kc,m.a,m.f,m.t⟩)
 | [],i,m,_,_,_,h=>by simp at h
 | a::r,0,m,_,_,_,h=>by
  obtain rfl:a=m:=by simpa using h
  rfl
 | a::r,i+1,m,ks,kn,kc,h=>by
  have ih:=zjo r i m ks kn kc (by simpa using h);unfold flatG at ih ⊢;rw[List.flatMap_cons,List.set_cons_succ,List.flatMap_cons,<-ih];have hl:a.cells.toList.length=7:=rfl;rw[List.set_append_right _ _ (by omega),hl]
  congr 2
  omega
theorem OwnN.set {B:Nat}{w:World}{sp:Option Addr}{n cap:Nat}{xs:List NdM}(h:OwnN B w (.slice sp n cap) xs){i:Nat}{m:NdM}(hi:xs[i]?=some m)(ks:Option Addr)(kn kc:Nat) :
  ∃ g,sp=some ⟨g,0,none⟩∧B<=g∧g<w.heap.size∧w.cell? ⟨g,i * 7+3,none⟩=some (.slice m.ks m.kn m.kc)∧w.frozen? ⟨g,i * 7+3,none⟩=false∧OwnN B (w.setCell ⟨g,i * 7+3,none⟩ (.slice ks kn kc)) (.slice sp n cap) (xs.set i ⟨m.k,m.x,m.n,ks,kn,kc,m.a,m.f,m.t⟩):=by
 have hil:=(List.getElem?_eq_some_iff.1 hi).1;rcases h.2 with⟨e,h0⟩ | ⟨g,cap',cur,e,h1,h2,h3,h4,h5,h6⟩
 ·omega
 ·injection e with e1 e2 e3;subst e1 e2 e3;refine⟨g,rfl,h1,zaa h2,?_,frozen_of_row _ _ _ _ _ h2,?_,.inr ⟨g,cap,cur.setIfInBounds (i * 7+3) (.slice ks kn kc),by rw[List.length_set],h1,heap_setCell_same _ _ _ _ _ _ h2,by rw[List.length_set];exact h3,h4,by rw[Array.size_setIfInBounds];exact h5,?_⟩⟩
  ·rw[cell_of_row _ _ _ _ _ _ h2,<-Array.getElem?_toList];have:(cur.toList.take (xs.length * 7))[i * 7+3]?=(flatG NdM.cells xs)[i * 7+3]?:=by rw[h6]
   rw[List.getElem?_take,if_pos (by omega),zgf elN xs i 3 m hi (by omega)] at this;rw[this];rfl
  ·rw[List.length_set,zem elN,List.length_set]
  ·rw[List.length_set,Array.toList_setIfInBounds,List.take_set,h6];exact zjo xs i m ks kn kc hi
def Rep (w:World) (S:Nat->Prop) (N:List NdM) (L:List Nd):Prop:=N.length=L.length∧∀ (i:Nat) (m:NdM) (d:Nd),N[i]?=some m->L[i]?=some d ->
 (m.k=d.kind∧m.x=d.text∧m.n=d.num∧m.a=d.pos∧m.f=d.frm∧m.t=d.to)∧m.kn=d.kids.length∧RowsAt w 1 intC m.ks d.kids∧((m.ks=none->m.kn=0∧m.kc=0)∧m.kn<=m.kc∧m.kc<=maxLen)∧∀ q,m.ks=some q->S q.block
theorem Rep.keep {w w':World}{S S':Nat->Prop}{N:List NdM}{L:List Nd}(h:Rep w S N L)(hS:∀ k,S k->S' k)(hh:∀ k,S k->w'.heap[k]?=w.heap[k]?):Rep w' S' N L :=
 ⟨h.1,fun i m d h1 h2=>by
  obtain⟨a,b,c,e,f⟩:=h.2 i m d h1 h2;exact⟨a,b,c.stay fun q hq=>hh _ (f q hq),e,fun q hq=>hS _ (f q hq)⟩⟩
theorem Rep.snoc {w:World}{S:Nat->Prop}{N:List NdM}{L:List Nd}{m:NdM}{d:Nd}(h:Rep w S N L)(h1:(m.k=d.kind∧m.x=d.text∧m.n=d.num∧m.a=d.pos∧m.f=d.frm∧m.t=d.to)∧m.kn=d.kids.length∧RowsAt w 1 intC m.ks d.kids∧((m.ks=none->m.kn=0∧m.kc=0)∧m.kn<=m.kc∧m.kc<=maxLen)∧∀ q,m.ks=some q->S q.block):Rep w S (N++[m]) (L++[d]) :=
 ⟨by simp[h.1],fun i m' d' e1 e2=>by
  by_cases hi:i<N.length
  ·rw[List.getElem?_append_left hi] at e1;rw[List.getElem?_append_left (by rw[<-h.1];exact hi)] at e2;exact h.2 i m' d' e1 e2
  ·rw[List.getElem?_append_right (by omega)] at e1;rw[List.getElem?_append_right (by rw[<-h.1];omega),<-h.1] at e2;have h0:i - N.length=0:=by have:=(List.getElem?_eq_some_iff.1 e1).1;simp at this;omega
   rw[h0] at e1 e2;obtain rfl:m=m':=by simpa using e1
   obtain rfl:d=d':=by simpa using e2
   exact h1⟩
structure Oth (gt:Nat) (v:Value) (w w':World):Prop where
 os:w'.os=w.os
 tape:w'.tape=w.tape
 output:w'.output=w.output
 size:w.heap.size<=w'.heap.size
 block:∀ j,j<w.heap.size->j≠gt->v.ownBlock≠some j->w'.heap[j]?=w.heap[j]?
structure Lay (B gt gl:Nat) (w:World) (v:Value) (S:Nat->Prop) (L:List Nd):Prop where
 rt:w.heap[gt]?=some (.cells #[v] 25 (0,0))
 rl:w.heap[gl]?=some (.cells #[.func (Fn.func 73) #[] #[.pointer (some ⟨gt,0,none⟩),.pointer (some ⟨gl,0,none⟩)]] 110 (0,0))
 ne:gt≠gl∧B<=gt∧B<=gl
 ex:∃ N:List NdM,OwnN B w v N∧Rep w S N L∧∀ j,S j->B<=j∧j<w.heap.size∧j≠gt∧j≠gl∧v.ownBlock≠some j
section
variable {B gt gl:Nat}{w w':World}{v:Value}{S:Nat->Prop}{L:List Nd}
theorem Lay.shape (h:Lay B gt gl w v S L):∃ s c,v=.slice s L.length c:=by
 obtain⟨N,h1,h2,-⟩:=h.ex;obtain⟨s,c,e⟩:=OwnG.shape h1;exact⟨s,c,by rw[e,h2.1]⟩
theorem Lay.own (h:Lay B gt gl w v S L){q:Nat}(hq:v.ownBlock=some q):B<=q∧q<w.heap.size∧q≠gt∧q≠gl:=by
 obtain⟨N,h1,-⟩:=h.ex;refine⟨(h1.lt hq).1,(h1.lt hq).2,fun e=>?_,fun e=>?_⟩
 ·exact h1.ne h.rt (by decide) (by rw[hq,e])
 ·exact h1.ne h.rl (by decide) (by rw[hq,e])
theorem Lay.below (h:Lay B gt gl w v S L)(hb:Below w.heap.size w w'):Lay B gt gl w' v S L:=by
 obtain⟨N,h1,h2,h3⟩:=h.ex;refine⟨(hb.block _ (zaa h.rt)).trans h.rt,(hb.block _ (zaa h.rl)).trans h.rl,h.ne,N,h1.below hb,h2.keep (fun _ h=>h) fun k hk=>hb.block k (h3 k hk).2.1,fun j hj=>?_⟩;obtain⟨a,b,c,d,e⟩:=h3 j hj;exact⟨a,Nat.lt_of_lt_of_le b hb.size,c,d,e⟩
theorem Lay.one (h:Lay B gt gl w v S L)(m:NdM)(hm:m.ks=none∧m.kn=0∧m.kc=0)(hl:L.length+1<=1000000) :
  ∃ s0 n0 c0 s1 c1 W2,v=.slice s0 n0 c0∧w.cell? ⟨gt,0,none⟩=some v∧(w.alloc (.cells m.cells 53)).cell? ⟨gt,0,none⟩=some v ∧
   (Builtin.append_ #[23,23] 23 #[v,.slice (some ⟨w.heap.size,0,none⟩) 1 1]).run Tryz.prog (w.alloc (.cells m.cells 53))=.ok (.slice s1 (L.length+1) c1) W2∧Below B w W2∧W2.cell? ⟨gt,0,none⟩=some v∧W2.frozen? ⟨gt,0,none⟩=false ∧
   Lay B gt gl (W2.setCell ⟨gt,0,none⟩ (.slice s1 (L.length+1) c1)) (.slice s1 (L.length+1) c1) S (L++[⟨m.k,m.x,m.n,[],m.a,m.f,m.t⟩])∧Oth gt v w (W2.setCell ⟨gt,0,none⟩ (.slice s1 (L.length+1) c1)) ∧
   ((Value.slice s1 (L.length+1) c1).ownBlock=v.ownBlock∨∃ q,(Value.slice s1 (L.length+1) c1).ownBlock=some q∧w.heap.size<=q):=by
 have hgt:=zaa h.rt;have hgl:=zaa h.rl;have hown:∀ q,v.ownBlock=some q->B<=q∧q<w.heap.size∧q≠gt∧q≠gl:=fun q hq=>h.own hq;obtain⟨rt,rl,⟨hne,hB1,hB2⟩,N,h1,h2,h3⟩:=h;obtain⟨s0,c0,rfl⟩:=OwnG.shape h1;have hb:Below w.heap.size w (w.alloc (.cells m.cells 53)):=(Below.refl _ _).alloc (Nat.le_refl _) _;have hrow:=heap_alloc_new w (.cells m.cells 53);have hsz:(w.alloc (.cells m.cells 53)).heap.size=w.heap.size+1:=by simp
 generalize w.alloc (.cells m.cells 53)=X at hb hrow hsz ⊢;have k1:OwnN B X (.slice s0 N.length c0) N:=h1.below hb;obtain⟨v',W2,hrun,ho,hg,hq⟩:=zdi (ys:=[m]) (cap:=1) elN 23 k1 (fun e=>by cases e) (zau hrow) (by rw[h2.1];exact hl) (by omega);obtain⟨s1,c1,rfl⟩:=OwnG.shape ho;have e1:(N++[m]).length=L.length+1:=by simp[h2.1]
 rw[e1] at hrun ho hq;have hle:=hg.size;have hk:∀ j,j<w.heap.size->(Value.slice s0 N.length c0).ownBlock≠some j->W2.heap[j]?=w.heap[j]?:=fun j hj hn=>(hg.block j (by omega) fun e=>hn e.symm).trans (hb.block j hj);have nt:(Value.slice s0 N.length c0).ownBlock≠some gt:=fun e=>(hown _ e).2.2.1 rfl;have nl:(Value.slice s0 N.length c0).ownBlock≠some gl:=fun e=>(hown _ e).2.2.2 rfl;have hnew:∀ j,j<w.heap.size->(Value.slice s0 N.length c0).ownBlock≠some j->(Value.slice s1 (L.length+1) c1).ownBlock≠some j:=fun j hj hn e=>by
  rcases hq with hq|hq
  ·exact hn (hq.symm.trans e)
  ·rw[hq] at e;injection e with e;omega
 have rt2:=(hk gt hgt nt).trans rt;have rl2:=(hk gl hgl nl).trans rl;have hBW:Below B w W2:=⟨hg.os.trans hb.os,hg.tape.trans hb.tape,hg.output.trans hb.output,by omega,fun j hj=>hk j (by omega) fun e=>by have:=(hown _ e).1;omega⟩;refine⟨s0,_,c0,s1,c1,W2,rfl,(cell_of_row _ _ _ _ _ _ rt).trans rfl,(cell_of_row _ _ _ _ _ _ ((hb.block _ hgt).trans rt)).trans rfl,hrun,hBW,(cell_of_row _ _ _ _ _ _ rt2).trans rfl,frozen_of_row _ _ _ _ _ rt2,⟨heap_setCell_same _ _ 0 _ _ _ rt2,(heap_setCell_other _ _ _ _ (fun e=>hne e.symm)).trans rl2,⟨hne,hB1,hB2⟩,N++[m],?_,?_,?_⟩,?_,?_⟩
 ·exact ho.keep fun q hq'=>heap_setCell_other _ _ _ _ fun e=>hnew gt hgt nt (by rw[hq',show q=gt from e])
 ·refine Rep.snoc (h2.keep (fun _ h=>h) fun j hj=>(heap_setCell_other _ _ _ _ (h3 j hj).2.2.1).trans (hk j (h3 j hj).2.1 (h3 j hj).2.2.2.2)) ⟨⟨rfl,rfl,rfl,rfl,rfl,rfl⟩,hm.2.1,RowsAt.none,⟨fun _=>hm.2,by rw[hm.2.1];exact Nat.zero_le _,by rw[hm.2.2];exact Nat.zero_le _⟩,fun q hq'=>?_⟩;rw[hm.1] at hq'
  cases hq'
 ·intro j hj;obtain⟨a,b,c,d,e⟩:=h3 j hj;have hs2:(W2.setCell ⟨gt,0,none⟩ (.slice s1 (L.length+1) c1)).heap.size=W2.heap.size:=by simp
  exact⟨a,by omega,c,d,hnew j b e⟩
 ·have hq2:=(Below.refl 0 W2).setCell (p:=⟨gt,0,none⟩) (Nat.zero_le _) (.slice s1 (L.length+1) c1);exact⟨hq2.os.trans hBW.os,hq2.tape.trans hBW.tape,hq2.output.trans hBW.output,Nat.le_trans hBW.size hq2.size,fun j hj hjt hjv=>(heap_setCell_other _ _ _ _ hjt).trans (hk j hj hjv)⟩
 ·rcases hq with hq|hq
  ·exact .inl hq
  ·exact .inr ⟨_,hq,by omega⟩
theorem Oth.trans {v1:Value}{w1 w2:World}(h:Oth gt v w w1)(hv:v1.ownBlock=v.ownBlock∨∃ q,v1.ownBlock=some q∧w.heap.size<=q)(h':Oth gt v1 w1 w2):Oth gt v w w2 :=
 ⟨h'.os.trans h.os,h'.tape.trans h.tape,h'.output.trans h.output,Nat.le_trans h.size h'.size,fun j hj hjt hjv=>(h'.block j (Nat.lt_of_lt_of_le hj h.size) hjt (by
  rcases hv with hv|⟨q,hv,hq⟩
  ·rw[hv];exact hjv
  ·rw[hv];intro e;injection e with e;omega)).trans (h.block j hj hjt hjv)⟩
theorem Lay.apart {C:Nat}{u:Value}{ks:List Nat}(h:Lay B gt gl w v S L)(hu:OwnI C w u ks):(∀ q,u.ownBlock=some q->q≠gt∧q≠gl∧v.ownBlock≠some q):=fun q hq=>by
 refine⟨fun e=>hu.ne h.rt (by decide) (by rw[hq,e]),fun e=>hu.ne h.rl (by decide) (by rw[hq,e]),fun e=>?_⟩;obtain⟨N,h1,-⟩:=h.ex;rcases h1.2 with⟨rfl,h0⟩ | ⟨g',cap,cur,rfl,-,h2,-⟩
 ·cases e
 ·have e1:g'=q:=by injection e
  exact hu.ne h2 (by decide) (by rw[hq,e1])
theorem Lay.beside {C:Nat}{u:Value}{ks:List Nat}(h:Lay B gt gl w v S L)(hu:OwnI C w u ks)(hS:∀ j,S j->u.ownBlock≠some j)(hg:w.grownBy w' u.ownBlock):Lay B gt gl w' v S L:=by
 have ha:=h.apart hu;obtain⟨N,h1,h2,h3⟩:=h.ex;have hk:∀ j,j<w.heap.size->u.ownBlock≠some j->w'.heap[j]?=w.heap[j]?:=fun j hj hn=>hg.block j hj fun e=>hn e.symm;refine⟨(hk _ (zaa h.rt) fun e=>(ha _ e).1 rfl).trans h.rt,(hk _ (zaa h.rl) fun e=>(ha _ e).2.1 rfl).trans h.rl,h.ne,N,h1.keep fun q hq=>hk q (h1.lt hq).2 fun e=>(ha _ e).2.2 hq,h2.keep (fun _ h=>h) fun j hj=>hk j (h3 j hj).2.1 (hS j hj),fun j hj=>?_⟩;obtain⟨a,b,c,d,e⟩:=h3 j hj;exact⟨a,Nat.lt_of_lt_of_le b hg.size,c,d,e⟩
theorem Lay.kids {C:Nat}{u:Value}{ks:List Nat}{d:Nd}{R:List Nd}(h:Lay B gt gl w v S (L++d::R))(hu:OwnI C w u ks)(hC:B<=C) :
  ∃ g su cu n c old,v=.slice (some ⟨g,0,none⟩) n c∧L.length<n∧u=.slice su ks.length cu∧w.cell? ⟨g,L.length * 7+3,none⟩=some old∧w.frozen? ⟨g,L.length * 7+3,none⟩=false ∧
   Lay B gt gl (w.setCell ⟨g,L.length * 7+3,none⟩ u) v (fun j=>S j∨u.ownBlock=some j) (L++⟨d.kind,d.text,d.num,ks,d.pos,d.frm,d.to⟩::R)∧Oth gt v w (w.setCell ⟨g,L.length * 7+3,none⟩ u):=by
 have ha:=h.apart hu;have hown:∀ q,v.ownBlock=some q->B<=q∧q<w.heap.size∧q≠gt∧q≠gl:=fun q hq=>h.own hq;obtain⟨rt,rl,hne,N,h1,h2,h3⟩:=h;obtain⟨s,c,rfl⟩:=OwnG.shape h1;obtain⟨su,cu,rfl,hru,hnu,hcu⟩:=OwnG.rows elI hu;have hlen:N.length=L.length+(R.length+1):=by rw[h2.1];simp
 obtain⟨m,hm⟩:∃ m,N[L.length]?=some m:=⟨_,List.getElem?_eq_getElem (by omega)⟩;obtain⟨g,rfl,hg1,hg2,hcell,hfz,hset⟩:=OwnN.set h1 hm su ks.length cu;obtain⟨hf,-⟩:=h2.2 L.length m d hm (by simp);have hgo:=hown g rfl;have hoth:∀ j,j≠g->(w.setCell ⟨g,L.length * 7+3,none⟩ (.slice su ks.length cu)).heap[j]?=w.heap[j]?:=fun j hj=>heap_setCell_other _ _ _ _ hj;have hsz:(w.setCell ⟨g,L.length * 7+3,none⟩ (.slice su ks.length cu)).heap.size=w.heap.size:=by simp
 have hug:(Value.slice su ks.length cu).ownBlock≠some g:=fun e=>(ha _ e).2.2 rfl;refine⟨g,su,cu,_,c,_,rfl,by omega,rfl,hcell,hfz,⟨(hoth _ fun e=>hgo.2.2.1 e.symm).trans rt,(hoth _ fun e=>hgo.2.2.2 e.symm).trans rl,hne,_,hset,⟨by simp[hlen],fun i m' d' e1 e2=>?_⟩,?_⟩,?_⟩
 ·by_cases hi:i=L.length
  ·subst hi;rw[List.getElem?_set_self (by omega)] at e1;injection e1 with e1;subst e1;obtain rfl:_=d':=by simpa using e2
   refine⟨hf,rfl,hru.stay fun q hq=>hoth _ fun e=>?_,⟨hnu,hcu⟩,fun q hq=>.inr ?_⟩
   ·exact hug (by rw[hq,<-e];rfl)
   ·have hq':su=some q:=hq;rw[hq'];rfl
  ·rw[List.getElem?_set_ne (fun e=>hi e.symm)] at e1;have e3:(L++d::R)[i]?=some d':=by
    by_cases hlt:i<L.length
    ·rw[List.getElem?_append_left hlt] at e2 ⊢;exact e2
    ·rw[List.getElem?_append_right (by omega)] at e2 ⊢;obtain⟨k,hk⟩:∃ k,i - L.length=k+1:=⟨i - L.length - 1,by omega⟩;rw[hk] at e2 ⊢;simpa using e2
   obtain⟨q1,q2,q3,q4,q5⟩:=h2.2 i m' d' e1 e3;exact⟨q1,q2,q3.stay fun q hq=>hoth _ fun e=>(h3 _ (q5 q hq)).2.2.2.2 (by rw[e];rfl),q4,fun q hq=>.inl (q5 q hq)⟩
 ·rintro j (hj|hj)
  ·obtain⟨a,b,c,d,e⟩:=h3 j hj;exact⟨a,by rw[hsz];exact b,c,d,e⟩
  ·have h5:=ha j hj;have h6:=hu.lt hj;exact⟨by omega,by rw[hsz];exact h6.2,h5.1,h5.2.1,h5.2.2⟩
 ·have hq2:=(Below.refl 0 w).setCell (p:=⟨g,L.length * 7+3,none⟩) (Nat.zero_le _) (.slice su ks.length cu);exact⟨hq2.os,hq2.tape,hq2.output,hq2.size,fun j hj hjt hjv=>hoth j fun e=>hjv (by rw[e];rfl)⟩
end
theorem cells7 {W:World}{b:Nat}{t:TypeId}{fr:Nat × Nat}{v0 v1 v2 v3 v4 v5 v6:Value}(h:W.heap[b]?=some (.cells #[v0,v1,v2,v3,v4,v5,v6] t fr)):W.cell? ⟨b,0,none⟩=some v0∧W.cell? ⟨b,1,none⟩=some v1∧W.cell? ⟨b,2,none⟩=some v2∧W.cell? ⟨b,3,none⟩=some v3∧W.cell? ⟨b,4,none⟩=some v4∧W.cell? ⟨b,5,none⟩=some v5∧W.cell? ⟨b,6,none⟩=some v6 :=
 ⟨(cell_of_row _ _ 0 _ _ _ h).trans rfl,(cell_of_row _ _ 1 _ _ _ h).trans rfl,(cell_of_row _ _ 2 _ _ _ h).trans rfl,(cell_of_row _ _ 3 _ _ _ h).trans rfl,(cell_of_row _ _ 4 _ _ _ h).trans rfl,(cell_of_row _ _ 5 _ _ _ h).trans rfl,(cell_of_row _ _ 6 _ _ _ h).trans rfl⟩
set_option maxHeartbeats 4000000
section
variable {P:Program}{ops:Array Oper}{Q:Exit->Act->World->Prop}{md:Region.Mode}{S:World->Prop}{fuel:Nat}{listed:Array Bool}{tm:Array Value}{df:List Deferred}{w:World}
 {ty0:TypeId}{pos:String}{aft:Array Edge}
theorem zsg (i d:Nat)(ty:TypeId)(x:Operand)(hi:ops[i]?=some ⟨some d,.load ty x,ty0,pos,aft,none⟩)(g o:Nat)(cs:Array Value)(hx:Act.eval ⟨tm,df⟩ x=.pointer (some ⟨g,o,none⟩))
  (hs:Region.noSelect ops=true) (hf:Region.free md ops listed i=true) (hr:(Region.ready md ops listed).contains i=true)
  (hQ:∀ c a w,Q (.panic c) (a.put (some d) (.agg cs)) w->Q (.panic c) a w) (D:TypeDesc) (hc:∀ w,S w->∀ j u,cs[j]?=some u->w.cell? ⟨g,o+j,none⟩=some u) (hu:P.underlying ty=some D)
  (hd:D.isRow=true) (hsz:(P.info? ty).map (·.size)=some cs.size) (hS:S w)
  (h:wpAnyH P md ops Q S fuel (listed.setIfInBounds i true) ⟨tm.setIfInBounds d (.agg cs),df⟩ w):wpAnyH P md ops Q S (fuel+1) listed ⟨tm,df⟩ w :=
 zao i d (.agg cs) hi hs hf hr hQ (fun w' hw'=>by
  unfold execOp;simp only[hx,Instr.loadAt,Instr.sureAddr,Sem.run_bind,Sem.run_pure,Result.andThen_ok,zmn (hc w' hw') hu hd hsz]) hS h
theorem zk4 {Q:Exit->Act->World->Prop}{e:Exit}{a:Act}{w0:World}(F:World->Prop)(h0:F w0)(h:∀ W1,F W1->Q e a W1):Q e a w0:=h _ h0
end
theorem zfv (i:Nat):∀ (l:List Pt)(t:Pt),layL i (l++[t])=layL i l++layP (i+cntL l) t
 | [],t=>by simp[layL,cntL]
 | a::l,t=>by
  rw[List.cons_append,layL,layL,zfv _ l t,cntL,List.append_assoc,Nat.add_assoc]
theorem zfw (i:Nat):∀ (l:List Pt)(t:Pt),kidI i (l++[t])=kidI i l++[i+cntL l]
 | [],t=>by simp[kidI,cntL]
 | a::l,t=>by
  rw[List.cons_append,kidI,kidI,zfw _ l t,cntL,List.cons_append,Nat.add_assoc]
theorem zdu:∀ (l:List Pt)(t:Pt),cntL (l++[t])=cntL l+cntP t
 | [],t=>by simp[cntL]
 | a::l,t=>by
  rw[List.cons_append,cntL,cntL,zdu l t,Nat.add_assoc]
mutual
theorem zk5 (i:Nat):∀ t:Pt,(layP i t).length=cntP t
 | .mk k x n a f t l=>by rw[layP,List.length_cons,ze1,cntP,Nat.add_comm]
theorem ze1 (i:Nat):∀ l:List Pt,(layL i l).length=cntL l
 | []=>rfl
 | t::l=>by rw[layL,List.length_append,zk5,ze1,cntL]
end
theorem zgr (i:Nat):∀ l:List Pt,(kidI i l).length=l.length
 | []=>rfl
 | t::l=>by rw[kidI,List.length_cons,zgr,List.length_cons]
theorem zha:∀ (l:List Pt)(j:Nat)(t:Pt),l[j]?=some t->cntL (l.take j)+cntP t<=cntL l
 | [],j,t,h=>by simp at h
 | a::l,0,t,h=>by
  obtain rfl:a=t:=by simpa using h
  simp[cntL]
 | a::l,j+1,t,h=>by
  have:=zha l j t (by simpa using h);rw[List.take_succ_cons,cntL,cntL];omega
theorem zfx (t:Pt):1<=cntP t:=by cases t;rw[cntP];omega
theorem zhb:∀ l:List Pt,l.length<=cntL l
 | []=>Nat.le_refl _
 | t::l=>by
  have:=zhb l;have:=zfx t;rw[List.length_cons,cntL];omega
def LayR (B gt gl:Nat) (w:World) (v:Value) (S:Nat->Prop) (L:List Nd) (t:Pt) (e:Ending) (w':World):Prop :=
 e=.returned (.int .i64 L.length)∧∃ v' S',Lay B gt gl w' v' S' (L++layP L.length t)∧Oth gt v w w'∧(v'.ownBlock=v.ownBlock∨∃ q,v'.ownBlock=some q∧w.heap.size<=q)∧∀ j,S' j->S j∨w.heap.size<=j
theorem bldNd (m:NdM) (W:World):(Instr.buildSlice 23 1 #[(0,.agg m.cells)]).run Tryz.prog W=.ok (.slice (some ⟨W.heap.size,0,none⟩) 1 1) (W.alloc (.cells m.cells 53)):=by kernel_rfl
theorem zhc (args:Array Value) (W:World):(callFunc 73 args).run Tryz.prog W=.ok (.enter 73 args) W:=by rfl
structure LayRest (B gt gl:Nat) (w:World) (v:Value) (S:Nat->Prop) (L:List Nd) (m:NdM) (W:World) (v1:Value):Prop where
 lay:Lay B gt gl W v1 S (L++[⟨m.k,m.x,m.n,[],m.a,m.f,m.t⟩])
 oth:Oth gt v w W
 bel:Below B w W
 own:v1.ownBlock=v.ownBlock∨∃ q,v1.ownBlock=some q∧w.heap.size<=q
set_option maxHeartbeats 8000000 in
theorem zqt (B gt gl:Nat) (SP:Nat->Prop)(hSP:∀ j,SP j->j<B)(n:Nat):∀ (t:Pt)(w:World)(b:Nat)(v:Value) (S:Nat->Prop) (L:List Nd),cntP t<=n->PtAt w SP b t->Lay B gt gl w v S L->L.length+cntP t<=500000 ->
  Calls Tryz.prog 73 #[.pointer (some ⟨b,0,none⟩),.pointer (some ⟨gt,0,none⟩),.pointer (some ⟨gl,0,none⟩)] w (LayR B gt gl w v S L t):=by
 induction n with
 | zero=>intro t w b v S L h;cases t with | mk k x n a f t l=>rw[cntP] at h;omega
 | succ n ih=>
  intro t w b v S L hcnt hpt hlay hbound;have HIH:Hid (∀ (t:Pt) (w:World) (b:Nat) (v:Value) (S:Nat->Prop) (L:List Nd),cntP t<=n->PtAt w SP b t->Lay B gt gl w v S L->L.length+cntP t<=500000->Calls Tryz.prog 73 #[.pointer (some ⟨b,0,none⟩),.pointer (some ⟨gt,0,none⟩),.pointer (some ⟨gl,0,none⟩)] w (LayR B gt gl w v S L t)):=ih;have HSP:=hid hSP;clear ih hSP
  cases hpt with
  | mk _ k x nn a f tt l bs sp cp hrow hb hr hs hl hk=>
  have hcl:1+cntL l<=n+1:=hcnt;have hbd:L.length+(1+cntL l)<=500000:=hbound;have hll:=zhb l;clear hcnt hbound;obtain⟨m,hm⟩:∃ m:NdM,m=⟨k,x,nn,none,0,0,a,f,tt⟩:=⟨_,rfl⟩;obtain⟨s0,n0,c0,s1,c1,W2,rfl,d0,dX,hrun,hBW,dW,zW,hL1,hO1,hv1⟩:=(hlay.below ((Below.refl w.heap.size w).drew)).one m (by rw[hm];exact⟨rfl,rfl,rfl⟩) (by omega);have HMD:=hid hm;clear hm;have HL1:Hid _:=hL1;have HO1:Hid _:=hO1;have HV1:Hid _:=hv1;have HBW:Hid _:=hBW;obtain⟨s9,c9,e9⟩:=hlay.shape;obtain⟨e9a,e9b,e9c⟩:s0=s9∧n0=L.length∧c0=c9:=by injection e9 with a b c;exact⟨a,b,c⟩
  subst e9b;clear e9 e9a e9c hL1 hO1 hv1 hBW;have HROW:Hid (∀ W,Below B w W->W.heap[b]?=some (.cells (paC k x nn a f tt (.slice sp bs.length cp)) 113 (0,0))):=fun W h=>(h.block _ (HSP.out _ hb)).trans hrow;have HRS:Hid (∀ W,Below B w W->RowsP W sp bs):=fun W h=>hr.stay fun q hq=>h.block _ (HSP.out _ (hs q hq));have HKD:Hid (∀ W,Below B w W->∀ (i b':Nat) (t':Pt),bs[i]?=some b'->l[i]?=some t'->PtAt W SP b' t'):=fun W h i b' t' e1 e2=>(hk i b' t' e1 e2).keep (fun _ h=>h) fun j hj=>h.block j (HSP.out j hj);have hw:B<=w.heap.size:=Nat.le_trans hlay.ne.2.1 (Nat.le_of_lt (zaa hlay.rt));have c0':w.cell? ⟨gt,0,none⟩=some (.slice s0 L.length c0):=(cell_of_row _ _ _ _ _ _ hlay.rt).trans rfl;have HOWN:Hid (∀ q,(Value.slice s0 L.length c0).ownBlock=some q->B<=q):=fun q hq=>(hlay.own hq).1;clear hrow hb hr hs hk hlay
  go_enter Tryz.func73,Tryz.ntmps73
  go_wp2
  have hS0:Below B w w.drew:=(Below.refl _ _).drew;refine zbg (S:=fun w'=>Below B w w') 10 rfl (by kernel_rfl) ?_;refine zaj 0 12 (.pointer (some ⟨gt,0,none⟩)) rfl (by rfl) (by kernel_rfl) (by kernel_rfl) (by kernel_rfl) (fun _ _ _ h=>h) (fun w' _=>by first|rfl|go_simp) hS0 ?_;simp only[sI,sS,sZ];refine zaj 2 14 (.pointer (some ⟨b,0,none⟩)) rfl (by rfl) (by kernel_rfl) (by kernel_rfl) (by kernel_rfl) (fun _ _ _ h=>h) (fun w' _=>by first|rfl|go_simp) hS0 ?_;simp only[sI,sS,sZ];refine zaj 3 15 (.pointer (some ⟨b,0,none⟩)) rfl (by rfl) (by kernel_rfl) (by kernel_rfl) (by kernel_rfl) (fun _ _ _ h=>h) (fun w' _=>by first|rfl|go_simp) hS0 ?_;simp only[sI,sS,sZ];refine zaj 4 16 (.pointer (some ⟨b,0,none⟩)) rfl (by rfl) (by kernel_rfl) (by kernel_rfl) (by kernel_rfl) (fun _ _ _ h=>h) (fun w' _=>by first|rfl|go_simp) hS0 ?_;simp only[sI,sS,sZ];refine zsg 5 17 53 (.tmp 16) rfl b 0 m.cells (by rfl) (by kernel_rfl) (by kernel_rfl) (by kernel_rfl) (fun _ _ _ h=>h) _ (fun w' hw' j u hu=>by
   have h:=cell_of_row _ _ (0+j) _ _ _ (HROW.out w' hw');rw[h];rw[HMD.out] at hu;have hj:j<7:=by have:=(Array.getElem?_eq_some_iff.1 hu).1;exact this
   match j,hj with
   | 0,_=>exact hu
   | 1,_=>exact hu
   | 2,_=>exact hu
   | 3,_=>exact hu
   | 4,_=>exact hu
   | 5,_=>exact hu
   | 6,_=>exact hu) Tryz.underlying53 rfl (by kernel_rfl) hS0 ?_
  simp only[sI,sS,sZ];have hSX:Below B w (w.drew.alloc (.cells m.cells 53)):=hS0.alloc hw _;have hSW:Below B w W2:=⟨HBW.out.os,HBW.out.tape,HBW.out.output,HBW.out.size,HBW.out.block⟩;have HFIN:Hid (LayRest B gt gl w (.slice s0 L.length c0) S L m (W2.setCell ⟨gt,0,none⟩ (.slice s1 (L.length+1) c1)) (.slice s1 (L.length+1) c1)):=⟨HL1.out,⟨HO1.out.os,HO1.out.tape,HO1.out.output,HO1.out.size,HO1.out.block⟩,hSW.setCell (p:=⟨gt,0,none⟩) HL1.out.ne.2.1 _,HV1.out⟩;clear HL1 HO1 HV1 HBW;refine wpAnyH_all (rs:=[1,6]) (by kernel_rfl) (by simp) fun i hi=>?_;simp only[List.mem_cons,List.not_mem_nil,or_false] at hi;rcases hi with rfl|rfl
  ·refine zew rfl rfl ?_;refine zgj (.slice s0 L.length c0) (by go_simp) ?_;refine⟨hS0,?_⟩;simp only[Act.put];refine zac 6 rfl (by kernel_rfl) ?_;refine zed 23 (.tmp 17) rfl (.agg m.cells) rfl (bldNd m w.drew) ?_;refine⟨hSX,?_⟩;simp only[Act.put];refine zac 7 rfl (by kernel_rfl) ?_;refine zak (.tmp 13) (.tmp 18) 23 rfl rfl rfl hrun ?_;refine⟨hSW,?_⟩;simp only[Act.put];refine zaj 8 20 (.pointer (some ⟨gt,0,none⟩)) rfl (by rfl) (by kernel_rfl) (by kernel_rfl) (by kernel_rfl) (fun _ _ _ h=>h) (fun w' _=>by first|rfl|go_simp) hSW ?_;simp only[sI,sS,sZ];refine zac 9 rfl (by kernel_rfl) ?_
   go_simp
   refine⟨HFIN.out.bel,?_⟩;refine wpAnyH_done (by kernel_rfl) ?_ _;refine zk4 (fun W=>LayRest B gt gl w (.slice s0 L.length c0) S L m W (.slice s1 (L.length+1) c1)) HFIN.out ?_;clear HFIN hrun d0 dX dW zW hSX hSW hS0 c0';intro W3 hF;have HF3:Hid _:=hF;clear hF;have c7:W3.cell? ⟨b,7,none⟩=some (.slice sp bs.length cp):=(cell_of_row _ _ 7 _ _ _ (HROW.out W3 HF3.out.bel)).trans rfl
   go_wp2
   go_loopw [6,26] (fun u i wr=>∃ (j:Nat) (v':Value) (S':Nat->Prop),j<=l.length∧i=.int .i64 j∧OwnI w.heap.size wr u (kidI (L.length+1) (l.take j))∧Lay B gt gl wr v' S' (L++⟨m.k,m.x,m.n,[],m.a,m.f,m.t⟩::layL (L.length+1) (l.take j))∧Oth gt (.slice s0 L.length c0) w wr∧Below B w wr∧(v'.ownBlock=(Value.slice s0 L.length c0).ownBlock∨∃ q,v'.ownBlock=some q∧w.heap.size<=q)∧(∀ q,S' q->S q∨w.heap.size<=q)∧∀ q,S' q->u.ownBlock≠some q) (fun _ i _=>l.length - (intOf i).toNat)
   case atStart=>exact⟨0,_,S,Nat.zero_le _,rfl,zbv _ _,HF3.out.lay,HF3.out.oth,HF3.out.bel,HF3.out.own,fun _ h=>.inl h,fun _ _ e=>by cases e⟩
   case round=>
    obtain⟨j,v',S',hj,rfl,hu,hL,hO,hB,hv,hS1,hS2⟩:=hrel;have HU:=hid hu;have HL:=hid hL;have HO:=hid hO;have HB:=hid hB;have HV:=hid hv;have HS1:=hid hS1;have HS2:=hid hS2;have hsz:=hO.size;clear hu hL hO hB hv hS1 hS2 HF3 c7;have HLEN:Hid ((L++(⟨m.k,m.x,m.n,[],m.a,m.f,m.t⟩:Nd)::layL (L.length+1) (l.take j)).length=L.length+1+cntL (l.take j)):=by show _=_;rw[List.length_append,List.length_cons,ze1];omega
    by_cases hlt:j<l.length
    ·obtain⟨bj,hbj⟩:∃ bj,bs[j]?=some bj:=⟨_,List.getElem?_eq_getElem (by omega)⟩;obtain⟨tj,htj⟩:∃ tj,l[j]?=some tj:=⟨_,List.getElem?_eq_getElem (by omega)⟩;have hc1:=zha l j tj htj;have HTK:Hid (l.take (j+1)=l.take j++[tj]):=by show _=_;rw[List.take_add_one,htj];rfl
     have HKJ:Hid (PtAt wr SP bj tj):=HKD.out wr HB.out j bj tj hbj htj;obtain⟨pb,po,hsp,hcells⟩:=HRS.out wr HB.out (by omega);have cj:wr.cell? ⟨pb,po+j,none⟩=some (.pointer (some ⟨bj,0,none⟩)):=by
      have h:=hcells j bj hbj 0 _ rfl;rw[Nat.mul_one,Nat.add_zero] at h;exact h
     have cg:wr.cell? ⟨gl,0,none⟩=some (.func (Fn.func 73) #[] #[.pointer (some ⟨gt,0,none⟩),.pointer (some ⟨gl,0,none⟩)]):=(cell_of_row _ _ _ _ _ _ HL.out.rl).trans rfl;have hd:decide ((j:Int)<bs.length)=true:=by simp;omega
     have hjb:j<bs.length:=by omega
     have hcf:=zhc;subst hsp;clear hbj htj hcells
     go_wp2_with fail
     refine(HIH.out tj wr bj v' S' _ (by omega) HKJ.out HL.out (by rw[HLEN.out];omega)).mono ?_;rintro e W4 ⟨rfl,v4,S4,hL4,hO4,hv4,hS4⟩;rw[HLEN.out] at hL4 ⊢;have HL4:Hid (Lay B gt gl W4 v4 S4 (L++⟨m.k,m.x,m.n,[],m.a,m.f,m.t⟩::layL (L.length+1) (l.take (j+1)))):=by
      show Lay _ _ _ _ _ _ _;rw[HTK.out,zfv,<-List.cons_append,<-List.append_assoc];exact hL4
     have hua:=HL.out.apart HU.out;have HU4:Hid (OwnI w.heap.size W4 u6 (kidI (L.length+1) (l.take j))):=HU.out.keep fun q hq=>hO4.block q (HU.out.lt hq).2 (hua q hq).1 (hua q hq).2.2;have HO4:=hid (HO.out.trans HV.out hO4);have HV4:Hid (v4.ownBlock=(Value.slice s0 L.length c0).ownBlock∨∃ q,v4.ownBlock=some q∧w.heap.size<=q):=by
      show _∨_;rcases hv4 with h|⟨q,h,hq⟩
      ·rw[h];exact HV.out
      ·exact .inr ⟨q,h,by omega⟩
     have HS4:Hid (∀ q,S4 q->S q∨w.heap.size<=q):=fun q hq=>(hS4 q hq).elim (HS1.out q) fun h=>.inr (by omega);have HT4:Hid (∀ q,S4 q->u6.ownBlock≠some q):=fun q hq=>(hS4 q hq).elim (HS2.out q) fun h e=>by have:=(HU.out.lt e).2;omega
     have hs4:=hO4.size;have HS5:Hid (∀ q,S4 q->q<W4.heap.size):=fun q hq=>by
      obtain⟨N,-,-,h3⟩:=hL4.ex;exact(h3 q hq).2.1
     clear hL4 hO4 hv4 hS4 hua HL HO HV HS1 HS2 HU HKJ cj cg;obtain⟨s6,c6,rfl⟩:=OwnG.shape HU4.out;have hbA:Below W4.heap.size W4 (W4.alloc (.cells #[.int .i64 ((L.length+1+cntL (l.take j):Nat):Int)] 3)):=(Below.refl _ _).alloc (Nat.le_refl _) _;have hrow6:=heap_alloc_new W4 (.cells #[.int .i64 ((L.length+1+cntL (l.take j):Nat):Int)] 3);have hsA:(W4.alloc (.cells #[.int .i64 ((L.length+1+cntL (l.take j):Nat):Int)] 3)).heap.size=W4.heap.size+1:=by simp
     obtain⟨v7,W7,hrun7,ho7,hg7,hq7⟩:=zdi (ys:=[L.length+1+cntL (l.take j)]) (cap:=1) elI 51 (HU4.out.below hbA) (fun e=>by cases e) (zau hrow6) (by rw[zgr,List.length_take,List.length_singleton];omega) (by omega);obtain⟨n7,hn7⟩:∃ n7,(kidI (L.length+1) (l.take j)++[L.length+1+cntL (l.take j)]).length=n7:=⟨_,rfl⟩;obtain⟨s7,c7,rfl⟩:=OwnG.shape ho7;rw[hn7] at hrun7 ho7 hq7;have HU7:Hid (OwnI w.heap.size W7 (.slice s7 n7 c7) (kidI (L.length+1) (l.take (j+1)))):=by
      show OwnG _ _ _ _ _ _ _;rw[HTK.out,zfw];exact ho7
     have HL7:Hid (Lay B gt gl W7 v4 S4 (L++⟨m.k,m.x,m.n,[],m.a,m.f,m.t⟩::layL (L.length+1) (l.take (j+1)))):=(HL4.out.below hbA).beside (HU4.out.below hbA) HT4.out hg7;have hs7:=hg7.size;have hk7:∀ q,q<w.heap.size->W7.heap[q]?=W4.heap[q]?:=fun q hq=>(hg7.block q (by omega) fun e=>by have:=(HU4.out.lt e.symm).1;omega).trans (hbA.block q (by omega));have HO7:Hid (Oth gt (.slice s0 L.length c0) w W7):=⟨(hg7.os.trans hbA.os).trans HO4.out.os,(hg7.tape.trans hbA.tape).trans HO4.out.tape,(hg7.output.trans hbA.output).trans HO4.out.output,by omega,fun q hq hqt hqv=>(hk7 q hq).trans (HO4.out.block q hq hqt hqv)⟩;have HB7:Hid (Below B w W7):=⟨HO7.out.os,HO7.out.tape,HO7.out.output,HO7.out.size,fun q hq=>HO7.out.block q (by omega) (by have:=HL7.out.ne.2.1;omega) fun e=>by have:=HOWN.out q e;omega⟩;have HT7:Hid (∀ q,S4 q->(Value.slice s7 n7 c7).ownBlock≠some q):=fun q hq e=>by
      rcases hq7 with h|h
      ·exact HT4.out q hq (h.symm.trans e)
      ·rw[h] at e;injection e with e;have:=HS5.out q hq;omega
     clear ho7 hg7 hq7 hrow6 hbA hsA hk7 HL4 HU4 HO4 HT4 HS5 hn7
     go_wp2_with (refine zaz (.tmp 30) (.tmp 34) 51 (by rfl) (by rfl) (by rfl) (by rfl) hrun7 ?_)
     exact⟨⟨j+1,v4,S4,by omega,by go_num,HU7.out,HL7.out,HO7.out,HB7.out,HV4.out,HS4.out,HT7.out⟩,by simp[intOf];omega⟩
    ·obtain rfl:j=l.length:=by omega
     have hd:decide ((l.length:Int)<bs.length)=false:=by simp;omega
     rw[List.take_length] at HL HU;obtain⟨g9,su,cu,n9,c9,old,rfl,hn9,rfl,q1,q2,hL9,hO9⟩:=HL.out.kids HU.out (by have:=HL.out.ne.2.1;have:=hw;omega);have HL9:Hid _:=hL9;have HO9:=hid (HO.out.trans HV.out hO9);have cg:wr.cell? ⟨gt,0,none⟩=some (.slice (some ⟨g9,0,none⟩) n9 c9):=(cell_of_row _ _ _ _ _ _ HL.out.rt).trans rfl;have HUL:Hid (∀ q,(Value.slice su (kidI (L.length+1) l).length cu).ownBlock=some q->w.heap.size<=q):=fun q hq=>(HU.out.lt hq).1;clear hL9 hO9 HL HO HU HS2 HLEN;generalize (kidI (L.length+1) l).length=nk at HL9 HO9 HUL q1 q2 ⊢
     go_wp2
     go_ret
     have h:=HL9.out;rw[HMD.out] at h;exact⟨rfl,_,_,h,HO9.out,HV.out,fun q hq=>by
      rcases hq with hq|hq
      ·exact HS1.out q hq
      ·exact .inr (HUL.out q hq)⟩
  ·refine zew rfl rfl ?_;refine zed 23 (.tmp 17) rfl (.agg m.cells) rfl (bldNd m w.drew) ?_;refine⟨hSX,?_⟩;simp only[Act.put];refine zac 1 rfl (by kernel_rfl) ?_;have dX':(w.alloc (.cells m.cells 53)).cell? ⟨gt,0,none⟩=some (.slice s0 L.length c0):=dX;refine zgj (.slice s0 L.length c0) (by go_simp) ?_;clear dX';refine⟨hSX,?_⟩;simp only[Act.put];refine zac 7 rfl (by kernel_rfl) ?_;refine zak (.tmp 13) (.tmp 18) 23 rfl rfl rfl hrun ?_;refine⟨hSW,?_⟩;simp only[Act.put];refine zaj 8 20 (.pointer (some ⟨gt,0,none⟩)) rfl (by rfl) (by kernel_rfl) (by kernel_rfl) (by kernel_rfl) (fun _ _ _ h=>h) (fun w' _=>by first|rfl|go_simp) hSW ?_;simp only[sI,sS,sZ];refine zac 9 rfl (by kernel_rfl) ?_
   go_simp
   refine⟨HFIN.out.bel,?_⟩;refine wpAnyH_done (by kernel_rfl) ?_ _;refine zk4 (fun W=>LayRest B gt gl w (.slice s0 L.length c0) S L m W (.slice s1 (L.length+1) c1)) HFIN.out ?_;clear HFIN hrun d0 dX dW zW hSX hSW hS0 c0';intro W3 hF;have HF3:Hid _:=hF;clear hF;have c7:W3.cell? ⟨b,7,none⟩=some (.slice sp bs.length cp):=(cell_of_row _ _ 7 _ _ _ (HROW.out W3 HF3.out.bel)).trans rfl
   go_wp2
   go_loopw [6,26] (fun u i wr=>∃ (j:Nat) (v':Value) (S':Nat->Prop),j<=l.length∧i=.int .i64 j∧OwnI w.heap.size wr u (kidI (L.length+1) (l.take j))∧Lay B gt gl wr v' S' (L++⟨m.k,m.x,m.n,[],m.a,m.f,m.t⟩::layL (L.length+1) (l.take j))∧Oth gt (.slice s0 L.length c0) w wr∧Below B w wr∧(v'.ownBlock=(Value.slice s0 L.length c0).ownBlock∨∃ q,v'.ownBlock=some q∧w.heap.size<=q)∧(∀ q,S' q->S q∨w.heap.size<=q)∧∀ q,S' q->u.ownBlock≠some q) (fun _ i _=>l.length - (intOf i).toNat)
   case atStart=>exact⟨0,_,S,Nat.zero_le _,rfl,zbv _ _,HF3.out.lay,HF3.out.oth,HF3.out.bel,HF3.out.own,fun _ h=>.inl h,fun _ _ e=>by cases e⟩
   case round=>
    obtain⟨j,v',S',hj,rfl,hu,hL,hO,hB,hv,hS1,hS2⟩:=hrel;have HU:=hid hu;have HL:=hid hL;have HO:=hid hO;have HB:=hid hB;have HV:=hid hv;have HS1:=hid hS1;have HS2:=hid hS2;have hsz:=hO.size;clear hu hL hO hB hv hS1 hS2 HF3 c7;have HLEN:Hid ((L++(⟨m.k,m.x,m.n,[],m.a,m.f,m.t⟩:Nd)::layL (L.length+1) (l.take j)).length=L.length+1+cntL (l.take j)):=by show _=_;rw[List.length_append,List.length_cons,ze1];omega
    by_cases hlt:j<l.length
    ·obtain⟨bj,hbj⟩:∃ bj,bs[j]?=some bj:=⟨_,List.getElem?_eq_getElem (by omega)⟩;obtain⟨tj,htj⟩:∃ tj,l[j]?=some tj:=⟨_,List.getElem?_eq_getElem (by omega)⟩;have hc1:=zha l j tj htj;have HTK:Hid (l.take (j+1)=l.take j++[tj]):=by show _=_;rw[List.take_add_one,htj];rfl
     have HKJ:Hid (PtAt wr SP bj tj):=HKD.out wr HB.out j bj tj hbj htj;obtain⟨pb,po,hsp,hcells⟩:=HRS.out wr HB.out (by omega);have cj:wr.cell? ⟨pb,po+j,none⟩=some (.pointer (some ⟨bj,0,none⟩)):=by
      have h:=hcells j bj hbj 0 _ rfl;rw[Nat.mul_one,Nat.add_zero] at h;exact h
     have cg:wr.cell? ⟨gl,0,none⟩=some (.func (Fn.func 73) #[] #[.pointer (some ⟨gt,0,none⟩),.pointer (some ⟨gl,0,none⟩)]):=(cell_of_row _ _ _ _ _ _ HL.out.rl).trans rfl;have hd:decide ((j:Int)<bs.length)=true:=by simp;omega
     have hjb:j<bs.length:=by omega
     have hcf:=zhc;subst hsp;clear hbj htj hcells
     go_wp2_with fail
     refine(HIH.out tj wr bj v' S' _ (by omega) HKJ.out HL.out (by rw[HLEN.out];omega)).mono ?_;rintro e W4 ⟨rfl,v4,S4,hL4,hO4,hv4,hS4⟩;rw[HLEN.out] at hL4 ⊢;have HL4:Hid (Lay B gt gl W4 v4 S4 (L++⟨m.k,m.x,m.n,[],m.a,m.f,m.t⟩::layL (L.length+1) (l.take (j+1)))):=by
      show Lay _ _ _ _ _ _ _;rw[HTK.out,zfv,<-List.cons_append,<-List.append_assoc];exact hL4
     have hua:=HL.out.apart HU.out;have HU4:Hid (OwnI w.heap.size W4 u6 (kidI (L.length+1) (l.take j))):=HU.out.keep fun q hq=>hO4.block q (HU.out.lt hq).2 (hua q hq).1 (hua q hq).2.2;have HO4:=hid (HO.out.trans HV.out hO4);have HV4:Hid (v4.ownBlock=(Value.slice s0 L.length c0).ownBlock∨∃ q,v4.ownBlock=some q∧w.heap.size<=q):=by
      show _∨_;rcases hv4 with h|⟨q,h,hq⟩
      ·rw[h];exact HV.out
      ·exact .inr ⟨q,h,by omega⟩
     have HS4:Hid (∀ q,S4 q->S q∨w.heap.size<=q):=fun q hq=>(hS4 q hq).elim (HS1.out q) fun h=>.inr (by omega);have HT4:Hid (∀ q,S4 q->u6.ownBlock≠some q):=fun q hq=>(hS4 q hq).elim (HS2.out q) fun h e=>by have:=(HU.out.lt e).2;omega
     have hs4:=hO4.size;have HS5:Hid (∀ q,S4 q->q<W4.heap.size):=fun q hq=>by
      obtain⟨N,-,-,h3⟩:=hL4.ex;exact(h3 q hq).2.1
     clear hL4 hO4 hv4 hS4 hua HL HO HV HS1 HS2 HU HKJ cj cg;obtain⟨s6,c6,rfl⟩:=OwnG.shape HU4.out;have hbA:Below W4.heap.size W4 (W4.alloc (.cells #[.int .i64 ((L.length+1+cntL (l.take j):Nat):Int)] 3)):=(Below.refl _ _).alloc (Nat.le_refl _) _;have hrow6:=heap_alloc_new W4 (.cells #[.int .i64 ((L.length+1+cntL (l.take j):Nat):Int)] 3);have hsA:(W4.alloc (.cells #[.int .i64 ((L.length+1+cntL (l.take j):Nat):Int)] 3)).heap.size=W4.heap.size+1:=by simp
     obtain⟨v7,W7,hrun7,ho7,hg7,hq7⟩:=zdi (ys:=[L.length+1+cntL (l.take j)]) (cap:=1) elI 51 (HU4.out.below hbA) (fun e=>by cases e) (zau hrow6) (by rw[zgr,List.length_take,List.length_singleton];omega) (by omega);obtain⟨n7,hn7⟩:∃ n7,(kidI (L.length+1) (l.take j)++[L.length+1+cntL (l.take j)]).length=n7:=⟨_,rfl⟩;obtain⟨s7,c7,rfl⟩:=OwnG.shape ho7;rw[hn7] at hrun7 ho7 hq7;have HU7:Hid (OwnI w.heap.size W7 (.slice s7 n7 c7) (kidI (L.length+1) (l.take (j+1)))):=by
      show OwnG _ _ _ _ _ _ _;rw[HTK.out,zfw];exact ho7
     have HL7:Hid (Lay B gt gl W7 v4 S4 (L++⟨m.k,m.x,m.n,[],m.a,m.f,m.t⟩::layL (L.length+1) (l.take (j+1)))):=(HL4.out.below hbA).beside (HU4.out.below hbA) HT4.out hg7;have hs7:=hg7.size;have hk7:∀ q,q<w.heap.size->W7.heap[q]?=W4.heap[q]?:=fun q hq=>(hg7.block q (by omega) fun e=>by have:=(HU4.out.lt e.symm).1;omega).trans (hbA.block q (by omega));have HO7:Hid (Oth gt (.slice s0 L.length c0) w W7):=⟨(hg7.os.trans hbA.os).trans HO4.out.os,(hg7.tape.trans hbA.tape).trans HO4.out.tape,(hg7.output.trans hbA.output).trans HO4.out.output,by omega,fun q hq hqt hqv=>(hk7 q hq).trans (HO4.out.block q hq hqt hqv)⟩;have HB7:Hid (Below B w W7):=⟨HO7.out.os,HO7.out.tape,HO7.out.output,HO7.out.size,fun q hq=>HO7.out.block q (by omega) (by have:=HL7.out.ne.2.1;omega) fun e=>by have:=HOWN.out q e;omega⟩;have HT7:Hid (∀ q,S4 q->(Value.slice s7 n7 c7).ownBlock≠some q):=fun q hq e=>by
      rcases hq7 with h|h
      ·exact HT4.out q hq (h.symm.trans e)
      ·rw[h] at e;injection e with e;have:=HS5.out q hq;omega
     clear ho7 hg7 hq7 hrow6 hbA hsA hk7 HL4 HU4 HO4 HT4 HS5 hn7
     go_wp2_with (refine zaz (.tmp 30) (.tmp 34) 51 (by rfl) (by rfl) (by rfl) (by rfl) hrun7 ?_)
     exact⟨⟨j+1,v4,S4,by omega,by go_num,HU7.out,HL7.out,HO7.out,HB7.out,HV4.out,HS4.out,HT7.out⟩,by simp[intOf];omega⟩
    ·obtain rfl:j=l.length:=by omega
     have hd:decide ((l.length:Int)<bs.length)=false:=by simp;omega
     rw[List.take_length] at HL HU;obtain⟨g9,su,cu,n9,c9,old,rfl,hn9,rfl,q1,q2,hL9,hO9⟩:=HL.out.kids HU.out (by have:=HL.out.ne.2.1;have:=hw;omega);have HL9:Hid _:=hL9;have HO9:=hid (HO.out.trans HV.out hO9);have cg:wr.cell? ⟨gt,0,none⟩=some (.slice (some ⟨g9,0,none⟩) n9 c9):=(cell_of_row _ _ _ _ _ _ HL.out.rt).trans rfl;have HUL:Hid (∀ q,(Value.slice su (kidI (L.length+1) l).length cu).ownBlock=some q->w.heap.size<=q):=fun q hq=>(HU.out.lt hq).1;clear hL9 hO9 HL HO HU HS2 HLEN;generalize (kidI (L.length+1) l).length=nk at HL9 HO9 HUL q1 q2 ⊢
     go_wp2
     go_ret
     have h:=HL9.out;rw[HMD.out] at h;exact⟨rfl,_,_,h,HO9.out,HV.out,fun q hq=>by
      rcases hq with hq|hq
      ·exact HS1.out q hq
      ·exact .inr (HUL.out q hq)⟩
def TrAt (B:Nat) (w:World) (v:Value) (L:List Nd):Prop:=∃ (N:List NdM) (S:Nat->Prop),OwnN B w v N∧Rep w S N L∧∀ j,S j->B<=j∧j<w.heap.size
theorem TrAt.below {B:Nat}{w w':World}{v:Value}{L:List Nd}(h:TrAt B w v L)(hb:Below w.heap.size w w'):TrAt B w' v L:=by
 obtain⟨N,S,h1,h2,h3⟩:=h;exact⟨N,S,h1.below hb,h2.keep (fun _ h=>h) fun j hj=>hb.block j (h3 j hj).2,fun j hj=>⟨(h3 j hj).1,Nat.lt_of_lt_of_le (h3 j hj).2 hb.size⟩⟩
theorem TrAt.mono {B C:Nat}{w:World}{v:Value}{L:List Nd}(h:TrAt B w v L)(hC:C<=B):TrAt C w v L:=by
 obtain⟨N,S,h1,h2,h3⟩:=h;exact⟨N,S,h1.mono hC,h2,fun j hj=>⟨Nat.le_trans hC (h3 j hj).1,(h3 j hj).2⟩⟩
theorem TrAt.nil (B:Nat)(w:World):TrAt B w (.slice none 0 0) []:=⟨[],fun _=>False,zbv _ _,⟨rfl,fun i m d h=>by simp at h⟩,fun _ h=>h.elim⟩
theorem TrAt.shape {B:Nat}{w:World}{v:Value}{L:List Nd}(h:TrAt B w v L):∃ s c,v=.slice s L.length c:=by
 obtain⟨N,S,h1,h2,-⟩:=h;obtain⟨s,c,e⟩:=OwnG.shape h1;exact⟨s,c,by rw[e,h2.1]⟩
theorem zjp {w:World}{SP:Nat->Prop}{b:Nat}{t:Pt}(hpt:PtAt w SP b t)(hSP:∀ j,SP j->j<w.heap.size)(hc:cntP t<=400000) :
  Calls Tryz.prog 53 #[.pointer (some ⟨b,0,none⟩)] w fun e w'=>∃ v,e=.returned (.agg #[v])∧TrAt w.heap.size w' v (layP 0 t)∧Below w.heap.size w w':=by
 have HPT:=hid hpt;have HSP:=hid hSP;clear hpt hSP;have hmf:∀ (fn:Fn) (first cap:Array Value) (w:World),(Instr.makeFunc fn first cap).run Tryz.prog w=.ok (.func fn first cap) w:=fun _ _ _ _=>rfl;have hcf:=zhc;have hsf:∀ (a:Addr) (fn:Fn) (first cap:Array Value) (W:World),(store a (.func fn first cap)).run Tryz.prog W=stored Tryz.prog W a (.func fn first cap) .plain:=fun a fn first cap W=>run_store _ W a _ _ rfl
 go_enter Tryz.func53,Tryz.ntmps53
 go_wp2_with fail
 refine zaf (fun W=>Lay w.heap.size (w.heap.size+1) (w.heap.size+1+1) W (.slice none 0 0) (fun _=>False) []∧Below w.heap.size w W∧W.heap[w.heap.size]?=some (.cells #[.slice none 0 0] 25 (0,0))) ?_ ?_
 ·have n0:=heap_alloc_new w (.cells #[.slice none 0 0] 25);have n1:=heap_alloc_new (w.alloc (.cells #[.slice none 0 0] 25)) (.cells #[.slice none 0 0] 25);have n2:=heap_alloc_new ((w.alloc (.cells #[.slice none 0 0] 25)).alloc (.cells #[.slice none 0 0] 25)) (.cells #[.func (Fn.func 73) #[] #[.pointer (some ⟨w.heap.size+1,0,none⟩),.pointer (some ⟨w.heap.size+1+1,0,none⟩)]] 110);simp only[World.size_alloc] at n1 n2;exact⟨⟨(Below.heap_alloc _ _ _ (by simp)).trans n1,n2,⟨by omega,by omega,by omega⟩,[],zbv _ _,⟨rfl,fun i m d h=>by simp at h⟩,fun _ h=>h.elim⟩,(((Below.refl _ _).alloc (Nat.le_refl _) _).alloc (by simp) _).alloc (by simp;try omega) _,(Below.heap_alloc _ _ _ (by simp;try omega)).trans ((Below.heap_alloc _ _ _ (by simp)).trans n0)⟩
 rintro W ⟨hL,hB,hz⟩;have hsz:w.heap.size+1+1<W.heap.size:=zaa hL.rl;refine(zqt w.heap.size (w.heap.size+1) (w.heap.size+1+1) SP HSP.out (cntP t) t W b (.slice none 0 0) (fun _=>False) [] (Nat.le_refl _) (HPT.out.keep (fun _ h=>h) fun j hj=>hB.block j (HSP.out j hj)) hL (by simp;omega)).mono ?_;rintro e W4 ⟨rfl,v',S',hL4,hO4,hv4,hS4⟩;have hz4:W4.heap[w.heap.size]?=some (.cells #[.slice none 0 0] 25 (0,0)):=(hO4.block _ (by omega) (by omega) (fun e=>by cases e)).trans hz;obtain⟨s4,c4,rfl⟩:=hL4.shape;have hs4:=hO4.size;have HTR:Hid (TrAt w.heap.size (W4.setCell ⟨w.heap.size,0,none⟩ (.slice s4 ([]++layP 0 t).length c4)) (.slice s4 ([]++layP 0 t).length c4) (layP 0 t)):=by
  obtain⟨N,h1,h2,h3⟩:=hL4.ex;refine⟨N,S',h1.keep fun q hq=>heap_setCell_other _ _ _ _ fun e=>?_,h2.keep (fun _ h=>h) fun j hj=>heap_setCell_other _ _ _ _ fun e=>?_,fun j hj=>⟨(h3 j hj).1,by simp;exact(h3 j hj).2.1⟩⟩
  ·exact h1.ne hz4 (by decide) (by rw[hq,show q=w.heap.size from e])
  ·have h5:j=w.heap.size:=e;rcases hS4 j hj with h|h
   ·exact h
   ·omega
 have HB4:Hid (Below w.heap.size w (W4.setCell ⟨w.heap.size,0,none⟩ (.slice s4 ([]++layP 0 t).length c4))):=by
  have hb:Below w.heap.size w W4:=⟨hO4.os.trans hB.os,hO4.tape.trans hB.tape,hO4.output.trans hB.output,by have:=hB.size;omega,fun j hj=>(hO4.block j (by omega) (by omega) (fun e=>by cases e)).trans (hB.block j hj)⟩;exact hb.setCell (p:=⟨w.heap.size,0,none⟩) (Nat.le_refl _) _
 have HROW:Hid ((W4.setCell ⟨w.heap.size,0,none⟩ (.slice s4 ([]++layP 0 t).length c4)).heap[w.heap.size]?=some (.cells #[.slice s4 ([]++layP 0 t).length c4] 25 (0,0))):=heap_setCell_same _ _ 0 _ _ _ hz4;have ct:W4.cell? ⟨w.heap.size+1,0,none⟩=some (.slice s4 ([]++layP 0 t).length c4):=(cell_of_row _ _ _ _ _ _ hL4.rt).trans rfl;have cz:W4.cell? ⟨w.heap.size,0,none⟩=some (.slice none 0 0):=(cell_of_row _ _ _ _ _ _ hz4).trans rfl;have fz:W4.frozen? ⟨w.heap.size,0,none⟩=false:=frozen_of_row _ _ _ _ _ hz4;clear hL hB hz hL4 hO4 hv4 hS4 hz4 HPT HSP;generalize ([]++layP 0 t).length=nn at HTR HB4 HROW ct ⊢
 go_wp2
 exact bodyPost_ret (v:=.agg #[.slice s4 nn c4]) (zdv Tryz.results53 _ _ w.heap.size 25 #[.slice s4 nn c4] (0,0) _ rfl HROW.out Tryz.underlying25 rfl (by kernel_rfl)) rfl ⟨_,rfl,HTR.out,HB4.out⟩
end Go.Proofs.YtmclgbkijeidaaaGreatDoor
