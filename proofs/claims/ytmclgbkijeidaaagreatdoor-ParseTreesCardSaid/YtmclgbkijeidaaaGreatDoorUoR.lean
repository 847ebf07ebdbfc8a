import Derived.Test.YtmclgbkijeidaaaGreatDoorUoPfA
import Derived.Test.YtmclgbkijeidaaaGreatDoorUoQ
import Derived.Test.YtmclgbkijeidaaaGreatDoorUoE
import Derived.Lib.ItoaLen
import Derived.Test.YtmclgbkijeidaaaGreatDoorUoF
namespace Go.Proofs.YtmclgbkijeidaaaGreatDoor
open Go.RowKit
section
variable {α:Type}{t e:TypeId}{m:Nat}{f:α->Array Value}
theorem zme (E:El t e m f):∀ (xs:List α)(i j:Nat)(x x':α)(v:Value),xs[i]?=some x->j<m->(f x').toList=(f x).toList.set j v->(flatG f xs).set (i * m+j) v=flatG f (xs.set i x')
 | [],i,j,x,x',v,h,_,_=>by simp at h
 | a::r,0,j,x,x',v,h,hj,hx=>by
  obtain rfl:a=x:=by simpa using h
  show(flatG f (a::r)).set (0 * m+j) v=flatG f (x'::r);unfold flatG;rw[List.flatMap_cons,List.flatMap_cons,Nat.zero_mul,Nat.zero_add,List.set_append_left _ _ (by rw[Array.length_toList,E.hf];exact hj),hx]
 | a::r,i+1,j,x,x',v,h,hj,hx=>by
  have ih:=zme E r i j x x' v (by simpa using h) hj hx;unfold flatG at ih ⊢;rw[List.flatMap_cons,List.set_cons_succ,List.flatMap_cons,<-ih];have y:(f a).toList.length=m:=by rw[Array.length_toList,E.hf]
  rw[List.set_append_right _ _ (by rw[y,Nat.add_mul];omega),y]
  congr 2
  rw[Nat.add_mul];omega
theorem OwnG.put (E:El t e m f){B:Nat}{w:World}{sp:Option Addr}{n cap:Nat}{xs:List α}(h:OwnG e m f B w (.slice sp n cap) xs){i j:Nat}{x x':α}{v:Value}(hi:xs[i]?=some x)(hj:j<m)(hx:(f x').toList=(f x).toList.set j v) :
  ∃ g,sp=some ⟨g,0,none⟩∧B<=g∧g<w.heap.size∧w.cell? ⟨g,i * m+j,none⟩=(f x)[j]?∧w.frozen? ⟨g,i * m+j,none⟩=false∧OwnG e m f B (w.setCell ⟨g,i * m+j,none⟩ v) (.slice sp n cap) (xs.set i x'):=by
 have A:=(List.getElem?_eq_some_iff.1 hi).1;have y:i * m+j<xs.length * m:=by
  have:(i+1) * m<=xs.length * m:=Nat.mul_le_mul_right m A;rw[Nat.add_mul] at this;omega
 rcases h.2 with⟨e,C⟩ | ⟨g,cap',cur,e,h1,h2,h3,h4,h5,h6⟩
 ·omega
 ·injection e with e1 e2 e3;subst e1 e2 e3;refine⟨g,rfl,h1,zaa h2,?_,Yj _ _ _ _ _ h2,?_,.inr ⟨g,cap,cur.setIfInBounds (i * m+j) v,by rw[List.length_set],h1,Yf _ _ _ _ _ _ h2,by rw[List.length_set];exact h3,h4,by rw[Array.size_setIfInBounds];exact h5,?_⟩⟩
  ·rw[Yc _ _ _ _ _ _ h2,<-Array.getElem?_toList];have:(cur.toList.take (xs.length * m))[i * m+j]?=(flatG f xs)[i * m+j]?:=by rw[h6]
   rw[List.getElem?_take,if_pos y,zgx E xs i j x hi hj] at this;rw[this]
  ·rw[List.length_set,zev E,List.length_set]
  ·rw[List.length_set,Array.toList_setIfInBounds,List.take_set,h6];exact zme E xs i j x x' v hi hj hx
end
theorem OwnN.row {B:Nat}{w:World}{sp:Option Addr}{n cap:Nat}{xs:List NdM}(h:OwnN B w (.slice sp n cap) xs)(hl:0<xs.length):∃ g cur,sp=some ⟨g,0,none⟩∧n=xs.length∧B<=g∧w.heap[g]?=some (.cells cur 53 (0,0)):=by
 rcases h.2 with⟨e,y⟩ | ⟨g,cap',cur,e,h1,h2,h3,h4,h5,h6⟩
 ·omega
 ·injection e with e1 e2 e3;exact⟨g,cur,e1,e2,h1,h2⟩
theorem OwnN.put7 {B:Nat}{w:World}{g n cap:Nat}{xs:List NdM}(h:OwnN B w (.slice (some ⟨g,0,none⟩) n cap) xs){i:Nat}{x:NdM}(hi:xs[i]?=some x)(y:NdM) :
  OwnN B (((((((w.setCell ⟨g,i * 7,none⟩ (.int .i64 y.k)).setCell ⟨g,i * 7+1,none⟩ (.string y.x)).setCell ⟨g,i * 7+2,none⟩ (.int .i64 y.n)).setCell ⟨g,i * 7+3,none⟩ (.slice y.ks y.kn y.kc)).setCell ⟨g,i * 7+4,none⟩ (.int .i64 y.a)).setCell ⟨g,i * 7+5,none⟩ (.int .i64 y.f)).setCell ⟨g,i * 7+6,none⟩ (.int .i64 y.t)) (.slice (some ⟨g,0,none⟩) n cap) (xs.set i y):=by
 have Z:=(List.getElem?_eq_some_iff.1 hi).1;have step:∀ {w:World}{ys:List NdM}{j:Nat}{a b:NdM}{v:Value},OwnN B w (.slice (some ⟨g,0,none⟩) n cap) (xs.set i a)->j<7->b.cells.toList=a.cells.toList.set j v->OwnN B (w.setCell ⟨g,i * 7+j,none⟩ v) (.slice (some ⟨g,0,none⟩) n cap) (xs.set i b):=fun {w ys j a b v} h hj hx=>by
  obtain⟨g',e,-,-,-,-,U⟩:=h.put elN (i:=i) (j:=j) (x:=a) (x':=b) (v:=v) (by rw[List.getElem?_set_self Z]) hj hx;injection e with e;injection e with e;subst e;rw[List.set_set] at U;exact U
 have h0:OwnN B w (.slice (some ⟨g,0,none⟩) n cap) (xs.set i x):=by
  rw[show xs.set i x=xs from List.ext_getElem? fun k=>by
   by_cases hk:k=i
   ·subst hk;rw[List.getElem?_set_self Z,hi]
   ·rw[List.getElem?_set_ne (fun e=>hk e.symm)]]
  exact h
 obtain⟨k0,x0,n0,X,Y,c0,N,I,E⟩:=x;obtain⟨A,C,D,F,K,c1,M,V,t1⟩:=y;have h1:=step (ys:=xs) (j:=0) (b:=⟨A,x0,n0,X,Y,c0,N,I,E⟩) (v:=.int .i64 A) h0 (by omega) rfl;have U:=step (ys:=xs) (j:=1) (b:=⟨A,C,n0,X,Y,c0,N,I,E⟩) (v:=.string C) h1 (by omega) rfl;have h3:=step (ys:=xs) (j:=2) (b:=⟨A,C,D,X,Y,c0,N,I,E⟩) (v:=.int .i64 D) U (by omega) rfl;have h4:=step (ys:=xs) (j:=3) (b:=⟨A,C,D,F,K,c1,N,I,E⟩) (v:=.slice F K c1) h3 (by omega) rfl;have h5:=step (ys:=xs) (j:=4) (b:=⟨A,C,D,F,K,c1,M,I,E⟩) (v:=.int .i64 M) h4 (by omega) rfl;have h6:=step (ys:=xs) (j:=5) (b:=⟨A,C,D,F,K,c1,M,V,E⟩) (v:=.int .i64 V) h5 (by omega) rfl;exact step (ys:=xs) (j:=6) (b:=⟨A,C,D,F,K,c1,M,V,t1⟩) (v:=.int .i64 t1) h6 (by omega) rfl
def NodZ (w:World) (m:NdM) (d:NdZ):Prop:=(m.k=d.kind∧m.x=d.text∧m.n=d.num∧m.a=d.pos∧m.f=d.frm∧m.t=d.to)∧m.kn=d.kids.length∧RowsAt w 1 intZ m.ks d.kids∧((m.ks=none->m.kn=0∧m.kc=0)∧m.kn<=m.kc∧m.kc<=maxLen)∧m.kn<=100000
theorem RepZ.at {w:World}{N:List NdM}{Z:List NdZ}(h:RepZ w N Z){i:Nat}{m:NdM}{d:NdZ}(h1:N[i]?=some m)(h2:Z[i]?=some d):NodZ w m d:=h.2 i m d h1 h2
theorem RepZ.set {w:World}{N:List NdM}{Z:List NdZ}(h:RepZ w N Z){i:Nat}{m:NdM}{d:NdZ}(hi:i<N.length)(hd:NodZ w m d):RepZ w (N.set i m) (Z.set i d) :=
 ⟨by rw[List.length_set,List.length_set];exact h.1,fun k m' d' y A=>by
  by_cases hk:k=i
  ·subst hk;rw[List.getElem?_set_self hi] at y;rw[List.getElem?_set_self (by rw[<-h.1];exact hi)] at A;injection y with y;injection A with A;subst y A;exact hd
  ·rw[List.getElem?_set_ne (fun e=>hk e.symm)] at y A;exact h.2 k m' d' y A⟩
theorem zqm {w:World}{sp:Option Addr}{cap:Nat}{N:List NdM}(hr:RowsAt w 7 NdM.cells sp N)(hn:sp=none->N.length=0∧cap=0)(hl:N.length<=1000000) :
  ∃ s2 c2 w2,(Builtin.append_ #[23,23] 23 #[.slice (some ⟨w.heap.size,0,none⟩) 0 0,.slice sp N.length cap]).run Tryz.prog (w.alloc (.cells #[] 53))=.ok (.slice s2 N.length c2) w2∧OwnN w.heap.size w2 (.slice s2 N.length c2) N∧Below w.heap.size w w2:=by
 have y:Below w.heap.size w (w.alloc (.cells #[] 53)):=(Yb _ _).alloc (Ya _) _;have I:OwnN w.heap.size (w.alloc (.cells #[] 53)) (.slice (some ⟨w.heap.size,0,none⟩) 0 0) [] :=
  ⟨by simp[flatG],.inr ⟨w.heap.size,0,#[],rfl,Ya _,Yd _ _,Ya _,Yk _,rfl,by simp[flatG]⟩⟩
 obtain⟨K,w2,F,C,A,M⟩:=zdn (E:=elN) 23 I hn (RowsAt.below hr y) (by simpa using hl) y.size;rw[List.nil_append] at C;obtain⟨s2,c2,rfl,-⟩:=OwnG.rows elN C;exact⟨s2,c2,w2,F,C,⟨A.os.trans y.os,A.tape.trans y.tape,A.output.trans y.output,Yo y.size A.size,fun k D=>(A.block k (Yg D y.size) (fun e=>by injection e with e;have U:k=w.heap.size:=e;omega)).trans (y.block k D)⟩⟩
set_option maxRecDepth 100000
set_option maxHeartbeats 4000000
theorem zqn (t:Tok)(w:World) :
  Calls Tryz.prog 58 #[.agg t.cells] w fun e w'=>e=.returned (.bool (chkO [t,enT] != 0))∧Below w.heap.size w w':=by
 unfold Tok.cells
 go_enter Tryz.func58,Tryz.ntmps58
 go_wp2_with fail
 have D:=Yd (w.alloc (.cells #[.int .i64 t.kind,.string t.text,.int .i64 t.pos] 38)) (.cells #[.int .i64 t.kind,.string t.text,.int .i64 t.pos,.int .i64 5,.string ⟨#[59]⟩,.int .i64 0] 38);simp only[World.size_alloc] at D;have F:Below w.heap.size w ((w.alloc (.cells #[.int .i64 t.kind,.string t.text,.int .i64 t.pos] 38)).alloc (.cells #[.int .i64 t.kind,.string t.text,.int .i64 t.pos,.int .i64 5,.string ⟨#[59]⟩,.int .i64 0] 38)):=((Yb _ _).alloc (Ya _) _).alloc (by simp) _;have M:RowsT ((w.alloc (.cells #[.int .i64 t.kind,.string t.text,.int .i64 t.pos] 38)).alloc (.cells #[.int .i64 t.kind,.string t.text,.int .i64 t.pos,.int .i64 5,.string ⟨#[59]⟩,.int .i64 0] 38)) (some ⟨w.heap.size+1,0,none⟩) [t,enT]:=fun _=>by
  refine⟨_,0,rfl,fun i y C j u A=>?_⟩;rw[Yc _ _ _ _ _ _ D];have V:i<2:=(List.getElem?_eq_some_iff.1 C).1;have I:j<3:=by have:=(Array.getElem?_eq_some_iff.1 A).1;rwa [Tok.size] at this
  match i,V with
  | 0,_=>
   obtain rfl:t=y:=by simpa using C
   match j,I with
   | 0,_=>exact A
   | 1,_=>exact A
   | 2,_=>exact A
  | 1,_=>
   obtain rfl:enT=y:=by simpa using C
   match j,I with
   | 0,_=>exact A
   | 1,_=>exact A
   | 2,_=>exact A
 refine(zik _ 2 [t,enT] _ M (by simp)).mono ?_;rintro e W ⟨rfl,K⟩;have U:Hid (Below w.heap.size w W):=F.trans (K.mono F.size);obtain⟨c,E⟩:∃ c,c=chkO [t,enT]:=⟨_,rfl⟩;rw[<-E];have N:=J E;clear D F M K E
 go_wp2
 go_ret
 exact⟨zay (by rw[N.out]),U.out⟩
theorem zmf (args:Array Value) (W:World):(callFunc 58 args).run Tryz.prog W=.ok (.enter 58 args) W:=by rfl
def wrA (t:Tok):Bool:=chkO [t,enT] != 0
theorem zqo (sp:Option Addr)(cap:Nat)(ts:List Tok)(w:World)(hr:RowsT w sp ts)(hm:ts.length<=1000000) :
  Calls Tryz.prog 86 #[.slice sp ts.length cap,.func (.func 58) #[] #[]] w fun e w'=>(∃ q:Int,e=.returned (.int .i64 q)∧(decide (0<=q)=ts.any wrA))∧Below w.heap.size w w':=by
 have Y:=J hr;have ab:=zmf;clear hr
 go_enter Tryz.func86,Tryz.ntmps86
 go_wp2_with fail
 go_loopw [8] (fun i wr=>∃ q:Nat,q<=ts.length∧i=.int .i64 q∧Below w.heap.size w wr∧(ts.take q).any wrA=false) (fun i _=>ts.length - (intOf i).toNat)
 case atStart=>exact⟨0,Yk _,rfl,Yb _ _,rfl⟩
 case round=>
  obtain⟨q,hq,rfl,A,M⟩:=hrel;have C:=J A;have N:=J M;clear A M
  by_cases hlt:q<ts.length
  ·have hd:decide ((q:Int)<ts.length)=true:=by simp;omega
   obtain⟨t,y⟩:∃ t,ts[q]?=some t:=⟨_,Yh hlt⟩;obtain⟨b,o,I,D⟩:=Y.out.below C (by omega);have c0:=D q t y 0 _ rfl;have c1:=D q t y 1 _ rfl;have c2:=D q t y 2 _ rfl;rw[Nat.add_zero] at c0;have Z:Hid (ts.take (q+1)=ts.take q++[t]):=by show _=_;rw[List.take_add_one,y];rfl
   have aa:Hid (t ∈ ts):=Ym y;have F:=zqn t wr;unfold Tok.cells at F;have V:Hid _:=I;clear y D I;rw[V.out]
   go_wp2_with fail
   refine F.mono ?_;rintro e W ⟨rfl,A⟩;have K:=J (C.out.trans (A.mono C.out.size));clear A F c0 c1 c2;have U:(chkO [t,enT] != 0)=wrA t:=rfl;rw[U];clear U
   cases hw:wrA t
   ·have X:Hid ((ts.take (q+1)).any wrA=false):=by show _=_;rw[Z.out,List.any_append,N.out];simp[hw]
    clear hw
    go_wp2
    exact⟨⟨q+1,by omega,by go_num,K.out,X.out⟩,by simp[intOf];omega⟩
   ·have E:Hid (ts.any wrA=true):=List.any_eq_true.2 ⟨t,aa.out,hw⟩;clear hw
    go_wp2
    go_ret
    exact⟨⟨q,rfl,by rw[E.out];simp⟩,K.out⟩
  ·have hd:decide ((q:Int)<ts.length)=false:=by simp;omega
   have E:Hid (ts.any wrA=false):=by have:=N.out;rw[List.take_of_length_le (by omega)] at this;exact this
   go_wp2
   go_ret
   exact⟨⟨-1,rfl,by rw[E.out];rfl⟩,C.out⟩
theorem zhf (sp:Option Addr)(cap:Nat)(ts:List Tok)(w:World)(hr:RowsT w sp ts)(hm:ts.length<=1000000) :
  Calls Tryz.prog 57 #[.slice sp ts.length cap,.func (.func 58) #[] #[]] w fun e w'=>e=.returned (.bool (ts.any wrA))∧Below w.heap.size w w':=by
 have y:=zqo sp cap ts w hr hm;clear hr
 go_enter Tryz.func57,Tryz.ntmps57
 go_wp2_with fail
 refine y.mono ?_;rintro e W ⟨⟨q,rfl,A⟩,hb⟩;have D:=J hb;have C:=J A;clear hb A y
 go_wp2
 go_ret
 exact⟨zay (by rw[<-C.out]),D.out⟩
structure TrW (t:Pt):Prop where
 n:cntP t<=2048
 d:dpF (fun _=>0) 0 0 (layP 0 t)<=24
 g:GdP t
 a:(wrP t).any wrA=false
 s:∀ u ∈ wrP t,-1000000000000000000<=u.pos∧u.pos<=1000000000000000000∧u.text.size<=100000
 f:∃ t' p,filO (wrP t)=.ok t' p∧eqAll ndEq (layP 0 t') (layP 0 t)=true
theorem EnW.low {w W:World}{nv:Value}{L:List Nd}(h:EnW w nv L)(hb:Below w.heap.size w W):EnW W nv L:=by
 obtain⟨s,c,N,S,D,E,y⟩:=h.x;refine⟨⟨s,c,N,S,D,E.below hb,y.1,fun i m d A C=>?_⟩,zcm hb.block h.t,h.l⟩;obtain⟨a,b,c,e,f⟩:=y.2 i m d A C;exact⟨a,b,c.below hb,e,f⟩
theorem zgs {w:World}{sn:Option Addr}{cn:Nat}{t:Pt}(hP:TabP w)(hE:EnW w (.slice sn (layP 0 t).length cn) (layP 0 t))(hT:TrW t) :
  Calls Tryz.prog 32 #[.agg #[.slice sn (layP 0 t).length cn]] w fun e w'=>∃ v',e=.returned (.tuple #[v',.int .i64 0])∧OwnT w.heap.size w' v' (wrP t)∧Below w.heap.size w w':=by
 have aB:Hid (∀ W,Below w.heap.size w W->Calls Tryz.prog 55 #[.agg #[.slice sn (layP 0 t).length cn]] W fun e w'=>e=.returned (.bool true)∧Below W.heap.size W w'):=fun W y=>zis t (hE.low y);have aa:=ze3 t 0;have ag:=zco t 0;have aG:Hid (∀ d ∈ layP 0 t,d.kids.length<=1000000):=fun d hd=>by have:=(aa d hd).2;have:=hT.n;omega
 have az:Hid (∀ W,Below w.heap.size w W->Calls Tryz.prog 30 #[.agg #[.slice sn (layP 0 t).length cn]] W fun e w'=>e=.returned (.int .i64 (dpF (fun _=>0) 0 0 (layP 0 t)))∧Below W.heap.size W w'):=fun W y=>by
  obtain⟨s,c,N,S,I,V,h3⟩:=(hE.low y).x;injection I with e1 _ e2;subst e1 e2;exact zfo W sn cn N S (layP 0 t) V h3 (by have:=hT.n;omega) fun d hd=>⟨fun k hk=>by have:=(aa d hd).1 k hk;omega,by have:=(aa d hd).2;have:=hT.n;omega⟩
 have aA:Hid (∀ W,Below w.heap.size w W->Calls Tryz.prog 56 #[.agg #[.slice sn (layP 0 t).length cn]] W fun e w'=>∃ v',e=.returned v'∧OwnT W.heap.size w' v' (wrP t)∧Below W.heap.size W w'):=fun W y=>zmb t (hP.low y) (hE.low y) hT.g (by have:=hT.n;omega);have aH:Hid (∀ W,Below w.heap.size w W->Tabl W):=fun W y=>(hE.low y).t;have HE:Hid (∀ W,Below w.heap.size w W->∃ N S,RowsAt W 7 NdM.cells sn N∧Rep W S N (layP 0 t)):=fun W y=>by
  obtain⟨s,c,N,S,I,V,h3⟩:=(hE.low y).x;injection I with e1 _ e2;subst e1 e2;exact⟨N,S,V,h3⟩
 have HT:=J hT;have hn:=hT.n;have an:=zjr t;have aL:=hT.d;rw[<-ag] at hn;clear hP hE hT aa;generalize ai:(layP 0 t).length=nl at *;generalize aK:dpF (fun _=>0) 0 0 (layP 0 t)=dp at *;have aM:decide (2048<nl)=false:=by simp;omega
 have aN:decide (24<dp)=false:=by simp;omega
 have aw:Hid _:=ai;have aI:Hid _:=an;have aD:Hid _:=ag;clear ai aK an ag aL
 go_enter Tryz.func32,Tryz.ntmps32
 go_wp2_with fail
 have r0:=Yd w (.cells #[.slice sn nl cn] 25);have b0:Below w.heap.size w (w.alloc (.cells #[.slice sn nl cn] 25)):=(Yb _ _).alloc (Ya _) _;refine(aB _ b0).mono ?_;rintro e W1 ⟨rfl,b1⟩;have Z:Hid (Below w.heap.size w W1):=b0.trans (b1.mono b0.size);have R1:Hid (W1.heap[w.heap.size]?=some (.cells #[.slice sn nl cn] 25 (0,0))):=(b1.block _ (zaa r0)).trans r0;have c1:W1.cell? ⟨w.heap.size,0,none⟩=some (.slice sn nl cn):=Yp 0 R1.out rfl;clear r0 b0 b1
 go_wp2_with fail
 refine(az _ Z.out).mono ?_;rintro e W2 ⟨rfl,b2⟩;have U:Hid (Below w.heap.size w W2):=Z.out.trans (b2.mono Z.out.size);have R2:Hid (W2.heap[w.heap.size]?=some (.cells #[.slice sn nl cn] 25 (0,0))):=(b2.block _ (zaa R1.out)).trans R1.out;have c2:W2.cell? ⟨w.heap.size,0,none⟩=some (.slice sn nl cn):=Yp 0 R2.out rfl;clear b2 c1 Z R1
 go_wp2_with fail
 refine(aA _ U.out).mono ?_;rintro e Y ⟨v3,rfl,o3,b3⟩;have B3:Hid (Below w.heap.size w Y):=U.out.trans (b3.mono U.out.size);have R3:Hid (Y.heap[w.heap.size]?=some (.cells #[.slice sn nl cn] 25 (0,0))):=(b3.block _ (zaa R2.out)).trans R2.out;have O3:Hid (OwnT w.heap.size Y v3 (wrP t)):=o3.mono U.out.size;obtain⟨sp,D,rfl,ax,-,-,-⟩:=OwnG.rows elT O3.out;have ah:=J ax;have av:Hid ((wrP t).length<=100000):=by have:=aI.out;have:=aD.out;show _<=_;omega
 clear b3 c2 U R2 o3 ax
 go_wp2_with fail
 refine(zhf sp D (wrP t) Y ah (by have:=av.out;omega)).mono ?_;rintro e E ⟨rfl,K⟩;rw[HT.out.a];have B4:Hid (Below w.heap.size w E):=B3.out.trans (K.mono B3.out.size);have R4:Hid (E.heap[w.heap.size]?=some (.cells #[.slice sn nl cn] 25 (0,0))):=(K.block _ (zaa R3.out)).trans R3.out;have O4:Hid (OwnT w.heap.size E (.slice sp (wrP t).length D) (wrP t)):=O3.out.below K;have ao:=J (ah.out.below K);clear K B3 R3 O3 ah
 go_wp2_with fail
 refine(zky E sp D (wrP t) av.out HT.out.s (fun W h=>⟨zbn h ao.out,zcm h (aH E B4.out)⟩)).mono ?_;rintro e A ⟨b5,ap⟩;obtain⟨t',p,hf,aj⟩:=HT.out.f;rw[hf] at ap;obtain⟨ar,v5,rfl,al⟩:=ap;have B5:Hid (Below w.heap.size w A):=B4.out.trans (b5.mono B4.out.size);have R5:Hid (A.heap[w.heap.size]?=some (.cells #[.slice sn nl cn] 25 (0,0))):=(b5.block _ (zaa R4.out)).trans R4.out;have O5:Hid (OwnT w.heap.size A (.slice sp (wrP t).length D) (wrP t)):=O4.out.below b5;have am:=J al;have aJ:=J aj;have ak:=J ar;clear b5 B4 R4 O4 ao hf aj al ar;have c5:A.cell? ⟨w.heap.size,0,none⟩=some (.slice sn nl cn):=Yp 0 R5.out rfl;obtain⟨C,F,aE⟩:∃ C F,v5=.slice C (layP 0 t').length F:=by
  obtain⟨N,S,I,V,-⟩:=am.out;obtain⟨s,c,e⟩:=OwnG.shape I;exact⟨s,c,by rw[e,V.1]⟩
 subst aE;have ab:Below A.heap.size A ((A.alloc (.cells #[.slice C (layP 0 t').length F] 25)).alloc (.cells #[.int .i64 0,.int .i64 0] 28)):=((Yb _ _).alloc (Ya _) _).alloc (by simp) _;have cA:((A.alloc (.cells #[.slice C (layP 0 t').length F] 25)).alloc (.cells #[.int .i64 0,.int .i64 0] 28)).cell? ⟨w.heap.size,0,none⟩=some (.slice sn nl cn):=(Yc _ _ 0 _ _ _ ((ab.block _ (zaa R5.out)).trans R5.out)).trans rfl;have X:Hid _:=ab;clear ab
 go_wp2_with fail
 have af:=B5.out.trans (X.out.mono B5.out.size);obtain⟨M,T,hM,aq⟩:=HE.out _ af;obtain⟨N,S,hO,ay,aC⟩:=am.out.below X;obtain⟨s6,k6,aF,au,-,-,-⟩:=OwnG.rows elN hO;injection aF with e1 _ e2;subst e1 e2;have ac:=zl4 C sn F cn N M S T (layP 0 t') (layP 0 t) _ au ay hM aq (by rw[zco];have:=ak.out;omega) (by rw[aw.out];omega) (fun d hd=>by have:=(ze3 t' 0 d hd).2;have:=ak.out;omega) aG.out;rw[aw.out] at ac;have O6:Hid _:=O5.out.below X;have ae:Hid _:=af;clear af hM aq hO ay aC au cA c5;refine ac.mono ?_;rintro e W6 ⟨rfl,b6⟩;rw[aJ.out];have B6:=J (ae.out.trans (b6.mono ae.out.size));have O7:Hid (OwnT w.heap.size W6 (.slice sp (wrP t).length D) (wrP t)):=OwnG.below O6.out b6;clear b6 O6 ae ac X
 go_wp2
 go_ret2
 exact⟨_,rfl,O7.out,B6.out⟩
theorem zqp {w:World}{sn:Option Addr}{cn:Nat}{t:Pt}(hP:TabP w)(hE:EnW w (.slice sn (layP 0 t).length cn) (layP 0 t))(hT:TrW t)(hl:(wrP t).length<=1024) :
  Calls Tryz.prog 16 #[.agg #[.slice sn (layP 0 t).length cn]] w fun e w'=>∃ v',e=.returned (.tuple #[v',.int .i64 0])∧OwnT w.heap.size w' v' (wrP t)∧Below w.heap.size w w':=by
 have K:Hid (∀ W,Below w.heap.size w W->Calls Tryz.prog 32 #[.agg #[.slice sn (layP 0 t).length cn]] W fun e w'=>∃ v',e=.returned (.tuple #[v',.int .i64 0])∧OwnT W.heap.size w' v' (wrP t)∧Below W.heap.size W w'):=fun W A=>zgs (hP.low A) (hE.low A) hT;clear hP hE hT;generalize (layP 0 t).length=nl at *;have hd:decide (1024<(wrP t).length)=false:=by simp;omega
 have E:Hid (∀ (B:Nat) (W:World) (v:Value),OwnT B W v (wrP t)->∃ sp cap,v=.slice sp (wrP t).length cap):=fun B W v h=>OwnG.shape h;generalize D:(wrP t).length=wl at *;clear D
 go_enter Tryz.func16,Tryz.ntmps16
 go_wp2_with fail
 have y:Below w.heap.size w (w.alloc (.cells #[.slice sn nl cn] 25)):=(Yb _ _).alloc (Ya _) _;refine(K _ y).mono ?_;rintro e W ⟨v',rfl,C,A⟩;obtain⟨sp,cap,F⟩:=E.out _ _ _ C;subst F;have M:Hid (Below w.heap.size w W):=y.trans (A.mono y.size);have I:Hid (OwnT w.heap.size W (.slice sp wl cap) (wrP t)):=OwnG.mono C y.size;clear C A y
 go_wp2
 go_ret2
 exact⟨_,rfl,I.out,M.out⟩
theorem zjt {w:World}{sn:Option Addr}{cn:Nat}{t:Pt}(hP:TabP w)(hE:EnW w (.slice sn (layP 0 t).length cn) (layP 0 t))(hT:TrW t) :
  Calls Tryz.prog 17 #[.agg #[.slice sn (layP 0 t).length cn]] w fun e w'=>e=.returned (.int .i64 0)∧Below w.heap.size w w':=by
 have D:Hid (∀ W,Below w.heap.size w W->Calls Tryz.prog 32 #[.agg #[.slice sn (layP 0 t).length cn]] W fun e w'=>∃ C,e=.returned (.tuple #[C,.int .i64 0])∧OwnT W.heap.size w' C (wrP t)∧Below W.heap.size W w'):=fun W y=>zgs (hP.low y) (hE.low y) hT;clear hP hE hT;generalize (layP 0 t).length=nl at *
 go_enter Tryz.func17,Tryz.ntmps17
 go_wp2_with fail
 have A:Below w.heap.size w (w.alloc (.cells #[.slice sn nl cn] 25)):=(Yb _ _).alloc (Ya _) _;refine(D _ A).mono ?_;rintro e W ⟨C,rfl,-,y⟩;have E:Hid (Below w.heap.size w W):=A.trans (y.mono A.size);clear y A
 go_wp2
 go_ret
 exact⟨rfl,E.out⟩
theorem znm {w:World}{sn:Option Addr}{cn:Nat}{t:Pt}(hP:TabP w)(hE:EnW w (.slice sn (layP 0 t).length cn) (layP 0 t))(hT:TrW t)(hl:1024<(wrP t).length) :
  Calls Tryz.prog 16 #[.agg #[.slice sn (layP 0 t).length cn]] w fun e w'=>e=.returned (.tuple #[.slice none 0 0,.int .i64 3])∧Below w.heap.size w w':=by
 have K:Hid (∀ W,Below w.heap.size w W->Calls Tryz.prog 32 #[.agg #[.slice sn (layP 0 t).length cn]] W fun e w'=>∃ C,e=.returned (.tuple #[C,.int .i64 0])∧OwnT W.heap.size w' C (wrP t)∧Below W.heap.size W w'):=fun W y=>zgs (hP.low y) (hE.low y) hT;clear hP hE hT;generalize (layP 0 t).length=nl at *;have hd:decide (1024<(wrP t).length)=true:=by simp;omega
 have F:Hid (∀ (B:Nat) (W:World) (v:Value),OwnT B W v (wrP t)->∃ sp cap,v=.slice sp (wrP t).length cap):=fun B W v h=>OwnG.shape h;generalize E:(wrP t).length=wl at *;clear E
 go_enter Tryz.func16,Tryz.ntmps16
 go_wp2_with fail
 have A:Below w.heap.size w (w.alloc (.cells #[.slice sn nl cn] 25)):=(Yb _ _).alloc (Ya _) _;refine(K _ A).mono ?_;rintro e W ⟨C,rfl,D,y⟩;obtain⟨sp,cap,I⟩:=F.out _ _ _ D;subst I;have M:Hid (Below w.heap.size w W):=A.trans (y.mono A.size);clear D y A
 go_wp2
 go_ret2
 exact⟨rfl,M.out⟩
theorem zmg {w:World}{sn:Option Addr}{cn:Nat}{Z:List NdZ}(hE:EnZ w (.slice sn Z.length cn) Z) :
  Calls Tryz.prog 55 #[.agg #[.slice sn Z.length cn]] w fun e w'=>e=.returned (.bool (ordZ Z))∧Below w.heap.size w w':=by
 have V:Hid (∀ W,Vis w sn cn Z.length W 0->Calls Tryz.prog 84 #[.int .i64 0,.pointer (some ⟨w.heap.size+1,0,none⟩),.pointer (some ⟨w.heap.size,0,none⟩),.pointer (some ⟨w.heap.size+1+1,0,none⟩)] W fun e w'=>e=.returned (.bool (visZ Z (Z.length+1) 0 0).isSome)∧∃ A,Vis w sn cn Z.length w' A∧(visZ Z (Z.length+1) 0 0=some A∨visZ Z (Z.length+1) 0 0=none)∧A<=Z.length):=fun W h=>
  zqc hE (Z.length+1) 0 0 W (by omega) (Yk _) h
 have M:Hid (ordZ Z=(visZ Z (Z.length+1) 0 0 == some Z.length)):=rfl;have ac:=hE.l;clear hE;have af:∀ (C:Fn) (first cap:Array Value) (w:World),(Instr.makeFunc C first cap).run Tryz.prog w=.ok (.func C first cap) w:=fun _ _ _ _=>rfl;have ag:=zhe;have ae:∀ (a:Addr) (C:Fn) (first cap:Array Value) (W:World),(store a (.func C first cap)).run Tryz.prog W=stored Tryz.prog W a (.func C first cap) .plain:=fun a C first cap W=>run_store _ W a _ _ rfl
 generalize Z.length=nl at *;generalize visZ Z (nl+1) 0 0=R at *;generalize ordZ Z=OZ at *
 go_enter Tryz.func55,Tryz.ntmps55
 go_wp2_with fail
 refine zag (fun W=>Vis w sn cn nl W 0) ?_ ?_
 ·have X:=Yd w (.cells #[.slice sn nl cn] 25);have U:=Yd (w.alloc (.cells #[.slice sn nl cn] 25)) (.cells #[.int .i64 0] 3);have N:=Yd ((w.alloc (.cells #[.slice sn nl cn] 25)).alloc (.cells #[.int .i64 0] 3)) (.cells #[.func (.func 84) #[] #[.pointer (some ⟨w.heap.size+1,0,none⟩),.pointer (some ⟨w.heap.size,0,none⟩),.pointer (some ⟨w.heap.size+1+1,0,none⟩)]] 121);simp only[World.size_alloc] at U N;exact⟨(((Yb _ _).alloc (Ya _) _).alloc (by simp) _).alloc (by simp;try omega) _,(Yn _ _ _ (by simp;try omega)).trans ((Yn _ _ _ (by simp)).trans X),(Yn _ _ _ (by simp)).trans U,N⟩
 intro W K;refine(V W K).mono ?_;rintro e F ⟨rfl,A,D,I,hq⟩;have ct:F.cell? ⟨w.heap.size,0,none⟩=some (.slice sn nl cn):=Yp 0 D.t rfl;have cq:F.cell? ⟨w.heap.size+1,0,none⟩=some (.int .i64 A):=Yp 0 D.n rfl;have E:Hid (Below w.heap.size w F):=D.b;clear K D V
 cases R with
 | none=>
  have y:Hid (OZ=false):=by show _=_;rw[M.out];rfl
  simp only[Option.isSome_none];clear I
  go_wp2
  go_ret
  exact⟨zay (by rw[y.out]),E.out⟩
 | some p=>
  have ab:p=A:=by
   rcases I with h|h
   ·injection h
   ·cases h
  subst ab;have y:Hid (OZ=(p == nl)):=by
   show _=_;rw[M.out,Bool.eq_iff_iff,beq_iff_eq,beq_iff_eq];exact⟨fun h=>by injection h,fun h=>by rw[h]⟩
  simp only[Option.isSome_some];clear I
  cases z1:(p == nl)
  ·have aa:((p:Int) == (nl:Int))=false:=by have Y:¬ p=nl:=(by simpa using z1);simp;omega
   rw[z1] at y
   go_wp2
   go_ret
   exact⟨zay (by rw[y.out]),E.out⟩
  ·have aa:((p:Int) == (nl:Int))=true:=by have Y:p=nl:=(by simpa using z1);simp;omega
   rw[z1] at y
   go_wp2
   go_ret
   exact⟨zay (by rw[y.out]),E.out⟩
theorem zwi {c:UInt8}(h:c.toNat=34∨c.toNat=92):pairU c=some c:=by unfold pairU;rw[if_pos h]
theorem zwj:∀ (L acc Q:List UInt8),quoG acc L=some Q->∃ E:List UInt8,Q=acc++E++[34]∧E.length<=2 * L.length∧∀ (a:List UInt8)(i:Nat),unqA a i (E++[34])=some (a++L,i+E.length+1):=by
 intro L
 induction L with
 | nil=>
  intro acc Q h;simp only[quoG,Option.some.injEq] at h;refine⟨[],by rw[List.append_nil];exact h.symm,by simp,fun a i=>?_⟩;rw[List.nil_append,zcb,if_pos (by decide),List.append_nil];rfl
 | cons c r ih=>
  intro acc Q h;rw[quoG] at h
  cases hq:quoB c with
  | none=>rw[hq] at h;cases h
  | some x=>
   rw[hq] at h;obtain⟨E,A,F,y⟩:=ih (acc++x) Q h;refine⟨x++E,by rw[A];simp,?_,fun a i=>?_⟩
   ·have:x.length<=2:=by
     unfold quoB at hq
     repeat' split at hq
     all_goals first|(injection hq with hq;subst hq;simp) | cases hq
    rw[List.length_append,List.length_cons];omega
   ·unfold quoB at hq
    by_cases h1:c.toNat=34∨c.toNat=92
    ·rw[if_pos h1] at hq;injection hq with hq;subst hq;show unqA a i (92::c::(E++[34]))=_;rw[zcb,if_neg (by decide),if_pos (by decide)];simp only[zwi h1];rw[y];simp;omega
    ·rw[if_neg h1] at hq
     by_cases h2:c.toNat=10
     ·rw[if_pos h2] at hq;injection hq with hq;subst hq;have C:c=10:=UInt8.toNat.inj h2;show unqA a i (92::110::(E++[34]))=_;rw[zcb,if_neg (by decide),if_pos (by decide)];have D:pairU 110=some 10:=by decide
      simp only[D];rw[y,C];simp;omega
     ·rw[if_neg h2] at hq
      by_cases h3:plnB c.toNat=true
      ·rw[if_pos h3] at hq;injection hq with hq;subst hq;show unqA a i (c::(E++[34]))=_;rw[zcb,if_neg (by omega),if_neg (by omega),if_pos h3,y];simp;omega
      ·rw[if_neg h3] at hq
       cases hq
theorem zy9 {L Q:List UInt8}(h:quoO L=some Q):unqO Q=some (L,Q.length)∧Q.length<=2 * L.length+2∧Q.head?=some 34:=by
 obtain⟨E,y,C,A⟩:=zwj L [34] Q h;have e:Q=34::(E++[34]):=by rw[y];simp
 refine⟨?_,by rw[e];simp;omega,by rw[e];rfl⟩;rw[e];show(if (34:UInt8).toNat=34 then unqA [] 1 (E++[34]) else none)=_;rw[if_pos (by decide),A];simp;omega
def smT (u:Tok):Prop:=u.pos=0∧u.text.size<=100000
def aS (ws:List Tok):Prop:=∀ u ∈ ws,smT u
theorem zmh:aS []:=fun u hu=>by simp at hu
theorem zcd {a b:List Tok}(h:aS a)(h':aS b):aS (a++b):=fun u hu=>(List.mem_append.1 hu).elim (h u) (h' u)
theorem zcj {u:Tok}(h:smT u):aS [u]:=fun v hv=>by obtain rfl:=List.mem_singleton.1 hv;exact h
theorem zhr {u:Tok}{a:List Tok}(h:smT u)(h':aS a):aS (u::a):=fun v hv=>(List.mem_cons.1 hv).elim (fun e=>by rw[e];exact h) (h' v)
theorem zee {os:List (List Tok)}(h:∀ o ∈ os,aS o):aS os.flatten:=fun u hu=>by
 obtain⟨o,ho,hu⟩:=List.mem_flatten.1 hu;exact h o ho u hu
theorem sm_w {k:Int}{x:ByteArray}(h:x.size<=100000):smT (tkW k x):=⟨rfl,h⟩
theorem sm_s (s:List UInt8)(h:s.length<=100000):smT (sgT s):=⟨rfl,by show(strU s).size<=_;rw[zig];exact h⟩
theorem sm_d (s:List UInt8)(h:s.length<=100000):smT (wdT s):=⟨rfl,by show(strU s).size<=_;rw[zig];exact h⟩
theorem z1d:smT enT:=⟨rfl,by decide⟩
theorem zxn {os:List (List Tok)}(h:∀ o ∈ os,aS o):aS (wEnd os):=zee fun o ho=>by
 obtain⟨q,hq,rfl⟩:=List.mem_map.1 ho;exact zcd (h q hq) (zcj z1d)
theorem zs2 {s:List UInt8}(hs:s.length<=100000){os:List (List Tok)}(h:∀ o ∈ os,aS o):aS (wPar s os):=by
 cases os with
 | nil=>exact zmh
 | cons o r=>exact zcd (h o (by simp)) (zee fun q A=>by
   obtain⟨z,y,rfl⟩:=List.mem_map.1 A;exact zhr (sm_s s hs) (h z (by simp[y])))
theorem zou {os:List (List Tok)}(h:∀ o ∈ os,aS o):aS (wBrk os):=zcd (zcd (zcj (sm_s _ (by decide))) (zs2 (by decide) h)) (zcj (sm_s _ (by decide)))
theorem zxo {os:List (List Tok)}(h:∀ o ∈ os,aS o):aS (wBra os):=zcd (zcd (zcj (sm_s _ (by decide))) (zxn h)) (zcj (sm_s _ (by decide)))
theorem znn {os:List (List Tok)}(n:Nat)(h:∀ o ∈ os,aS o):∀ o ∈ os.take n,aS o:=fun o ho=>h o (List.mem_of_mem_take ho)
theorem ziu {os:List (List Tok)}(n:Nat)(h:∀ o ∈ os,aS o):∀ o ∈ os.drop n,aS o:=fun o ho=>h o (List.mem_of_mem_drop ho)
theorem z4e {os:List (List Tok)}(h:∀ o ∈ os,aS o):aS (wIf os):=by
 unfold wIf;refine zcd (zcd (zee (znn 2 h)) ?_) (zee (ziu 2 h))
 split
 ·exact zcj (sm_d _ (by decide))
 ·exact zmh
theorem zmi {k:Int}{x:ByteArray}{hs:List (Int × ByteArray)}{os:List (List Tok)}(i:Nat)(h:∀ o ∈ os,aS o):aS (wOpe k x hs os i):=by
 unfold wOpe
 split
 ·rename_i h' o e1 e2
  have y:=h o (Ym e2)
  split
  ·exact zou fun q A=>by obtain rfl:=List.mem_singleton.1 A;exact y
  ·exact y
 ·exact zmh
theorem zmj {x:ByteArray}(hx:x.size<=40000):(quoT x).size<=100000:=by
 unfold quoT
 split
 ·rename_i q hq
  have:=(zy9 hq).2.1;have e:x.data.toList.length=x.size:=by simp
  rw[zig];omega
 ·decide
theorem z1e {x:ByteArray}{hs:List (Int × ByteArray)}{os:List (List Tok)}(hx:x.size<=40000)(h:∀ o ∈ os,aS o):aS (wFun x hs os):=by
 unfold wFun;refine zcd (zcd (zcd (zcd (zcj (sm_d _ (by decide))) ?_) (zcj (sm_w (by omega)))) (zou (znn _ (ziu _ h)))) (zee (ziu _ (ziu _ h)))
 split
 ·exact zou (znn _ h)
 ·exact zmh
theorem aS_X {k n:Int}{x:ByteArray}{hs:List (Int × ByteArray)}{os:List (List Tok)}(hx:x.size<=40000)(hn:-9223372036854775808<=n∧n<=9223372036854775807)(h:∀ o ∈ os,aS o):aS (wrX k x n hs os):=by
 have y:smT (nuT n):=⟨rfl,by show(Lib.itoa n).toArray.size<=_;have:=Lib.itoa_length_le n hn.1 hn.2;simp;omega⟩;have A:smT (tkW 3 (quoT x)):=⟨rfl,zmj hx⟩;unfold wrX
 repeat' split
 ·exact zcj y
 ·exact zcj A
 ·exact zcj (sm_w (by omega))
 ·exact zcd (zcd (zmi 0 h) (zcj (sm_s _ (by decide)))) (zcj (sm_w (by omega)))
 ·exact zcd (zmi 0 h) (zou (ziu _ h))
 ·exact zcd (zcj (sm_w (by omega))) (zmi 0 h)
 ·exact zcd (zcd (zmi 0 h) (zcj (sm_w (by omega)))) (zmi 1 h)
 ·exact zmh
theorem aS_S {k n:Int}{x:ByteArray}{hs:List (Int × ByteArray)}{os:List (List Tok)}(hx:x.size<=40000)(hn:-9223372036854775808<=n∧n<=9223372036854775807)(h:∀ o ∈ os,aS o):aS (wrS k x n hs os):=by
 unfold wrS
 repeat' split
 ·exact zxo h
 ·exact zcd (zcj (sm_d _ (by decide))) (z4e h)
 ·exact zcd (zcj (sm_d _ (by decide))) (zee h)
 ·exact zcd (zcj (sm_d _ (by decide))) (zee h)
 ·exact zcd (zcd (zcj (sm_w (by omega))) (zcj (sm_s _ (by decide)))) (zee h)
 ·exact zs2 (by decide) h
 ·exact zee h
 ·exact aS_X hx hn h
theorem aS_K {k n:Int}{x:ByteArray}{hs:List (Int × ByteArray)}{os:List (List Tok)}(hx:x.size<=40000)(hn:-9223372036854775808<=n∧n<=9223372036854775807)(h:∀ o ∈ os,aS o):aS (wrK k x n hs os):=by
 have A:smT (tkW 3 (quoT x)):=⟨rfl,zmj hx⟩;have y:smT (tkW 1 x):=sm_w (by omega);unfold wrK
 repeat' split
 ·exact zcd (zcd (zhr (sm_d _ (by decide)) (zcj y)) (zcj z1d)) (zxn h)
 ·exact zcd (zcj (sm_d _ (by decide))) (zcj A)
 ·exact zcd (zcd (zhr (sm_d _ (by decide)) (zcj y)) (zcj (sm_s _ (by decide)))) (zee h)
 ·exact zcd (zhr (sm_d _ (by decide)) (zcj y)) (zs2 (by decide) h)
 ·exact zcd (zhr (sm_d _ (by decide)) (zhr y (zcj (sm_d _ (by decide))))) (zxo h)
 ·exact z1e hx h
 ·exact zcd (zcj y) (zee h)
 ·exact zcj y
 ·exact zcd (zcd (zee h) (zcj (sm_s _ (by decide)))) (zcj y)
 ·exact aS_S hx hn h
mutual
def GsP:Pt->Prop | .mk _ x n _ _ _ l=>x.size<=40000∧(-9223372036854775808<=n∧n<=9223372036854775807)∧GsL l
def GsL:List Pt->Prop | []=>True|t::r=>GsP t∧GsL r
end
mutual
theorem zza:∀ t:Pt,GsP t->aS (wrP t)
 | .mk k x n a f t l,h=>by
  rw[GsP] at h;rw[wrP];exact aS_K h.1 h.2.1 (zxp l h.2.2)
theorem zxp:∀ l:List Pt,GsL l->∀ o ∈ wrM l,aS o
 | [],_=>fun o ho=>by rw[wrM] at ho;simp at ho
 | t::r,h=>fun o ho=>by
  rw[GsL] at h;rw[wrM] at ho;rcases List.mem_cons.1 ho with rfl|ho
  ·exact zza t h.1
  ·exact zxp r h.2 o ho
theorem zzb:∀ t:Pt,GsP t->GdP t
 | .mk k x n a f t l,h=>by
  rw[GsP] at h;rw[GdP];exact⟨by omega,h.2.1,zxq l h.2.2⟩
theorem zxq:∀ l:List Pt,GsL l->GdL l
 | [],_=>by rw[GdL];trivial
 | t::r,h=>by
  rw[GsL] at h;rw[GdL];exact⟨zzb t h.1,zxq r h.2⟩
end
mutual
theorem zxr:∀ (t:Pt)(i:Nat),(∀ d ∈ layP i t,d.text.size<=40000∧-9223372036854775808<=d.num∧d.num<=9223372036854775807)->GsP t
 | .mk k x n a f t l,i,h=>by
  rw[layP] at h;rw[GsP];have h0:=h ⟨k,x,n,kidI (i+1) l,a,f,t⟩ (by simp);exact⟨h0.1,h0.2,zs3 l (i+1) fun d hd=>h d (by simp[hd])⟩
theorem zs3:∀ (l:List Pt)(i:Nat),(∀ d ∈ layL i l,d.text.size<=40000∧-9223372036854775808<=d.num∧d.num<=9223372036854775807)->GsL l
 | [],_,_=>by rw[GsL];trivial
 | t::r,i,h=>by
  rw[layL] at h;rw[GsL];exact⟨zxr t i fun d hd=>h d (by simp[hd]),zs3 r (i+cntP t) fun d hd=>h d (by simp[hd])⟩
end
def SmZ (Z:List NdZ):Prop:=∀ d ∈ Z,d.text.size<=40000∧-9223372036854775808<=d.num∧d.num<=9223372036854775807
theorem zxs {Z:List NdZ}{t:Pt}(h:SmZ Z)(e:Z=(layP 0 t).map toZ):GsP t:=zxr t 0 fun d hd=>by
 have:=h (toZ d) (by rw[e];exact List.mem_map_of_mem hd);exact this
theorem EnZ.enw {w:World}{nv:Value}{Z:List NdZ}{t:Pt}(h:EnZ w nv Z)(e:Z=(layP 0 t).map toZ)(hT:Tabl w):EnW w nv (layP 0 t):=by
 obtain⟨A,C,N,y,E,D⟩:=h.x;subst e;rw[List.length_map] at y;exact⟨⟨A,C,N,_,y,E,D.rep⟩,hT,by have:=h.l;rw[List.length_map] at this;exact this⟩
theorem zno {w:World}{sn:Option Addr}{cn:Nat}{t:Pt}(hP:TabP w)(hE:EnW w (.slice sn (layP 0 t).length cn) (layP 0 t))(hg:GsP t)(hn0:cntP t<=2048)(hT:¬ TrW t) :
  Calls Tryz.prog 32 #[.agg #[.slice sn (layP 0 t).length cn]] w fun e w'=>e=.returned (.tuple #[.slice none 0 0,.int .i64 211])∧Below w.heap.size w w':=by
 have aG:Hid (∀ W,Below w.heap.size w W->Calls Tryz.prog 55 #[.agg #[.slice sn (layP 0 t).length cn]] W fun e w'=>e=.returned (.bool true)∧Below W.heap.size W w'):=fun W y=>zis t (hE.low y);have ab:=ze3 t 0;have aa:=zco t 0;have aN:Hid (∀ d ∈ layP 0 t,d.kids.length<=1000000):=fun d hd=>by have:=(ab d hd).2;have:=hn0;omega
 have aC:Hid (∀ W,Below w.heap.size w W->Calls Tryz.prog 30 #[.agg #[.slice sn (layP 0 t).length cn]] W fun e w'=>e=.returned (.int .i64 (dpF (fun _=>0) 0 0 (layP 0 t)))∧Below W.heap.size W w'):=fun W y=>by
  obtain⟨s,c,N,S,E,I,V⟩:=(hE.low y).x;injection E with e1 _ e2;subst e1 e2;exact zfo W sn cn N S (layP 0 t) I V (by have:=hn0;omega) fun d hd=>⟨fun k hk=>by have:=(ab d hd).1 k hk;omega,by have:=(ab d hd).2;have:=hn0;omega⟩
 have aF:Hid (∀ W,Below w.heap.size w W->Calls Tryz.prog 56 #[.agg #[.slice sn (layP 0 t).length cn]] W fun e w'=>∃ v',e=.returned v'∧OwnT W.heap.size w' v' (wrP t)∧Below W.heap.size W w'):=fun W y=>zmb t (hP.low y) (hE.low y) (zzb t hg) (by have:=hn0;omega);have aQ:Hid (∀ W,Below w.heap.size w W->Tabl W):=fun W y=>(hE.low y).t;have HE:Hid (∀ W,Below w.heap.size w W->∃ N S,RowsAt W 7 NdM.cells sn N∧Rep W S N (layP 0 t)):=fun W y=>by
  obtain⟨s,c,N,S,E,I,V⟩:=(hE.low y).x;injection E with e1 _ e2;subst e1 e2;exact⟨N,S,I,V⟩
 have ao:Hid (∀ u ∈ wrP t,-1000000000000000000<=u.pos∧u.pos<=1000000000000000000∧u.text.size<=100000):=fun u hu=>by
  have:=zza t hg u hu;rw[this.1];exact⟨by decide,by decide,this.2⟩
 have aW:Hid (dpF (fun _=>0) 0 0 (layP 0 t)<=24->(wrP t).any wrA=false->∀ t' p,filO (wrP t)=.ok t' p->eqAll ndEq (layP 0 t') (layP 0 t)=false):=fun E I t' p V=>by
  cases he:eqAll ndEq (layP 0 t') (layP 0 t) with
  | false=>rfl
  | true=>exact absurd ⟨hn0,E,zzb t hg,I,ao.out,t',p,V,he⟩ hT
 have aq:=zjr t;have hn:(layP 0 t).length<=2048:=by rw[aa];exact hn0
 have al:0<(layP 0 t).length:=by rw[aa];exact zd3 t
 have aD:Hid (eqAll ndEq ([]:List Nd) (layP 0 t)=false):=by
  show _=_
  cases hL:layP 0 t with
  | nil=>rw[hL] at al;simp at al
  | cons a r=>rfl
 clear hP hE hT ab hg;generalize ak:(layP 0 t).length=nl at *;generalize aT:dpF (fun _=>0) 0 0 (layP 0 t)=dp at *;have aZ:decide (2048<nl)=false:=by simp;omega
 have ax:Hid _:=ak;have aR:Hid _:=aq;have aH:Hid _:=aa;clear ak aT aq aa
 go_enter Tryz.func32,Tryz.ntmps32
 go_wp2_with fail
 have r0:=Yd w (.cells #[.slice sn nl cn] 25);have b0:Below w.heap.size w (w.alloc (.cells #[.slice sn nl cn] 25)):=(Yb _ _).alloc (Ya _) _;refine(aG _ b0).mono ?_;rintro e W1 ⟨rfl,b1⟩;have B1:Hid (Below w.heap.size w W1):=b0.trans (b1.mono b0.size);have R1:Hid (W1.heap[w.heap.size]?=some (.cells #[.slice sn nl cn] 25 (0,0))):=(b1.block _ (zaa r0)).trans r0;have c1:W1.cell? ⟨w.heap.size,0,none⟩=some (.slice sn nl cn):=Yp 0 R1.out rfl;clear r0 b0 b1
 go_wp2_with fail
 refine(aC _ B1.out).mono ?_;rintro e W2 ⟨rfl,b2⟩;have U:Hid (Below w.heap.size w W2):=B1.out.trans (b2.mono B1.out.size);have R2:Hid (W2.heap[w.heap.size]?=some (.cells #[.slice sn nl cn] 25 (0,0))):=(b2.block _ (zaa R1.out)).trans R1.out;have c2:W2.cell? ⟨w.heap.size,0,none⟩=some (.slice sn nl cn):=Yp 0 R2.out rfl;clear b2 c1 B1 R1
 cases hd2:decide (24<dp)
 rotate_left
 focus (
  go_wp2
  go_ret2
  exact⟨rfl,U.out⟩)
 have aV:Hid (dp<=24):=by show _<=_;have:=of_decide_eq_false hd2;omega
 go_wp2_with fail
 refine(aF _ U.out).mono ?_;rintro e W3 ⟨v3,rfl,o3,b3⟩;have B3:Hid (Below w.heap.size w W3):=U.out.trans (b3.mono U.out.size);have R3:Hid (W3.heap[w.heap.size]?=some (.cells #[.slice sn nl cn] 25 (0,0))):=(b3.block _ (zaa R2.out)).trans R2.out;have O3:Hid (OwnT w.heap.size W3 v3 (wrP t)):=o3.mono U.out.size;obtain⟨sp,cp,rfl,ay,-,-,-⟩:=OwnG.rows elT O3.out;have aj:=J ay;have aw:Hid ((wrP t).length<=100000):=by have:=aR.out;have:=aH.out;show _<=_;omega
 clear b3 c2 U R2 o3 ay
 go_wp2_with fail
 refine(zhf sp cp (wrP t) W3 aj (by have:=aw.out;omega)).mono ?_;rintro e X ⟨rfl,Y⟩;have Z:Hid (Below w.heap.size w X):=B3.out.trans (Y.mono B3.out.size);have R4:Hid (X.heap[w.heap.size]?=some (.cells #[.slice sn nl cn] 25 (0,0))):=(Y.block _ (zaa R3.out)).trans R3.out;have O4:Hid (OwnT w.heap.size X (.slice sp (wrP t).length cp) (wrP t)):=O3.out.below Y;have ar:=J (aj.out.below Y);clear Y B3 R3 O3 aj
 cases hwa:(wrP t).any wrA
 rotate_left
 focus (
  go_wp2
  go_ret2
  exact⟨rfl,Z.out⟩)
 have aK:=J hwa;clear hwa
 go_wp2_with fail
 refine(zky X sp cp (wrP t) aw.out ao (fun W h=>⟨zbn h ar.out,zcm h (aQ X Z.out)⟩)).mono ?_;rintro e C ⟨b5,F⟩;have B5:Hid (Below w.heap.size w C):=Z.out.trans (b5.mono Z.out.size);have R5:Hid (C.heap[w.heap.size]?=some (.cells #[.slice sn nl cn] 25 (0,0))):=(b5.block _ (zaa R4.out)).trans R4.out;have aU:∃ (A:Option Addr) (D:Nat) (K:List Nd) (er pe:Int),e=.returned (.tuple #[.agg #[.slice A K.length D],.agg #[.int .i64 er,.int .i64 pe]])∧eqAll ndEq K (layP 0 t)=false∧K.length<=1000000∧(∀ d ∈ K,d.kids.length<=1000000)∧∀ W,Below C.heap.size C W->∃ N S,RowsAt W 7 NdM.cells A N∧Rep W S N K:=by
  cases hf:filO (wrP t) with
  | out=>rw[hf] at F;exact F.elim
  | bad s=>
   rw[hf] at F;have aO:e=.returned (.tuple #[.agg #[.slice none 0 0],.agg (wroC s)]):=F;exact⟨none,0,[],210,s,aO,aD.out,by simp,fun d hd=>by simp at hd,fun W _=>⟨[],fun _=>False,fun hl=>by simp at hl,rfl,fun i m d E _=>by simp at E⟩⟩
  | ok t' p=>
   rw[hf] at F;obtain⟨aY,v5,he,am⟩:=F;obtain⟨A,D,aI⟩:∃ A D,v5=.slice A (layP 0 t').length D:=by
    obtain⟨N,S,E,I,-⟩:=am;obtain⟨s,c,e⟩:=OwnG.shape E;exact⟨s,c,by rw[e,I.1]⟩
   subst aI;refine⟨A,D,layP 0 t',0,0,he,aW.out aV.out aK.out t' p hf,by rw[zco];omega,fun d hd=>by have:=(ze3 t' 0 d hd).2;omega,fun W y=>?_⟩;obtain⟨N,S,hO,ac,aX⟩:=am.below y;obtain⟨s6,k6,aL,aM,-,-,-⟩:=OwnG.rows elN hO;injection aL with e1 _ e2;subst e1 e2;exact⟨N,S,aM,ac⟩
 obtain⟨A,D,K,er,pe,rfl,aA,aP,an,av⟩:=aU;have aJ:Hid _:=aA;have aE:Hid _:=an;have aB:Hid _:=av;clear b5 F aA an av Z R4 O4 ar;generalize ap:K.length=kl at *;have az:Hid _:=ap;clear ap;have af:Below C.heap.size C ((C.alloc (.cells #[.slice A kl D] 25)).alloc (.cells #[.int .i64 er,.int .i64 pe] 28)):=((Yb _ _).alloc (Ya _) _).alloc (by simp) _;have c5:C.cell? ⟨w.heap.size,0,none⟩=some (.slice sn nl cn):=Yp 0 R5.out rfl;have cA:((C.alloc (.cells #[.slice A kl D] 25)).alloc (.cells #[.int .i64 er,.int .i64 pe] 28)).cell? ⟨w.heap.size,0,none⟩=some (.slice sn nl cn):=(Yc _ _ 0 _ _ _ ((af.block _ (zaa R5.out)).trans R5.out)).trans rfl;have ae:Hid _:=af;clear af
 go_wp2_with fail
 have ai:=B5.out.trans (ae.out.mono B5.out.size);obtain⟨M,T,hM,au⟩:=HE.out _ ai;obtain⟨N,S,hN,ac⟩:=aB.out _ ae;have ag:=zl4 A sn D cn N M S T K (layP 0 t) _ hN ac hM au (by rw[az.out];exact aP) (by rw[ax.out];omega) aE.out aN;rw[ax.out,az.out] at ag;have ah:Hid _:=ai;clear ai hM au hN ac cA c5;refine ag.mono ?_;rintro e W6 ⟨rfl,b6⟩;rw[aJ.out];have B6:=J (ah.out.trans (b6.mono ah.out.size));clear b6 ah ag ae
 go_wp2
 go_ret2
 exact⟨rfl,B6.out⟩
theorem ziv {w:World}{sn:Option Addr}{cn:Nat}{Z:List NdZ}(hT:Tabl w)(hP:TabP w)(hE:EnZ w (.slice sn Z.length cn) Z)(hs:SmZ Z)(hb:∀ t,Z=(layP 0 t).map toZ->¬ TrW t) :
  Calls Tryz.prog 32 #[.agg #[.slice sn Z.length cn]] w fun e w'=>e=.returned (.tuple #[.slice none 0 0,.int .i64 211])∧Below w.heap.size w w':=by
 have N:=hE.l
 by_cases h1:2048<Z.length
 ·have M:decide (2048<(Z.length:Int))=true:=by simp;omega
  have K:decide (2048<Z.length)=true:=by simp;omega
  have A:Hid (Below w.heap.size w (w.alloc (.cells #[.slice sn Z.length cn] 25))):=(Yb _ _).alloc (Ya _) _;clear hT hP hE hs hb
  go_enter Tryz.func32,Tryz.ntmps32
  go_wp2
  go_ret2
  exact⟨rfl,A.out⟩
 cases ho:ordZ Z with
 | true=>
  obtain⟨t,y⟩:=zwf ho;have e:Z.length=(layP 0 t).length:=by rw[y,List.length_map]
  have F:=hE.enw y hT;rw[e] at F h1 ⊢;exact zno hP F (zxs hs y) (by rw[zco] at h1;omega) (hb t y)
 | false=>
  have K:decide (2048<Z.length)=false:=by simp;omega
  have C:Below w.heap.size w (w.alloc (.cells #[.slice sn Z.length cn] 25)):=(Yb _ _).alloc (Ya _) _;have D:=zmg (hE.below C);have A:Hid _:=C;rw[ho] at D;clear hT hP hE hs hb ho C;generalize Z.length=nl at *
  go_enter Tryz.func32,Tryz.ntmps32
  go_wp2_with fail
  refine D.mono ?_;rintro e W1 ⟨rfl,E⟩;have I:=J (A.out.trans (E.mono A.out.size));clear E D
  go_wp2
  go_ret2
  exact⟨rfl,I.out⟩
theorem zqq {w:World}{sn:Option Addr}{cn:Nat}{Z:List NdZ}(hT:Tabl w)(hP:TabP w)(hE:EnZ w (.slice sn Z.length cn) Z)(hs:SmZ Z)(hb:∀ t,Z=(layP 0 t).map toZ->¬ TrW t) :
  Calls Tryz.prog 16 #[.agg #[.slice sn Z.length cn]] w fun e w'=>e=.returned (.tuple #[.slice none 0 0,.int .i64 211])∧Below w.heap.size w w':=by
 have y:Below w.heap.size w (w.alloc (.cells #[.slice sn Z.length cn] 25)):=(Yb _ _).alloc (Ya _) _;have A:=ziv (zcm y.block hT) (hP.low y) (hE.below y) hs hb;have C:Hid _:=y;clear hT hP hE hs hb y;generalize Z.length=nl at *
 go_enter Tryz.func16,Tryz.ntmps16
 go_wp2_with fail
 refine A.mono ?_;rintro e W1 ⟨rfl,D⟩;have E:=J (C.out.trans (D.mono C.out.size));clear D A
 go_wp2
 go_ret2
 exact⟨rfl,E.out⟩
structure Qdr (T:Nat) (w:World) (g:Nat) (st:Option Addr) (cap:Nat) (ts:List Tok) (p:Nat) (bad:Bool):Prop where
 row:w.heap[g]?=some (.cells #[.slice st ts.length cap,.int .i64 p,.bool bad] 60 (0,0))
 le:p<=ts.length
 few:ts.length<=100000
 ok:∀ t ∈ ts,-1000000000000000000<=t.pos∧t.pos<=1000000000000000000∧t.text.size<=100000
 hg:g<T
 hT:T<=w.heap.size
 env:∀ W:World,(∀ k,k<T->k≠g->W.heap[k]?=w.heap[k]?)->RowsT W st ts
section
variable {T:Nat}{w w':World}{g:Nat}{st:Option Addr}{cap:Nat}{ts:List Tok}{p q:Nat}{bad bd:Bool}
theorem Qdr.lt (h:Qdr T w g st cap ts p bad):g<w.heap.size:=zaa h.row
theorem Qdr.stay (h:Qdr T w g st cap ts p bad)(hs:w.heap.size<=w'.heap.size)(hw:∀ k,k<T->k≠g->w'.heap[k]?=w.heap[k]?)(hr:w'.heap[g]?=some (.cells #[.slice st ts.length cap,.int .i64 q,.bool bd] 60 (0,0)))(hq:q<=ts.length):Qdr T w' g st cap ts q bd :=
 ⟨hr,hq,h.few,h.ok,h.hg,Yo h.hT hs,fun W C=>h.env W fun k y A=>(C k y A).trans (hw k y A)⟩
theorem Qdr.keep (h:Qdr T w g st cap ts p bad)(hw:w.grownBy w' (some g))(hr:w'.heap[g]?=some (.cells #[.slice st ts.length cap,.int .i64 q,.bool bd] 60 (0,0)))(hq:q<=ts.length):Qdr T w' g st cap ts q bd :=
 h.stay hw.size (fun k y A=>hw.block k (Yg y h.hT) fun e=>A (by injection e)) hr hq
theorem Qdr.below {B:Nat}(h:Qdr T w g st cap ts p bad)(hT:T<=B)(hb:Below B w w'):Qdr T w' g st cap ts p bad :=
 h.stay hb.size (fun k y _=>hb.block k (by omega)) ((hb.block _ (Yg h.hg hT)).trans h.row) h.le
theorem Qdr.low (h:Qdr T w g st cap ts p bad)(hb:Below w.heap.size w w'):Qdr T w' g st cap ts p bad:=h.below h.hT hb
theorem Qdr.c0 (h:Qdr T w g st cap ts p bad):w.cell? ⟨g,0,none⟩=some (.slice st ts.length cap):=(Yc _ _ _ _ _ _ h.row).trans rfl
theorem Qdr.c1 (h:Qdr T w g st cap ts p bad):w.cell? ⟨g,1,none⟩=some (.int .i64 p):=(Yc _ _ _ _ _ _ h.row).trans rfl
theorem Qdr.c2 (h:Qdr T w g st cap ts p bad):w.cell? ⟨g,2,none⟩=some (.bool bad):=(Yc _ _ _ _ _ _ h.row).trans rfl
theorem Qdr.z (h:Qdr T w g st cap ts p bad)(j:Nat):w.frozen? ⟨g,j,none⟩=false:=Yj _ _ _ _ _ h.row
theorem Qdr.go (h:Qdr T w g st cap ts p bad)(hq:q<=ts.length):Qdr T (w.setCell ⟨g,1,none⟩ (.int .i64 q)) g st cap ts q bad:=by
 have y:=(Yb 0 w).setCell (p:=⟨g,1,none⟩) (Yk _) (.int .i64 q);refine h.keep ⟨y.os,y.tape,y.output,y.size,fun k C A=>Ye _ _ _ _ fun e=>A (by rw[show k=g from e])⟩ ?_ hq;exact Yf _ _ 1 _ _ _ h.row
theorem Qdr.wrong (h:Qdr T w g st cap ts p bad):Qdr T (w.setCell ⟨g,2,none⟩ (.bool true)) g st cap ts p true:=by
 have y:=(Yb 0 w).setCell (p:=⟨g,2,none⟩) (Yk _) (.bool true);refine h.keep ⟨y.os,y.tape,y.output,y.size,fun k C A=>Ye _ _ _ _ fun e=>A (by rw[show k=g from e])⟩ ?_ h.le;exact Yf _ _ 2 _ _ _ h.row
theorem Qdr.tok (h:Qdr T w g st cap ts p bad){i:Nat}(hi:i<ts.length):∃ b o,st=some ⟨b,o,none⟩∧w.cell? ⟨b,o+i * 3,none⟩=some (.int .i64 (nxT ts i).kind)∧w.cell? ⟨b,o+i * 3+1,none⟩=some (.string (nxT ts i).text)∧w.cell? ⟨b,o+i * 3+2,none⟩=some (.int .i64 (nxT ts i).pos):=by
 have y:=h.env w fun _ _ _=>rfl;obtain⟨b,o,e,-⟩:=y (by omega);subst e;have A:ts[i]?=some (nxT ts i):=by unfold nxT;rw[List.getD_eq_getElem?_getD,Yh hi];rfl
 exact⟨b,o,rfl,zf6 y A⟩
theorem Qdr.bound (h:Qdr T w g st cap ts p bad)(i:Nat):-1000000000000000000<=(nxT ts i).pos∧(nxT ts i).pos<=1000000000000000000∧(nxT ts i).text.size<=100000:=by
 by_cases hi:i<ts.length
 ·refine h.ok _ ?_;unfold nxT;rw[List.getD_eq_getElem?_getD,Yh hi];exact List.getElem_mem hi
 ·rw[zru hi];exact⟨by decide,by decide,by decide⟩
theorem zmk (hR:Qdr T w g st cap ts p bad) :
  Calls Tryz.prog 51 #[.pointer (some ⟨g,0,none⟩)] w fun e w'=>e=.returned (.int .i64 (behI ts p))∧Below w.heap.size w w':=by
 have c0:=hR.c0;have c1:=hR.c1;have N:=hR.le;have U:=hR.few;obtain⟨C,E,q3⟩:=hR.bound (p - 1)
 by_cases h:p=0
 ·subst h;clear hR
  go_enter Tryz.func51,Tryz.ntmps51
  go_wp2
  go_ret
  exact⟨rfl,Yb _ _⟩
 ·have A:behI ts p=(nxT ts (p - 1)).pos+(nxT ts (p - 1)).text.size:=by unfold behI;rw[if_neg h]
  obtain⟨b,o,rfl,I,F,D⟩:=hR.tok (show p - 1<ts.length by omega);have y:Hid _:=A;obtain⟨m,rfl⟩:∃ m,p=m+1:=⟨p - 1,by omega⟩;rw[Nat.add_sub_cancel] at y C E q3 I F D;clear hR A h;have K:((((m+1:Nat):Int)) == 0)=false:=by rw[beq_eq_false_iff_ne];omega
  have M:(((m+1:Nat):Int)) - 1=m:=by omega
  go_enter Tryz.func51,Tryz.ntmps51
  go_wp2
  go_region
  go_wp2
  go_ret
  exact⟨by rw[y.out];rfl,(Yb _ _).drew⟩
end
end Go.Proofs.YtmclgbkijeidaaaGreatDoor
