import Derived.Test.YtmclgbkijeidaaaGreatDoorUoR
import Derived.Test.YtmclgbkijeidaaaGreatDoorUoQaG
import Derived.Deep.DeepCutAuto
import Derived.Deep.Cut
import Derived.Deep.CutRange
import Derived.Deep.CutBlock
namespace Go.Proofs.YtmclgbkijeidaaaGreatDoor
set_option maxRecDepth 100000
set_option maxHeartbeats 4000000
open Go.RowKit
structure TuZ (w:World) (s:Option Addr) (c:Nat) (Z:List NdZ) (K:Nat):Prop where
 e:EnZ w (.slice s Z.length c) Z
 n:s=none->c=0
 s:SmZ Z
 l:Z.length<=2048
 k:∀ d ∈ Z,d.kids.length<=K
def TuP (w:World) (K:Nat) (e:Ending) (w':World):Prop:=∃ s c Z,e=.returned (.agg #[.slice s Z.length c])∧TuZ w' s c Z K∧Below w.heap.size w w'
structure TuF (w W:World) (s:Option Addr) (c:Nat) (node field n:Int) (x:ByteArray) (v:Value) (N:List NdM):Prop where
 b:Below w.heap.size w W
 t:W.heap[w.heap.size]?=some (.cells #[.slice s N.length c] 25 (0,0))
 x:W.heap[w.heap.size+1]?=some (.cells #[.int .i64 node,.int .i64 field,.int .i64 n,.string x] 43 (0,0))
 r:W.heap[w.heap.size+1+1]?=some (.cells #[.slice none 0 0] 25 (0,0))
 o:OwnN (w.heap.size+1+1+1) W v N
def Rv (w W W':World):Prop:=∀ j,j≠w.heap.size+1+1->j<W.heap.size->W'.heap[j]?=W.heap[j]?
theorem NodZ.agree {w W:World}{m:NdM}{d:NdZ}(h:NodZ w m d)(hb:∀ k,k<w.heap.size->W.heap[k]?=w.heap[k]?):NodZ W m d:=⟨h.1,h.2.1,zbn hb h.2.2.1,h.2.2.2⟩
theorem RepZ.agree {w W:World}{N:List NdM}{Z:List NdZ}(h:RepZ w N Z)(hb:∀ k,k<w.heap.size->W.heap[k]?=w.heap[k]?):RepZ W N Z:=⟨h.1,fun i m d h1 h2=>NodZ.agree (h.2 i m d h1 h2) hb⟩
theorem Rv.old {w W W':World}(h:Rv w W W')(hb:Below w.heap.size w W):∀ k,k<w.heap.size->W'.heap[k]?=w.heap[k]?:=fun k hk=>(h k (by omega) (Yg hk hb.size)).trans (hb.block k hk)
def TuE (w W:World) (v:Value) (n K:Nat):Prop:=∃ (N:List NdM) (Z:List NdZ),N.length=n∧Below w.heap.size w W∧W.heap[w.heap.size+1+1]?=some (.cells #[.slice none 0 0] 25 (0,0))∧OwnN (w.heap.size+1+1+1) W v N∧(∀ W',Rv w W W'->RepZ W' N Z)∧SmZ Z∧Z.length<=2048∧∀ d ∈ Z,d.kids.length<=K
theorem zge {α:Type}{l:List α}{i:Nat}{a b:α}(h:b ∈ l.set i a):b=a∨b ∈ l:=(List.mem_or_eq_of_mem_set h).symm
theorem zmc {w W:World}{g n c2 K:Nat}{N:List NdM}{Z:List NdZ}(hb:Below w.heap.size w W)(hr:W.heap[w.heap.size+1+1]?=some (.cells #[.slice none 0 0] 25 (0,0)))(ho:OwnN (w.heap.size+1+1+1) W (.slice (some ⟨g,0,none⟩) n c2) N)
  (hz:RepZ w N Z) (hS:SmZ Z) (hL:Z.length<=2048) (hk:∀ d ∈ Z,d.kids.length<=K) {i j:Nat}{m m':NdM}{d':NdZ}{v:Value}(hi:N[i]?=some m) (hj:j<7) (hx:m'.cells.toList=m.cells.toList.set j v)
  (hn:∀ W',Rv w (W.setCell ⟨g,i * 7+j,none⟩ v) W'->NodZ W' m' d') (hs:d'.text.size<=40000∧-9223372036854775808<=d'.num∧d'.num<=9223372036854775807) (hk':d'.kids.length<=K+1):TuE w (W.setCell ⟨g,i * 7+j,none⟩ v) (.slice (some ⟨g,0,none⟩) n c2) N.length (K+1):=by
 obtain⟨D,e,F,M,I,E,C⟩:=ho.put elN hi hj hx;injection e with e;injection e with e;subst e;have y:Below w.heap.size w (W.setCell ⟨g,i * 7+j,none⟩ v):=hb.setCell (p:=⟨g,i * 7+j,none⟩) (by show w.heap.size<=g;omega) v;refine⟨N.set i m',Z.set i d',List.length_set,y,(Ye _ _ _ _ (by show w.heap.size+1+1≠g;omega)).trans hr,C,fun W' A=>(hz.agree (A.old y)).set (List.getElem?_eq_some_iff.1 hi).1 (hn W' A),fun d hd=>?_,by rw[List.length_set];exact hL,fun d hd=>?_⟩
 ·rcases zge hd with rfl|hd
  ·exact hs
  ·exact hS d hd
 ·rcases zge hd with rfl|hd
  ·exact hk'
  ·exact Nat.le_succ_of_le (hk d hd)
theorem TuE.drew {w W:World}{v:Value}{n K:Nat}(h:TuE w W v n K):TuE w W.drew v n K:=by
 obtain⟨N,Z,D,F,E,y,C,A⟩:=h;exact⟨N,Z,D,F.drew,E,y.keep fun _ _=>rfl,C,A⟩
theorem zsy {w W:World}{g n c2 K:Nat}{N:List NdM}{Z:List NdZ}(hb:Below w.heap.size w W)(hr:W.heap[w.heap.size+1+1]?=some (.cells #[.slice none 0 0] 25 (0,0)))(ho:OwnN (w.heap.size+1+1+1) W (.slice (some ⟨g,0,none⟩) n c2) N)
  (hz:RepZ w N Z) (hS:SmZ Z) (hL:Z.length<=2048) (hk:∀ d ∈ Z,d.kids.length<=K) (hg:w.heap.size+1+1+1<=g) {i p:Nat}{m y:NdM}(hi:N[i]?=some m) (hp:N[p]?=some y) {W1 W2:World}
  (h1:(((((((W.setCell ⟨g,i * 7,none⟩ (.int .i64 y.k)).setCell ⟨g,i * 7+1,none⟩ (.string y.x)).setCell ⟨g,i * 7+2,none⟩ (.int .i64 y.n)).setCell ⟨g,i * 7+3,none⟩ (.slice y.ks y.kn y.kc)).setCell ⟨g,i * 7+4,none⟩ (.int .i64 y.a)).setCell ⟨g,i * 7+5,none⟩ (.int .i64 y.f)).setCell ⟨g,i * 7+6,none⟩ (.int .i64 y.t))=W1)
  (h2:(((((((W1.setCell ⟨g,p * 7,none⟩ (.int .i64 m.k)).setCell ⟨g,p * 7+1,none⟩ (.string m.x)).setCell ⟨g,p * 7+2,none⟩ (.int .i64 m.n)).setCell ⟨g,p * 7+3,none⟩ (.slice m.ks m.kn m.kc)).setCell ⟨g,p * 7+4,none⟩ (.int .i64 m.a)).setCell ⟨g,p * 7+5,none⟩ (.int .i64 m.f)).setCell ⟨g,p * 7+6,none⟩ (.int .i64 m.t))=W2) :
  TuE w W2 (.slice (some ⟨g,0,none⟩) n c2) N.length (K+1):=by
 have ab:=(List.getElem?_eq_some_iff.1 hi).1;have I:=(List.getElem?_eq_some_iff.1 hp).1;obtain⟨di,F⟩:∃ d,Z[i]?=some d:=⟨_,Yh (by have:=hz.1;omega)⟩;obtain⟨dp,E⟩:∃ d,Z[p]?=some d:=⟨_,Yh (by have:=hz.1;omega)⟩;have V:=OwnN.put7 ho hi y;rw[h1] at V;obtain⟨z,aa⟩:∃ z,(N.set i y)[p]?=some z:=⟨_,Yh (by rw[List.length_set];exact I)⟩;have X:=OwnN.put7 V aa m;rw[h2] at X;have st:∀ {B:Nat}{A C:World}(q:Nat) (v:Value),B<=g->Below B A C->Below B A (C.setCell ⟨g,q,none⟩ v):=fun q v hB h=>h.setCell (p:=⟨g,q,none⟩) hB v;have b1:Below (w.heap.size+1+1+1) W W1:=by
  rw[<-h1];exact st _ _ hg (st _ _ hg (st _ _ hg (st _ _ hg (st _ _ hg (st _ _ hg (st _ _ hg (Yb _ _)))))))
 have M:Below (w.heap.size+1+1+1) W W2:=by
  rw[<-h2];exact st _ _ hg (st _ _ hg (st _ _ hg (st _ _ hg (st _ _ hg (st _ _ hg (st _ _ hg b1))))))
 have U:Below w.heap.size w W2:=hb.trans (M.mono (by omega));have ae:=hz.at hp E;have ac:=hz.at hi F;refine⟨_,(Z.set i dp).set p di,by rw[List.length_set,List.length_set],U,(M.block _ (by omega)).trans hr,X,fun W' Y=>?_,fun d hd=>?_,by rw[List.length_set,List.length_set];exact hL,fun d hd=>?_⟩
 ·have D:=Y.old U;exact((hz.agree D).set ab (ae.agree D)).set (by rw[List.length_set];exact I) (ac.agree D)
 ·rcases zge hd with rfl|hd
  ·exact hS _ (Ym F)
  ·rcases zge hd with rfl|hd
   ·exact hS _ (Ym E)
   ·exact hS d hd
 ·rcases zge hd with rfl|hd
  ·exact Nat.le_succ_of_le (hk _ (Ym F))
  ·rcases zge hd with rfl|hd
   ·exact Nat.le_succ_of_le (hk _ (Ym E))
   ·exact Nat.le_succ_of_le (hk d hd)
theorem elZ2:El 51 3 1 intZ:=by
 have h:(Tryz.prog.info? 3).map (fun i=>(i.zero,i.size,i.bytes))=some (some (.int .i64 0),1,8):=by kernel_rfl
 refine⟨Tryz.underlying51,?_,fun _=>rfl,fun e=>by simp[intZ,Value.oneCell'],by omega⟩
 cases hi:Tryz.prog.info? 3 with
 | none=>rw[hi] at h;cases h
 | some i=>
  rw[hi] at h;simp only[Option.map_some,Option.some.injEq,Prod.mk.injEq] at h;exact⟨i,_,rfl,h.1,h.2.1,by omega,rfl⟩
abbrev OwnZ2:=OwnG 3 1 intZ
theorem zgg {W0 w:World}{v:Value}{xs ys:List Int}{sp:Option Addr}{cap:Nat}(hb:Below W0.heap.size W0 w)(ho:OwnZ2 W0.heap.size w v xs)(hn:sp=none->ys.length=0∧cap=0)(hr:RowsAt w 1 intZ sp ys)(hl:xs.length+ys.length<=1000000) :
  ∃ s n c w',(Builtin.append_ #[51,51] 51 #[v,.slice sp ys.length cap]).run Tryz.prog w=.ok (.slice s n c) w'∧OwnZ2 W0.heap.size w' (.slice s n c) (xs++ys)∧Below W0.heap.size W0 w'∧w.heap.size<=w'.heap.size∧∀ q,q<w.heap.size->v.ownBlock≠some q->w'.heap[q]?=w.heap[q]?:=by
 obtain⟨N,w',K,C,y,M⟩:=zdn (E:=elZ2) 51 ho hn hr hl hb.size;obtain⟨F,c2,rfl⟩:=OwnG.shape C;exact⟨F,_,c2,w',K,C,⟨y.os.trans hb.os,y.tape.trans hb.tape,y.output.trans hb.output,Yo hb.size y.size,fun k A=>(y.block k (Yg A hb.size) (fun e=>by have:=(ho.lt e.symm).1;omega)).trans (hb.block k A)⟩,y.size,fun q I D=>y.block q I (fun e=>D e.symm)⟩
theorem zsz {W0 w:World}(hb:Below W0.heap.size W0 w):OwnZ2 W0.heap.size (w.alloc (.cells #[] 3)) (.slice (some ⟨w.heap.size,0,none⟩) 0 0) [] :=
 ⟨by simp[flatG],.inr ⟨w.heap.size,0,#[],rfl,hb.size,Yd _ _,Ya _,Yk _,rfl,by simp[flatG]⟩⟩
theorem zdf {P:Program}{ops:Array Oper}{Q:Exit->Act->World->Prop}{K:Act->World->Prop}{a:Act}{w:World}{i:Nat}{oi:Oper}(hi:ops[i]?=some oi)(hg:oi.guard=none)(h:oi.wp P a w K Q):wpOp P ops Q i K a w:=by
 unfold wpOp;simp only[hi,zeu hg,if_true];exact .inl h
theorem z1b {w W W2:World}{g n c2 K:Nat}{N:List NdM}{Z:List NdZ}(hb:Below w.heap.size w W)(hr:W.heap[w.heap.size+1+1]?=some (.cells #[.slice none 0 0] 25 (0,0)))(ho:OwnN (w.heap.size+1+1+1) W (.slice (some ⟨g,0,none⟩) n c2) N)
  (hz:RepZ w N Z) (hS:SmZ Z) (hL:Z.length<=2048) (hk:∀ d ∈ Z,d.kids.length<=K) (hK:K<=5000) {i:Nat}{m:NdM}{d:NdZ}(hi:N[i]?=some m) (hd:Z[i]?=some d) (hgl:g<W.heap.size) (hb2:Below W.heap.size W W2)
  {s3:Option Addr}{n3 c3:Nat}{z:Int}(hv:OwnZ2 W.heap.size W2 (.slice s3 n3 c3) (d.kids++[z])):TuE w (W2.setCell ⟨g,i * 7+3,none⟩ (.slice s3 n3 c3)) (.slice (some ⟨g,0,none⟩) n c2) N.length (K+1):=by
 have Y:=hz.at hi hd;have ab:=hk d (Ym hd);have I:=zaa hr;have aa:=hb.size;obtain⟨sp,D,e,ac,E,U,F⟩:=OwnG.rows elZ2 hv;injection e with e1 e2 e3;subst e1 e2 e3;refine zmc (hb.trans (hb2.mono hb.size)) ((hb2.block _ I).trans hr) (ho.keep fun q y=>hb2.block q (ho.lt y).2) hz hS hL hk (j:=3) (v:=.slice s3 (d.kids++[z]).length c3) (m':=⟨m.k,m.x,m.n,s3,(d.kids++[z]).length,c3,m.a,m.f,m.t⟩) (d':=⟨d.kind,d.text,d.num,d.kids++[z],d.pos,d.frm,d.to⟩) hi (by omega) rfl (fun W' A=>⟨Y.1,rfl,?_,⟨E,U,F⟩,by show(d.kids++[z]).length<=100000;rw[List.length_append];simp;omega⟩) (hS d (Ym hd)) (by show(d.kids++[z]).length<=_;rw[List.length_append];simp;omega);have M:OwnZ2 W.heap.size W' (.slice s3 (d.kids++[z]).length c3) (d.kids++[z]):=hv.keep fun q y=>by
  have V:=hv.lt y;have h2:(W2.setCell ⟨g,i * 7+3,none⟩ (.slice s3 (d.kids++[z]).length c3)).heap[q]?=W2.heap[q]?:=Ye _ _ _ _ (by show q≠g;omega);have X:q<(W2.setCell ⟨g,i * 7+3,none⟩ (.slice s3 (d.kids++[z]).length c3)).heap.size:=Yg V.2 ((Yb 0 W2).setCell (p:=⟨g,i * 7+3,none⟩) (Yk _) _).size;exact(A q (by omega) X).trans h2
 obtain⟨sp,D,e,C,-⟩:=OwnG.rows elZ2 M;injection e with e1 _ _;subst e1;exact C
theorem znk {w:World}{sp:Option Addr}{ks:List Int}(h:RowsAt w 1 intZ sp ks)(n:Nat):RowsAt w 1 intZ sp (ks.take n):=fun hl=>by
 have hlt:0<ks.length:=by rw[List.length_take] at hl;omega
 obtain⟨b,o,e,C⟩:=h hlt;exact⟨b,o,e,fun i x y j u A=>C i x (by
  have D:=(List.getElem?_eq_some_iff.1 y).1;rw[List.length_take] at D;rw[List.getElem?_take_of_lt (by omega)] at y;exact y) j u A⟩
theorem zqk {w:World}{s:Option Addr}{c:Nat}{Z:List NdZ}{K:Nat}(h:TuZ w s c Z K)(hK:K<=5000)(node field n:Int)(x:ByteArray)(hx:x.size<=500)(hn1:-9223372036854775808<=n∧n<=9223372036854775807) :
  Calls Tryz.prog 15 #[.agg #[.slice s Z.length c],.agg #[.int .i64 node,.int .i64 field,.int .i64 n,.string x]] w (TuP w (K+1)):=by
 obtain⟨sn,cn,N,he,hr,hz⟩:=h.e.x;injection he with e1 _ e2;subst e1 e2;have bv:N.length=Z.length:=hz.1;have HN:=J h.n;have HS:=J h.s;have HL:=J h.l;have aA:=J h.k;have HR:Hid (∀ W,Below w.heap.size w W->RowsAt W 7 NdM.cells s N):=J fun W hb=>zbn hb.block hr;have HZ:Hid (∀ W,Below w.heap.size w W->RepZ W N Z):=J fun W hb=>hz.below hb;have aT:=J bv;have h0:=h;have H0:=J h0;clear h h0 hr hz bv;rw[<-aT.out];have I:Below w.heap.size w (((w.alloc (.cells #[.slice s N.length c] 25)).alloc (.cells #[.int .i64 node,.int .i64 field,.int .i64 n,.string x] 43)).alloc (.cells #[.slice none 0 0] 25)):=(((Yb w.heap.size w).alloc (Ya _) _).alloc (by simp) _).alloc (by simp;omega) _;obtain⟨s2,c2,w2,a9,ho,ac⟩:=zqm (cap:=c) (HR _ I) (fun e=>⟨by
  have:=HR.out w (Yb _ _)
  by_cases hl:0<N.length
  ·obtain⟨b,o,q,-⟩:=this hl;rw[e] at q
   cases q
  ·omega,HN.out e⟩) (by have:=HL.out;have:=aT.out;omega)
 simp only[World.size_alloc] at a9;have HO:=J ho;have Y:=J ac;clear ho ac
 go_enter Tryz.func15,Tryz.ntmps15
 go_upto_region 2 with(at_builtin;refine za8 (.tmp 8) (.tmp 10) 23 (by rfl) (by rfl) (by rfl) (by rfl) a9 ?_)
 refine zdq (fun W=>TuF w W s c node field n x (.slice s2 N.length c2) N) ?_ ?_
 ·have e3:(((w.alloc (.cells #[.slice s N.length c] 25)).alloc (.cells #[.int .i64 node,.int .i64 field,.int .i64 n,.string x] 43)).alloc (.cells #[.slice none 0 0] 25)).heap.size=w.heap.size+1+1+1:=by simp
  have ac:=Y.out;have ho:=HO.out;rw[e3] at ac ho;have t1:=zfa w (.cells #[.slice s N.length c] 25) (.cells #[.int .i64 node,.int .i64 field,.int .i64 n,.string x] 43);have t2:=zgc w (.cells #[.slice s N.length c] 25) (.cells #[.int .i64 node,.int .i64 field,.int .i64 n,.string x] 43);have t3:=Yd ((w.alloc (.cells #[.slice s N.length c] 25)).alloc (.cells #[.int .i64 node,.int .i64 field,.int .i64 n,.string x] 43)) (.cells #[.slice none 0 0] 25);simp only[World.size_alloc] at t3;exact⟨I.trans (ac.mono (by omega)),(ac.block _ (by omega)).trans ((Yn _ _ _ (by simp;omega)).trans t1),(ac.block _ (by omega)).trans ((Yn _ _ _ (by simp)).trans t2),(ac.block _ (by omega)).trans t3,ho⟩
 clear a9 HO Y I;intro W f;have C:=J f;have bH:=zaa f.t;have bG:=zaa f.x;have bu:=zaa f.r;have c0:W.cell? ⟨w.heap.size,0,none⟩=some (.slice s N.length c):=Yp 0 f.t rfl;have x0:W.cell? ⟨w.heap.size+1,0,none⟩=some (.int .i64 node):=Yp 0 f.x rfl;have x1:W.cell? ⟨w.heap.size+1,1,none⟩=some (.int .i64 field):=Yp 1 f.x rfl;have x2:W.cell? ⟨w.heap.size+1,2,none⟩=some (.int .i64 n):=Yp 2 f.x rfl;have x3:W.cell? ⟨w.heap.size+1,3,none⟩=some (.string x):=Yp 3 f.x rfl;have r0:W.cell? ⟨w.heap.size+1+1,0,none⟩=some (.slice none 0 0):=Yp 0 f.r rfl;have rz:W.frozen? ⟨w.heap.size+1+1,0,none⟩=false:=Yj _ _ _ _ _ f.r;clear f
 by_cases hl:N.length=0
 ·have bP:((N.length:Int) == 0)=true:=by rw[hl];rfl
  have bz:Below w.heap.size w (W.setCell ⟨w.heap.size+1+1,0,none⟩ (.slice s N.length c)):=C.out.b.setCell (p:=⟨w.heap.size+1+1,0,none⟩) (by show w.heap.size<=w.heap.size+1+1;omega) _;have hE:TuP w (K+1) (.returned (.agg #[.slice s N.length c])) (W.setCell ⟨w.heap.size+1+1,0,none⟩ (.slice s N.length c)):=⟨s,c,Z,by rw[aT.out],⟨H0.out.e.below bz,H0.out.n,H0.out.s,H0.out.l,fun d hd=>Nat.le_succ_of_le (H0.out.k d hd)⟩,bz⟩;have bh:=J hE;have bc:=J (Yf W (w.heap.size+1+1) 0 _ _ (.slice s N.length c) C.out.r);clear hE bz hl
  go_wp2
  exact bodyPost_ret (v:=.agg #[.slice s N.length c]) (zdr Tryz.results15 _ _ (w.heap.size+1+1) 25 #[.slice s N.length c] (0,0) _ rfl bc Tryz.underlying25 rfl (by kernel_rfl)) rfl bh
 ·have bP:((N.length:Int) == 0)=false:=by rw[beq_eq_false_iff_ne];omega
  have bw:(0:Int)<N.length:=by omega
  go_upto_block 0 with fail
  clear c0 x0 x1 r0 rz bH bG;obtain⟨i,hi,bZ⟩:∃ i:Nat,max node 0 % (N.length:Int)=i∧i<N.length:=by
   have h1:0<=max node 0 % (N.length:Int):=Int.emod_nonneg _ (by omega);have h2:max node 0 % (N.length:Int)<N.length:=Int.emod_lt_of_pos _ bw;exact⟨(max node 0 % (N.length:Int)).toNat,by omega,by omega⟩
  obtain⟨p,hp,bL⟩:∃ p:Nat,max n 0 % (N.length:Int)=p∧p<N.length:=by
   have h1:0<=max n 0 % (N.length:Int):=Int.emod_nonneg _ (by omega);have h2:max n 0 % (N.length:Int)<N.length:=Int.emod_lt_of_pos _ bw;exact⟨(max n 0 % (N.length:Int)).toNat,by omega,by omega⟩
  have bW:=J hp;rw[hi];clear hi hp;generalize (RowKit.wrap64 (field.tmod 6+6)).tmod 6=fl;obtain⟨g,b8,es,-,bs,bj⟩:=C.out.o.row (by omega);subst es;have HO:=J C.out.o;have ae:=zaa bj;have cl:∀ j,W.frozen? ⟨g,j,none⟩=false:=fun j=>Yj _ _ _ _ _ bj;obtain⟨m,hm⟩:∃ m,N[i]?=some m:=⟨_,Yh bZ⟩;obtain⟨d,hd⟩:∃ d,Z[i]?=some d:=⟨_,Yh (by have:=aT.out;omega)⟩;obtain⟨sp,cp,e1,a7,-⟩:=OwnG.rows elN HO;injection e1 with e1 _ e3;subst e1 e3;obtain⟨k0,k1,k2,k3,k4,k5,k6⟩:=za5 a7 hm;rw[Nat.zero_add] at k0 k1 k2 k3 k4 k5 k6;have bB:=(HZ w (Yb _ _)).at hm hd;have af:=J bB;have HM:=J hm;have bD:=J hd;have bm:=Ym hd;have aV:=J (HS d bm);have bC:=aA.out d bm;have aU:=J bC;clear a7 hm hd bB bj bm bC
  go_cut [] (fun W2=>TuE w W2 (.slice (some ⟨g,0,none⟩) N.length c2) N.length (K+1))
  case first=>
   by_cases f0:fl=0
   ·have HE:Hid (∀ z:Int,TuE w (W.setCell ⟨g,i * 7,none⟩ (.int .i64 z)) (.slice (some ⟨g,0,none⟩) N.length c2) N.length (K+1)):=J fun z=>
     zmc C.out.b C.out.r HO (HZ w (Yb _ _)) HS.out HL aA (j:=0) (m':=⟨z,m.x,m.n,m.ks,m.kn,m.kc,m.a,m.f,m.t⟩) (d':=⟨z,d.text,d.num,d.kids,d.pos,d.frm,d.to⟩) HM.out (by omega) rfl (fun W' hW=>NodZ.agree (w:=w) (m:=⟨z,m.x,m.n,m.ks,m.kn,m.kc,m.a,m.f,m.t⟩) (d:=⟨z,d.text,d.num,d.kids,d.pos,d.frm,d.to⟩) ⟨⟨rfl,af.out.1.2⟩,af.out.2⟩ (hW.old (C.out.b.setCell (p:=⟨g,i * 7+0,none⟩) (by show w.heap.size<=g;omega) _))) aV.out (by have:=aU.out;show d.kids.length<=_;omega)
    have g0:(fl == 0)=true:=by rw[f0];rfl
    clear f0
    go_wp2
    go_meet
    case rel=>exact HE _
   have g0:(fl == 0)=false:=by simpa using f0
   clear f0
   by_cases f1:fl=1
   ·have HE:Hid (TuE w (W.setCell ⟨g,i * 7+1,none⟩ (.string x)) (.slice (some ⟨g,0,none⟩) N.length c2) N.length (K+1)):=J (zmc C.out.b C.out.r HO (HZ w (Yb _ _)) HS.out HL aA (j:=1) (v:=(.string x)) (m':=⟨m.k,x,m.n,m.ks,m.kn,m.kc,m.a,m.f,m.t⟩) (d':=⟨d.kind,x,d.num,d.kids,d.pos,d.frm,d.to⟩) HM.out (by omega) rfl (fun W' hW=>NodZ.agree (w:=w) (m:=⟨m.k,x,m.n,m.ks,m.kn,m.kc,m.a,m.f,m.t⟩) (d:=⟨d.kind,x,d.num,d.kids,d.pos,d.frm,d.to⟩) ⟨⟨af.out.1.1,rfl,af.out.1.2.2⟩,af.out.2⟩ (hW.old (C.out.b.setCell (p:=⟨g,i * 7+1,none⟩) (by show w.heap.size<=g;omega) _))) ⟨Yo hx (by decide),aV.out.2⟩ (by have:=aU.out;show d.kids.length<=_;omega));have g1:(fl == 1)=true:=by rw[f1];rfl
    clear f1
    go_wp2
    go_meet
    case rel=>exact HE
   have g1:(fl == 1)=false:=by simpa using f1
   clear f1
   by_cases f2:fl=2
   ·have HE:Hid (TuE w (W.setCell ⟨g,i * 7+2,none⟩ (.int .i64 n)) (.slice (some ⟨g,0,none⟩) N.length c2) N.length (K+1)):=J (zmc C.out.b C.out.r HO (HZ w (Yb _ _)) HS.out HL aA (j:=2) (v:=(.int .i64 n)) (m':=⟨m.k,m.x,n,m.ks,m.kn,m.kc,m.a,m.f,m.t⟩) (d':=⟨d.kind,d.text,n,d.kids,d.pos,d.frm,d.to⟩) HM.out (by omega) rfl (fun W' hW=>NodZ.agree (w:=w) (m:=⟨m.k,m.x,n,m.ks,m.kn,m.kc,m.a,m.f,m.t⟩) (d:=⟨d.kind,d.text,n,d.kids,d.pos,d.frm,d.to⟩) ⟨⟨af.out.1.1,af.out.1.2.1,rfl,af.out.1.2.2.2⟩,af.out.2⟩ (hW.old (C.out.b.setCell (p:=⟨g,i * 7+2,none⟩) (by show w.heap.size<=g;omega) _))) ⟨aV.out.1,hn1⟩ (by have:=aU.out;show d.kids.length<=_;omega));have g2:(fl == 2)=true:=by rw[f2];rfl
    clear f2
    go_wp2
    go_meet
    case rel=>exact HE
   have g2:(fl == 2)=false:=by simpa using f2
   clear f2;have bt:Hid (TuE w W (.slice (some ⟨g,0,none⟩) N.length c2) N.length (K+1)):=J ⟨N,Z,rfl,C.out.b,C.out.r,HO.out,fun W' hW=>(HZ w (Yb _ _)).agree (hW.old C.out.b),HS.out,HL.out,fun d hd=>Nat.le_succ_of_le (aA d hd)⟩
   by_cases f3:fl=3
   ·have g3:(fl == 3)=true:=by rw[f3];rfl
    clear f3;have br:m.kn=d.kids.length:=af.out.2.1;have az:=J br;clear br;have aC:=J af.out.2.2.1;have aD:Hid (m.ks=none->d.kids.length=0∧m.kc=0):=J fun e=>by have:=af.out.2.2.2.1.1 e;have:=az.out;omega
    have b7:d.kids.length<=5000:=Yo aU hK;have bU:0<=max n 0:=by omega
    obtain⟨z,bi,cj,ca⟩:∃ z,(max n 0).tmod ((N.length:Int)+2) - 1=z∧-1<=z∧z<=5000:=by
     have h1:=Int.tmod_nonneg (a:=max n 0) ((N.length:Int)+2) bU;have h2:=Int.tmod_lt_of_pos (max n 0) (b:=(N.length:Int)+2) (by omega);have h3:=HL.out;have h4:=aT.out;exact⟨_,rfl,by omega,by omega⟩
    have cr:(i:Int)<N.length:=by omega
    go_upto_region 14 with fail
    have aq:Hid (Below W.heap.size W W.drew):=J (Yb _ _).drew;have aB:Hid (∀ w2 s3 n3 c3,Below W.heap.size W w2->OwnZ2 W.heap.size w2 (.slice s3 n3 c3) (d.kids++[z])->TuE w (w2.setCell ⟨g,i * 7+3,none⟩ (.slice s3 n3 c3)) (.slice (some ⟨g,0,none⟩) N.length c2) N.length (K+1)):=J fun w2 s3 n3 c3 h1 h2=>z1b C.out.b C.out.r HO (HZ w (Yb _ _)) HS.out HL aA hK HM bD ae h1 h2;refine zbc (S:=fun _=>Hid True) 20 rfl (by kernel_rfl) ?_;generalize bS:W.drew=Wd at aq ⊢;clear bS;refine zal 0 56 (.slice (some ⟨g,0,none⟩) N.length c2) rfl (by kernel_rfl) (fun _ _ _ h=>h) (fun w' F=>by have hc:=F.out;first|rfl|(go_simp;done)) (J trivial) ?_;simp only[sI,sS,sZ];refine zal 1 57 (.int .i64 i) rfl (by kernel_rfl) (fun _ _ _ h=>h) (fun w' F=>by have hc:=F.out;first|rfl|(go_simp;done)) (J trivial) ?_;simp only[sI,sS,sZ];refine zal 3 59 (.slice (some ⟨g,0,none⟩) N.length c2) rfl (by kernel_rfl) (fun _ _ _ h=>h) (fun w' F=>by have hc:=F.out;first|rfl|(go_simp;done)) (J trivial) ?_;simp only[sI,sS,sZ];refine zal 4 60 (.int .i64 i) rfl (by kernel_rfl) (fun _ _ _ h=>h) (fun w' F=>by have hc:=F.out;first|rfl|(go_simp;done)) (J trivial) ?_;simp only[sI,sS,sZ];refine zal 5 61 (.pointer (some ⟨g,i * 7,none⟩)) rfl (by kernel_rfl) (fun _ _ _ h=>h) (fun w' F=>by have hc:=F.out;first|rfl|(go_simp;done)) (J trivial) ?_;simp only[sI,sS,sZ];refine zal 6 62 (.pointer (some ⟨g,i * 7+3,none⟩)) rfl (by kernel_rfl) (fun _ _ _ h=>h) (fun w' F=>by have hc:=F.out;first|rfl|(go_simp;done)) (J trivial) ?_;simp only[sI,sS,sZ];refine zal 9 65 (.int .i64 (max n 0)) rfl (by kernel_rfl) (fun _ _ _ h=>h) (fun w' F=>by have hc:=F.out;first|rfl|(go_simp;done)) (J trivial) ?_;simp only[sI,sS,sZ];refine zal 10 66 (.slice (some ⟨g,0,none⟩) N.length c2) rfl (by kernel_rfl) (fun _ _ _ h=>h) (fun w' F=>by have hc:=F.out;first|rfl|(go_simp;done)) (J trivial) ?_
    simp only[sI,sS,sZ];refine zal 11 67 (.int .i64 N.length) rfl (by kernel_rfl) (fun _ _ _ h=>h) (fun w' F=>by have hc:=F.out;first|rfl|(go_simp;done)) (J trivial) ?_;simp only[sI,sS,sZ];refine zal 12 68 (.int .i64 ((N.length:Int)+2)) rfl (by kernel_rfl) (fun _ _ _ h=>h) (fun w' F=>by go_simp;rw[Yi];have h3:=HL.out;have h4:=aT.out;omega) (J trivial) ?_;simp only[sI,sS,sZ];refine zal 13 69 (.int .i64 ((max n 0).tmod ((N.length:Int)+2))) rfl (by kernel_rfl) (fun _ _ _ h=>h) (fun w' F=>by go_simp;omega) (J trivial) ?_;simp only[sI,sS,sZ];refine zal 14 70 (.int .i64 z) rfl (by kernel_rfl) (fun _ _ _ h=>h) (fun w' F=>by go_simp;rw[Yi];omega) (J trivial) ?_;simp only[sI,sS,sZ];refine wpAnyH_all (rs:=[2,7,15]) (by kernel_rfl) (by simp) fun ii hi=>?_;simp only[List.mem_cons,List.not_mem_nil,or_false] at hi;rcases hi with rfl|rfl|rfl
    ·skip
     have bx:=zsz aq;have aX:Below Wd.heap.size Wd (Wd.alloc (.cells #[] 3)):=(Yb _ _).alloc (Ya _) _;have ai:=J (aq.out.trans (aX.mono aq.out.size));have aR:=J bx;have bI:Wd.heap.size<(Wd.alloc (.cells #[] 3)).heap.size:=by simp
     clear bx aX;refine zdf rfl rfl ?_
     go_simp
     refine⟨J trivial,?_⟩
     try simp only[Act.put,sI,sS,sZ]
     generalize ab:Wd.alloc (.cells #[] 3)=We1 at ai aR bI ⊢;clear ab;refine wpAnyH_all (rs:=[7,15]) (by kernel_rfl) (by simp) fun ii hi=>?_;simp only[List.mem_cons,List.not_mem_nil,or_false] at hi;rcases hi with rfl|rfl
     ·skip
      have a8:We1.cell? ⟨g,i * 7+3,none⟩=some (.slice m.ks m.kn m.kc):=(ai.out.cell (p:=⟨g,i * 7+3,none⟩) ae).trans k3;refine zdf rfl rfl ?_
      go_simp
      refine⟨J trivial,?_⟩
      try simp only[Act.put,sI,sS,sZ]
      clear a8;refine wpAnyH_all (rs:=[8,15]) (by kernel_rfl) (by simp) fun ii hi=>?_;simp only[List.mem_cons,List.not_mem_nil,or_false] at hi;rcases hi with rfl|rfl
      ·skip
       obtain⟨be,bp,ba,X,aW,aI,I,bK,bQ⟩:=zgg (cap:=m.kc) ai.out aR aD (zbn (fun q D=>(ai.out.trans (Yb _ _)).block q (Yg D C.out.b.size) |>.trans (C.out.b.block q D)) aC.out) (by simp;omega);rw[List.nil_append] at aI;rw[<-az.out] at aW;have ag:=J I;have aJ:=J aI;clear aI I;refine zdf rfl rfl ?_;refine zaf (.tmp 58) (.tmp 63) 51 rfl rfl rfl aW ?_;refine⟨J trivial,?_⟩
       try simp only[Act.put]
       try simp only[List.setIfInBounds_toArray]
       try simp only[List.set_cons_succ]
       try simp only[List.set_cons_zero]
       have M:Below X.heap.size X (X.alloc (.cells #[.int .i64 z] 3)):=(Yb _ _).alloc (Ya _) _;have aj:=J (ag.out.trans (M.mono ag.out.size));have ah:Hid ((X.alloc (.cells #[.int .i64 z] 3)).heap[X.heap.size]?=some (.cells #[.int .i64 z] 3 (0,0))):=J (Yd _ _);have ak:=J (aJ.out.keep fun q D=>M.block q (aJ.out.lt D).2);have aO:Hid (∀ q,(Value.slice be bp ba).ownBlock=some q->q≠X.heap.size):=J fun q D=>by have:=(aJ.out.lt D).2;omega
       clear M;refine zac 15 rfl (by kernel_rfl) ?_
       go_simp
       refine⟨J trivial,?_⟩
       try simp only[Act.put,sI,sS,sZ]
       have bf:X.heap.size<(X.alloc (.cells #[.int .i64 z] 3)).heap.size:=by simp
       generalize ab:X.alloc (.cells #[.int .i64 z] 3)=aL at bf aj ah ak ⊢;clear ab;obtain⟨aF,aH,aM,U,ao,V,E,aP,aN⟩:=zgg (ys:=[z]) (cap:=1) aj.out ak (fun e=>by cases e) (zar ah) (by simp;omega);have HT:=J (aB _ _ _ _ E V);have aE:U.cell? ⟨g,i * 7+3,none⟩=some (.slice m.ks m.kn m.kc):=(E.cell (p:=⟨g,i * 7+3,none⟩) ae).trans k3;have aG:U.frozen? ⟨g,i * 7+3,none⟩=false:=by
        obtain⟨g',aQ,A,-,-,an⟩:=HO.out.row (by omega);injection A with A;injection A with A;subst A;exact Yj _ _ _ _ _ ((E.block _ ae).trans an)
       clear V E;refine zac 16 rfl (by kernel_rfl) ?_;refine zaf (.tmp 64) (.tmp 71) 51 rfl rfl rfl ao ?_;refine⟨J trivial,?_⟩;simp only[Act.put,sI,sS,sZ];refine zal 17 73 (.pointer (some ⟨g,i * 7,none⟩)) rfl (by kernel_rfl) (fun _ _ _ h=>h) (fun w' F=>by first|rfl|(go_simp;done)) (J trivial) ?_;simp only[sI,sS,sZ];refine zal 18 74 (.pointer (some ⟨g,i * 7+3,none⟩)) rfl (by kernel_rfl) (fun _ _ _ h=>h) (fun w' F=>by first|rfl|(go_simp;done)) (J trivial) ?_;simp only[sI,sS,sZ];refine zac 19 rfl (by kernel_rfl) ?_
       go_simp
       refine⟨J trivial,?_⟩;refine wpAnyH_done (by kernel_rfl) ?_ _
       go_wp2
       go_meet
       case rel=>exact HT
      ·skip
       have I:Below We1.heap.size We1 (We1.alloc (.cells #[.int .i64 z] 3)):=(Yb _ _).alloc (Ya _) _;have ag:=J (ai.out.trans (I.mono ai.out.size));have am:Hid ((We1.alloc (.cells #[.int .i64 z] 3)).heap[We1.heap.size]?=some (.cells #[.int .i64 z] 3 (0,0))):=J (Yd _ _);have ax:=J (aR.out.keep fun q D=>I.block q (aR.out.lt D).2);clear I;refine zdf rfl rfl ?_
       go_simp
       refine⟨J trivial,?_⟩
       try simp only[Act.put,sI,sS,sZ]
       have bn:We1.heap.size<(We1.alloc (.cells #[.int .i64 z] 3)).heap.size:=by simp
       generalize ab:We1.alloc (.cells #[.int .i64 z] 3)=X at bn ag am ax ⊢;clear ab;obtain⟨av,au,aw,aL,al,aa,M,aZ,ar⟩:=zgg (cap:=m.kc) ag.out ax aD (zbn (fun q D=>(ag.out.trans (Yb _ _)).block q (Yg D C.out.b.size) |>.trans (C.out.b.block q D)) aC.out) (by simp;omega);rw[List.nil_append] at aa;rw[<-az.out] at al;have aj:=J M;have ak:=J aa;have ah:=J ((ar _ (zaa am) (fun e=>by have e':Wd.heap.size=We1.heap.size:=Yl e;omega)).trans am);have aO:Hid (∀ q,(Value.slice av au aw).ownBlock=some q->True):=J fun _ _=>trivial;clear aa M;refine zac 8 rfl (by kernel_rfl) ?_;refine zaf (.tmp 58) (.tmp 63) 51 rfl rfl rfl al ?_;refine⟨J trivial,?_⟩
       try simp only[Act.put]
       try simp only[List.setIfInBounds_toArray]
       try simp only[List.set_cons_succ]
       try simp only[List.set_cons_zero]
       obtain⟨aF,aH,aM,U,ao,V,E,aP,aN⟩:=zgg (ys:=[z]) (cap:=1) aj.out ak (fun e=>by cases e) (zar ah) (by simp;omega);have HT:=J (aB _ _ _ _ E V);have aE:U.cell? ⟨g,i * 7+3,none⟩=some (.slice m.ks m.kn m.kc):=(E.cell (p:=⟨g,i * 7+3,none⟩) ae).trans k3;have aG:U.frozen? ⟨g,i * 7+3,none⟩=false:=by
        obtain⟨g',aQ,A,-,-,an⟩:=HO.out.row (by omega);injection A with A;injection A with A;subst A;exact Yj _ _ _ _ _ ((E.block _ ae).trans an)
       clear V E;refine zac 16 rfl (by kernel_rfl) ?_;refine zaf (.tmp 64) (.tmp 71) 51 rfl rfl rfl ao ?_;refine⟨J trivial,?_⟩;simp only[Act.put,sI,sS,sZ];refine zal 17 73 (.pointer (some ⟨g,i * 7,none⟩)) rfl (by kernel_rfl) (fun _ _ _ h=>h) (fun w' F=>by first|rfl|(go_simp;done)) (J trivial) ?_;simp only[sI,sS,sZ];refine zal 18 74 (.pointer (some ⟨g,i * 7+3,none⟩)) rfl (by kernel_rfl) (fun _ _ _ h=>h) (fun w' F=>by first|rfl|(go_simp;done)) (J trivial) ?_;simp only[sI,sS,sZ];refine zac 19 rfl (by kernel_rfl) ?_
       go_simp
       refine⟨J trivial,?_⟩;refine wpAnyH_done (by kernel_rfl) ?_ _
       go_wp2
       go_meet
       case rel=>exact HT
     ·skip
      have ac:Below We1.heap.size We1 (We1.alloc (.cells #[.int .i64 z] 3)):=(Yb _ _).alloc (Ya _) _;have Y:=J (ai.out.trans (ac.mono ai.out.size));have ap:Hid ((We1.alloc (.cells #[.int .i64 z] 3)).heap[We1.heap.size]?=some (.cells #[.int .i64 z] 3 (0,0))):=J (Yd _ _);have ay:=J (aR.out.keep fun q D=>ac.block q (aR.out.lt D).2);clear ac;refine zdf rfl rfl ?_
      go_simp
      refine⟨J trivial,?_⟩
      try simp only[Act.put,sI,sS,sZ]
      have bo:We1.heap.size<(We1.alloc (.cells #[.int .i64 z] 3)).heap.size:=by simp
      generalize ab:We1.alloc (.cells #[.int .i64 z] 3)=We2 at bo Y ap ay ⊢;clear ab;have bb:We2.cell? ⟨g,i * 7+3,none⟩=some (.slice m.ks m.kn m.kc):=(Y.out.cell (p:=⟨g,i * 7+3,none⟩) ae).trans k3;refine zac 7 rfl (by kernel_rfl) ?_
      go_simp
      refine⟨J trivial,?_⟩
      try simp only[Act.put,sI,sS,sZ]
      clear bb;obtain⟨av,au,aw,aL,al,aa,M,aZ,ar⟩:=zgg (cap:=m.kc) Y.out ay aD (zbn (fun q D=>(Y.out.trans (Yb _ _)).block q (Yg D C.out.b.size) |>.trans (C.out.b.block q D)) aC.out) (by simp;omega);rw[List.nil_append] at aa;rw[<-az.out] at al;have aj:=J M;have ak:=J aa;have ah:=J ((ar _ (zaa ap) (fun e=>by have e':Wd.heap.size=We1.heap.size:=Yl e;omega)).trans ap);have aO:Hid (∀ q,(Value.slice av au aw).ownBlock=some q->True):=J fun _ _=>trivial;clear aa M;refine zac 8 rfl (by kernel_rfl) ?_;refine zaf (.tmp 58) (.tmp 63) 51 rfl rfl rfl al ?_;refine⟨J trivial,?_⟩
      try simp only[Act.put]
      try simp only[List.setIfInBounds_toArray]
      try simp only[List.set_cons_succ]
      try simp only[List.set_cons_zero]
      obtain⟨aF,aH,aM,U,ao,V,E,aP,aN⟩:=zgg (ys:=[z]) (cap:=1) aj.out ak (fun e=>by cases e) (zar ah) (by simp;omega);have HT:=J (aB _ _ _ _ E V);have aE:U.cell? ⟨g,i * 7+3,none⟩=some (.slice m.ks m.kn m.kc):=(E.cell (p:=⟨g,i * 7+3,none⟩) ae).trans k3;have aG:U.frozen? ⟨g,i * 7+3,none⟩=false:=by
       obtain⟨g',aQ,A,-,-,an⟩:=HO.out.row (by omega);injection A with A;injection A with A;subst A;exact Yj _ _ _ _ _ ((E.block _ ae).trans an)
      clear V E;refine zac 16 rfl (by kernel_rfl) ?_;refine zaf (.tmp 64) (.tmp 71) 51 rfl rfl rfl ao ?_;refine⟨J trivial,?_⟩;simp only[Act.put,sI,sS,sZ];refine zal 17 73 (.pointer (some ⟨g,i * 7,none⟩)) rfl (by kernel_rfl) (fun _ _ _ h=>h) (fun w' F=>by first|rfl|(go_simp;done)) (J trivial) ?_;simp only[sI,sS,sZ];refine zal 18 74 (.pointer (some ⟨g,i * 7+3,none⟩)) rfl (by kernel_rfl) (fun _ _ _ h=>h) (fun w' F=>by first|rfl|(go_simp;done)) (J trivial) ?_;simp only[sI,sS,sZ];refine zac 19 rfl (by kernel_rfl) ?_
      go_simp
      refine⟨J trivial,?_⟩;refine wpAnyH_done (by kernel_rfl) ?_ _
      go_wp2
      go_meet
      case rel=>exact HT
    ·skip
     have bE:Wd.cell? ⟨g,i * 7+3,none⟩=some (.slice m.ks m.kn m.kc):=(aq.out.cell (p:=⟨g,i * 7+3,none⟩) ae).trans k3;refine zdf rfl rfl ?_
     go_simp
     refine⟨J trivial,?_⟩
     try simp only[Act.put,sI,sS,sZ]
     clear bE;refine wpAnyH_all (rs:=[2,15]) (by kernel_rfl) (by simp) fun ii hi=>?_;simp only[List.mem_cons,List.not_mem_nil,or_false] at hi;rcases hi with rfl|rfl
     ·skip
      have a0:=zsz aq;have ac:Below Wd.heap.size Wd (Wd.alloc (.cells #[] 3)):=(Yb _ _).alloc (Ya _) _;have Y:=J (aq.out.trans (ac.mono aq.out.size));have ay:=J a0;have bl:Wd.heap.size<(Wd.alloc (.cells #[] 3)).heap.size:=by simp
      clear a0 ac;refine zdf rfl rfl ?_
      go_simp
      refine⟨J trivial,?_⟩
      try simp only[Act.put,sI,sS,sZ]
      generalize ab:Wd.alloc (.cells #[] 3)=We2 at Y ay bl ⊢;clear ab;refine wpAnyH_all (rs:=[8,15]) (by kernel_rfl) (by simp) fun ii hi=>?_;simp only[List.mem_cons,List.not_mem_nil,or_false] at hi;rcases hi with rfl|rfl
      ·skip
       obtain⟨be,bp,ba,X,aW,aI,I,bK,bQ⟩:=zgg (cap:=m.kc) Y.out ay aD (zbn (fun q D=>(Y.out.trans (Yb _ _)).block q (Yg D C.out.b.size) |>.trans (C.out.b.block q D)) aC.out) (by simp;omega);rw[List.nil_append] at aI;rw[<-az.out] at aW;have ag:=J I;have aJ:=J aI;clear aI I;refine zdf rfl rfl ?_;refine zaf (.tmp 58) (.tmp 63) 51 rfl rfl rfl aW ?_;refine⟨J trivial,?_⟩
       try simp only[Act.put]
       try simp only[List.setIfInBounds_toArray]
       try simp only[List.set_cons_succ]
       try simp only[List.set_cons_zero]
       have M:Below X.heap.size X (X.alloc (.cells #[.int .i64 z] 3)):=(Yb _ _).alloc (Ya _) _;have aj:=J (ag.out.trans (M.mono ag.out.size));have ah:Hid ((X.alloc (.cells #[.int .i64 z] 3)).heap[X.heap.size]?=some (.cells #[.int .i64 z] 3 (0,0))):=J (Yd _ _);have ak:=J (aJ.out.keep fun q D=>M.block q (aJ.out.lt D).2);have aO:Hid (∀ q,(Value.slice be bp ba).ownBlock=some q->q≠X.heap.size):=J fun q D=>by have:=(aJ.out.lt D).2;omega
       clear M;refine zac 15 rfl (by kernel_rfl) ?_
       go_simp
       refine⟨J trivial,?_⟩
       try simp only[Act.put,sI,sS,sZ]
       have bf:X.heap.size<(X.alloc (.cells #[.int .i64 z] 3)).heap.size:=by simp
       generalize ab:X.alloc (.cells #[.int .i64 z] 3)=aL at bf aj ah ak ⊢;clear ab;obtain⟨aF,aH,aM,U,ao,V,E,aP,aN⟩:=zgg (ys:=[z]) (cap:=1) aj.out ak (fun e=>by cases e) (zar ah) (by simp;omega);have HT:=J (aB _ _ _ _ E V);have aE:U.cell? ⟨g,i * 7+3,none⟩=some (.slice m.ks m.kn m.kc):=(E.cell (p:=⟨g,i * 7+3,none⟩) ae).trans k3;have aG:U.frozen? ⟨g,i * 7+3,none⟩=false:=by
        obtain⟨g',aQ,A,-,-,an⟩:=HO.out.row (by omega);injection A with A;injection A with A;subst A;exact Yj _ _ _ _ _ ((E.block _ ae).trans an)
       clear V E;refine zac 16 rfl (by kernel_rfl) ?_;refine zaf (.tmp 64) (.tmp 71) 51 rfl rfl rfl ao ?_;refine⟨J trivial,?_⟩;simp only[Act.put,sI,sS,sZ];refine zal 17 73 (.pointer (some ⟨g,i * 7,none⟩)) rfl (by kernel_rfl) (fun _ _ _ h=>h) (fun w' F=>by first|rfl|(go_simp;done)) (J trivial) ?_;simp only[sI,sS,sZ];refine zal 18 74 (.pointer (some ⟨g,i * 7+3,none⟩)) rfl (by kernel_rfl) (fun _ _ _ h=>h) (fun w' F=>by first|rfl|(go_simp;done)) (J trivial) ?_;simp only[sI,sS,sZ];refine zac 19 rfl (by kernel_rfl) ?_
       go_simp
       refine⟨J trivial,?_⟩;refine wpAnyH_done (by kernel_rfl) ?_ _
       go_wp2
       go_meet
       case rel=>exact HT
      ·skip
       have I:Below We2.heap.size We2 (We2.alloc (.cells #[.int .i64 z] 3)):=(Yb _ _).alloc (Ya _) _;have ag:=J (Y.out.trans (I.mono Y.out.size));have am:Hid ((We2.alloc (.cells #[.int .i64 z] 3)).heap[We2.heap.size]?=some (.cells #[.int .i64 z] 3 (0,0))):=J (Yd _ _);have ax:=J (ay.out.keep fun q D=>I.block q (ay.out.lt D).2);clear I;refine zdf rfl rfl ?_
       go_simp
       refine⟨J trivial,?_⟩
       try simp only[Act.put,sI,sS,sZ]
       have bn:We2.heap.size<(We2.alloc (.cells #[.int .i64 z] 3)).heap.size:=by simp
       generalize ab:We2.alloc (.cells #[.int .i64 z] 3)=X at bn ag am ax ⊢;clear ab;obtain⟨av,au,aw,aL,al,aa,M,aZ,ar⟩:=zgg (cap:=m.kc) ag.out ax aD (zbn (fun q D=>(ag.out.trans (Yb _ _)).block q (Yg D C.out.b.size) |>.trans (C.out.b.block q D)) aC.out) (by simp;omega);rw[List.nil_append] at aa;rw[<-az.out] at al;have aj:=J M;have ak:=J aa;have ah:=J ((ar _ (zaa am) (fun e=>by have e':Wd.heap.size=We2.heap.size:=Yl e;omega)).trans am);have aO:Hid (∀ q,(Value.slice av au aw).ownBlock=some q->True):=J fun _ _=>trivial;clear aa M;refine zac 8 rfl (by kernel_rfl) ?_;refine zaf (.tmp 58) (.tmp 63) 51 rfl rfl rfl al ?_;refine⟨J trivial,?_⟩
       try simp only[Act.put]
       try simp only[List.setIfInBounds_toArray]
       try simp only[List.set_cons_succ]
       try simp only[List.set_cons_zero]
       obtain⟨aF,aH,aM,U,ao,V,E,aP,aN⟩:=zgg (ys:=[z]) (cap:=1) aj.out ak (fun e=>by cases e) (zar ah) (by simp;omega);have HT:=J (aB _ _ _ _ E V);have aE:U.cell? ⟨g,i * 7+3,none⟩=some (.slice m.ks m.kn m.kc):=(E.cell (p:=⟨g,i * 7+3,none⟩) ae).trans k3;have aG:U.frozen? ⟨g,i * 7+3,none⟩=false:=by
        obtain⟨g',aQ,A,-,-,an⟩:=HO.out.row (by omega);injection A with A;injection A with A;subst A;exact Yj _ _ _ _ _ ((E.block _ ae).trans an)
       clear V E;refine zac 16 rfl (by kernel_rfl) ?_;refine zaf (.tmp 64) (.tmp 71) 51 rfl rfl rfl ao ?_;refine⟨J trivial,?_⟩;simp only[Act.put,sI,sS,sZ];refine zal 17 73 (.pointer (some ⟨g,i * 7,none⟩)) rfl (by kernel_rfl) (fun _ _ _ h=>h) (fun w' F=>by first|rfl|(go_simp;done)) (J trivial) ?_;simp only[sI,sS,sZ];refine zal 18 74 (.pointer (some ⟨g,i * 7+3,none⟩)) rfl (by kernel_rfl) (fun _ _ _ h=>h) (fun w' F=>by first|rfl|(go_simp;done)) (J trivial) ?_;simp only[sI,sS,sZ];refine zac 19 rfl (by kernel_rfl) ?_
       go_simp
       refine⟨J trivial,?_⟩;refine wpAnyH_done (by kernel_rfl) ?_ _
       go_wp2
       go_meet
       case rel=>exact HT
     ·skip
      have ac:Below Wd.heap.size Wd (Wd.alloc (.cells #[.int .i64 z] 3)):=(Yb _ _).alloc (Ya _) _;have Y:=J (aq.out.trans (ac.mono aq.out.size));have ap:Hid ((Wd.alloc (.cells #[.int .i64 z] 3)).heap[Wd.heap.size]?=some (.cells #[.int .i64 z] 3 (0,0))):=J (Yd _ _);clear ac;refine zdf rfl rfl ?_
      go_simp
      refine⟨J trivial,?_⟩
      try simp only[Act.put,sI,sS,sZ]
      have bo:Wd.heap.size<(Wd.alloc (.cells #[.int .i64 z] 3)).heap.size:=by simp
      generalize ab:Wd.alloc (.cells #[.int .i64 z] 3)=We2 at bo Y ap ⊢;clear ab;have aY:=zsz Y;have I:Below We2.heap.size We2 (We2.alloc (.cells #[] 3)):=(Yb _ _).alloc (Ya _) _;have ag:=J (Y.out.trans (I.mono Y.out.size));have ax:=J aY;have bq:We2.heap.size<(We2.alloc (.cells #[] 3)).heap.size:=by simp
      have am:=J ((I.block _ (zaa ap)).trans ap);have bM:=zaa ap;clear aY I;refine zac 2 rfl (by kernel_rfl) ?_
      go_simp
      refine⟨J trivial,?_⟩
      try simp only[Act.put,sI,sS,sZ]
      generalize ab:We2.alloc (.cells #[] 3)=X at ag ax bq am ⊢;clear ab;obtain⟨av,au,aw,aL,al,aa,M,aZ,ar⟩:=zgg (cap:=m.kc) ag.out ax aD (zbn (fun q D=>(ag.out.trans (Yb _ _)).block q (Yg D C.out.b.size) |>.trans (C.out.b.block q D)) aC.out) (by simp;omega);rw[List.nil_append] at aa;rw[<-az.out] at al;have aj:=J M;have ak:=J aa;have ah:=J ((ar _ (zaa am) (fun e=>by have e':We2.heap.size=Wd.heap.size:=Yl e;omega)).trans am);have aO:Hid (∀ q,(Value.slice av au aw).ownBlock=some q->True):=J fun _ _=>trivial;clear aa M;refine zac 8 rfl (by kernel_rfl) ?_;refine zaf (.tmp 58) (.tmp 63) 51 rfl rfl rfl al ?_;refine⟨J trivial,?_⟩
      try simp only[Act.put]
      try simp only[List.setIfInBounds_toArray]
      try simp only[List.set_cons_succ]
      try simp only[List.set_cons_zero]
      obtain⟨aF,aH,aM,U,ao,V,E,aP,aN⟩:=zgg (ys:=[z]) (cap:=1) aj.out ak (fun e=>by cases e) (zar ah) (by simp;omega);have HT:=J (aB _ _ _ _ E V);have aE:U.cell? ⟨g,i * 7+3,none⟩=some (.slice m.ks m.kn m.kc):=(E.cell (p:=⟨g,i * 7+3,none⟩) ae).trans k3;have aG:U.frozen? ⟨g,i * 7+3,none⟩=false:=by
       obtain⟨g',aQ,A,-,-,an⟩:=HO.out.row (by omega);injection A with A;injection A with A;subst A;exact Yj _ _ _ _ _ ((E.block _ ae).trans an)
      clear V E;refine zac 16 rfl (by kernel_rfl) ?_;refine zaf (.tmp 64) (.tmp 71) 51 rfl rfl rfl ao ?_;refine⟨J trivial,?_⟩;simp only[Act.put,sI,sS,sZ];refine zal 17 73 (.pointer (some ⟨g,i * 7,none⟩)) rfl (by kernel_rfl) (fun _ _ _ h=>h) (fun w' F=>by first|rfl|(go_simp;done)) (J trivial) ?_;simp only[sI,sS,sZ];refine zal 18 74 (.pointer (some ⟨g,i * 7+3,none⟩)) rfl (by kernel_rfl) (fun _ _ _ h=>h) (fun w' F=>by first|rfl|(go_simp;done)) (J trivial) ?_;simp only[sI,sS,sZ];refine zac 19 rfl (by kernel_rfl) ?_
      go_simp
      refine⟨J trivial,?_⟩;refine wpAnyH_done (by kernel_rfl) ?_ _
      go_wp2
      go_meet
      case rel=>exact HT
    ·skip
     have aX:Below Wd.heap.size Wd (Wd.alloc (.cells #[.int .i64 z] 3)):=(Yb _ _).alloc (Ya _) _;have ai:=J (aq.out.trans (aX.mono aq.out.size));have aK:Hid ((Wd.alloc (.cells #[.int .i64 z] 3)).heap[Wd.heap.size]?=some (.cells #[.int .i64 z] 3 (0,0))):=J (Yd _ _);clear aX;refine zdf rfl rfl ?_
     go_simp
     refine⟨J trivial,?_⟩
     try simp only[Act.put,sI,sS,sZ]
     have bT:Wd.heap.size<(Wd.alloc (.cells #[.int .i64 z] 3)).heap.size:=by simp
     generalize ab:Wd.alloc (.cells #[.int .i64 z] 3)=We1 at bT ai aK ⊢;clear ab;refine wpAnyH_all (rs:=[2,7]) (by kernel_rfl) (by simp) fun ii hi=>?_;simp only[List.mem_cons,List.not_mem_nil,or_false] at hi;rcases hi with rfl|rfl
     ·skip
      have a0:=zsz ai;have ac:Below We1.heap.size We1 (We1.alloc (.cells #[] 3)):=(Yb _ _).alloc (Ya _) _;have Y:=J (ai.out.trans (ac.mono ai.out.size));have ay:=J a0;have bl:We1.heap.size<(We1.alloc (.cells #[] 3)).heap.size:=by simp
      have ap:=J ((ac.block _ (zaa aK)).trans aK);have ce:=zaa aK;clear a0 ac;refine zdf rfl rfl ?_
      go_simp
      refine⟨J trivial,?_⟩
      try simp only[Act.put,sI,sS,sZ]
      generalize ab:We1.alloc (.cells #[] 3)=We2 at Y ay bl ap ⊢;clear ab;have bb:We2.cell? ⟨g,i * 7+3,none⟩=some (.slice m.ks m.kn m.kc):=(Y.out.cell (p:=⟨g,i * 7+3,none⟩) ae).trans k3;refine zac 7 rfl (by kernel_rfl) ?_
      go_simp
      refine⟨J trivial,?_⟩
      try simp only[Act.put,sI,sS,sZ]
      clear bb;obtain⟨av,au,aw,aL,al,aa,M,aZ,ar⟩:=zgg (cap:=m.kc) Y.out ay aD (zbn (fun q D=>(Y.out.trans (Yb _ _)).block q (Yg D C.out.b.size) |>.trans (C.out.b.block q D)) aC.out) (by simp;omega);rw[List.nil_append] at aa;rw[<-az.out] at al;have aj:=J M;have ak:=J aa;have ah:=J ((ar _ (zaa ap) (fun e=>by have e':We1.heap.size=Wd.heap.size:=Yl e;omega)).trans ap);have aO:Hid (∀ q,(Value.slice av au aw).ownBlock=some q->True):=J fun _ _=>trivial;clear aa M;refine zac 8 rfl (by kernel_rfl) ?_;refine zaf (.tmp 58) (.tmp 63) 51 rfl rfl rfl al ?_;refine⟨J trivial,?_⟩
      try simp only[Act.put]
      try simp only[List.setIfInBounds_toArray]
      try simp only[List.set_cons_succ]
      try simp only[List.set_cons_zero]
      obtain⟨aF,aH,aM,U,ao,V,E,aP,aN⟩:=zgg (ys:=[z]) (cap:=1) aj.out ak (fun e=>by cases e) (zar ah) (by simp;omega);have HT:=J (aB _ _ _ _ E V);have aE:U.cell? ⟨g,i * 7+3,none⟩=some (.slice m.ks m.kn m.kc):=(E.cell (p:=⟨g,i * 7+3,none⟩) ae).trans k3;have aG:U.frozen? ⟨g,i * 7+3,none⟩=false:=by
       obtain⟨g',aQ,A,-,-,an⟩:=HO.out.row (by omega);injection A with A;injection A with A;subst A;exact Yj _ _ _ _ _ ((E.block _ ae).trans an)
      clear V E;refine zac 16 rfl (by kernel_rfl) ?_;refine zaf (.tmp 64) (.tmp 71) 51 rfl rfl rfl ao ?_;refine⟨J trivial,?_⟩;simp only[Act.put,sI,sS,sZ];refine zal 17 73 (.pointer (some ⟨g,i * 7,none⟩)) rfl (by kernel_rfl) (fun _ _ _ h=>h) (fun w' F=>by first|rfl|(go_simp;done)) (J trivial) ?_;simp only[sI,sS,sZ];refine zal 18 74 (.pointer (some ⟨g,i * 7+3,none⟩)) rfl (by kernel_rfl) (fun _ _ _ h=>h) (fun w' F=>by first|rfl|(go_simp;done)) (J trivial) ?_;simp only[sI,sS,sZ];refine zac 19 rfl (by kernel_rfl) ?_
      go_simp
      refine⟨J trivial,?_⟩;refine wpAnyH_done (by kernel_rfl) ?_ _
      go_wp2
      go_meet
      case rel=>exact HT
     ·skip
      have a8:We1.cell? ⟨g,i * 7+3,none⟩=some (.slice m.ks m.kn m.kc):=(ai.out.cell (p:=⟨g,i * 7+3,none⟩) ae).trans k3;refine zdf rfl rfl ?_
      go_simp
      refine⟨J trivial,?_⟩
      try simp only[Act.put,sI,sS,sZ]
      clear a8;have aY:=zsz ai;have I:Below We1.heap.size We1 (We1.alloc (.cells #[] 3)):=(Yb _ _).alloc (Ya _) _;have ag:=J (ai.out.trans (I.mono ai.out.size));have ax:=J aY;have bq:We1.heap.size<(We1.alloc (.cells #[] 3)).heap.size:=by simp
      have am:=J ((I.block _ (zaa aK)).trans aK);have bM:=zaa aK;clear aY I;refine zac 2 rfl (by kernel_rfl) ?_
      go_simp
      refine⟨J trivial,?_⟩
      try simp only[Act.put,sI,sS,sZ]
      generalize ab:We1.alloc (.cells #[] 3)=X at ag ax bq am ⊢;clear ab;obtain⟨av,au,aw,aL,al,aa,M,aZ,ar⟩:=zgg (cap:=m.kc) ag.out ax aD (zbn (fun q D=>(ag.out.trans (Yb _ _)).block q (Yg D C.out.b.size) |>.trans (C.out.b.block q D)) aC.out) (by simp;omega);rw[List.nil_append] at aa;rw[<-az.out] at al;have aj:=J M;have ak:=J aa;have ah:=J ((ar _ (zaa am) (fun e=>by have e':We1.heap.size=Wd.heap.size:=Yl e;omega)).trans am);have aO:Hid (∀ q,(Value.slice av au aw).ownBlock=some q->True):=J fun _ _=>trivial;clear aa M;refine zac 8 rfl (by kernel_rfl) ?_;refine zaf (.tmp 58) (.tmp 63) 51 rfl rfl rfl al ?_;refine⟨J trivial,?_⟩
      try simp only[Act.put]
      try simp only[List.setIfInBounds_toArray]
      try simp only[List.set_cons_succ]
      try simp only[List.set_cons_zero]
      obtain⟨aF,aH,aM,U,ao,V,E,aP,aN⟩:=zgg (ys:=[z]) (cap:=1) aj.out ak (fun e=>by cases e) (zar ah) (by simp;omega);have HT:=J (aB _ _ _ _ E V);have aE:U.cell? ⟨g,i * 7+3,none⟩=some (.slice m.ks m.kn m.kc):=(E.cell (p:=⟨g,i * 7+3,none⟩) ae).trans k3;have aG:U.frozen? ⟨g,i * 7+3,none⟩=false:=by
       obtain⟨g',aQ,A,-,-,an⟩:=HO.out.row (by omega);injection A with A;injection A with A;subst A;exact Yj _ _ _ _ _ ((E.block _ ae).trans an)
      clear V E;refine zac 16 rfl (by kernel_rfl) ?_;refine zaf (.tmp 64) (.tmp 71) 51 rfl rfl rfl ao ?_;refine⟨J trivial,?_⟩;simp only[Act.put,sI,sS,sZ];refine zal 17 73 (.pointer (some ⟨g,i * 7,none⟩)) rfl (by kernel_rfl) (fun _ _ _ h=>h) (fun w' F=>by first|rfl|(go_simp;done)) (J trivial) ?_;simp only[sI,sS,sZ];refine zal 18 74 (.pointer (some ⟨g,i * 7+3,none⟩)) rfl (by kernel_rfl) (fun _ _ _ h=>h) (fun w' F=>by first|rfl|(go_simp;done)) (J trivial) ?_;simp only[sI,sS,sZ];refine zac 19 rfl (by kernel_rfl) ?_
      go_simp
      refine⟨J trivial,?_⟩;refine wpAnyH_done (by kernel_rfl) ?_ _
      go_wp2
      go_meet
      case rel=>exact HT
   have g3:(fl == 3)=false:=by simpa using f3
   clear f3
   by_cases f4:fl=4
   ·have g4:(fl == 4)=true:=by rw[f4];rfl
    clear f4
    by_cases hk0:m.kn=0
    ·rw[hk0] at k3;clear hk0
     go_wp2
     go_meet
     case rel=>exact bt
    ·obtain⟨q,D⟩:∃ q,m.kn=q+1:=⟨m.kn - 1,by omega⟩;have bF:m.kn=d.kids.length:=af.out.2.1;have b9:q+1<=m.kc:=by have:=af.out.2.2.2.1.2.1;omega
     have cc:m.kc<=9223372036854775807:=af.out.2.2.2.1.2.2;have HE:Hid (TuE w (W.setCell ⟨g,i * 7+3,none⟩ (.slice m.ks q m.kc)) (.slice (some ⟨g,0,none⟩) N.length c2) N.length (K+1)):=J (zmc C.out.b C.out.r HO (HZ w (Yb _ _)) HS.out HL aA (j:=3) (v:=.slice m.ks q m.kc) (m':=⟨m.k,m.x,m.n,m.ks,q,m.kc,m.a,m.f,m.t⟩) (d':=⟨d.kind,d.text,d.num,d.kids.take q,d.pos,d.frm,d.to⟩) HM.out (by omega) rfl (fun W' hW=>NodZ.agree (w:=w) (m:=⟨m.k,m.x,m.n,m.ks,q,m.kc,m.a,m.f,m.t⟩) (d:=⟨d.kind,d.text,d.num,d.kids.take q,d.pos,d.frm,d.to⟩) ⟨af.out.1,by show q=(d.kids.take q).length;rw[List.length_take];omega,znk af.out.2.2.1 q,⟨fun e=>by have:=(af.out.2.2.2.1.1 e).1;omega,by show q<=m.kc;omega,af.out.2.2.2.1.2.2⟩,by show q<=100000;have:=af.out.2.2.2.2;omega⟩ (hW.old (C.out.b.setCell (p:=⟨g,i * 7+3,none⟩) (by show w.heap.size<=g;omega) _))) aV.out (by show(d.kids.take q).length<=_;rw[List.length_take];have:=aU.out;omega));rw[D] at k3;have ck:decide ((q:Int)+1 > 0)=true:=decide_eq_true (by omega);clear bF hk0 D
     go_wp2
     go_region
     go_wp2
     go_meet
     case rel=>exact HE.out.drew
   have g4:(fl == 4)=false:=by simpa using f4
   clear f4
   by_cases f5:fl=5
   ·have g5:(fl == 5)=true:=by rw[f5];rfl
    clear f5;have cf:=bW.out;obtain⟨y,hy⟩:∃ y,N[p]?=some y:=⟨_,Yh bL⟩;have bV:=(OwnG.rows elN HO);obtain⟨ct,ci,e9,bA,-⟩:=bV;injection e9 with e7 _ e8;subst e7 e8;obtain⟨q0,q1,q2,q3,q4,q5,q6⟩:=za5 bA hy;rw[Nat.zero_add] at q0 q1 q2 q3 q4 q5 q6;have bk:Hid (∀ W1 W2:World,_=W1->_=W2->TuE w W2 (.slice (some ⟨g,0,none⟩) N.length c2) N.length (K+1)):=J fun W1 W2 h1 h2=>zsy C.out.b C.out.r HO (HZ w (Yb _ _)) HS.out HL aA bs HM hy h1 h2;clear bA hy;obtain⟨mk,mx,mn,ms,ch,co,ma,mf,mt⟩:=m;obtain⟨yk,yx,yn,ys,cq,cb,ya,yf,yt⟩:=y
    dsimp only at k0 k1 k2 k3 k4 k5 k6 q0 q1 q2 q3 q4 q5 q6 bk
    by_cases hip:p=i
    ·subst hip;clear q0 q1 q2 q3 q4 q5 q6 bk
     go_wp2
     go_region
     go_wp2
     go_meet
     case rel=>exact(zsy C.out.b C.out.r HO (HZ w (Yb _ _)) HS.out HL aA bs HM HM rfl rfl).drew
    ·have b0:¬ i=p:=fun e=>hip e.symm;have a1:¬ p * 7+1=i * 7:=by omega
     have b1:¬ p * 7=i * 7+1:=by omega
     have c1:¬ i * 7+1=p * 7:=by omega
     have d1:¬ i * 7=p * 7+1:=by omega
     have a2:¬ p * 7+2=i * 7:=by omega
     have b2:¬ p * 7=i * 7+2:=by omega
     have c2:¬ i * 7+2=p * 7:=by omega
     have d2:¬ i * 7=p * 7+2:=by omega
     have a3:¬ p * 7+3=i * 7:=by omega
     have b3:¬ p * 7=i * 7+3:=by omega
     have c3:¬ i * 7+3=p * 7:=by omega
     have d3:¬ i * 7=p * 7+3:=by omega
     have a4:¬ p * 7+4=i * 7:=by omega
     have b4:¬ p * 7=i * 7+4:=by omega
     have c4:¬ i * 7+4=p * 7:=by omega
     have d4:¬ i * 7=p * 7+4:=by omega
     have a5:¬ p * 7+5=i * 7:=by omega
     have b5:¬ p * 7=i * 7+5:=by omega
     have c5:¬ i * 7+5=p * 7:=by omega
     have d5:¬ i * 7=p * 7+5:=by omega
     have a6:¬ p * 7+6=i * 7:=by omega
     have b6:¬ p * 7=i * 7+6:=by omega
     have c6:¬ i * 7+6=p * 7:=by omega
     have d6:¬ i * 7=p * 7+6:=by omega
     go_wp2
     go_region
     go_wp2
     go_meet
     case rel=>exact(bk _ _ rfl rfl).drew
   have g5:(fl == 5)=false:=by simpa using f5
   clear f5
   go_wp2
   go_meet
   case rel=>exact bt
  case rest=>
   obtain⟨N2,Z2,e1,hb,hr,ho,hz,hs,bu,hk⟩:=hcut;have HB:=J hb;have bc:=J hr;have ap:=J ho;have bN:=J hz;have bJ:=J hs;have bR:=J hk;have cg:=zaa hr;have r0:wc.cell? ⟨w.heap.size+1+1,0,none⟩=some (.slice none 0 0):=Yp 0 hr rfl;have rz:wc.frozen? ⟨w.heap.size+1+1,0,none⟩=false:=Yj _ _ _ _ _ hr;clear hb hr ho hz hs hk C HO af HM bD aV aU;have bh:Hid (TuP w (K+1) (.returned (.agg #[.slice (some ⟨g,0,none⟩) N.length c2])) (wc.setCell ⟨w.heap.size+1+1,0,none⟩ (.slice (some ⟨g,0,none⟩) N.length c2))):=J (by
    have bz:Below w.heap.size w (wc.setCell ⟨w.heap.size+1+1,0,none⟩ (.slice (some ⟨g,0,none⟩) N.length c2)):=HB.out.setCell (p:=⟨w.heap.size+1+1,0,none⟩) (by show w.heap.size<=w.heap.size+1+1;omega) _;have bO:OwnN (w.heap.size+1+1+1) (wc.setCell ⟨w.heap.size+1+1,0,none⟩ (.slice (some ⟨g,0,none⟩) N.length c2)) (.slice (some ⟨g,0,none⟩) N.length c2) N2:=ap.out.keep fun q D=>Ye _ _ _ _ (by
     have cd:g=q:=by injection D
     show q≠w.heap.size+1+1;omega)
    obtain⟨sp,cp,e9,a7,-⟩:=OwnG.rows elN bO;injection e9 with e7 _ e8;subst e7 e8;have bi:=bN.out (wc.setCell ⟨w.heap.size+1+1,0,none⟩ (.slice (some ⟨g,0,none⟩) N.length c2)) fun j hj _=>Ye _ _ _ _ hj;have bX:Z2.length=N.length:=by rw[<-bi.1,e1]
    refine⟨some ⟨g,0,none⟩,c2,Z2,by rw[bX],⟨⟨⟨some ⟨g,0,none⟩,c2,N2,rfl,a7,bi⟩,by omega⟩,(fun e=>by cases e),bJ.out,bu,bR.out⟩,bz⟩)
   have bY:Hid ((wc.setCell ⟨w.heap.size+1+1,0,none⟩ (.slice (some ⟨g,0,none⟩) N.length c2)).heap[w.heap.size+1+1]?=some (.cells #[.slice (some ⟨g,0,none⟩) N.length c2] 25 (0,0))):=J (Yf wc (w.heap.size+1+1) 0 _ _ (.slice (some ⟨g,0,none⟩) N.length c2) bc.out)
   go_wp2
   exact bodyPost_ret (v:=.agg #[.slice (some ⟨g,0,none⟩) N.length c2]) (zdr Tryz.results15 _ _ (w.heap.size+1+1) 25 #[.slice (some ⟨g,0,none⟩) N.length c2] (0,0) _ rfl bY Tryz.underlying25 rfl (by kernel_rfl)) rfl bh
end Go.Proofs.YtmclgbkijeidaaaGreatDoor
