import Derived.Test.YtmclgbkijeidaaaGreatDoorUoD
import Derived.Lib.BytesEntry
import Derived.Lib.AppendStr
import Derived.Test.YtmclgbkijeidaaaGreatDoorUoC
import Derived.Laws.MakeOwn
import Derived.Deep.RegionWith
namespace Go.Proofs.YtmclgbkijeidaaaGreatDoor
set_option maxRecDepth 100000
set_option maxHeartbeats 4000000
open Go.RowKit
theorem zfu {P:Program}{fn:Func}{p q:Tmp}{ty:TypeId}(h:fn.results=#[.tmp q,.cell p ty])(tmps:Array Value)(w:World)(g:Nat)(t:TypeId)(cs:Array Value)(fr:Nat × Nat)(d:TypeDesc)(v:Value)
  (hp:tmps.getD p undef=.pointer (some ⟨g,0,none⟩)) (hq:tmps.getD q undef=v) (hg:w.heap[g]?=some (.cells cs t fr))
  (hu:P.underlying ty=some d) (hd:(match d with | .struct _ | .array _ _=>true|_=>false)=true) (hi:(P.info? ty).map (·.size)=some cs.size) :
  (results fn tmps).run P w=.ok (.tuple #[v,.agg cs]) w:=by
 have A:tmps[p]?.getD undef=.pointer (some ⟨g,0,none⟩):=by simpa using hp
 have y:tmps[q]?.getD undef=v:=by simpa using hq
 simp[results,h,A,y,asAddr,run_loadVar_row w g t ty cs fr d hg hu hd hi]
theorem zof (s:ByteArray) (W:World):∃ (cap:Nat) (W':World)(cs:Array Value)(fr:Nat × Nat),(convert 9 71 (.string s)).run Tryz.prog W=.ok (.slice (some ⟨W.heap.size,0,none⟩) s.size cap) W'∧Below W.heap.size W W'∧W'.heap[W.heap.size]?=some (.cells cs 5 fr)∧(∀ (i:Nat)(c:UInt8),s.data.toList[i]?=some c->cs[i]?=some (.int .u8 c.toNat))∧s.size<=cap:=by
 refine⟨_,_,_,_,run_bytes_of_string W 9 71 5 s Tryz.underlying9 Tryz.underlying71 Tryz.underlying5,(Yb _ _).drew.alloc (by simp) _,Yd W.drew _,fun i c y=>?_,grownCap_ge _ _ _ _⟩;have hd:i<s.data.size:=by have:=(List.getElem?_eq_some_iff.1 y).1;simpa using this
 unfold bytesRow;rw[Array.getElem?_append_left (by simpa using hd)];rw[Array.getElem?_toList] at y;simp[y]
def LexP (B:Nat) (w':World) (r:List Tok × Int × Nat) (e:Ending):Prop:=∃ v,e=.returned (.tuple #[v,.agg #[.int .i64 r.2.1,.int .i64 r.2.2]])∧OwnT B w' v r.1
def muW (n g:Nat) (w:World):Nat:=match w.heap[g]? with
 | some (.cells cs _ _)=>(match (cs[0]?:Option Value),(cs[1]?:Option Value),(cs[4]?:Option Value) with
  | some (.int _ k),some (.string x),some (.int _ p)=>2 * (n - p.toNat)+(if clo ⟨k,x,0⟩=true then 1 else 0)
  | _,_,_=>0)
 | _=>0
theorem zfl {n g:Nat}{w:World}{t:Tok}{tv vt:Value}{p:Nat}{ty:TypeId}{fr:Nat × Nat}(h:w.heap[g]?=some (.cells (lxC t tv p vt) ty fr)):muW n g w=2 * (n - p)+(if clo t=true then 1 else 0):=by
 unfold muW;rw[h];rfl
theorem BA.of_row {w:World}{b:Nat}{cs:Array Value}{ty:TypeId}{fr:Nat × Nat}{L:List UInt8}(h:w.heap[b]?=some (.cells cs ty fr))(hc:∀ (i:Nat)(c:UInt8),L[i]?=some c->cs[i]?=some (.int .u8 c.toNat)):BA w (some ⟨b,0,none⟩) L :=
 fun _=>⟨b,0,rfl,fun i c y=>(Yc _ _ _ _ _ _ h).trans (by rw[Nat.zero_add];exact hc i c y)⟩
theorem zrm (s:ByteArray)(w:World):Calls Tryz.prog 20 #[.string s] w fun e w'=>LexP w.heap.size w' (lexO s.data.toList) e∧Below w.heap.size w w':=by
 go_enter Tryz.func20,Tryz.ntmps20
 go_wp2
 refine wp_scope_jumps 0 (fun a' w'=>∃ (D:Int) (p:Nat) (t:Tok) (tv N:Value),lexO s.data.toList=([],D,p)∧w'.heap[w.heap.size]?=some (.cells #[.int .i64 0,.int .i64 0] 28 (0,0))∧w'.heap[w.heap.size+1]?=some (.cells (lxC t tv p N) 73 (0,0))∧Below w.heap.size w w'∧∃ u0 u1 u2 u5 u6 u8 u9 a6 a0 bv aG aO bp aQ bm aT aJ bw a5 bt bx a8 aK aW a1 bk aP aX aY bq bz ba bs aR bi bo be bj bf aU aL aH a9 a7 aI aV aZ bc br:Value,a'={ tmps:=#[u0,u1,u2,.pointer (some ⟨w.heap.size,0,none⟩),.pointer (some ⟨w.heap.size+1,0,none⟩),u5,u6,.int .i64 D,u8,u9,a6,a0,bv,aG,aO,bp,aQ,bm,aT,aJ,bw,a5,bt,bx,a8,aK,aW,a1,bk,aP,aX,aY,bq,bz,ba,bs,aR,bi,bo,be,bj,bf,aU,aL,aH,a9,a7,aI,aV,aZ,bc,br],defers:=[] }) (fun _ _=>0) rfl ?_ ?_
 rotate_left
 ·rintro a' w' ⟨D,p,t,tv,N,hn,ay,bl,hb,u0,u1,u2,u5,u6,u8,u9,a6,a0,bv,aG,aO,bp,aQ,bm,aT,aJ,bw,a5,bt,bx,a8,aK,aW,a1,bk,aP,aX,aY,bq,bz,ba,bs,aR,bi,bo,be,bj,bf,aU,aL,aH,a9,a7,aI,aV,aZ,bc,br,rfl⟩;have HN:=J hn;have bC:=J ay;have HB:=J hb;have c4:w'.cell? ⟨w.heap.size+1,4,none⟩=some (.int .i64 p):=Yp 4 bl rfl;have e0:w'.cell? ⟨w.heap.size,0,none⟩=some (.int .i64 0):=Yp 0 ay rfl;have e1:w'.cell? ⟨w.heap.size,1,none⟩=some (.int .i64 0):=Yp 1 ay rfl;have z:∀ j,w'.frozen? ⟨w.heap.size,j,none⟩=false:=fun j=>Yj _ _ _ _ _ ay;clear hn ay hb bl
  go_wp2
  go_region
  go_wp2
  simp only[Exit.jump];have r1:(w'.setCell ⟨w.heap.size,0,none⟩ (.int .i64 D)).heap[w.heap.size]?=_:=Yf _ _ _ _ _ _ bC;have r2:((w'.setCell ⟨w.heap.size,0,none⟩ (.int .i64 D)).setCell ⟨w.heap.size,1,none⟩ (.int .i64 p)).heap[w.heap.size]?=some (.cells #[.int .i64 D,.int .i64 p] 28 (0,0)):=Yf _ _ _ _ _ _ r1;refine bodyPost_ret (v:=.tuple #[.slice none 0 0,.agg #[.int .i64 D,.int .i64 p]]) (zfu Tryz.results20 _ _ w.heap.size 28 _ (0,0) _ _ rfl rfl r2 Tryz.underlying28 rfl (by kernel_rfl)) rfl ?_;refine⟨⟨.slice none 0 0,?_,?_⟩,((HB.out.setCell (p:=⟨w.heap.size,0,none⟩) (Ya _) _).setCell (p:=⟨w.heap.size,1,none⟩) (Ya _) _).drew⟩
  ·rw[HN.out]
  ·rw[HN.out];exact zcz _ _
 have aC:s.size=s.data.toList.length:=by simp
 by_cases h4:4096<s.size
 ·have HN:Hid (lexO s.data.toList=([],3,0)):=by unfold lexO;rw[if_pos (by omega)];exact rfl
  have bA:(s.size:Int) > 4096:=by omega
  clear aC h4
  go_wp2
  go_step3
  refine⟨rfl,3,0,⟨0,⟨#[]⟩,0⟩,.slice none 0 0,.slice none 0 0,HN.out,heap_alloc2_old _ _ _,heap_alloc2_new _ _ _,((Yb _ _).alloc (Ya _) _).alloc (by simp) _,_,_,_,_,_,_,_,_,_,_,_,_,_,_,_,_,_,_,_,_,_,_,_,_,_,_,_,_,_,_,_,_,_,_,_,_,_,_,_,_,_,_,_,_,_,_,_,_,_,rfl⟩
 obtain⟨L,HL⟩:∃ L,Hid (s.data.toList=L):=⟨_,rfl⟩;have bb:s.size=L.length:=by rw[aC,HL.out]
 have HO:Hid (lexG L (2 * L.length+1) 0 []=lexO s.data.toList):=by rw[HL.out];unfold lexO;rw[if_neg (by omega)];exact rfl
 have bA:¬ (s.size:Int) > 4096:=by omega
 have hl:L.length<=4096:=by omega
 obtain⟨cap,WT,cs,fr,az,bT,aD,aE,aA⟩:=zof s ((w.alloc (.cells #[.int .i64 0,.int .i64 0] 28)).alloc (.cells (lxC ⟨0,⟨#[]⟩,0⟩ (.slice none 0 0) 0 (.slice none 0 0)) 73));rw[HL.out] at aE;rw[bb] at az aA;have a2:((w.alloc (.cells #[.int .i64 0,.int .i64 0] 28)).alloc (.cells (lxC ⟨0,⟨#[]⟩,0⟩ (.slice none 0 0) 0 (.slice none 0 0)) 73)).heap.size=w.heap.size+2:=by simp
 rw[a2] at az bT aD;have a4:Below w.heap.size w WT:=(((Yb _ _).alloc (Ya _) _).alloc (by simp) _).trans (bT.mono (by omega));have g0:WT.heap[w.heap.size]?=some (.cells #[.int .i64 0,.int .i64 0] 28 (0,0)):=(bT.block _ (by omega)).trans (heap_alloc2_old _ _ _);have g1:WT.heap[w.heap.size+1]?=some (.cells (lxC ⟨0,⟨#[]⟩,0⟩ (.slice none 0 0) 0 (.slice none 0 0)) 73 (0,0)):=(bT.block _ (by omega)).trans (heap_alloc2_new _ _ _);have k3:WT.cell? ⟨w.heap.size+1,3,none⟩=some (.slice none 0 0):=Yp 3 g1 rfl;have z3:WT.frozen? ⟨w.heap.size+1,3,none⟩=false:=Yj _ _ _ _ _ g1;have ac:Hid (WT.heap[w.heap.size]?=some (.cells #[.int .i64 0,.int .i64 0] 28 (0,0))):=g0;have ae:Hid (WT.heap[w.heap.size+1]?=some (.cells (lxC ⟨0,⟨#[]⟩,0⟩ (.slice none 0 0) 0 (.slice none 0 0)) 73 (0,0))):=g1;have a3:=J aD;have bB:=J aE;have bh:Hid (Below w.heap.size w WT):=a4;clear aC h4 bb g0 g1 aD aE bT a4 a2 HL
 replace az:(convert 9 71 (.string s)).run Tryz.prog ((w.alloc (.cells #[.int .i64 0,.int .i64 0] 28)).alloc (.cells #[.int .i64 0,.string ⟨#[]⟩,.int .i64 0,.slice none 0 0,.int .i64 0,.slice none 0 0] 73))=.ok (.slice (some ⟨w.heap.size+2,0,none⟩) L.length cap) WT:=az
 go_wp2
 clear az k3 z3;have ho:∀ j,j≠w.heap.size+1->(WT.setCell ⟨w.heap.size+1,3,none⟩ (.slice (some ⟨w.heap.size+2,0,none⟩) L.length cap)).heap[j]?=WT.heap[j]?:=fun j U=>Ye _ _ _ _ U;have al:(WT.setCell ⟨w.heap.size+1,3,none⟩ (.slice (some ⟨w.heap.size+2,0,none⟩) L.length cap)).heap[w.heap.size+1]?=some (.cells (lxC (lastT []) (.slice (some ⟨w.heap.size+2,0,none⟩) L.length cap) 0 (.slice none 0 0)) 73 (0,0)):=Yf _ _ _ _ _ _ ae
 go_loopw [] (fun wr=>∃ (p:Nat) (ts:List Tok) (f:Nat) (N:Value),p<=L.length∧ts.length<=1024∧wr.heap[w.heap.size]?=some (.cells #[.int .i64 0,.int .i64 0] 28 (0,0))∧wr.heap[w.heap.size+1]?=some (.cells (lxC (lastT ts) (.slice (some ⟨w.heap.size+2,0,none⟩) L.length cap) p N) 73 (0,0))∧wr.heap[w.heap.size+2]?=some (.cells cs 5 fr)∧OwnT w.heap.size wr N ts∧Below w.heap.size w wr∧lexMu L p ts<f∧lexG L f p ts=lexO s.data.toList) (fun wr=>muW L.length (w.heap.size+1) wr)
 case atStart=>exact⟨0,[],2 * L.length+1,.slice none 0 0,Yk _,by simp,(ho _ (by omega)).trans ac.out,al,(ho _ (by omega)).trans a3.out,zcz _ _,bh.out.setCell (p:=⟨w.heap.size+1,3,none⟩) (by simp) _,by unfold lexMu;rw[zij];simp[clo],HO.out⟩
 case round=>
  clear ho al ac ae a3 bh HO;obtain⟨p,ts,f,N,hp,aF,aN,al,aB,hT,hb,bD,aM⟩:=hrel;obtain⟨f,rfl⟩:∃ f',f=f'+1:=⟨f - 1,by omega⟩;obtain⟨lt,A⟩:∃ lt,Hid (lastT ts=lt):=⟨_,rfl⟩;rw[A.out] at al;have ac:=J aN;have ae:=J al;have am:=J aB;have HT:=J hT;have HB:=J hb;have ah:=J aM;have an:Hid (BA wr (some ⟨w.heap.size+2,0,none⟩) L):=BA.of_row aB bB;have c0:wr.cell? ⟨w.heap.size+1,0,none⟩=some (.int .i64 lt.kind):=Yp 0 al rfl;have c1:wr.cell? ⟨w.heap.size+1,1,none⟩=some (.string lt.text):=Yp 1 al rfl;have c3:wr.cell? ⟨w.heap.size+1,3,none⟩=some (.slice (some ⟨w.heap.size+2,0,none⟩) L.length cap):=Yp 3 al rfl;have c4:wr.cell? ⟨w.heap.size+1,4,none⟩=some (.int .i64 p):=Yp 4 al rfl;clear aN al aB hT hb aM
  by_cases hlt:p<L.length
  ·have hd:decide ((p:Int)<L.length)=true:=by simp;omega
   have bu:¬ cap=p:=by omega
   have Y:Hid (p<L.length∨clo lt=true):=.inl hlt;have av:Hid (Calls Tryz.prog 36 #[.slice (some ⟨w.heap.size+2,p,none⟩) (L.length - p) (cap - p),.func (.func 33) #[.pointer (some ⟨w.heap.size+1,0,none⟩)] #[]] wr fun e w'=>e=.returned (tripV (lookR (L.drop p) (clo lt)))∧Below wr.heap.size wr w'):=by
    have h:=zkg (some ⟨w.heap.size+2,p,none⟩) (cap - p) (L.drop p) (w.heap.size+1) lt wr (by have h:=BA.drop an p;rw[Nat.zero_add] at h;exact h) (by rw[List.length_drop];omega) (by rw[List.length_drop];omega) c0 c1;rw[List.length_drop] at h;exact h
   obtain⟨k,n,D,ar⟩:∃ k n D,lookR (L.drop p) (clo lt)=(k,n,D):=⟨_,_,_,rfl⟩;have K:=J ar;clear ar
   go_wp2_with fail
   refine av.out.mono ?_;rintro e W1 ⟨rfl,F⟩;rw[K.out,tripV];clear c0 c1 c3 c4 av;have R0:Hid (W1.heap[w.heap.size]?=some (.cells #[.int .i64 0,.int .i64 0] 28 (0,0))):=(F.block _ (zaa ac)).trans ac;have X:Hid (W1.heap[w.heap.size+1]?=some (.cells (lxC lt (.slice (some ⟨w.heap.size+2,0,none⟩) L.length cap) p N) 73 (0,0))):=(F.block _ (zaa ae)).trans ae;have R2:Hid (W1.heap[w.heap.size+2]?=some (.cells cs 5 fr)):=(F.block _ (zaa am)).trans am;have E:Hid (OwnT w.heap.size W1 N ts):=OwnG.below HT F;have V:=J (HB.out.trans (F.mono HB.out.size));have RA:Hid (BA W1 (some ⟨w.heap.size+2,0,none⟩) L):=BA.below an F;have ao:muW L.length (w.heap.size+1) wr=2 * (L.length - p)+(if clo lt=true then 1 else 0):=zfl ae;have ap:Hid (muW L.length (w.heap.size+1) wr=lexMu L p ts):=by rw[ao];unfold lexMu;rw[A.out];exact rfl
   clear F ac ae am HT HB ao an
   by_cases her:D=0
   ·subst her
    by_cases hk:k=0
    ·subst hk;obtain⟨ag,aa⟩:=zod (ts:=ts) (by rw[A.out];exact Y) hp (by rw[A.out];exact K);have Z:=J aa;have ai:Hid (lexG L f (p+n) ts=lexO s.data.toList):=by rw[<-ah.out,zfk (by rw[A.out];exact Y.out) (by rw[A.out];exact K.out)];exact rfl
     clear aa
     go_wp2_with fail
     refine(zki (w.heap.size+1) lt _ p N n W1 X.out (by omega)).mono ?_;rintro e y ⟨rfl,M,C⟩;have ab:∀ j,j<W1.heap.size->j≠w.heap.size+1->y.heap[j]?=W1.heap[j]?:=fun j h1 h2=>C.block j h1 h2 (fun e=>by cases e);have ak:Hid (∃ (p':Nat) (ts':List Tok) (f':Nat) (I:Value),p'<=L.length∧ts'.length<=1024∧y.heap[w.heap.size]?=some (.cells #[.int .i64 0,.int .i64 0] 28 (0,0))∧y.heap[w.heap.size+1]?=some (.cells (lxC (lastT ts') (.slice (some ⟨w.heap.size+2,0,none⟩) L.length cap) p' I) 73 (0,0))∧y.heap[w.heap.size+2]?=some (.cells cs 5 fr)∧OwnT w.heap.size y I ts'∧Below w.heap.size w y∧lexMu L p' ts'<f'∧lexG L f' p' ts'=lexO s.data.toList) :=
      ⟨p+n,ts,f,N,ag,aF,(ab _ (zaa R0.out) (by omega)).trans R0.out,by rw[A.out];exact M,(ab _ (zaa R2.out) (by omega)).trans R2.out,OwnG.keep E.out (fun j U=>ab j (OwnG.lt E.out U).2 (fun e=>OwnG.ne E.out X.out (by decide) (e ▸ U))),V.out.trans ⟨C.os,C.tape,C.output,C.size,fun j U=>ab j (Yg U V.out.size) (by omega)⟩,by have:=Z.out;omega,ai.out⟩
     have aj:Hid (muW L.length (w.heap.size+1) y<muW L.length (w.heap.size+1) wr):=by
      rw[ap.out,zfl M];have:=Z.out;unfold lexMu at this ⊢;rw[A.out] at this ⊢;exact this
     clear C M ab
     go_wp2
     exact⟨ak.out,aj.out⟩
    ·by_cases hfull:ts.length=1024
     ·have af:Hid (lexO s.data.toList=([],3,p)):=by rw[<-ah.out,ze8 (by rw[A.out];exact Y.out) (by rw[A.out];exact K.out) hk hfull];exact rfl
      obtain⟨st,ct,au⟩:=OwnG.shape E.out;rw[hfull] at au;subst au
      go_wp2_with fail
      refine(zii (w.heap.size+1) lt _ p st ct k n W1 X.out hk).mono ?_;rintro e y ⟨rfl,aw⟩;rw[aw];clear aw
      go_wp2
      go_step3
      exact⟨rfl,3,p,lt,_,_,af.out,R0.out,X.out,V.out,_,_,_,_,_,_,_,_,_,_,_,_,_,_,_,_,_,_,_,_,_,_,_,_,_,_,_,_,_,_,_,_,_,_,_,_,_,_,_,_,_,_,_,_,_,_,_,_,_,rfl⟩
     ·obtain⟨ag,aa⟩:=zoe (ts:=ts) (by rw[A.out];exact Y) hp (by rw[A.out];exact K) (t:=⟨k,strU ((L.drop p).take n),p⟩) rfl;have Z:=J aa;have ai:Hid (lexG L f (p+n) (ts++[⟨k,strU ((L.drop p).take n),p⟩])=lexO s.data.toList):=by rw[<-ah.out,zei (by rw[A.out];exact Y.out) (by rw[A.out];exact K.out) hk hfull];exact rfl
      clear aa
      go_wp2_with fail
      refine(zkh w.heap.size (w.heap.size+1) lt (w.heap.size+2) 0 cap p L N ts k n W1 X.out RA.out E.out ag aA (by omega) (by omega) hk (by omega)).mono ?_;rintro e y ⟨rfl,I,M,aq,C⟩;have ak:Hid (∃ (p':Nat) (ts':List Tok) (f':Nat) (I:Value),p'<=L.length∧ts'.length<=1024∧y.heap[w.heap.size]?=some (.cells #[.int .i64 0,.int .i64 0] 28 (0,0))∧y.heap[w.heap.size+1]?=some (.cells (lxC (lastT ts') (.slice (some ⟨w.heap.size+2,0,none⟩) L.length cap) p' I) 73 (0,0))∧y.heap[w.heap.size+2]?=some (.cells cs 5 fr)∧OwnT w.heap.size y I ts'∧Below w.heap.size w y∧lexMu L p' ts'<f'∧lexG L f' p' ts'=lexO s.data.toList) :=
       ⟨p+n,ts++[⟨k,strU ((L.drop p).take n),p⟩],f,I,ag,by rw[List.length_append,List.length_singleton];omega,Kept.row C E.out R0.out (by decide) (by omega),by rw[zde];exact M,Kept.row C E.out R2.out (by decide) (by omega),aq,V.out.trans (C.below E.out (by omega) V.out.size),by have:=Z.out;omega,ai.out⟩
      have aj:Hid (muW L.length (w.heap.size+1) y<muW L.length (w.heap.size+1) wr):=by
       rw[ap.out,zfl M];have:=Z.out;unfold lexMu at this ⊢;rw[zde] at this;exact this
      clear C M aq
      go_wp2
      exact⟨ak.out,aj.out⟩
   ·have af:Hid (lexO s.data.toList=([],D,p)):=by rw[<-ah.out,zfj (by rw[A.out];exact Y.out) (by rw[A.out];exact K.out) her];exact rfl
    have bn:(D != 0)=true:=by simpa using her
    go_wp2
    go_step3
    exact⟨rfl,D,p,lt,_,_,af.out,R0.out,X.out,V.out,_,_,_,_,_,_,_,_,_,_,_,_,_,_,_,_,_,_,_,_,_,_,_,_,_,_,_,_,_,_,_,_,_,_,_,_,_,_,_,_,_,_,_,_,_,_,_,_,_,rfl⟩
  ·have hd:decide ((p:Int)<L.length)=false:=by simp;omega
   cases hcl:clo lt
   ·have af:Hid (lexO s.data.toList=(ts,0,0)):=by rw[<-ah.out,zg3 hlt (by rw[A.out];exact hcl)];exact rfl
    have c5:wr.cell? ⟨w.heap.size+1,5,none⟩=some N:=Yp 5 ae rfl;have e0:wr.cell? ⟨w.heap.size,0,none⟩=some (.int .i64 0):=Yp 0 ac rfl;have e1:wr.cell? ⟨w.heap.size,1,none⟩=some (.int .i64 0):=Yp 1 ac rfl;have z:∀ j,wr.frozen? ⟨w.heap.size,j,none⟩=false:=fun j=>Yj _ _ _ _ _ ac;obtain⟨st,ct,rfl⟩:=OwnG.shape HT
    go_wp2_with (go_at_call 33;refine(zfd (w.heap.size+1) lt wr c0 c1).mono ?_;rintro e W0 ⟨rfl,ax⟩;rw[ax,hcl])
    simp only[Exit.jump];have r1:(wr.setCell ⟨w.heap.size,0,none⟩ (.int .i64 0)).heap[w.heap.size]?=_:=Yf _ _ _ _ _ _ ac;have r2:((wr.setCell ⟨w.heap.size,0,none⟩ (.int .i64 0)).setCell ⟨w.heap.size,1,none⟩ (.int .i64 0)).heap[w.heap.size]?=some (.cells #[.int .i64 0,.int .i64 0] 28 (0,0)):=Yf _ _ _ _ _ _ r1;refine bodyPost_ret (v:=.tuple #[.slice st ts.length ct,.agg #[.int .i64 0,.int .i64 0]]) (zfu Tryz.results20 _ _ w.heap.size 28 _ (0,0) _ _ rfl rfl r2 Tryz.underlying28 rfl (by kernel_rfl)) rfl ?_;have ho:∀ j,j≠w.heap.size->((wr.setCell ⟨w.heap.size,0,none⟩ (.int .i64 0)).setCell ⟨w.heap.size,1,none⟩ (.int .i64 0)).heap[j]?=wr.heap[j]?:=fun j U=>(Ye _ _ _ _ U).trans (Ye _ _ _ _ U);refine⟨⟨.slice st ts.length ct,?_,?_⟩,(HB.out.setCell (p:=⟨w.heap.size,0,none⟩) (Ya _) _).setCell (p:=⟨w.heap.size,1,none⟩) (Ya _) _⟩
    ·rw[af.out];exact rfl
    ·rw[af.out];exact OwnG.keep HT fun j U=>ho j (fun e=>OwnG.ne HT ac (by decide) (e ▸ U))
   ·have Y:Hid (p<L.length∨clo lt=true):=.inr hcl
    by_cases bu:cap=p
    ·subst bu;have av:Hid (Calls Tryz.prog 36 #[.slice (some ⟨w.heap.size+2,0,none⟩) 0 0,.func (.func 33) #[.pointer (some ⟨w.heap.size+1,0,none⟩)] #[]] wr fun e w'=>e=.returned (tripV (lookR (L.drop cap) (clo lt)))∧Below wr.heap.size wr w'):=by
      have h:=zkg (some ⟨w.heap.size+2,0,none⟩) 0 (L.drop cap) (w.heap.size+1) lt wr (BA.none_left (by omega)) (by rw[List.length_drop];omega) (by rw[List.length_drop];omega) c0 c1;rw[List.length_drop,show L.length - cap=0 by omega] at h;exact h
     obtain⟨k,n,D,ar⟩:∃ k n D,lookR (L.drop cap) (clo lt)=(k,n,D):=⟨_,_,_,rfl⟩;have K:=J ar;clear ar
     go_wp2_with fail
     refine(zfd (w.heap.size+1) lt wr c0 c1).mono ?_;rintro e W0 ⟨rfl,ax⟩;rw[ax,hcl];clear ax
     go_wp2_with fail
     refine av.out.mono ?_;rintro e W1 ⟨rfl,F⟩;rw[K.out,tripV];clear c0 c1 c3 c4 av;have R0:Hid (W1.heap[w.heap.size]?=some (.cells #[.int .i64 0,.int .i64 0] 28 (0,0))):=(F.block _ (zaa ac)).trans ac;have X:Hid (W1.heap[w.heap.size+1]?=some (.cells (lxC lt (.slice (some ⟨w.heap.size+2,0,none⟩) L.length cap) cap N) 73 (0,0))):=(F.block _ (zaa ae)).trans ae;have R2:Hid (W1.heap[w.heap.size+2]?=some (.cells cs 5 fr)):=(F.block _ (zaa am)).trans am;have E:Hid (OwnT w.heap.size W1 N ts):=OwnG.below HT F;have V:=J (HB.out.trans (F.mono HB.out.size));have RA:Hid (BA W1 (some ⟨w.heap.size+2,0,none⟩) L):=BA.below an F;have ao:muW L.length (w.heap.size+1) wr=2 * (L.length - cap)+(if clo lt=true then 1 else 0):=zfl ae;have ap:Hid (muW L.length (w.heap.size+1) wr=lexMu L cap ts):=by rw[ao];unfold lexMu;rw[A.out];exact rfl
     clear F ac ae am HT HB ao an
     by_cases her:D=0
     ·subst her
      by_cases hk:k=0
      ·subst hk;obtain⟨ag,aa⟩:=zod (ts:=ts) (by rw[A.out];exact Y) hp (by rw[A.out];exact K);have Z:=J aa;have ai:Hid (lexG L f (cap+n) ts=lexO s.data.toList):=by rw[<-ah.out,zfk (by rw[A.out];exact Y.out) (by rw[A.out];exact K.out)];exact rfl
       clear aa
       go_wp2_with fail
       refine(zki (w.heap.size+1) lt _ cap N n W1 X.out (by omega)).mono ?_;rintro e y ⟨rfl,M,C⟩;have ab:∀ j,j<W1.heap.size->j≠w.heap.size+1->y.heap[j]?=W1.heap[j]?:=fun j h1 h2=>C.block j h1 h2 (fun e=>by cases e);have ak:Hid (∃ (cap':Nat) (ts':List Tok) (f':Nat) (I:Value),cap'<=L.length∧ts'.length<=1024∧y.heap[w.heap.size]?=some (.cells #[.int .i64 0,.int .i64 0] 28 (0,0))∧y.heap[w.heap.size+1]?=some (.cells (lxC (lastT ts') (.slice (some ⟨w.heap.size+2,0,none⟩) L.length cap) cap' I) 73 (0,0))∧y.heap[w.heap.size+2]?=some (.cells cs 5 fr)∧OwnT w.heap.size y I ts'∧Below w.heap.size w y∧lexMu L cap' ts'<f'∧lexG L f' cap' ts'=lexO s.data.toList) :=
        ⟨cap+n,ts,f,N,ag,aF,(ab _ (zaa R0.out) (by omega)).trans R0.out,by rw[A.out];exact M,(ab _ (zaa R2.out) (by omega)).trans R2.out,OwnG.keep E.out (fun j U=>ab j (OwnG.lt E.out U).2 (fun e=>OwnG.ne E.out X.out (by decide) (e ▸ U))),V.out.trans ⟨C.os,C.tape,C.output,C.size,fun j U=>ab j (Yg U V.out.size) (by omega)⟩,by have:=Z.out;omega,ai.out⟩
       have aj:Hid (muW L.length (w.heap.size+1) y<muW L.length (w.heap.size+1) wr):=by
        rw[ap.out,zfl M];have:=Z.out;unfold lexMu at this ⊢;rw[A.out] at this ⊢;exact this
       clear C M ab
       go_wp2
       exact⟨ak.out,aj.out⟩
      ·by_cases hfull:ts.length=1024
       ·have af:Hid (lexO s.data.toList=([],3,cap)):=by rw[<-ah.out,ze8 (by rw[A.out];exact Y.out) (by rw[A.out];exact K.out) hk hfull];exact rfl
        obtain⟨st,ct,au⟩:=OwnG.shape E.out;rw[hfull] at au;subst au
        go_wp2_with fail
        refine(zii (w.heap.size+1) lt _ cap st ct k n W1 X.out hk).mono ?_;rintro e y ⟨rfl,aw⟩;rw[aw];clear aw
        go_wp2
        go_step3
        exact⟨rfl,3,cap,lt,_,_,af.out,R0.out,X.out,V.out,_,_,_,_,_,_,_,_,_,_,_,_,_,_,_,_,_,_,_,_,_,_,_,_,_,_,_,_,_,_,_,_,_,_,_,_,_,_,_,_,_,_,_,_,_,_,_,_,_,rfl⟩
       ·obtain⟨ag,aa⟩:=zoe (ts:=ts) (by rw[A.out];exact Y) hp (by rw[A.out];exact K) (t:=⟨k,strU ((L.drop cap).take n),cap⟩) rfl;have Z:=J aa;have ai:Hid (lexG L f (cap+n) (ts++[⟨k,strU ((L.drop cap).take n),cap⟩])=lexO s.data.toList):=by rw[<-ah.out,zei (by rw[A.out];exact Y.out) (by rw[A.out];exact K.out) hk hfull];exact rfl
        clear aa
        go_wp2_with fail
        refine(zkh w.heap.size (w.heap.size+1) lt (w.heap.size+2) 0 cap cap L N ts k n W1 X.out RA.out E.out ag aA (by omega) (by omega) hk (by omega)).mono ?_;rintro e y ⟨rfl,I,M,aq,C⟩;have ak:Hid (∃ (cap':Nat) (ts':List Tok) (f':Nat) (I:Value),cap'<=L.length∧ts'.length<=1024∧y.heap[w.heap.size]?=some (.cells #[.int .i64 0,.int .i64 0] 28 (0,0))∧y.heap[w.heap.size+1]?=some (.cells (lxC (lastT ts') (.slice (some ⟨w.heap.size+2,0,none⟩) L.length cap) cap' I) 73 (0,0))∧y.heap[w.heap.size+2]?=some (.cells cs 5 fr)∧OwnT w.heap.size y I ts'∧Below w.heap.size w y∧lexMu L cap' ts'<f'∧lexG L f' cap' ts'=lexO s.data.toList) :=
         ⟨cap+n,ts++[⟨k,strU ((L.drop cap).take n),cap⟩],f,I,ag,by rw[List.length_append,List.length_singleton];omega,Kept.row C E.out R0.out (by decide) (by omega),by rw[zde];exact M,Kept.row C E.out R2.out (by decide) (by omega),aq,V.out.trans (C.below E.out (by omega) V.out.size),by have:=Z.out;omega,ai.out⟩
        have aj:Hid (muW L.length (w.heap.size+1) y<muW L.length (w.heap.size+1) wr):=by
         rw[ap.out,zfl M];have:=Z.out;unfold lexMu at this ⊢;rw[zde] at this;exact this
        clear C M aq
        go_wp2
        exact⟨ak.out,aj.out⟩
     ·have af:Hid (lexO s.data.toList=([],D,cap)):=by rw[<-ah.out,zfj (by rw[A.out];exact Y.out) (by rw[A.out];exact K.out) her];exact rfl
      have bn:(D != 0)=true:=by simpa using her
      go_wp2
      go_step3
      exact⟨rfl,D,cap,lt,_,_,af.out,R0.out,X.out,V.out,_,_,_,_,_,_,_,_,_,_,_,_,_,_,_,_,_,_,_,_,_,_,_,_,_,_,_,_,_,_,_,_,_,_,_,_,_,_,_,_,_,_,_,_,_,_,_,_,_,rfl⟩
    ·skip
     have av:Hid (Calls Tryz.prog 36 #[.slice (some ⟨w.heap.size+2,p,none⟩) (L.length - p) (cap - p),.func (.func 33) #[.pointer (some ⟨w.heap.size+1,0,none⟩)] #[]] wr fun e w'=>e=.returned (tripV (lookR (L.drop p) (clo lt)))∧Below wr.heap.size wr w'):=by
      have h:=zkg (some ⟨w.heap.size+2,p,none⟩) (cap - p) (L.drop p) (w.heap.size+1) lt wr (by have h:=BA.drop an p;rw[Nat.zero_add] at h;exact h) (by rw[List.length_drop];omega) (by rw[List.length_drop];omega) c0 c1;rw[List.length_drop] at h;exact h
     obtain⟨k,n,D,ar⟩:∃ k n D,lookR (L.drop p) (clo lt)=(k,n,D):=⟨_,_,_,rfl⟩;have K:=J ar;clear ar
     go_wp2_with fail
     refine(zfd (w.heap.size+1) lt wr c0 c1).mono ?_;rintro e W0 ⟨rfl,ax⟩;rw[ax,hcl];clear ax
     go_wp2_with fail
     refine av.out.mono ?_;rintro e W1 ⟨rfl,F⟩;rw[K.out,tripV];clear c0 c1 c3 c4 av;have R0:Hid (W1.heap[w.heap.size]?=some (.cells #[.int .i64 0,.int .i64 0] 28 (0,0))):=(F.block _ (zaa ac)).trans ac;have X:Hid (W1.heap[w.heap.size+1]?=some (.cells (lxC lt (.slice (some ⟨w.heap.size+2,0,none⟩) L.length cap) p N) 73 (0,0))):=(F.block _ (zaa ae)).trans ae;have R2:Hid (W1.heap[w.heap.size+2]?=some (.cells cs 5 fr)):=(F.block _ (zaa am)).trans am;have E:Hid (OwnT w.heap.size W1 N ts):=OwnG.below HT F;have V:=J (HB.out.trans (F.mono HB.out.size));have RA:Hid (BA W1 (some ⟨w.heap.size+2,0,none⟩) L):=BA.below an F;have ao:muW L.length (w.heap.size+1) wr=2 * (L.length - p)+(if clo lt=true then 1 else 0):=zfl ae;have ap:Hid (muW L.length (w.heap.size+1) wr=lexMu L p ts):=by rw[ao];unfold lexMu;rw[A.out];exact rfl
     clear F ac ae am HT HB ao an
     by_cases her:D=0
     ·subst her
      by_cases hk:k=0
      ·subst hk;obtain⟨ag,aa⟩:=zod (ts:=ts) (by rw[A.out];exact Y) hp (by rw[A.out];exact K);have Z:=J aa;have ai:Hid (lexG L f (p+n) ts=lexO s.data.toList):=by rw[<-ah.out,zfk (by rw[A.out];exact Y.out) (by rw[A.out];exact K.out)];exact rfl
       clear aa
       go_wp2_with fail
       refine(zki (w.heap.size+1) lt _ p N n W1 X.out (by omega)).mono ?_;rintro e y ⟨rfl,M,C⟩;have ab:∀ j,j<W1.heap.size->j≠w.heap.size+1->y.heap[j]?=W1.heap[j]?:=fun j h1 h2=>C.block j h1 h2 (fun e=>by cases e);have ak:Hid (∃ (p':Nat) (ts':List Tok) (f':Nat) (I:Value),p'<=L.length∧ts'.length<=1024∧y.heap[w.heap.size]?=some (.cells #[.int .i64 0,.int .i64 0] 28 (0,0))∧y.heap[w.heap.size+1]?=some (.cells (lxC (lastT ts') (.slice (some ⟨w.heap.size+2,0,none⟩) L.length cap) p' I) 73 (0,0))∧y.heap[w.heap.size+2]?=some (.cells cs 5 fr)∧OwnT w.heap.size y I ts'∧Below w.heap.size w y∧lexMu L p' ts'<f'∧lexG L f' p' ts'=lexO s.data.toList) :=
        ⟨p+n,ts,f,N,ag,aF,(ab _ (zaa R0.out) (by omega)).trans R0.out,by rw[A.out];exact M,(ab _ (zaa R2.out) (by omega)).trans R2.out,OwnG.keep E.out (fun j U=>ab j (OwnG.lt E.out U).2 (fun e=>OwnG.ne E.out X.out (by decide) (e ▸ U))),V.out.trans ⟨C.os,C.tape,C.output,C.size,fun j U=>ab j (Yg U V.out.size) (by omega)⟩,by have:=Z.out;omega,ai.out⟩
       have aj:Hid (muW L.length (w.heap.size+1) y<muW L.length (w.heap.size+1) wr):=by
        rw[ap.out,zfl M];have:=Z.out;unfold lexMu at this ⊢;rw[A.out] at this ⊢;exact this
       clear C M ab
       go_wp2
       exact⟨ak.out,aj.out⟩
      ·by_cases hfull:ts.length=1024
       ·have af:Hid (lexO s.data.toList=([],3,p)):=by rw[<-ah.out,ze8 (by rw[A.out];exact Y.out) (by rw[A.out];exact K.out) hk hfull];exact rfl
        obtain⟨st,ct,au⟩:=OwnG.shape E.out;rw[hfull] at au;subst au
        go_wp2_with fail
        refine(zii (w.heap.size+1) lt _ p st ct k n W1 X.out hk).mono ?_;rintro e y ⟨rfl,aw⟩;rw[aw];clear aw
        go_wp2
        go_step3
        exact⟨rfl,3,p,lt,_,_,af.out,R0.out,X.out,V.out,_,_,_,_,_,_,_,_,_,_,_,_,_,_,_,_,_,_,_,_,_,_,_,_,_,_,_,_,_,_,_,_,_,_,_,_,_,_,_,_,_,_,_,_,_,_,_,_,_,rfl⟩
       ·obtain⟨ag,aa⟩:=zoe (ts:=ts) (by rw[A.out];exact Y) hp (by rw[A.out];exact K) (t:=⟨k,strU ((L.drop p).take n),p⟩) rfl;have Z:=J aa;have ai:Hid (lexG L f (p+n) (ts++[⟨k,strU ((L.drop p).take n),p⟩])=lexO s.data.toList):=by rw[<-ah.out,zei (by rw[A.out];exact Y.out) (by rw[A.out];exact K.out) hk hfull];exact rfl
        clear aa
        go_wp2_with fail
        refine(zkh w.heap.size (w.heap.size+1) lt (w.heap.size+2) 0 cap p L N ts k n W1 X.out RA.out E.out ag aA (by omega) (by omega) hk (by omega)).mono ?_;rintro e y ⟨rfl,I,M,aq,C⟩;have ak:Hid (∃ (p':Nat) (ts':List Tok) (f':Nat) (I:Value),p'<=L.length∧ts'.length<=1024∧y.heap[w.heap.size]?=some (.cells #[.int .i64 0,.int .i64 0] 28 (0,0))∧y.heap[w.heap.size+1]?=some (.cells (lxC (lastT ts') (.slice (some ⟨w.heap.size+2,0,none⟩) L.length cap) p' I) 73 (0,0))∧y.heap[w.heap.size+2]?=some (.cells cs 5 fr)∧OwnT w.heap.size y I ts'∧Below w.heap.size w y∧lexMu L p' ts'<f'∧lexG L f' p' ts'=lexO s.data.toList) :=
         ⟨p+n,ts++[⟨k,strU ((L.drop p).take n),p⟩],f,I,ag,by rw[List.length_append,List.length_singleton];omega,Kept.row C E.out R0.out (by decide) (by omega),by rw[zde];exact M,Kept.row C E.out R2.out (by decide) (by omega),aq,V.out.trans (C.below E.out (by omega) V.out.size),by have:=Z.out;omega,ai.out⟩
        have aj:Hid (muW L.length (w.heap.size+1) y<muW L.length (w.heap.size+1) wr):=by
         rw[ap.out,zfl M];have:=Z.out;unfold lexMu at this ⊢;rw[zde] at this;exact this
        clear C M aq
        go_wp2
        exact⟨ak.out,aj.out⟩
     ·have af:Hid (lexO s.data.toList=([],D,p)):=by rw[<-ah.out,zfj (by rw[A.out];exact Y.out) (by rw[A.out];exact K.out) her];exact rfl
      have bn:(D != 0)=true:=by simpa using her
      go_wp2
      go_step3
      exact⟨rfl,D,p,lt,_,_,af.out,R0.out,X.out,V.out,_,_,_,_,_,_,_,_,_,_,_,_,_,_,_,_,_,_,_,_,_,_,_,_,_,_,_,_,_,_,_,_,_,_,_,_,_,_,_,_,_,_,_,_,_,_,_,_,_,rfl⟩
def numO (t:Tok):Option Nat:=if t.kind=2 then decO t.text.data.toList else none
def valO (t:Tok):Option (List UInt8):=if t.kind=3 then(match unqO t.text.data.toList with|some (v,n)=>if n=t.text.size then some v else none|none=>none) else none
def numV (o:Option Nat) (e:Int):Value:=match o with|none=>.tuple #[.int .i64 0,.int .i64 e] | some n=>.tuple #[.int .i64 n,.int .i64 0]
theorem zrn (t:Tok)(w:World):Calls Tryz.prog 165 #[.agg t.cells] w fun e w'=>e=.returned (numV (numO t) 201)∧Below w.heap.size w w':=by
 unfold Tok.cells
 go_enter Tryz.func165,Tryz.ntmps165
 go_wp2_with fail
 refine zag (fun W=>W.heap[w.heap.size]?=some (.cells #[.int .i64 t.kind,.string t.text,.int .i64 t.pos] 38 (0,0))∧Below w.heap.size w W) ⟨Yd _ _,(Yb _ _).alloc (Ya _) _⟩ ?_;rintro W0 ⟨F,A⟩;refine(zif t.text W0).mono ?_;rintro e W1 ⟨rfl,D⟩;have I:W1.heap[w.heap.size]?=some (.cells #[.int .i64 t.kind,.string t.text,.int .i64 t.pos] 38 (0,0)):=(D.block _ (zaa F)).trans F;have c0:W1.cell? ⟨w.heap.size,0,none⟩=some (.int .i64 t.kind):=Yp 0 I rfl;have E:Below w.heap.size w W1:=A.trans (D.mono A.size);clear F I A D
 cases hk:(t.kind == 2)
 ·have K:(t.kind != 2)=true:=by rw[bne,hk];rfl
  have y:Hid (numO t=none):=by unfold numO;rw[if_neg (by simpa using hk)];exact rfl
  clear hk;unfold decV
  go_wp2
  go_ret2
  refine⟨?_,E⟩;rw[y.out];exact rfl
 ·have K:(t.kind != 2)=false:=by rw[bne,hk];rfl
  have y:Hid (numO t=decO t.text.data.toList):=by unfold numO;rw[if_pos (by simpa using hk)];exact rfl
  clear hk
  cases hd:decO t.text.data.toList with
  | none=>
   have C:Hid (numO t=none):=by rw[y.out,hd];exact rfl
   unfold decV
   go_wp2
   go_ret2
   refine⟨?_,E⟩;rw[C.out];exact rfl
  | some n=>
   have C:Hid (numO t=some n):=by rw[y.out,hd];exact rfl
   unfold decV
   go_wp2
   go_ret2
   refine⟨?_,E⟩;rw[C.out];exact rfl
theorem zog (t:Tok)(w:World)(hs:t.text.size<=100000):Calls Tryz.prog 106 #[.agg t.cells] w fun e w'=>e=.returned (strV (valO t) 200)∧Below w.heap.size w w':=by
 unfold Tok.cells;obtain⟨cap,y,cs,fr,Y,I,U,ae,ag⟩:=zof t.text (w.alloc (.cells #[.int .i64 t.kind,.string t.text,.int .i64 t.pos] 38));have ac:(w.alloc (.cells #[.int .i64 t.kind,.string t.text,.int .i64 t.pos] 38)).heap.size=w.heap.size+1:=by simp
 have K:Hid (t.text.size=t.text.data.toList.length):=by show t.text.size=t.text.data.toList.length;simp
 rw[ac] at Y I U;have ab:Hid (BA y (some ⟨w.heap.size+1,0,none⟩) t.text.data.toList):=BA.of_row U ae;have N:Below w.heap.size w y:=((Yb _ _).alloc (Ya _) _).trans (I.mono (by omega));have aa:y.heap[w.heap.size]?=some (.cells #[.int .i64 t.kind,.string t.text,.int .i64 t.pos] 38 (0,0)):=(I.block _ (by omega)).trans (Yd _ _);clear U ae I ac
 go_enter Tryz.func106,Tryz.ntmps106
 go_wp2_with fail
 have HU:Hid (Calls Tryz.prog 94 #[.slice (some ⟨w.heap.size+1,0,none⟩) t.text.size cap] y fun e w'=>UnqP y.heap.size w' (unqO t.text.data.toList) e∧Below y.heap.size y w'):=by
  have:=zgm (some ⟨w.heap.size+1,0,none⟩) cap t.text.data.toList y ab (by have:=K.out;omega) (by have:=K.out;omega);rw[<-K.out] at this;exact this
 refine HU.out.mono ?_;rintro e W1 ⟨D,Z⟩;have V:W1.heap[w.heap.size]?=some (.cells #[.int .i64 t.kind,.string t.text,.int .i64 t.pos] 38 (0,0)):=(Z.block _ (zaa aa)).trans aa;have c0:W1.cell? ⟨w.heap.size,0,none⟩=some (.int .i64 t.kind):=Yp 0 V rfl;have c1:W1.cell? ⟨w.heap.size,1,none⟩=some (.string t.text):=Yp 1 V rfl;have C:Below w.heap.size w W1:=N.trans (Z.mono N.size);clear aa V Z N HU ab Y;have E:Hid (¬ t.kind=3->valO t=none):=fun h=>by unfold valO;rw[if_neg h]
 have F:Hid (t.kind=3->valO t=match unqO t.text.data.toList with|some (v,n)=>if n=t.text.size then some v else none|none=>none):=fun h=>by unfold valO;rw[if_pos h]
 cases hu:unqO t.text.data.toList with
 | none=>
  rw[hu] at D;unfold UnqP at D;subst D;have A:Hid (valO t=none):=by
   by_cases hk:t.kind=3
   ·exact(F hk).trans (by rw[hu])
   ·exact E hk
  clear E F hu
  cases hk:(t.kind == 3)
  ·have X:(t.kind != 3)=true:=by rw[bne,hk];rfl
   clear hk
   go_wp2
   go_ret2
   refine⟨?_,C⟩;rw[A.out];exact rfl
  ·have X:(t.kind != 3)=false:=by rw[bne,hk];rfl
   clear hk
   go_wp2
   go_ret2
   refine⟨?_,C⟩;rw[A.out];exact rfl
 | some p=>
  obtain⟨v,n⟩:=p;rw[hu] at D;obtain⟨u,rfl,hO⟩:=D;have hn:=zg1 hu;have ah:((n:Int) == 0)=false:=by rw[beq_eq_false_iff_ne];omega
  obtain⟨su,cu,rfl,af,-,-,-⟩:=OwnG.rows elB hO;have Y:=zgz (BA.of_rows af) cu
  cases hk:(t.kind == 3)
  ·have X:(t.kind != 3)=true:=by rw[bne,hk];rfl
   have A:Hid (valO t=none):=E.out (by simpa using hk);clear hk E F hu
   go_wp2
   go_ret2
   refine⟨?_,C⟩;rw[A.out];exact rfl
  ·have X:(t.kind != 3)=false:=by rw[bne,hk];rfl
   have M:Hid (valO t=if n=t.text.size then some v else none):=(F (by simpa using hk)).trans (by rw[hu]);clear hk E F hu
   by_cases hlt:n<t.text.size
   ·have A:Hid (valO t=none):=by rw[M.out,if_neg (by omega)];exact rfl
    have hd:(n:Int)<t.text.size:=by omega
    clear M
    go_wp2
    go_ret2
    refine⟨?_,C⟩;rw[A.out];exact rfl
   ·have A:Hid (valO t=some v):=by rw[M.out,if_pos (by have:=K.out;omega)];exact rfl
    have hd:¬ (n:Int)<t.text.size:=by omega
    clear M
    go_wp2
    go_ret2
    refine⟨?_,C⟩;rw[A.out];exact rfl
def tkEq (a b:Tok):Bool:=(a.kind == b.kind) && (a.text.toList == b.text.toList)
theorem zkk {α:Type}{eq:α->α->Bool}{r q:List α}(h:¬ r.length=q.length):eqAll eq r q=false:=by
 rw[<-Bool.not_eq_true];exact fun y=>h (zdt y)
theorem zkl {α:Type}{eq:α->α->Bool}{r q:List α}{i:Nat}{a b:α}(ha:r[i]?=some a)(hb:q[i]?=some b)(h:eq a b=false):eqAll eq r q=false:=by
 rw[<-Bool.not_eq_true];intro y;have:=(zd4 (zdt y)).1 y i a b ha hb;rw[h] at this
 cases this
theorem zls (a b:Tok)(w:World):Calls Tryz.prog 91 #[.agg a.cells,.agg b.cells] w fun e w'=>e=.returned (.bool (tkEq a b))∧Below w.heap.size w w':=by
 unfold Tok.cells
 go_enter Tryz.func91,Tryz.ntmps91
 go_wp2
 all_goals go_ret
 all_goals (refine⟨zay ?_,((Yb _ _).alloc (Ya _) _).alloc (by simp) _⟩;simp_all [tkEq])
theorem zvq (sp tp:Option Addr)(c1 c2:Nat)(xs ys:List Tok)(w:World)(h1:RowsT w sp xs)(h2:RowsT w tp ys)(hl:xs.length<=1000000)(hlc:ys.length<=1000000) :
  Calls Tryz.prog 90 #[.slice sp xs.length c1,.slice tp ys.length c2,.func (.func 91) #[] #[]] w fun e w'=>e=.returned (.bool (eqAll tkEq xs ys))∧Below w.heap.size w w':=by
 have X:=J h1;have Y:=J h2;clear h1 h2
 by_cases hlen:xs.length=ys.length
 ·have ag:Hid (eqAll tkEq xs ys=true ↔ ∀ (i:Nat) a b,xs[i]?=some a->ys[i]?=some b->tkEq a b=true):=zd4 hlen;have ae:((xs.length:Int) != (ys.length:Int))=false:=by simp;omega
  have ac:=J hlen;clear hlen
  go_enter Tryz.func90,Tryz.ntmps90
  go_wp2
  go_loopw [17] (fun i wr=>∃ t:Nat,t<=xs.length∧i=.int .i64 t∧Below w.heap.size w wr∧∀ (j:Nat) (a b:Tok),j<t->xs[j]?=some a->ys[j]?=some b->tkEq a b=true) (fun i _=>xs.length - (intOf i).toNat)
  case atStart=>exact⟨0,Yk _,rfl,Yb _ _,fun j a b hj=>by omega⟩
  case round=>
   obtain⟨t,ht,rfl,D,V⟩:=hrel;have U:=J V;clear V
   by_cases hlt:t<xs.length
   ·have af:t<ys.length:=by have:=ac.out;omega
    have hd:decide ((t:Int)<xs.length)=true:=by simp;omega
    have aj:decide ((t:Int)<ys.length)=true:=by simp;omega
    obtain⟨b1,f1,rfl,-⟩:=X.out (by omega);obtain⟨b2,f2,rfl,-⟩:=Y.out (by omega);obtain⟨x,K⟩:∃ x,xs[t]?=some x:=⟨_,Yh hlt⟩;obtain⟨y,M⟩:∃ y,ys[t]?=some y:=⟨_,Yh af⟩;obtain⟨k0,k1,k2⟩:=zf6 (RowsAt.below X D) K;obtain⟨l0,l1,l2⟩:=zf6 (RowsAt.below Y D) M;have ai:b2<wr.heap.size:=block_lt_of_cell l0;have Z:=J K;have N:=J M;clear K M;have E:Hid (Below w.heap.size w ((wr.alloc (.cells #[.int .i64 x.kind,.string x.text,.int .i64 x.pos] 38)).alloc (.cells #[.int .i64 y.kind,.string y.text,.int .i64 y.pos] 38))):=(D.alloc D.size _).alloc (by simp;exact Nat.le_succ_of_le D.size) _
    cases hq:tkEq x y
    ·have I:Hid (eqAll tkEq xs ys=false):=zkl Z N hq
     go_wp2_with (go_at_call 91;refine(zls x y _).mono ?_;rintro e aa ⟨rfl,F⟩;rw[hq])
     go_ret
     exact⟨zay I.out.symm,E.out.trans (F.mono E.out.size)⟩
    ·have ab:Hid (∀ (j:Nat) (a b:Tok),j<t+1->xs[j]?=some a->ys[j]?=some b->tkEq a b=true):=fun j a b hj A C=>by
      by_cases hjt:j<t
      ·exact U j a b hjt A C
      ·obtain rfl:j=t:=by omega
       rw[Z.out] at A;rw[N.out] at C;injection A with A;injection C with C;rw[<-A,<-C];exact hq
     go_wp2_with (go_at_call 91;refine(zls x y _).mono ?_;rintro e aa ⟨rfl,F⟩;rw[hq])
     exact⟨⟨t+1,by omega,by go_num,E.out.trans (F.mono E.out.size),ab.out⟩,by simp[intOf];omega⟩
   ·have hd:decide ((t:Int)<xs.length)=false:=by simp;omega
    have ah:Hid (eqAll tkEq xs ys=true):=ag.out.2 fun j a b A C=>U.out j a b (by have:=(List.getElem?_eq_some_iff.1 A).1;omega) A C
    go_wp2
    go_ret
    exact⟨zay ah.out.symm,D⟩
 ·have ae:((xs.length:Int) != (ys.length:Int))=true:=by simp;omega
  have I:Hid (eqAll tkEq xs ys=false):=zkk hlen
  go_enter Tryz.func90,Tryz.ntmps90
  go_wp2
  go_ret
  exact⟨zay I.out.symm,Yb _ _⟩
theorem zvr (sp tp:Option Addr)(c1 c2:Nat)(xs ys:List Tok)(w:World)(h1:RowsT w sp xs)(h2:RowsT w tp ys)(hl:xs.length<=1000000)(hlc:ys.length<=1000000) :
  Calls Tryz.prog 60 #[.slice sp xs.length c1,.slice tp ys.length c2] w fun e w'=>e=.returned (.bool (eqAll tkEq xs ys))∧Below w.heap.size w w':=by
 have A:=J h1;have y:=J h2;clear h1 h2
 go_enter Tryz.func60,Tryz.ntmps60
 go_wp2_with fail
 refine(zvq sp tp c1 c2 xs ys w A y hl hlc).mono ?_;rintro e W ⟨rfl,b⟩
 go_wp2
 go_ret
 exact⟨rfl,b⟩
theorem zd7 (w:World)(n m:Nat):(w.drewN n).drewN m=w.drewN (n+m):=by simp[World.drewN,Nat.add_assoc]
def alnB (t:Tok):Bool:=match (lexO t.text.data.toList).1 with
 | []=>false
 | x::_=>tkEq x t
theorem zro (t:Tok)(w:World):Calls Tryz.prog 35 #[.agg t.cells] w fun e w'=>e=.returned (.bool (alnB t))∧Below w.heap.size w w':=by
 unfold Tok.cells
 go_enter Tryz.func35,Tryz.ntmps35
 go_wp2_with fail
 refine zag (fun W1=>Below w.heap.size w W1∧W1.heap[w.heap.size]?=some (.cells t.cells 38 (0,0))∧W1.heap.size=w.heap.size+1) ⟨(Yb _ _).alloc (Ya _) _,Yd _ _,by simp⟩ ?_;intro W1 ⟨b1,r1,z1⟩;refine(zrm t.text W1).mono ?_;rintro e C ⟨⟨v,rfl,o2⟩,b2⟩;obtain⟨sp,cap,rfl,R2,U,N,hm⟩:=OwnG.rows elT o2;have aa:Below w.heap.size w C:=b1.trans (b2.mono b1.size);have ab:C.heap[w.heap.size]?=some (.cells t.cells 38 (0,0)):=(b2.block _ (by omega)).trans r1;clear r1 b1 b2 o2 z1;have D:Hid (Below w.heap.size w C):=aa;have RR:Hid (RowsT C sp (lexO t.text.data.toList).1):=R2;have F:Hid (alnB t=match (lexO t.text.data.toList).1 with
  | []=>false
  | x::_=>tkEq x t):=rfl
 clear aa R2;generalize lexO t.text.data.toList=r at U N RR F ⊢;obtain⟨ts,er,p⟩:=r
 cases ts with
 | nil=>
  have hR:Hid (alnB t=false):=F.out;clear F RR U N hm
  go_wp2
  go_region
  go_wp2
  go_ret
  exact⟨zay hR.out.symm,(D.out.alloc D.out.size _).drew⟩
 | cons x xs=>
  have hR:Hid (alnB t=tkEq x t):=F.out;obtain⟨M,I,rfl,K⟩:=RR.out (by simp);have ac:1<=cap:=by simp at N;omega
  have Y:Hid (∀ j u,x.cells[j]?=some u->C.cell? ⟨M,I+j,none⟩=some u):=fun j u E=>(by simpa using K 0 x rfl j u E);have X:Hid (C.heap[w.heap.size]?=some (.cells t.cells 38 (0,0))):=ab;clear F RR U N ab K
  go_wp2
  refine zdq (fun W=>Below w.heap.size w W∧W.heap[w.heap.size]?=some (.cells t.cells 38 (0,0))∧∀ j u,x.cells[j]?=some u->W.cell? ⟨M,I+j,none⟩=some u) ⟨D.out.alloc D.out.size _,?_,?_⟩ ?_
  ·exact(((Yb C.heap.size C).alloc (Ya _) _).block _ (zaa X.out)).trans X.out
  ·exact fun j u E=>(((Yb C.heap.size C).alloc (Ya _) _).cell (block_lt_of_cell (Y j u E))).trans (Y j u E)
  clear D Y X;intro W ⟨bw,row,K⟩;have Z:Hid (RowsT (W.alloc (.cells t.cells 38)).drew (some ⟨M,I,none⟩) [x]):=fun _=>⟨M,I,rfl,fun i y A j u E=>by
   have V:i=0:=by have:=(List.getElem?_eq_some_iff.1 A).1;simp at this;omega
   subst V;have:=K j u (by rw[List.getElem?_cons_zero] at A;injection A with A;rw[A];exact E);rw[Nat.zero_mul,Nat.add_zero];exact((((Yb W.heap.size W).alloc (Ya _) _).drew).cell (block_lt_of_cell this)).trans this⟩
  have R4:Hid (RowsT (W.alloc (.cells t.cells 38)).drew (some ⟨W.heap.size,0,none⟩) [t]):=fun _=>⟨W.heap.size,0,rfl,fun i y A j u E=>by
   have V:i=0:=by have:=(List.getElem?_eq_some_iff.1 A).1;simp at this;omega
   subst V;rw[List.getElem?_cons_zero] at A;injection A with A;subst A;exact(Yc _ _ _ _ _ _ (Yd _ _)).trans (by simpa using E)⟩
  have D:Hid (Below w.heap.size w (W.alloc (.cells t.cells 38)).drew):=(bw.alloc bw.size _).drew;have c0:W.cell? ⟨w.heap.size,0,none⟩=some (.int .i64 t.kind):=Yp 0 row rfl;have c1:W.cell? ⟨w.heap.size,1,none⟩=some (.string t.text):=Yp 1 row rfl;have c2:W.cell? ⟨w.heap.size,2,none⟩=some (.int .i64 t.pos):=Yp 2 row rfl;clear row K bw;unfold Tok.cells at Z R4 D
  go_region_with (refine(zvr (some ⟨M,I,none⟩) (some ⟨W.heap.size,0,none⟩) cap 1 [x] [t] _ Z.out R4.out (by simp) (by simp)).mono ?_;rintro e W5 ⟨rfl,b5⟩)
  all_goals (go_wp2;go_ret;exact⟨zay (by rw[hR.out];simp[eqAll]),D.out.trans (b5.mono D.out.size)⟩)
end Go.Proofs.YtmclgbkijeidaaaGreatDoor
