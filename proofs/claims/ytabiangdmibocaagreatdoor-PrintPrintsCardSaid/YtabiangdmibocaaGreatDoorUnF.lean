import Derived.Test.YtabiangdmibocaaGreatDoorUnE
import Derived.Test.YtabiangdmibocaaGreatDoorUnC
import Derived.WalkSmall
namespace Go.Proofs.YtabiangdmibocaaGreatDoor
set_option maxRecDepth 100000
open Go.RowKit
def ptrC (b:Nat):Array Value:=#[.pointer (some ⟨b,0,none⟩)]
theorem elP:El 139 112 1 ptrC:=by
 have h:(Tryz.prog.info? 112).map (fun i=>(i.zero,i.size,i.bytes))=some (some (.pointer none),1,8):=by kernel_rfl
 refine⟨Tryz.underlying139,?_,fun _=>rfl,fun _=>by simp[ptrC,Value.oneCell'],by omega⟩
 cases hi:Tryz.prog.info? 112 with
 | none=>rw[hi] at h;cases h
 | some i=>
  rw[hi] at h;simp only[Option.map_some,Option.some.injEq,Prod.mk.injEq] at h;exact⟨i,_,rfl,h.1,h.2.1,by omega,rfl⟩
abbrev OwnP:=OwnG 112 1 ptrC
abbrev RowsP (w:World) (sp:Option Addr) (bs:List Nat):Prop:=RowsAt w 1 ptrC sp bs
theorem RowsAt.stay {α:Type}{w w':World}{m:Nat}{cs:α->Array Value}{sp:Option Addr}{xs:List α}(h:RowsAt w m cs sp xs)(hb:∀ q,sp=some q->w'.heap[q.block]?=w.heap[q.block]?):RowsAt w' m cs sp xs:=fun hl=>by
 obtain⟨b,o,e,hc⟩:=h hl;exact⟨b,o,e,fun i x hx j u hu=>(World.cell?_of_block (a:=⟨b,o+i * m+j,Option.none⟩) (hb ⟨b,o,Option.none⟩ e)).trans (hc i x hx j u hu)⟩
theorem zb0 (w:World)(g:Nat):w.grownBy w (some g):=⟨rfl,rfl,rfl,Nat.le_refl _,fun _ _ _=>rfl⟩
theorem zaa {w W W':World}{g:Nat}(h:w.grownBy W (some g))(h':W.grownBy W' (some g)):w.grownBy W' (some g) :=
 ⟨h'.os.trans h.os,h'.tape.trans h.tape,h'.output.trans h.output,Nat.le_trans h.size h'.size,fun k hk hg=>(h'.block k (Nat.lt_of_lt_of_le hk h.size) hg).trans (h.block k hk hg)⟩
theorem zae {w W:World}{g:Nat}(h:Below w.heap.size w W):w.grownBy W (some g):=⟨h.os,h.tape,h.output,h.size,fun k hk _=>h.block k hk⟩
theorem za3 {w W W':World}{g:Nat}(h:w.grownBy W (some g))(h':Below w.heap.size W W'):w.grownBy W' (some g) :=
 ⟨h'.os.trans h.os,h'.tape.trans h.tape,h'.output.trans h.output,Nat.le_trans h.size h'.size,fun k hk hg=>(h'.block k hk).trans (h.block k hk hg)⟩
def paC (k:Int) (x:ByteArray) (n a f t:Int) (v:Value):Array Value:=#[.int .i64 k,.string x,.int .i64 n,.slice none 0 0,.int .i64 a,.int .i64 f,.int .i64 t,v]
inductive PtAt (w:World) (S:Nat->Prop):Nat->Pt->Prop
 | mk (b:Nat) (k:Int) (x:ByteArray) (n a f t:Int) (l:List Pt) (bs:List Nat) (sp:Option Addr) (cap:Nat)
  (hrow:w.heap[b]?=some (.cells (paC k x n a f t (.slice sp bs.length cap)) 141 (0,0))) (hb:S b) (hr:RowsP w sp bs) (hs:∀ q,sp=some q->S q.block)
  (hl:bs.length=l.length) (hk:∀ (i b':Nat) (t':Pt),bs[i]?=some b'->l[i]?=some t'->PtAt w S b' t'):PtAt w S b (.mk k x n a f t l)
theorem PtAt.keep {w w':World}{S S':Nat->Prop}{b:Nat}{t:Pt}(h:PtAt w S b t)(hS:∀ k,S k->S' k)(hh:∀ k,S k->w'.heap[k]?=w.heap[k]?):PtAt w' S' b t:=by
 induction h with
 | mk b k x n a f t l bs sp cap hrow hb hr hs hl hk ih=>
  exact .mk b k x n a f t l bs sp cap ((hh _ hb).trans hrow) (hS _ hb) (hr.stay fun q e=>hh _ (hs q e)) (fun q e=>hS _ (hs q e)) hl ih
def PsAt (w:World) (S:Nat->Prop) (bs:List Nat) (l:List Pt):Prop:=bs.length=l.length∧∀ (i b:Nat) (t:Pt),bs[i]?=some b->l[i]?=some t->PtAt w S b t
theorem PsAt.keep {w w':World}{S S':Nat->Prop}{bs:List Nat}{l:List Pt}(h:PsAt w S bs l)(hS:∀ k,S k->S' k)(hh:∀ k,S k->w'.heap[k]?=w.heap[k]?):PsAt w' S' bs l :=
 ⟨h.1,fun i b t h1 h2=>(h.2 i b t h1 h2).keep hS hh⟩
theorem PsAt.nil (w:World) (S:Nat->Prop):PsAt w S [] []:=⟨rfl,fun i b t h=>by simp at h⟩
theorem PsAt.one {w:World}{S:Nat->Prop}{b:Nat}{t:Pt}(h:PtAt w S b t):PsAt w S [b] [t]:=⟨rfl,fun i b' t' h1 h2=>by
 cases i with
 | zero=>
  have e1:b=b':=by simpa using h1
  have e2:t=t':=by simpa using h2
  rw[<-e1,<-e2];exact h
 | succ i=>simp at h1⟩
theorem PsAt.app {w:World}{S:Nat->Prop}{bs cs:List Nat}{l m:List Pt}(h:PsAt w S bs l)(h':PsAt w S cs m):PsAt w S (bs++cs) (l++m) :=
 ⟨by rw[List.length_append,List.length_append,h.1,h'.1],fun i b t h1 h2=>by
  by_cases hi:i<bs.length
  ·rw[List.getElem?_append_left hi] at h1;rw[List.getElem?_append_left (by rw[<-h.1];exact hi)] at h2;exact h.2 i b t h1 h2
  ·rw[List.getElem?_append_right (by omega)] at h1;rw[List.getElem?_append_right (by rw[<-h.1];omega),<-h.1] at h2;exact h'.2 _ b t h1 h2⟩
structure Mk (B:Nat) (w:World) (b:Nat) (k:Int) (x:ByteArray) (n a f t:Int) (v:Value) (l:List Pt):Prop where
 hB:B<=b
 row:w.heap[b]?=some (.cells (paC k x n a f t v) 141 (0,0))
 ex:∃ (bs:List Nat) (S:Nat->Prop),OwnP B w v bs∧PsAt w S bs l∧∀ j,S j->B<=j∧j<w.heap.size∧j≠b∧v.ownBlock≠some j
section
variable {B:Nat}{w w':World}{b:Nat}{k:Int}{x:ByteArray}{n a f t:Int}{v:Value}{l:List Pt}
theorem Mk.lt (h:Mk B w b k x n a f t v l):b<w.heap.size:=zab h.row
theorem Mk.own (h:Mk B w b k x n a f t v l){q:Nat}(hq:v.ownBlock=some q):q<w.heap.size:=by
 obtain⟨bs,S,h2,-⟩:=h.ex;exact(h2.lt hq).2
theorem Mk.mono {C:Nat}(h:Mk B w b k x n a f t v l)(hC:C<=B):Mk C w b k x n a f t v l:=by
 obtain⟨hB,h1,bs,S,h2,h3,h4⟩:=h;exact⟨Nat.le_trans hC hB,h1,bs,S,h2.mono hC,h3,fun j hj=>⟨Nat.le_trans hC (h4 j hj).1,(h4 j hj).2⟩⟩
theorem Mk.keep (h:Mk B w b k x n a f t v l)(hs:w.heap.size<=w'.heap.size)(hh:∀ j,B<=j->j<w.heap.size->w'.heap[j]?=w.heap[j]?):Mk B w' b k x n a f t v l:=by
 have hb:=h.lt;obtain⟨hB,h1,bs,S,h2,h3,h4⟩:=h;refine⟨hB,(hh _ hB hb).trans h1,bs,S,h2.keep fun q hq=>hh _ (h2.lt hq).1 (h2.lt hq).2,h3.keep (fun _ h=>h) fun j hj=>hh _ (h4 j hj).1 (h4 j hj).2.1,fun j hj=>?_⟩;obtain⟨c1,c2,c3,c4⟩:=h4 j hj;exact⟨c1,by omega,c3,c4⟩
theorem Mk.grow {g:Nat}(h:Mk B w b k x n a f t v l)(hg:g<B)(hw:w.grownBy w' (some g)):Mk B w' b k x n a f t v l :=
 h.keep hw.size fun j hj hl=>hw.block j hl (fun e=>by injection e with e;omega)
theorem Mk.below (h:Mk B w b k x n a f t v l)(hw:Below w.heap.size w w'):Mk B w' b k x n a f t v l :=
 h.keep hw.size fun j _ hl=>hw.block j hl
theorem Mk.turn {k':Int}{x':ByteArray}{n' a' f' t':Int}(h:Mk B w b k x n a f t v l)(hs:w.heap.size<=w'.heap.size)(hh:∀ j,j≠b->j<w.heap.size->w'.heap[j]?=w.heap[j]?)
  (hr:w'.heap[b]?=some (.cells (paC k' x' n' a' f' t' v) 141 (0,0))):Mk B w' b k' x' n' a' f' t' v l:=by
 obtain⟨hB,h1,bs,S,h2,h3,h4⟩:=h;refine⟨hB,hr,bs,S,h2.keep fun q hq=>hh _ (fun e=>?_) (h2.lt hq).2,h3.keep (fun _ h=>h) fun j hj=>hh _ (h4 j hj).2.2.1 (h4 j hj).2.1,fun j hj=>?_⟩
 ·exact h2.ne h1 (by decide) (by rw[hq,e])
 ·obtain⟨c1,c2,c3,c4⟩:=h4 j hj;exact⟨c1,by omega,c3,c4⟩
theorem Mk.fin (h:Mk B w b k x n a f t v l):PtAt w (fun j=>B<=j∧j<w.heap.size) b (.mk k x n a f t l):=by
 have hb:=h.lt;obtain⟨hB,h1,bs,S,h2,h3,h4⟩:=h;obtain⟨sp,cap,rfl,hr,-⟩:=OwnG.rows elP h2;refine .mk b k x n a f t l bs sp cap h1 ⟨hB,hb⟩ hr (fun q hq=>?_) h3.1 fun i b' t' e1 e2=>(h3.2 i b' t' e1 e2).keep (fun j hj=>⟨(h4 j hj).1,(h4 j hj).2.1⟩) fun _ _=>rfl;subst hq;exact h2.lt rfl
theorem Mk.new (w:World)(k:Int)(x:ByteArray)(n a f t:Int):Mk w.heap.size (w.alloc (.cells (paC k x n a f t (.slice none 0 0)) 141)) w.heap.size k x n a f t (.slice none 0 0) [] :=
 ⟨Nat.le_refl _,heap_alloc_new _ _,[],fun _=>False,zcy _ _,PsAt.nil _ _,fun _ h=>h.elim⟩
end
def rowsL:List (List (List UInt8)):=[[[124,124]],[[38,38]],[[61,61],[33,61],[60],[60,61],[62],[62,61]],[[43],[45]],[[42],[47],[37]]]
def strC (s:ByteArray):Array Value:=#[.string s]
def Tabl (w:World):Prop:=∃ F:Nat->Option Addr × Nat,∀ (i:Nat) (l:List (List UInt8)),rowsL[i]?=some l->w.cell? ⟨1,i,none⟩=some (.slice (F i).1 l.length (F i).2)∧RowsAt w 1 strC (F i).1 (l.map strU)
structure Rdr (T:Nat) (w:World) (g:Nat) (st:Option Addr) (cap:Nat) (ts:List Tok) (p:Nat):Prop where
 row:w.heap[g]?=some (.cells #[.slice st ts.length cap,.int .i64 p] 110 (0,0))
 le:p<=ts.length
 few:ts.length<=100000
 ok:∀ t ∈ ts,-1000000000000000000<=t.pos∧t.pos<=1000000000000000000∧t.text.size<=100000
 hg:g<T
 hT:T<=w.heap.size
 env:∀ W:World,(∀ k,k<T->k≠g->W.heap[k]?=w.heap[k]?)->RowsT W st ts∧Tabl W
section
variable {T:Nat}{w w':World}{g:Nat}{st:Option Addr}{cap:Nat}{ts:List Tok}{p q:Nat}
theorem Rdr.lt (h:Rdr T w g st cap ts p):g<w.heap.size:=zab h.row
theorem Rdr.stay (h:Rdr T w g st cap ts p)(hs:w.heap.size<=w'.heap.size)(hw:∀ k,k<T->k≠g->w'.heap[k]?=w.heap[k]?)(hr:w'.heap[g]?=some (.cells #[.slice st ts.length cap,.int .i64 q] 110 (0,0)))(hq:q<=ts.length):Rdr T w' g st cap ts q :=
 ⟨hr,hq,h.few,h.ok,h.hg,Nat.le_trans h.hT hs,fun W hW=>h.env W fun k hk hkg=>(hW k hk hkg).trans (hw k hk hkg)⟩
theorem Rdr.keep (h:Rdr T w g st cap ts p)(hw:w.grownBy w' (some g))(hr:w'.heap[g]?=some (.cells #[.slice st ts.length cap,.int .i64 q] 110 (0,0)))(hq:q<=ts.length):Rdr T w' g st cap ts q :=
 h.stay hw.size (fun k hk hkg=>hw.block k (Nat.lt_of_lt_of_le hk h.hT) fun e=>hkg (by injection e)) hr hq
theorem Rdr.below {B:Nat}(h:Rdr T w g st cap ts p)(hT:T<=B)(hb:Below B w w'):Rdr T w' g st cap ts p :=
 h.stay hb.size (fun k hk _=>hb.block k (by omega)) ((hb.block _ (Nat.lt_of_lt_of_le h.hg hT)).trans h.row) h.le
theorem Rdr.low (h:Rdr T w g st cap ts p)(hb:Below w.heap.size w w'):Rdr T w' g st cap ts p:=h.below h.hT hb
theorem Rdr.c0 (h:Rdr T w g st cap ts p):w.cell? ⟨g,0,none⟩=some (.slice st ts.length cap):=(cell_of_row _ _ _ _ _ _ h.row).trans rfl
theorem Rdr.c1 (h:Rdr T w g st cap ts p):w.cell? ⟨g,1,none⟩=some (.int .i64 p):=(cell_of_row _ _ _ _ _ _ h.row).trans rfl
theorem Rdr.z (h:Rdr T w g st cap ts p)(j:Nat):w.frozen? ⟨g,j,none⟩=false:=frozen_of_row _ _ _ _ _ h.row
theorem Rdr.go (h:Rdr T w g st cap ts p)(hq:q<=ts.length):Rdr T (w.setCell ⟨g,1,none⟩ (.int .i64 q)) g st cap ts q:=by
 have hb:=(Below.refl 0 w).setCell (p:=⟨g,1,none⟩) (Nat.zero_le _) (.int .i64 q);refine h.keep ⟨hb.os,hb.tape,hb.output,hb.size,fun k hk hkg=>heap_setCell_other _ _ _ _ fun e=>hkg (by rw[show k=g from e])⟩ ?_ hq;exact heap_setCell_same _ _ 1 _ _ _ h.row
theorem Rdr.tok (h:Rdr T w g st cap ts p){i:Nat}(hi:i<ts.length):∃ b o,st=some ⟨b,o,none⟩∧w.cell? ⟨b,o+i * 3,none⟩=some (.int .i64 (nxT ts i).kind)∧w.cell? ⟨b,o+i * 3+1,none⟩=some (.string (nxT ts i).text)∧w.cell? ⟨b,o+i * 3+2,none⟩=some (.int .i64 (nxT ts i).pos):=by
 obtain⟨hr,-⟩:=h.env w fun _ _ _=>rfl;obtain⟨b,o,e,-⟩:=hr (by omega);subst e;have hx:ts[i]?=some (nxT ts i):=by unfold nxT;rw[List.getD_eq_getElem?_getD,List.getElem?_eq_getElem hi];rfl
 exact⟨b,o,rfl,zfv hr hx⟩
theorem Rdr.bound (h:Rdr T w g st cap ts p)(i:Nat):-1000000000000000000<=(nxT ts i).pos∧(nxT ts i).pos<=1000000000000000000∧(nxT ts i).text.size<=100000:=by
 by_cases hi:i<ts.length
 ·refine h.ok _ ?_;unfold nxT;rw[List.getD_eq_getElem?_getD,List.getElem?_eq_getElem hi];exact List.getElem_mem hi
 ·have e:nxT ts i=tokZ:=by unfold nxT;rw[List.getD_eq_getElem?_getD,List.getElem?_eq_none (by omega)];rfl
  rw[e];exact⟨by decide,by decide,by decide⟩
end
set_option maxHeartbeats 4000000
theorem zz3 {ts:List Tok}{i:Nat}(h:¬ i<ts.length):nxT ts i=tokZ:=by unfold nxT;rw[List.getD_eq_getElem?_getD,List.getElem?_eq_none (by omega)];rfl
theorem zdu {P:Program}{fn:Func}{p:Tmp}{ty:TypeId}(h:fn.results=#[.cell p ty])(tmps:Array Value)(w:World)(g:Nat)(t:TypeId)(cs:Array Value)(fr:Nat × Nat)(d:TypeDesc)
  (hp:tmps.getD p undef=.pointer (some ⟨g,0,none⟩)) (hg:w.heap[g]?=some (.cells cs t fr))
  (hu:P.underlying ty=some d) (hd:(match d with | .struct _ | .array _ _=>true|_=>false)=true) (hi:(P.info? ty).map (·.size)=some cs.size) :
  (results fn tmps).run P w=.ok (.agg cs) w:=by
 have hp':tmps[p]?.getD undef=.pointer (some ⟨g,0,none⟩):=by simpa using hp
 simp[results,h,hp',asAddr,run_loadVar_row w g t ty cs fr d hg hu hd hi]
theorem zfl {fn:Func}{q:Tmp}(h:fn.results=#[.cell q 38]){R:Ending->World->Prop}{tm:Array Value}{W:World}{k:Nat}{t:Tok}(hp:tm.getD q undef=.pointer (some ⟨k,0,none⟩))
  (hg:W.heap[k]?=some (.cells t.cells 38 (0,0))) (hR:R (.returned (.agg t.cells)) W):bodyPost Tryz.prog fn R .ret ⟨tm,[]⟩ W :=
 bodyPost_ret (v:=.agg t.cells) (zdu h _ _ k 38 t.cells (0,0) _ hp hg Tryz.underlying38 rfl (by kernel_rfl)) rfl hR
theorem zef {ops:Array Oper}{rest:List Oper}{o:Oper}{a:Act}{w:World}{Q:Exit->Act->World->Prop}(hgd:o.guard=none)(x y:Operand)(ho:o.op=.store 38 x y){k:Nat}{t z:Tok}
  (hx:a.eval x=.pointer (some ⟨k,0,none⟩)) (hy:a.eval y=.agg t.cells) (hz:w.heap[k]?=some (.cells z.cells 38 (0,0))) (h:wpList Tryz.prog ops Q rest (a.put o.dst undef) (w.setRow k t.cells)):wpList Tryz.prog ops Q (o::rest) a w :=
 wpList_store_row hgd 38 x y ho k t.cells hx hy 38 z.cells hz (by kernel_rfl) rfl (by simp[Tok.cells,Value.oneCell']) h
theorem zk4 {ops:Array Oper}{rest:List Oper}{o:Oper}{a:Act}{w:World}{Q:Exit->Act->World->Prop}(hgd:o.guard=none)(x:Operand)(ho:o.op=.load 38 x){k:Nat}{t:Tok}
  (hx:a.eval x=.pointer (some ⟨k,0,none⟩)) (hz:w.heap[k]?=some (.cells t.cells 38 (0,0))) (h:wpList Tryz.prog ops Q rest (a.put o.dst (.agg t.cells)) w):wpList Tryz.prog ops Q (o::rest) a w :=
 wpList_load_row hgd 38 x ho k hx 38 t.cells (0,0) _ hz Tryz.underlying38 rfl (by kernel_rfl) h
section
variable {T:Nat}{w:World}{g:Nat}{st:Option Addr}{cap:Nat}{ts:List Tok}{p:Nat}
theorem zjx (n:Nat)(hn:n<=1)(hR:Rdr T w g st cap ts p) :
  Calls Tryz.prog 171 #[.pointer (some ⟨g,0,none⟩),.int .i64 n] w fun e w'=>e=.returned (.agg (nxT ts (p+n)).cells)∧Below w.heap.size w w':=by
 have HR:=hid hR;have hle:=hR.le;have hfe:=hR.few;clear hR
 go_enter Tryz.func171,Tryz.ntmps171
 go_wp2
 refine zdd (fun W=>Below w.heap.size w W∧W.heap[w.heap.size]?=some (.cells tokZ.cells 38 (0,0))) ⟨(Below.refl _ _).alloc (Nat.le_refl _) _,heap_alloc_new _ _⟩ ?_;rintro W ⟨hB,hz⟩;have HRW:=hid (HR.out.low hB);have HB:=hid hB;have HZ:=hid hz;clear HR hB hz;have c0:=HRW.out.c0;have c1:=HRW.out.c1;have z0:W.cell? ⟨w.heap.size,0,none⟩=some (.int .i64 0):=(cell_of_row _ _ 0 _ _ _ HZ.out).trans rfl;have z1:W.cell? ⟨w.heap.size,1,none⟩=some (.string ⟨#[]⟩):=(cell_of_row _ _ 1 _ _ _ HZ.out).trans rfl;have z2:W.cell? ⟨w.heap.size,2,none⟩=some (.int .i64 0):=(cell_of_row _ _ 2 _ _ _ HZ.out).trans rfl;have f0:W.frozen? ⟨w.heap.size,0,none⟩=false:=frozen_of_row _ _ _ _ _ HZ.out;have f1:W.frozen? ⟨w.heap.size,1,none⟩=false:=frozen_of_row _ _ _ _ _ HZ.out;have f2:W.frozen? ⟨w.heap.size,2,none⟩=false:=frozen_of_row _ _ _ _ _ HZ.out;have HT:Hid (∀ a b c:Value,(((W.setCell ⟨w.heap.size,0,none⟩ a).setCell ⟨w.heap.size,1,none⟩ b).setCell ⟨w.heap.size,2,none⟩ c).heap[w.heap.size]?=some (.cells #[a,b,c] 38 (0,0))∧Below w.heap.size w (((W.setCell ⟨w.heap.size,0,none⟩ a).setCell ⟨w.heap.size,1,none⟩ b).setCell ⟨w.heap.size,2,none⟩ c)):=fun a b c=>
  ⟨heap_setCell_same _ _ 2 _ _ _ (heap_setCell_same _ _ 1 _ _ _ (heap_setCell_same _ _ 0 _ _ _ HZ.out)),((HB.out.setCell (Nat.le_refl _) _).setCell (Nat.le_refl _) _).setCell (Nat.le_refl _) _⟩
 by_cases h:p+n<ts.length
 ·obtain⟨b,o,rfl,k0,k1,k2⟩:=HRW.out.tok h;have h':¬ ((p:Int)+n ≥ ts.length):=by omega
  go_region
  go_wp2
  go_region
  go_wp2
  exact zfl Tryz.results171 rfl (HT.out _ _ _).1 ⟨rfl,(HT.out _ _ _).2.drew.drew⟩
 ·have HX:Hid (nxT ts (p+n)=tokZ):=zz3 h;have h':((p:Int)+n ≥ ts.length):=by omega
  clear h
  go_region
  go_wp2
  refine zfl (t:=tokZ) Tryz.results171 rfl (HT.out _ _ _).1 ⟨by rw[HX.out],(HT.out _ _ _).2.drew⟩
theorem zde (hR:Rdr T w g st cap ts p) :
  Calls Tryz.prog 137 #[.pointer (some ⟨g,0,none⟩)] w fun e w'=>e=.returned (.agg (nxT ts p).cells)∧Below w.heap.size w w':=by
 have HR:=hid hR;clear hR
 go_enter Tryz.func137,Tryz.ntmps137
 go_wp2_with fail
 refine zag (fun W=>Below w.heap.size w W∧W.heap[w.heap.size]?=some (.cells tokZ.cells 38 (0,0))) ⟨(Below.refl _ _).alloc (Nat.le_refl _) _,heap_alloc_new _ _⟩ ?_;rintro W ⟨hB,hz⟩;refine(zjx 0 (by omega) (HR.out.low hB)).mono ?_;rintro e W1 ⟨rfl,b1⟩;have HZ:Hid (W1.heap[w.heap.size]?=some (.cells tokZ.cells 38 (0,0))):=(b1.block _ (zab hz)).trans hz;have HB:Hid (Below w.heap.size w W1):=hB.trans (b1.mono hB.size);clear HR hB hz b1
 go_wp2_with (refine zef (by rfl) (.tmp 2) (.tmp 4) (by rfl) (by rfl) (by rfl) HZ.out ?_)
 exact zfl Tryz.results137 rfl (zam HZ.out) ⟨rfl,zar HB.out (Nat.le_refl _) _⟩
theorem zix (hR:Rdr T w g st cap ts p) :
  Calls Tryz.prog 144 #[.pointer (some ⟨g,0,none⟩)] w fun e w'=>e=.returned (.int .i64 (behI ts p))∧Below w.heap.size w w':=by
 have c0:=hR.c0;have c1:=hR.c1;have hle:=hR.le;have hfe:=hR.few;obtain⟨q1,q2,q3⟩:=hR.bound (p - 1)
 by_cases h:p=0
 ·subst h;clear hR
  go_enter Tryz.func144,Tryz.ntmps144
  go_wp2
  go_ret
  exact⟨rfl,Below.refl _ _⟩
 ·have hb:behI ts p=(nxT ts (p - 1)).pos+(nxT ts (p - 1)).text.size:=by unfold behI;rw[if_neg h]
  obtain⟨b,o,rfl,k0,k1,k2⟩:=hR.tok (show p - 1<ts.length by omega);have HBI:Hid _:=hb;obtain⟨m,rfl⟩:∃ m,p=m+1:=⟨p - 1,by omega⟩;rw[Nat.add_sub_cancel] at HBI q1 q2 q3 k0 k1 k2;clear hR hb h;have h0:((((m+1:Nat):Int)) == 0)=false:=by rw[beq_eq_false_iff_ne];omega
  have h1:(((m+1:Nat):Int)) - 1=m:=by omega
  have ha:=(Below.refl w.heap.size w).alloc (Nat.le_refl _) (.cells #[.int .i64 0,.string ⟨#[]⟩,.int .i64 0] 38);have d0:=(ha.cell (block_lt_of_cell c0)).trans c0;have d1:=(ha.cell (block_lt_of_cell c1)).trans c1;have e0:=(ha.cell (block_lt_of_cell k0)).trans k0;have e1:=(ha.cell (block_lt_of_cell k1)).trans k1;have e2:=(ha.cell (block_lt_of_cell k2)).trans k2;clear ha;have hn:Below w.heap.size w (w.drew.alloc (.cells (nxT ts m).cells 38)):=(Below.refl _ _).drew.alloc (Nat.le_refl _) _
  go_enter Tryz.func144,Tryz.ntmps144
  go_wp2
  go_region
  go_wp2
  go_ret
  exact⟨by rw[HBI.out];rfl,hn⟩
theorem zhd (hR:Rdr T w g st cap ts p) :
  Calls Tryz.prog 134 #[.pointer (some ⟨g,0,none⟩)] w fun e w'=>e=.returned (.int .i64 (herI ts p))∧Below w.heap.size w w':=by
 have c0:=hR.c0;have c1:=hR.c1;have hle:=hR.le;have hfe:=hR.few
 by_cases h:p<ts.length
 ·have HH:Hid (herI ts p=(nxT ts p).pos):=by show _=_;unfold herI;rw[if_pos h]
  obtain⟨b,o,rfl,k0,k1,k2⟩:=hR.tok h;clear hR;have h':(p:Int)<ts.length:=by omega
  go_enter Tryz.func134,Tryz.ntmps134
  go_wp2
  go_region
  go_wp2
  go_region
  go_wp2
  go_ret
  exact⟨by rw[HH.out];rfl,(Below.refl _ _).drew.drew⟩
 ·have HH:Hid (herI ts p=behI ts p):=by show _=_;unfold herI;rw[if_neg h]
  have HR:Hid _:=hR;have h':¬ ((p:Int)<ts.length):=by omega
  clear hR
  go_enter Tryz.func134,Tryz.ntmps134
  go_wp2
  go_region
  go_wp2_with fail
  refine zag (fun W=>Below w.heap.size w W) (Below.refl _ _).drew ?_;intro W hB;refine(zix (HR.out.low hB)).mono ?_;rintro e W1 ⟨rfl,b1⟩
  go_wp2
  go_ret
  exact⟨by rw[HH.out];rfl,hB.trans (b1.mono hB.size)⟩
def wroC (s:Int):Array Value:=#[.int .i64 210,.int .i64 s]
def wroE (s:Int):Ending:=.panicked [{ v:=.iface 107 (.agg (wroC s)),recovered:=false }]
theorem ze5 (hR:Rdr T w g st cap ts p) :
  Calls Tryz.prog 143 #[.pointer (some ⟨g,0,none⟩)] w fun e w'=>e=.returned (.agg (wroC (herI ts p)))∧Below w.heap.size w w':=by
 have HR:=hid hR;clear hR
 go_enter Tryz.func143,Tryz.ntmps143
 go_wp2_with fail
 refine zag (fun W=>Below w.heap.size w W∧W.heap[w.heap.size]?=some (.cells #[.int .i64 0,.int .i64 0] 107 (0,0))) ⟨(Below.refl _ _).alloc (Nat.le_refl _) _,heap_alloc_new _ _⟩ ?_;rintro W ⟨hB,hz⟩;refine(zhd (HR.out.low hB)).mono ?_;rintro e W1 ⟨rfl,b1⟩;have HZ:Hid (W1.heap[w.heap.size]?=some (.cells #[.int .i64 0,.int .i64 0] 107 (0,0))):=(b1.block _ (zab hz)).trans hz;have HB:Hid (Below w.heap.size w W1):=hB.trans (b1.mono hB.size);clear HR hB hz b1
 go_wp2_with (refine wpList_store_row (by rfl) 107 (.tmp 2) (.tmp 6) (by rfl) w.heap.size (wroC (herI ts p)) (by rfl) (by rfl) 107 _ HZ.out (by kernel_rfl) (by rfl) (by simp[wroC,Value.oneCell']) ?_)
 exact bodyPost_ret (v:=.agg (wroC (herI ts p))) (zdu Tryz.results143 _ _ w.heap.size 107 (wroC (herI ts p)) (0,0) _ rfl (zam HZ.out) Tryz.underlying107 rfl (by kernel_rfl)) rfl ⟨rfl,zar HB.out (Nat.le_refl _) _⟩
theorem zen (s:ByteArray)(hR:Rdr T w g st cap ts p) :
  Calls Tryz.prog 107 #[.pointer (some ⟨g,0,none⟩),.string s] w fun e w'=>e=.returned (.bool (isT ts p s.data.toList))∧Below w.heap.size w w':=by
 have HR:=hid hR;clear hR;have HX:Hid (((nxT ts p).text.toList == s.toList)=isT ts p s.data.toList):=by unfold isT;rw[ByteArray.toList_eq,ByteArray.toList_eq];rfl
 go_enter Tryz.func107,Tryz.ntmps107
 go_wp2_with fail
 refine(zde HR.out).mono ?_;rintro e W1 ⟨rfl,b1⟩;clear HR;unfold Tok.cells;have hfd:∀ (a b c:Value) (W:World),(Instr.field 38 (.agg #[a,b,c]) 1).run Tryz.prog W=.ok b W:=fun _ _ _ _=>rfl
 go_wp2
 go_ret
 exact⟨by rw[<-HX.out];rfl,b1⟩
theorem zv7 (s:ByteArray)(w:World):Calls Tryz.prog 13 #[.string s] w fun e w'=>e=.returned (.bool (kepB s))∧Below w.heap.size w w':=by
 have HK:Hid (kepB s=((s.toList == [112,97,99,107,97,103,101]) || (s.toList == [105,109,112,111,114,116]) || (s.toList == [99,111,110,115,116]) || (s.toList == [118,97,114]) ||
 (s.toList == [116,121,112,101]) || (s.toList == [115,116,114,117,99,116]) || (s.toList == [102,117,110,99]) || (s.toList == [105,102]) ||
 (s.toList == [101,108,115,101]) || (s.toList == [102,111,114]) || (s.toList == [114,101,116,117,114,110]) || (s.toList == [116,114,117,101]) ||
 (s.toList == [102,97,108,115,101]) || (s.toList == [105,110,116]) || (s.toList == [98,111,111,108]) || (s.toList == [115,116,114,105,110,103]))):=by unfold kepB;rw[ByteArray.toList_eq];rfl
 go_enter Tryz.func13,Tryz.ntmps13
 go_wp2 <;> first
  | (exfalso;simp_all;done)
  | (go_ret;exact⟨by rw[HK.out];simp_all,Below.refl _ _⟩)
end
theorem Rdr.went {T:Nat}{w:World}{g:Nat}{st:Option Addr}{cap:Nat}{ts:List Tok}{p:Nat}(h:Rdr T w g st cap ts p)(hp:p+1<=ts.length):w.grownBy (w.setCell ⟨g,1,none⟩ (.int .i64 ((p:Int)+1))) (some g)∧Rdr T (w.setCell ⟨g,1,none⟩ (.int .i64 ((p:Int)+1))) g st cap ts (p+1):=by
 have hb:=(Below.refl 0 w).setCell (p:=⟨g,1,none⟩) (Nat.zero_le _) (.int .i64 ((p:Int)+1));exact⟨⟨hb.os,hb.tape,hb.output,hb.size,fun k hk hkg=>heap_setCell_other _ _ _ _ fun e=>hkg (by rw[show k=g from e])⟩,h.go (q:=p+1) hp⟩
section
variable {T:Nat}{w:World}{g:Nat}{st:Option Addr}{cap:Nat}{ts:List Tok}{p:Nat}
theorem zf2 (hR:Rdr T w g st cap ts p) :
  Calls Tryz.prog 136 #[.pointer (some ⟨g,0,none⟩)] w fun e w'=>e=.returned (.bool (namB ts p))∧Below w.heap.size w w':=by
 have HR:=hid hR;clear hR;have HX:Hid (namB ts p=(((nxT ts p).kind == 1) && !kepB (nxT ts p).text)):=rfl
 go_enter Tryz.func136,Tryz.ntmps136
 go_wp2_with fail
 refine(zde HR.out).mono ?_;rintro e W1 ⟨rfl,b1⟩;have HB1:Hid (Below w.heap.size w W1):=b1;clear HR b1
 by_cases hn:(nxT ts p).kind=1
 rotate_left
 ·have hk:((nxT ts p).kind == 1)=false:=by rw[beq_eq_false_iff_ne];exact hn
  go_wp2_with (refine zef (by rfl) (.tmp 3) (.tmp 5) (by rfl) (t:=nxT ts p) (z:=tokZ) (by rfl) (by rfl) (heap_alloc_new _ _) ?_;refine zci (fun W=>Below w.heap.size w W∧W.heap[W1.heap.size]?=some (.cells (nxT ts p).cells 38 (0,0))) ⟨zar (HB1.out.alloc HB1.out.size _) HB1.out.size _,zam (heap_alloc_new _ _)⟩ ?_;rintro W2 ⟨hB2,hz2⟩;have HB2:Hid _:=hB2;have k0:W2.cell? ⟨W1.heap.size,0,none⟩=some (.int .i64 (nxT ts p).kind):=(cell_of_row _ _ 0 _ _ _ hz2).trans rfl;have k1:W2.cell? ⟨W1.heap.size,1,none⟩=some (.string (nxT ts p).text):=(cell_of_row _ _ 1 _ _ _ hz2).trans rfl;clear hB2 hz2)
  go_ret
  exact⟨by rw[HX.out,hk];rfl,HB2.out⟩
 ·have hk:((nxT ts p).kind == 1)=true:=by rw[hn];rfl
  go_wp2_with (refine zef (by rfl) (.tmp 3) (.tmp 5) (by rfl) (t:=nxT ts p) (z:=tokZ) (by rfl) (by rfl) (heap_alloc_new _ _) ?_;refine zci (fun W=>Below w.heap.size w W∧W.heap[W1.heap.size]?=some (.cells (nxT ts p).cells 38 (0,0))) ⟨zar (HB1.out.alloc HB1.out.size _) HB1.out.size _,zam (heap_alloc_new _ _)⟩ ?_;rintro W2 ⟨hB2,hz2⟩;have HB2:Hid _:=hB2;have k0:W2.cell? ⟨W1.heap.size,0,none⟩=some (.int .i64 (nxT ts p).kind):=(cell_of_row _ _ 0 _ _ _ hz2).trans rfl;have k1:W2.cell? ⟨W1.heap.size,1,none⟩=some (.string (nxT ts p).text):=(cell_of_row _ _ 1 _ _ _ hz2).trans rfl;clear hB2 hz2)
  refine(zv7 _ W2).mono ?_;rintro e W3 ⟨rfl,b3⟩
  go_wp2
  go_ret
  exact⟨by rw[HX.out,hk];rfl,HB2.out.trans (b3.mono HB2.out.size)⟩
def TakP (T:Nat) (w:World) (g:Nat) (st:Option Addr) (cap:Nat) (ts:List Tok) (p:Nat) (e:Ending) (w':World):Prop :=
 e=.returned (.agg (nxT ts p).cells)∧w.grownBy w' (some g)∧Rdr T w' g st cap ts (p+1)
theorem zff (hR:Rdr T w g st cap ts p)(hp:p<ts.length):Calls Tryz.prog 170 #[.pointer (some ⟨g,0,none⟩)] w (TakP T w g st cap ts p):=by
 have HR:=hid hR;have hfe:=hR.few;have hg:=hR.lt;clear hR
 go_enter Tryz.func170,Tryz.ntmps170
 go_wp2_with fail
 refine zag (fun W=>Below w.heap.size w W∧W.heap[w.heap.size]?=some (.cells tokZ.cells 38 (0,0))) ⟨(Below.refl _ _).alloc (Nat.le_refl _) _,heap_alloc_new _ _⟩ ?_;rintro W ⟨hB,hz⟩;refine(zde (HR.out.low hB)).mono ?_;rintro e W1 ⟨rfl,b1⟩;have HZ1:Hid (W1.heap[w.heap.size]?=some (.cells tokZ.cells 38 (0,0))):=(b1.block _ (zab hz)).trans hz;have HB1:Hid (Below w.heap.size w W1):=hB.trans (b1.mono hB.size);have hl1:w.heap.size<W1.heap.size:=zab HZ1.out;clear hB b1 hz
 go_wp2_with (first
  | (refine zef (by rfl) (.tmp 3) (.tmp 5) (by rfl) (t:=nxT ts p) (z:=tokZ) (by rfl) (by rfl) (heap_alloc_new _ _) ?_;refine zci (fun W=>Below w.heap.size w W∧W.heap[w.heap.size]?=some (.cells tokZ.cells 38 (0,0))∧W.heap[W1.heap.size]?=some (.cells (nxT ts p).cells 38 (0,0))) ⟨zar (HB1.out.alloc HB1.out.size _) HB1.out.size _,(setRow_other _ _ _ _ (by omega)).trans ((Below.heap_alloc _ _ _ hl1).trans HZ1.out),zam (heap_alloc_new _ _)⟩ ?_;rintro W2 ⟨hB2,hz2,ht2⟩;have HB2:Hid _:=hB2;have HZ2:Hid _:=hz2;have HT2:Hid _:=ht2;have HR2:Hid (Rdr T W2 g st cap ts p):=HR.out.low hB2;have c1:=HR2.out.c1;have z1:=HR2.out.z 1;clear hB2 hz2 ht2)
  | (refine zci (fun W=>w.grownBy W (some g)∧Rdr T W g st cap ts (p+1)∧W.heap[w.heap.size]?=some (.cells tokZ.cells 38 (0,0))∧W.heap[W1.heap.size]?=some (.cells (nxT ts p).cells 38 (0,0))) ⟨zaa (zae HB2.out) (HR2.out.went (by omega)).1,(HR2.out.went (by omega)).2,(heap_setCell_other _ _ _ _ (show w.heap.size≠g by omega)).trans HZ2.out,(heap_setCell_other _ _ _ _ (show W1.heap.size≠g by omega)).trans HT2.out⟩ ?_;rintro W3 ⟨hG3,hR3,hz3,ht3⟩;have HG3:Hid _:=hG3;have HR3:Hid _:=hR3;have HZ3:Hid _:=hz3;have HT3:Hid _:=ht3;clear hG3 hR3 hz3 ht3;refine zk4 (by rfl) (.tmp 3) (by rfl) (t:=nxT ts p) (by rfl) HT3.out ?_)
  | (refine zef (by rfl) (.tmp 2) (.tmp 13) (by rfl) (t:=nxT ts p) (z:=tokZ) (by rfl) (by rfl) HZ3.out ?_))
 have hb:Below w.heap.size W3 (W3.setRow w.heap.size (nxT ts p).cells):=zar (Below.refl _ _) (Nat.le_refl _) _;exact zfl Tryz.results170 rfl (zam HZ3.out) ⟨rfl,za3 HG3.out hb,HR.out.keep (za3 HG3.out hb) ((hb.block _ hg).trans HR3.out.row) (by omega)⟩
def MusP (T:Nat) (w:World) (g:Nat) (st:Option Addr) (cap:Nat) (ts:List Tok) (p:Nat) (b:Bool) (e:Ending) (w':World):Prop :=
 w.grownBy w' (some g)∧if b then e=.returned (.agg (nxT ts p).cells)∧Rdr T w' g st cap ts (p+1) else e=wroE (herI ts p)
theorem zjy (b:Bool)(hR:Rdr T w g st cap ts p)(hb:b=true->p<ts.length):Calls Tryz.prog 135 #[.pointer (some ⟨g,0,none⟩),.bool b] w (MusP T w g st cap ts p b):=by
 have HR:=hid hR;have hg:=hR.lt;clear hR
 cases b
 ·go_enter Tryz.func135,Tryz.ntmps135
  go_wp2_with fail
  refine zag (fun W=>Below w.heap.size w W) ((Below.refl _ _).alloc (Nat.le_refl _) _) ?_;intro W hB;refine(ze5 (HR.out.low hB)).mono ?_;rintro e W1 ⟨rfl,b1⟩;have HP:Hid (MusP T w g st cap ts p false (wroE (herI ts p)) W1):=⟨zae (hB.trans (b1.mono hB.size)),rfl⟩;clear HR hB b1
  go_wp2
  exact⟨rfl,HP.out⟩
 ·have hp:=hb rfl
  go_enter Tryz.func135,Tryz.ntmps135
  go_wp2_with fail
  refine zag (fun W=>Below w.heap.size w W∧W.heap[w.heap.size]?=some (.cells tokZ.cells 38 (0,0))) ⟨(Below.refl _ _).alloc (Nat.le_refl _) _,heap_alloc_new _ _⟩ ?_;rintro W ⟨hB,hz⟩;refine(zff (HR.out.low hB) hp).mono ?_;rintro e W1 ⟨rfl,g1,r1⟩;have hlt:=zab hz;have HG1:=hid (zaa (zae hB) g1);have HZ1:Hid (W1.heap[w.heap.size]?=some (.cells tokZ.cells 38 (0,0))):=(g1.block _ hlt (fun e=>by injection e with e;omega)).trans hz;have HW1:Hid _:=r1.row;clear hB hz g1 r1
  go_wp2_with (refine zef (by rfl) (.tmp 4) (.tmp 11) (by rfl) (t:=nxT ts p) (z:=tokZ) (by rfl) (by rfl) HZ1.out ?_)
  have hb:Below w.heap.size W1 (W1.setRow w.heap.size (nxT ts p).cells):=zar (Below.refl _ _) (Nat.le_refl _) _;exact zfl Tryz.results135 rfl (zam HZ1.out) ⟨za3 HG1.out hb,rfl,HR.out.keep (za3 HG1.out hb) ((hb.block _ hg).trans HW1.out) (by omega)⟩
theorem zdf (hR:Rdr T w g st cap ts p):Calls Tryz.prog 105 #[.pointer (some ⟨g,0,none⟩)] w (MusP T w g st cap ts p (namB ts p)):=by
 have HR:=hid hR;have hg:=hR.lt;clear hR;have hfd:∀ (a b c:Value) (W:World),(Instr.field 38 (.agg #[a,b,c]) 0).run Tryz.prog W=.ok a W:=fun _ _ _ _=>rfl
 go_enter Tryz.func105,Tryz.ntmps105
 go_wp2_with fail
 refine zag (fun W=>Below w.heap.size w W∧W.heap[w.heap.size]?=some (.cells tokZ.cells 38 (0,0))) ⟨(Below.refl _ _).alloc (Nat.le_refl _) _,heap_alloc_new _ _⟩ ?_;rintro W ⟨hB,hz⟩;refine(zf2 (HR.out.low hB)).mono ?_;rintro e W0 ⟨rfl,b0⟩;have hB0:Hid (Below w.heap.size w W0):=hB.trans (b0.mono hB.size);have hz0:Hid (W0.heap[w.heap.size]?=some (.cells tokZ.cells 38 (0,0))):=(b0.block _ (zab hz)).trans hz;clear hB hz b0
 try unfold Tok.cells
 go_wp2_with fail
 refine(zjy _ (HR.out.low hB0.out) zg3).mono ?_;rintro e W1 ⟨g1,hm⟩;have hlt:=zab hz0.out;have HG1:=hid (zaa (zae hB0.out) g1);have HZ1:Hid (W1.heap[w.heap.size]?=some (.cells tokZ.cells 38 (0,0))):=(g1.block _ hlt (fun e=>by injection e with e;omega)).trans hz0.out;clear hB0 hz0 g1 hlt;obtain⟨bb,hb⟩:∃ bb,(namB ts p)=bb:=⟨_,rfl⟩;have HBB:=hid hb
 cases bb
 ·rw[hb] at hm;simp only[Bool.false_eq_true,if_false] at hm;subst hm;have HP:Hid (MusP T w g st cap ts p (namB ts p) (wroE (herI ts p)) W1):=⟨HG1.out,by rw[hb];rfl⟩;clear hb;unfold wroE;clear HG1 HZ1 HR
  go_wp2
  exact⟨rfl,HP.out⟩
 ·rw[hb] at hm;simp only[if_true] at hm;obtain⟨rfl,r1⟩:=hm;have hle:=r1.le;have HW1:Hid _:=r1.row;clear r1 hb
  go_wp2_with (refine zef (by rfl) (.tmp 2) (.tmp 6) (by rfl) (t:=nxT ts p) (z:=tokZ) (by rfl) (by rfl) HZ1.out ?_)
  have hb:Below w.heap.size W1 (W1.setRow w.heap.size (nxT ts p).cells):=zar (Below.refl _ _) (Nat.le_refl _) _;exact zfl Tryz.results105 rfl (zam HZ1.out) ⟨za3 HG1.out hb,by rw[HBB.out];exact⟨rfl,HR.out.keep (za3 HG1.out hb) ((hb.block _ hg).trans HW1.out) hle⟩⟩
theorem zf3 (n:Int)(hn:n≠0)(hR:Rdr T w g st cap ts p):Calls Tryz.prog 106 #[.pointer (some ⟨g,0,none⟩),.int .i64 n] w (MusP T w g st cap ts p ((nxT ts p).kind == n)):=by
 have HR:=hid hR;have hg:=hR.lt;clear hR;have hfd:∀ (a b c:Value) (W:World),(Instr.field 38 (.agg #[a,b,c]) 0).run Tryz.prog W=.ok a W:=fun _ _ _ _=>rfl
 go_enter Tryz.func106,Tryz.ntmps106
 go_wp2_with fail
 refine zag (fun W=>Below w.heap.size w W∧W.heap[w.heap.size]?=some (.cells tokZ.cells 38 (0,0))) ⟨(Below.refl _ _).alloc (Nat.le_refl _) _,heap_alloc_new _ _⟩ ?_;rintro W ⟨hB,hz⟩;refine(zde (HR.out.low hB)).mono ?_;rintro e W0 ⟨rfl,b0⟩;have hB0:Hid (Below w.heap.size w W0):=hB.trans (b0.mono hB.size);have hz0:Hid (W0.heap[w.heap.size]?=some (.cells tokZ.cells 38 (0,0))):=(b0.block _ (zab hz)).trans hz;clear hB hz b0
 try unfold Tok.cells
 go_wp2_with fail
 refine(zjy _ (HR.out.low hB0.out) (fun h=>zf1 h hn)).mono ?_;rintro e W1 ⟨g1,hm⟩;have hlt:=zab hz0.out;have HG1:=hid (zaa (zae hB0.out) g1);have HZ1:Hid (W1.heap[w.heap.size]?=some (.cells tokZ.cells 38 (0,0))):=(g1.block _ hlt (fun e=>by injection e with e;omega)).trans hz0.out;clear hB0 hz0 g1 hlt;obtain⟨bb,hb⟩:∃ bb,((nxT ts p).kind == n)=bb:=⟨_,rfl⟩;have HBB:=hid hb
 cases bb
 ·rw[hb] at hm;simp only[Bool.false_eq_true,if_false] at hm;subst hm;have HP:Hid (MusP T w g st cap ts p ((nxT ts p).kind == n) (wroE (herI ts p)) W1):=⟨HG1.out,by rw[hb];rfl⟩;clear hb;unfold wroE;clear HG1 HZ1 HR
  go_wp2
  exact⟨rfl,HP.out⟩
 ·rw[hb] at hm;simp only[if_true] at hm;obtain⟨rfl,r1⟩:=hm;have hle:=r1.le;have HW1:Hid _:=r1.row;clear r1 hb
  go_wp2_with (refine zef (by rfl) (.tmp 4) (.tmp 11) (by rfl) (t:=nxT ts p) (z:=tokZ) (by rfl) (by rfl) HZ1.out ?_)
  have hb:Below w.heap.size W1 (W1.setRow w.heap.size (nxT ts p).cells):=zar (Below.refl _ _) (Nat.le_refl _) _;exact zfl Tryz.results106 rfl (zam HZ1.out) ⟨za3 HG1.out hb,by rw[HBB.out];exact⟨rfl,HR.out.keep (za3 HG1.out hb) ((hb.block _ hg).trans HW1.out) hle⟩⟩
def ExpP (T:Nat) (w:World) (g:Nat) (st:Option Addr) (cap:Nat) (ts:List Tok) (p:Nat) (b:Bool) (e:Ending) (w':World):Prop :=
 w.grownBy w' (some g)∧if b then e=.returned (.tuple #[])∧Rdr T w' g st cap ts (p+1) else e=wroE (herI ts p)
theorem zba (s:ByteArray)(hs:s.data.toList≠[])(hR:Rdr T w g st cap ts p):Calls Tryz.prog 103 #[.pointer (some ⟨g,0,none⟩),.string s] w (ExpP T w g st cap ts p (isT ts p s.data.toList)):=by
 have HR:=hid hR;clear hR
 go_enter Tryz.func103,Tryz.ntmps103
 go_wp2_with fail
 refine(zen s HR.out).mono ?_;rintro e W ⟨rfl,hB⟩
 go_wp2_with fail
 refine(zjy _ (HR.out.low hB) (fun h=>zb5 h hs)).mono ?_;rintro e W1 ⟨g1,hm⟩;have HG1:=hid (zaa (zae hB) g1);clear hB g1;obtain⟨bb,hb⟩:∃ bb,(isT ts p s.data.toList)=bb:=⟨_,rfl⟩;have HBB:=hid hb
 cases bb
 ·rw[hb] at hm;simp only[Bool.false_eq_true,if_false] at hm;subst hm;have HP:Hid (ExpP T w g st cap ts p (isT ts p s.data.toList) (wroE (herI ts p)) W1):=⟨HG1.out,by rw[hb];rfl⟩;clear hb;unfold wroE;clear HG1 HR
  go_wp2
  exact⟨rfl,HP.out⟩
 ·rw[hb] at hm;simp only[if_true] at hm;obtain⟨rfl,r1⟩:=hm;have HP:Hid (ExpP T w g st cap ts p (isT ts p s.data.toList) (.returned (.tuple #[])) W1):=⟨HG1.out,by rw[hb];exact⟨rfl,r1⟩⟩;clear r1 HG1 HR hb
  go_wp2
  go_end0
  exact HP.out
def SkiP (T:Nat) (w:World) (g:Nat) (st:Option Addr) (cap:Nat) (ts:List Tok) (p:Nat) (b:Bool) (e:Ending) (w':World):Prop :=
 e=.returned (.bool b)∧w.grownBy w' (some g)∧Rdr T w' g st cap ts (if b then p+1 else p)
theorem zeg (s:ByteArray)(hs:s.data.toList≠[])(hR:Rdr T w g st cap ts p):Calls Tryz.prog 174 #[.pointer (some ⟨g,0,none⟩),.string s] w (SkiP T w g st cap ts p (isT ts p s.data.toList)):=by
 have HR:=hid hR;have hfe:=hR.few;clear hR
 go_enter Tryz.func174,Tryz.ntmps174
 go_wp2_with fail
 refine(zen s HR.out).mono ?_;rintro e W ⟨rfl,hB⟩;have HB:=hid hB;have HRW:=hid (HR.out.low hB);clear hB;obtain⟨bb,hb⟩:∃ bb,isT ts p s.data.toList=bb:=⟨_,rfl⟩;rw[hb];have HBB:=hid hb
 cases bb
 ·go_wp2
  go_ret
  rw[HBB.out];exact⟨rfl,zae HB.out,HRW.out⟩
 ·have hp:=zb5 hb hs;have c1:=HRW.out.c1;have z1:=HRW.out.z 1
  go_wp2
  go_ret
  rw[HBB.out];exact⟨rfl,zaa (zae HB.out) (HRW.out.went hp).1,(HRW.out.went hp).2⟩
end
theorem zf4 (k f:Int)(w:World):Calls Tryz.prog 133 #[.int .i64 k,.int .i64 f] w fun e w'=>e=.returned (.pointer (some ⟨w.heap.size,0,none⟩))∧Mk w.heap.size w' w.heap.size k ⟨#[]⟩ 0 f f 0 (.slice none 0 0) []∧Below w.heap.size w w':=by
 go_enter Tryz.func133,Tryz.ntmps133
 go_wp2
 go_ret
 exact⟨rfl,Mk.new w k ⟨#[]⟩ 0 f f 0,(Below.refl _ _).alloc (Nat.le_refl _) _⟩
section
variable {T:Nat}{w:World}{g:Nat}{st:Option Addr}{cap:Nat}{ts:List Tok}{p:Nat}
theorem zbh (k:Int)(hR:Rdr T w g st cap ts p):Calls Tryz.prog 102 #[.pointer (some ⟨g,0,none⟩),.int .i64 k] w fun e w'=>∃ b,e=.returned (.pointer (some ⟨b,0,none⟩))∧Mk w.heap.size w' b k ⟨#[]⟩ 0 (herI ts p) (herI ts p) 0 (.slice none 0 0) []∧Below w.heap.size w w':=by
 have HR:=hid hR;clear hR
 go_enter Tryz.func102,Tryz.ntmps102
 go_wp2_with fail
 refine(zhd HR.out).mono ?_;rintro e W ⟨rfl,b0⟩
 go_wp2_with fail
 refine(zf4 k (herI ts p) W).mono ?_;rintro e W1 ⟨rfl,hM,b1⟩
 go_wp2
 go_ret
 exact⟨_,rfl,hM.mono b0.size,b0.trans (b1.mono b0.size)⟩
end
section
variable {B:Nat}{w:World}{b:Nat}{k:Int}{x:ByteArray}{n a f t:Int}{v:Value}{l:List Pt}
theorem Mk.word (h:Mk B w b k x n a f t v l)(x':ByteArray)(a':Int){W:World}(hb:Below w.heap.size w W):Mk B ((W.setCell ⟨b,1,none⟩ (.string x')).setCell ⟨b,4,none⟩ (.int .i64 a')) b k x' n a' f t v l∧Below B w ((W.setCell ⟨b,1,none⟩ (.string x')).setCell ⟨b,4,none⟩ (.int .i64 a'))∧∀ j,j≠b->j<w.heap.size->((W.setCell ⟨b,1,none⟩ (.string x')).setCell ⟨b,4,none⟩ (.int .i64 a')).heap[j]?=w.heap[j]?:=by
 have hM:=h.below hb;have h1:=heap_setCell_same _ _ 1 _ _ (.string x') hM.row;have h2:=heap_setCell_same _ _ 4 _ _ (.int .i64 a') h1;refine⟨hM.turn (by simp) (fun j hj _=>(heap_setCell_other _ _ _ _ hj).trans (heap_setCell_other _ _ _ _ hj)) h2,?_⟩;have hb':Below B w W:=⟨hb.os,hb.tape,hb.output,hb.size,fun k hk=>hb.block k (by have:=h.hB;have:=h.lt;omega)⟩;exact⟨(hb'.setCell (p:=⟨b,1,none⟩) h.hB _).setCell (p:=⟨b,4,none⟩) h.hB _,fun j hj hl=>(heap_setCell_other _ _ _ _ hj).trans ((heap_setCell_other _ _ _ _ hj).trans (hb.block j hl))⟩
theorem zf5 (t':Tok)(hM:Mk B w b k x n a f t v l):Calls Tryz.prog 104 #[.pointer (some ⟨b,0,none⟩),.agg t'.cells] w fun e w'=>e=.returned (.tuple #[])∧Mk B w' b k t'.text n t'.pos f t v l∧Below B w w'∧∀ j,j≠b->j<w.heap.size->w'.heap[j]?=w.heap[j]?:=by
 have HM:=hid hM;clear hM;unfold Tok.cells
 go_enter Tryz.func104,Tryz.ntmps104
 go_wp2
 refine zdd (fun W=>Below w.heap.size w W∧W.heap[w.heap.size]?=some (.cells t'.cells 38 (0,0))) ⟨(Below.refl _ _).alloc (Nat.le_refl _) _,heap_alloc_new _ _⟩ ?_;rintro W ⟨hB,hz⟩;have HB:=hid hB;have hM:=HM.out.below hB;have k1:W.cell? ⟨w.heap.size,1,none⟩=some (.string t'.text):=(cell_of_row _ _ 1 _ _ _ hz).trans rfl;have k2:W.cell? ⟨w.heap.size,2,none⟩=some (.int .i64 t'.pos):=(cell_of_row _ _ 2 _ _ _ hz).trans rfl;have c1:W.cell? ⟨b,1,none⟩=some (.string x):=(cell_of_row _ _ 1 _ _ _ hM.row).trans rfl;have c4:W.cell? ⟨b,4,none⟩=some (.int .i64 a):=(cell_of_row _ _ 4 _ _ _ hM.row).trans rfl;have f1:W.frozen? ⟨b,1,none⟩=false:=frozen_of_row _ _ _ _ _ hM.row;have f4:W.frozen? ⟨b,4,none⟩=false:=frozen_of_row _ _ _ _ _ hM.row;clear hM hz hB
 go_region
 go_end0
 obtain⟨h1,h2,h3⟩:=HM.out.word t'.text t'.pos HB.out;exact⟨rfl,h1.keep (Nat.le_refl _) fun _ _ _=>rfl,h2.drew,h3⟩
theorem zcu (t':Tok)(hM:Mk B w b k x n a f t v l):Calls Tryz.prog 104 #[.pointer (some ⟨b,0,none⟩),.agg t'.cells] w fun e w'=>e=.returned (.tuple #[])∧Mk B w' b k t'.text n t'.pos f t v l∧Below B w w' :=
 (zf5 t' hM).mono fun _ _ ⟨h1,h2,h3,_⟩=>⟨h1,h2,h3⟩
theorem Mk.more {bs2:List Nat}{l2:List Pt}{sp:Option Addr}{cp:Nat}{S2:Nat->Prop}(h:Mk B w b k x n a f t v l)(hr:RowsP w sp bs2)(hn:sp=none->bs2.length=0∧cp=0)(hp:PsAt w S2 bs2 l2)
  (hS:∀ j,S2 j->B<=j∧j<w.heap.size∧j≠b∧v.ownBlock≠some j) (hl:l.length+l2.length<=1000000) :
  ∃ s0 n0 c0 s1 n1 c1 W,v=.slice s0 n0 c0∧(Builtin.append_ #[139,139] 139 #[v,.slice sp bs2.length cp]).run Tryz.prog w=.ok (.slice s1 n1 c1) W∧W.cell? ⟨b,7,none⟩=some v∧W.frozen? ⟨b,7,none⟩=false ∧
   Mk B (W.setCell ⟨b,7,none⟩ (.slice s1 n1 c1)) b k x n a f t (.slice s1 n1 c1) (l++l2)∧Below B w (W.setCell ⟨b,7,none⟩ (.slice s1 n1 c1)):=by
 have hlt:=h.lt;obtain⟨hB,h1,bs,S,h2,h3,h4⟩:=h;obtain⟨s0,c0,rfl,-⟩:=OwnG.shape h2;obtain⟨v',W,hrun,ho,hg,hq⟩:=zdm elP 139 h2 hn hr (by rw[h3.1,hp.1];exact hl) (by omega);obtain⟨s1,c1,rfl⟩:=OwnG.shape ho;have hne:(Value.slice s0 bs.length c0).ownBlock≠some b:=h2.ne h1 (by decide);have hk:∀ j,j<w.heap.size->(Value.slice s0 bs.length c0).ownBlock≠some j->W.heap[j]?=w.heap[j]?:=fun j hj hn=>hg.block j hj fun e=>hn e.symm;have hrow:W.heap[b]?=some (.cells (paC k x n a f t (.slice s0 bs.length c0)) 141 (0,0)):=(hk b hlt hne).trans h1;have hnew:∀ j,j<w.heap.size->(Value.slice s0 bs.length c0).ownBlock≠some j->(Value.slice s1 (bs++bs2).length c1).ownBlock≠some j:=fun j hj hn e=>by
  rcases hq with hq|hq
  ·exact hn (hq.symm.trans e)
  ·rw[hq] at e;injection e with e;omega
 have hset:=heap_setCell_same _ _ 7 _ _ (.slice s1 (bs++bs2).length c1) hrow;refine⟨s0,_,c0,s1,_,c1,W,rfl,hrun,(cell_of_row _ _ 7 _ _ _ hrow).trans rfl,frozen_of_row _ _ _ _ _ hrow,⟨hB,hset,bs++bs2,fun j=>S j∨S2 j,?_,?_,?_⟩,?_⟩
 ·refine ho.keep fun q hq'=>heap_setCell_other _ _ _ _ fun e=>?_;exact hnew b hlt hne (by rw[hq',show q=b from e])
 ·refine PsAt.app ?_ ?_
  ·exact h3.keep (fun _ h=>.inl h) fun j hj=>(heap_setCell_other _ _ _ _ (h4 j hj).2.2.1).trans (hk j (h4 j hj).2.1 (h4 j hj).2.2.2)
  ·exact hp.keep (fun _ h=>.inr h) fun j hj=>(heap_setCell_other _ _ _ _ (hS j hj).2.2.1).trans (hk j (hS j hj).2.1 (hS j hj).2.2.2)
 ·rintro j hj;have hsz:(W.setCell ⟨b,7,none⟩ (.slice s1 (bs++bs2).length c1)).heap.size=W.heap.size:=by simp
  rw[hsz];have hle:=hg.size;rcases hj with hj|hj
  ·obtain⟨q1,q2,q3,q4⟩:=h4 j hj;exact⟨q1,by omega,q3,hnew j q2 q4⟩
  ·obtain⟨q1,q2,q3,q4⟩:=hS j hj;exact⟨q1,by omega,q3,hnew j q2 q4⟩
 ·have hb:Below B w W:=⟨hg.os,hg.tape,hg.output,hg.size,fun j hj=>hk j (by omega) fun e=>by have:=(h2.lt e).1;omega⟩;exact hb.setCell (p:=⟨b,7,none⟩) hB _
theorem zcq {bs2:List Nat}{l2:List Pt}{sp:Option Addr}{cp:Nat}{S2:Nat->Prop}(hM:Mk B w b k x n a f t v l)(hr:RowsP w sp bs2)(hn:sp=none->bs2.length=0∧cp=0)(hp:PsAt w S2 bs2 l2)
  (hS:∀ j,S2 j->B<=j∧j<w.heap.size∧j≠b∧v.ownBlock≠some j) (hl:l.length+l2.length<=1000000) :
  Calls Tryz.prog 108 #[.pointer (some ⟨b,0,none⟩),.slice sp bs2.length cp] w fun e w'=>e=.returned (.tuple #[])∧(∃ v',Mk B w' b k x n a f t v' (l++l2))∧Below B w w':=by
 obtain⟨s0,n0,c0,s1,n1,c1,W,rfl,hrun,hc,hz,hM',hb⟩:=hM.more hr hn hp hS hl;have HM:Hid _:=hM';have HBB:Hid _:=hb;have d7:w.cell? ⟨b,7,none⟩=some (.slice s0 n0 c0):=(cell_of_row _ _ 7 _ _ _ hM.row).trans rfl;clear hM hr hn hp hS hl hM' hb
 go_enter Tryz.func108,Tryz.ntmps108
 go_wp2_with (refine za2 (.tmp 8) (.tmp 9) 139 (by rfl) (by rfl) (by rfl) (by rfl) hrun ?_)
 go_end0
 exact⟨rfl,⟨_,HM.out⟩,HBB.out⟩
end
section
variable {T B:Nat}{w:World}{g:Nat}{st:Option Addr}{cap:Nat}{ts:List Tok}{p:Nat}{b:Nat}{k:Int}{x:ByteArray}{n a f t:Int}{v:Value}{l:List Pt}
theorem Mk.numb (h:Mk B w b k x n a f t v l)(u:Int):Mk B (w.setCell ⟨b,6,none⟩ (.int .i64 u)) b k x n a f u v l∧Below B w (w.setCell ⟨b,6,none⟩ (.int .i64 u))∧w.cell? ⟨b,6,none⟩=some (.int .i64 t)∧w.frozen? ⟨b,6,none⟩=false :=
 ⟨h.turn (by simp) (fun j hj _=>heap_setCell_other _ _ _ _ hj) (heap_setCell_same _ _ 6 _ _ (.int .i64 u) h.row),(Below.refl _ _).setCell (p:=⟨b,6,none⟩) h.hB _,(cell_of_row _ _ 6 _ _ _ h.row).trans rfl,frozen_of_row _ _ _ _ _ h.row⟩
theorem Mk.text (h:Mk B w b k x n a f t v l)(u:ByteArray):Mk B (w.setCell ⟨b,1,none⟩ (.string u)) b k u n a f t v l∧Below B w (w.setCell ⟨b,1,none⟩ (.string u))∧w.cell? ⟨b,1,none⟩=some (.string x)∧w.frozen? ⟨b,1,none⟩=false :=
 ⟨h.turn (by simp) (fun j hj _=>heap_setCell_other _ _ _ _ hj) (heap_setCell_same _ _ 1 _ _ (.string u) h.row),(Below.refl _ _).setCell (p:=⟨b,1,none⟩) h.hB _,(cell_of_row _ _ 1 _ _ _ h.row).trans rfl,frozen_of_row _ _ _ _ _ h.row⟩
theorem Mk.nums (h:Mk B w b k x n a f t v l)(u:Int):Mk B (w.setCell ⟨b,2,none⟩ (.int .i64 u)) b k x u a f t v l∧Below B w (w.setCell ⟨b,2,none⟩ (.int .i64 u))∧w.cell? ⟨b,2,none⟩=some (.int .i64 n)∧w.frozen? ⟨b,2,none⟩=false :=
 ⟨h.turn (by simp) (fun j hj _=>heap_setCell_other _ _ _ _ hj) (heap_setCell_same _ _ 2 _ _ (.int .i64 u) h.row),(Below.refl _ _).setCell (p:=⟨b,2,none⟩) h.hB _,(cell_of_row _ _ 2 _ _ _ h.row).trans rfl,frozen_of_row _ _ _ _ _ h.row⟩
theorem Mk.kind (h:Mk B w b k x n a f t v l)(u:Int):Mk B (w.setCell ⟨b,0,none⟩ (.int .i64 u)) b u x n a f t v l∧Below B w (w.setCell ⟨b,0,none⟩ (.int .i64 u))∧w.cell? ⟨b,0,none⟩=some (.int .i64 k)∧w.frozen? ⟨b,0,none⟩=false :=
 ⟨h.turn (by simp) (fun j hj _=>heap_setCell_other _ _ _ _ hj) (heap_setCell_same _ _ 0 _ _ (.int .i64 u) h.row),(Below.refl _ _).setCell (p:=⟨b,0,none⟩) h.hB _,(cell_of_row _ _ 0 _ _ _ h.row).trans rfl,frozen_of_row _ _ _ _ _ h.row⟩
theorem za4 {bs2:List Nat}{l2:List Pt}{sp:Option Addr}{cp:Nat}{S2:Nat->Prop}(hR:Rdr T w g st cap ts p)(hTB:T<=B)(hM:Mk B w b k x n a f t v l)(hr:RowsP w sp bs2)(hn:sp=none->bs2.length=0∧cp=0)(hp:PsAt w S2 bs2 l2)
  (hS:∀ j,S2 j->B<=j∧j<w.heap.size∧j≠b∧v.ownBlock≠some j) (hl:l.length+l2.length<=1000000) :
  Calls Tryz.prog 111 #[.pointer (some ⟨g,0,none⟩),.pointer (some ⟨b,0,none⟩),.slice sp bs2.length cp] w fun e w'=>e=.returned (.pointer (some ⟨b,0,none⟩))∧(∃ v',Mk B w' b k x n a f (behI ts p) v' (l++l2))∧Below B w w':=by
 have HR:=hid hR;have HM:=hid hM;have HRR:=hid hr;have HN:=hid hn;have HP:=hid hp;have HS:=hid hS;clear hR hM hr hn hp hS
 go_enter Tryz.func111,Tryz.ntmps111
 go_wp2_with fail
 refine(zcq HM.out HRR.out HN.out HP.out HS.out hl).mono ?_;rintro e W1 ⟨rfl,⟨v1,hM1⟩,b1⟩;have HM1:=hid hM1;clear hM1 HRR HN HP HS
 go_wp2_with fail
 refine(zix (HR.out.below hTB b1)).mono ?_;rintro e W2 ⟨rfl,b2⟩;have HM2:=hid (HM1.out.below b2);have HB2:Hid (Below B w W2):=b1.trans ⟨b2.os,b2.tape,b2.output,b2.size,fun j hj=>b2.block j (by have:=HM1.out.hB;have:=HM1.out.lt;omega)⟩;obtain⟨hM3,b3,c6,z6⟩:=HM2.out.numb (behI ts p);have HM3:Hid _:=hM3;have HB3:Hid _:=b3;clear hM3 b3 b1 b2 HM1
 go_wp2
 go_ret
 exact⟨rfl,⟨_,HM3.out⟩,HB2.out.trans HB3.out⟩
def PtP (T:Nat) (w:World) (g:Nat) (st:Option Addr) (cap:Nat) (ts:List Tok) (r:Rs Pt) (e:Ending) (w':World):Prop :=
 w.grownBy w' (some g)∧match r with
 | .ok t q=>∃ b,e=.returned (.pointer (some ⟨b,0,none⟩))∧PtAt w' (fun j=>w.heap.size<=j∧j<w'.heap.size) b t∧Rdr T w' g st cap ts q
 | .bad s=>e=wroE s
 | .out=>False
theorem zey (k:Int)(hR:Rdr T w g st cap ts p)(hp:p<ts.length):Calls Tryz.prog 198 #[.pointer (some ⟨g,0,none⟩),.int .i64 k] w fun e w'=>w.grownBy w' (some g)∧∃ b v,e=.returned (.pointer (some ⟨b,0,none⟩))∧Mk w.heap.size w' b k (nxT ts p).text 0 (nxT ts p).pos (herI ts p) (behI ts (p+1)) v []∧Rdr T w' g st cap ts (p+1):=by
 have HR:=hid hR;have hT:=hR.hT;have hg:=hR.lt;clear hR
 go_enter Tryz.func198,Tryz.ntmps198
 go_wp2_with fail
 refine(zbh k HR.out).mono ?_;rintro e W1 ⟨b,rfl,hM,b1⟩;have HM1:Hid _:=hM;have HB1:Hid (Below w.heap.size w W1):=b1;clear hM b1
 go_wp2_with fail
 refine(zff (HR.out.low HB1.out) hp).mono ?_;rintro e W2 ⟨rfl,g2,r2⟩;have HM2:Hid _:=HM1.out.grow hg g2;have HG2:=hid (zaa (zae HB1.out) g2);have HR2:Hid (Rdr T W2 g st cap ts (p+1)):=r2;clear g2 r2 HM1 HB1
 go_wp2_with fail
 refine(zcu (nxT ts p) HM2.out).mono ?_;rintro e W3 ⟨rfl,hM3,b3⟩;have HM3:Hid _:=hM3;have HG3:=hid (za3 HG2.out b3);have HR3:=hid (HR2.out.below hT b3);clear hM3 b3 HM2 HG2 HR2
 go_wp2_with fail
 refine(za4 (bs2:=[]) (l2:=[]) (S2:=fun _=>False) HR3.out hT HM3.out RowsAt.none (fun _=>⟨rfl,rfl⟩) (PsAt.nil _ _) (fun _ h=>h.elim) (by simp)).mono ?_;rintro e W4 ⟨rfl,⟨v4,hM4⟩,b4⟩;have HM4:Hid _:=hM4;have HG4:=hid (za3 HG3.out b4);have HR4:=hid (HR3.out.below hT b4);clear hM4 b4 HM3 HG3 HR3
 go_wp2
 go_ret
 exact⟨HG4.out,b,v4,rfl,HM4.out,HR4.out⟩
end
end Go.Proofs.YtabiangdmibocaaGreatDoor
