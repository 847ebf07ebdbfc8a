import Derived.Test.YtmclgbkijeidaaaGreatDoorUoBase
import Derived.OrdersHeld
import Derived.Deep.MidRow
import Derived.Laws.StructEq
import Derived.Laws.RangeAny
import Derived.Deep.Upon
import Derived.Deep.AppendSrc
namespace Go.Proofs.YtmclgbkijeidaaaGreatDoor
open Go.RowKit
section
variable {P:Program}{ops:Array Oper}{Q:Exit->Act->World->Prop}{md:Region.Mode}{S:World->Prop}{i:Nat}{oi:Oper}{fuel:Nat}{listed:Array Bool}{a:Act}{w:World}
theorem zeu {o:Oper}{y:Nat->Option Bool}(h:o.guard=none):Region.wanted o y=true:=by simp[Region.wanted,h]
theorem zvk {rs:List Nat}(hrs:rs=[i])(hr:Region.ready md ops listed=rs)(hi:ops[i]?=some oi)(hgd:oi.guard=none)
  (h:oi.wp P a w (fun a' w'=>S w'∧wpAnyH P md ops Q S fuel (listed.setIfInBounds i true) a' w') Q):wpAnyH P md ops Q S (fuel+1) listed a w:=by
 subst hrs;refine wpAnyH_all hr (by simp) fun j y=>?_;obtain rfl:j=i:=by simpa using y
 unfold wpOp;simp only[hi,zeu hgd,if_true];exact .inl h
end
def RowsAt {α:Type}(w:World) (m:Nat) (cs:α->Array Value) (sp:Option Addr) (xs:List α):Prop :=
 0<xs.length->∃ b off,sp=some ⟨b,off,none⟩∧∀ i x,xs[i]?=some x->∀ j u,(cs x)[j]?=some u->w.cell? ⟨b,off+i * m+j,none⟩=some u
theorem RowsAt.below {α:Type}{w w':World}{m:Nat}{cs:α->Array Value}{sp:Option Addr}{xs:List α}(h:RowsAt w m cs sp xs)(hb:Below w.heap.size w w'):RowsAt w' m cs sp xs:=fun hl=>by
 obtain⟨b,off,hs,hc⟩:=h hl;exact⟨b,off,hs,fun i x hx j u hu=>(hb.cell (block_lt_of_cell (hc i x hx j u hu))).trans (hc i x hx j u hu)⟩
theorem RowsAt.none {α:Type}{w:World}{m:Nat}{cs:α->Array Value}{sp:Option Addr}:RowsAt w m cs sp []:=fun h=>by simp at h
theorem zrd {P:Program}{ty:TypeId}{g o:Nat}{cs:Array Value}{d:TypeDesc}{w:World}(hc:∀ j u,cs[j]?=some u->w.cell? ⟨g,o+j,none⟩=some u)(hu:P.underlying ty=some d)
  (hd:d.isRow=true) (hsz:(P.info? ty).map (·.size)=some cs.size):(loadVar ty ⟨g,o,none⟩).run P w=.ok (.agg cs) w:=by
 have y:=run_loadVar_mid (P:=P) w g o ty cs.toList d (fun j v A=>hc j v (by simpa using A)) hu hd (by simpa using hsz);rw[Array.toArray_toList] at y;exact y
theorem zcw {P:Program}{ops:Array Oper}{Q:Exit->Act->World->Prop}{l:List Oper}{a:Act}{w0:World}(F:World->Prop)(h0:F w0)(h:∀ W1,F W1->wpList P ops Q l a W1):wpList P ops Q l a w0:=h _ h0
def eqAll {α:Type}(eq:α->α->Bool):List α->List α->Bool
 | [],[]=>true
 | a::r,b::q=>eq a b && eqAll eq r q
 | _,_=>false
theorem zdt {α:Type}{eq:α->α->Bool}:∀ {r q:List α},eqAll eq r q=true->r.length=q.length
 | [],[],_=>rfl
 | a::r,b::q,h=>by
  simp[eqAll] at h;simp[zdt h.2]
 | [],_::_,h=>by simp[eqAll] at h
 | _::_,[],h=>by simp[eqAll] at h
theorem zd4 {α:Type}{eq:α->α->Bool}:∀ {r q:List α},r.length=q.length->(eqAll eq r q=true ↔ ∀ (i:Nat) a b,r[i]?=some a->q[i]?=some b->eq a b=true)
 | [],[],_=>by simp[eqAll]
 | a::r,b::q,h=>by
  have h':r.length=q.length:=by simpa using h
  simp only[eqAll,Bool.and_eq_true,zd4 h']
  constructor
  ·rintro⟨p,t⟩ i x y C A
   cases i with
   | zero=>simp at C A;subst C;subst A;exact p
   | succ i=>exact t i x y (by simpa using C) (by simpa using A)
  ·intro t;exact⟨t 0 a b rfl rfl,fun i x y C A=>t (i+1) x y (by simpa using C) (by simpa using A)⟩
 | [],_::_,h=>by simp at h
 | _::_,[],h=>by simp at h
set_option maxRecDepth 100000
set_option maxHeartbeats 4000000
theorem zay {a b:Bool}(h:a=b):Ending.returned (.bool a)=.returned (.bool b):=by rw[h]
def clsI (c:Int):Int :=
 if c=9∨c=13∨c=32 then 1 else if c=10 then 2 else if (97<=c∧c<=122)∨(65<=c∧c<=90)∨c=95 then 3
 else if 48<=c∧c<=57 then 4 else if c=34 then 5 else if c=59 then 6 else 0
theorem zbx (r:Int)(w:World):Calls Tryz.prog 61 #[.int .i32 r] w fun e w'=>e=.returned (.int .i64 (clsI r))∧w'=w:=by
 go_enter Tryz.func61,Tryz.ntmps61
 go_wp2
 all_goals go_ret
 all_goals (refine⟨zdh ?_,rfl⟩;unfold clsI;repeat' split;all_goals first|rfl|omega|(simp_all;done) | (simp_all;omega))
def plnB (c:Int):Bool:=decide (32<=c) && decide (c<=126)
theorem zfx (r:Int)(w:World):Calls Tryz.prog 125 #[.int .i32 r] w fun e w'=>e=.returned (.bool (plnB r))∧w'=w:=by
 go_enter Tryz.func125,Tryz.ntmps125
 go_wp2
 all_goals go_ret
 all_goals (refine⟨zay ?_,rfl⟩;rw[Bool.eq_iff_iff];simp_all [plnB];try omega)
structure Tok where
 kind:Int
 text:ByteArray
 pos:Int
def Tok.cells (t:Tok):Array Value:=#[.int .i64 t.kind,.string t.text,.int .i64 t.pos]
theorem Tok.size (t:Tok):t.cells.size=3:=rfl
instance:Inhabited Tok:=⟨⟨0,⟨#[]⟩,0⟩⟩
def clo (t:Tok):Bool:=(t.kind == 1) || (t.kind == 2) || (t.kind == 3) || ((t.kind == 4) && ((t.text.toList == [41]) || (t.text.toList == [93]) || (t.text.toList == [125])))
def bareB (t:Tok):Bool:=(t.kind == 5) && t.text.toList.isEmpty
theorem zfd (g:Nat)(t:Tok)(w:World)(h0:w.cell? ⟨g,0,none⟩=some (.int .i64 t.kind))(h1:w.cell? ⟨g,1,none⟩=some (.string t.text)) :
  Calls Tryz.prog 33 #[.pointer (some ⟨g,0,none⟩)] w fun e w'=>e=.returned (.bool (clo t))∧w'=w:=by
 go_enter Tryz.func33,Tryz.ntmps33
 go_wp2
 all_goals go_ret
 all_goals (refine⟨zay ?_,rfl⟩;clear h0 h1;simp_all [clo])
theorem zj9 (t:Tok)(w:World):Calls Tryz.prog 34 #[.agg t.cells] w fun e w'=>e=.returned (.bool (bareB t))∧Below w.heap.size w w':=by
 unfold Tok.cells
 go_enter Tryz.func34,Tryz.ntmps34
 go_wp2
 all_goals go_ret
 all_goals (refine⟨zay ?_,(Yb _ _).alloc (Ya _) _⟩;simp_all [bareB])
def BA (w:World) (sp:Option Addr) (L:List UInt8):Prop:=0<L.length->∃ b o,sp=some ⟨b,o,none⟩∧∀ i c,L[i]?=some c->w.cell? ⟨b,o+i,none⟩=some (.int .u8 c.toNat)
theorem BA.nil (w:World)(sp:Option Addr):BA w sp []:=fun h=>by simp at h
theorem BA.below {w w':World}{sp:Option Addr}{L:List UInt8}(h:BA w sp L)(hb:Below w.heap.size w w'):BA w' sp L:=fun hl=>by
 obtain⟨b,o,e,hc⟩:=h hl;exact⟨b,o,e,fun i c hi=>(hb.cell (block_lt_of_cell (hc i c hi))).trans (hc i c hi)⟩
def pairI:List UInt8->Int
 | []=>0
 | c::_=>if c.toNat=34∨c.toNat=92 then c.toNat else if c.toNat=110 then 10 else 0
theorem zpq (sp:Option Addr)(cap:Nat) (L:List UInt8)(w:World)(h:BA w sp L)(hl:L.length<=1000000) :
  Calls Tryz.prog 124 #[.slice sp L.length cap] w fun e w'=>e=.returned (.int .u8 (pairI L))∧w'=w:=by
 cases L with
 | nil=>
  go_enter Tryz.func124,Tryz.ntmps124
  go_wp2
  go_ret
  exact⟨rfl,rfl⟩
 | cons c r=>
  obtain⟨b,o,rfl,y⟩:=h (by simp);have A:w.cell? ⟨b,o,none⟩=some (.int .u8 c.toNat):=y 0 c rfl;have C:((((c::r).length:Nat):Int) == 0)=false:=by rw[beq_eq_false_iff_ne,List.length_cons];omega
  have D:(0:Int)<((c::r).length:Nat):=by rw[List.length_cons];omega
  clear y h hl
  go_enter Tryz.func124,Tryz.ntmps124
  go_wp2
  all_goals go_ret
  all_goals (refine⟨zdh ?_,rfl⟩;clear A;unfold pairI;repeat' split;all_goals first|rfl|omega|(simp_all;done) | (simp_all;omega))
theorem zaf {P:Program}{Q:Exit->Act->World->Prop}{K:Act->World->Prop}{a:Act}{w w':World}{o:Oper}{v' vs vx:Value}(s x:Operand)(t:TypeId)(ho:o.op=.call { callee:=.builtin .append,args:=#[s,x],argTypes:=#[t,t] })(hs:a.eval s=vs)(hx:a.eval x=vx)
  (hr:(Builtin.append_ #[t,t] o.type #[vs,vx]).run P w=.ok v' w') (h:K (a.put o.dst v') w'):o.wp P a w K Q:=by
 unfold Oper.wp execOp;simp only[ho,resolve,invoke,builtin,Sem.run_bind,Sem.run_pure,Result.andThen_ok,List.map_toArray,List.map_cons,List.map_nil,hs,hx,hr];exact h
theorem za8 {P:Program}{ops:Array Oper}{rest:List Oper}{Q:Exit->Act->World->Prop}{a:Act}{w w':World}{o:Oper}{v' vs vx:Value}(s x:Operand)(t:TypeId)
  (ho:o.op=.call { callee:=.builtin .append,args:=#[s,x],argTypes:=#[t,t] }) (hw:Region.wanted o (yielded ops a.tmps)=true) (hs:a.eval s=vs) (hx:a.eval x=vx) (hr:(Builtin.append_ #[t,t] o.type #[vs,vx]).run P w=.ok v' w') (h:wpList P ops Q rest (a.put o.dst v') w'):wpList P ops Q (o::rest) a w :=
 wpList_step fun _ y=>by rw[if_pos hw];exact zaf s x t ho hs hx hr (y _ _ h)
structure El {α:Type}(t e:TypeId) (m:Nat) (f:α->Array Value):Prop where
 ht:Tryz.prog.underlying t=some (.slice e)
 hi:∃ i z,Tryz.prog.info? e=some i∧i.zero=some z∧i.size=m∧i.bytes<=200∧z.cells.size=m
 hf:∀ x,(f x).size=m
 h1:∀ x,(f x).all (·.oneCell')=true
 hm:0<m
def flatG {α:Type}(f:α->Array Value) (xs:List α):List Value:=xs.flatMap fun x=>(f x).toList
section
variable {α:Type}{t e:TypeId}{m:Nat}{f:α->Array Value}
theorem zev (E:El t e m f)(xs:List α):(flatG f xs).length=xs.length * m:=by
 induction xs with
 | nil=>simp[flatG]
 | cons a r ih=>rw[flatG,List.flatMap_cons,List.length_append,<-flatG,ih,Array.length_toList,E.hf,List.length_cons,Nat.add_mul];omega
theorem zgx (E:El t e m f):∀ (xs:List α)(i j:Nat)(x:α),xs[i]?=some x->j<m->(flatG f xs)[i * m+j]?=(f x)[j]?
 | [],i,j,x,h,_=>by simp at h
 | a::r,0,j,x,h,hj=>by
  have h':a=x:=by simpa using h
  subst h';rw[flatG,List.flatMap_cons,Nat.zero_mul,Nat.zero_add,List.getElem?_append_left (by rw[Array.length_toList,E.hf];exact hj),Array.getElem?_toList]
 | a::r,i+1,j,x,h,hj=>by
  have h':r[i]?=some x:=by simpa using h
  rw[flatG,List.flatMap_cons,List.getElem?_append_right (by rw[Array.length_toList,E.hf,Nat.add_mul];omega),Array.length_toList,E.hf,show(i+1) * m+j - m=i * m+j by rw[Nat.add_mul];omega];exact zgx E r i j x h' hj
def OwnG (e:TypeId) (m:Nat) (f:α->Array Value) (B:Nat) (w:World) (v:Value) (xs:List α):Prop:=w.ownsRow B e m v xs.length (flatG f xs)
theorem zcz (B:Nat)(w:World):OwnG e m f B w (.slice none 0 0) []:=⟨by simp[flatG],.inl ⟨rfl,rfl⟩⟩
theorem OwnG.rows (E:El t e m f){B:Nat}{w:World}{v:Value}{xs:List α}(h:OwnG e m f B w v xs):∃ sp cap,v=.slice sp xs.length cap∧RowsAt w m f sp xs∧(sp=none->xs.length=0∧cap=0)∧xs.length<=cap∧cap<=maxLen:=by
 rcases h.2 with⟨rfl,A⟩ | ⟨g,cap,cur,rfl,h1,h2,h3,h4,h5,h6⟩
 ·exact⟨none,0,by rw[A],fun M=>by omega,fun _=>⟨A,rfl⟩,by omega,Yk _⟩
 ·refine⟨_,cap,rfl,fun _=>⟨g,0,rfl,fun i x C j u y=>?_⟩,fun I=>by(cases I),h3,h4⟩;have K:i<xs.length:=(List.getElem?_eq_some_iff.1 C).1;have F:j<m:=by have:=(Array.getElem?_eq_some_iff.1 y).1;rwa [E.hf] at this
  rw[Nat.zero_add,Yc _ _ _ _ _ _ h2,<-Array.getElem?_toList];have D:i * m+j<xs.length * m:=by
   have:=Nat.mul_le_mul_right m (show i+1<=xs.length by omega);rw[Nat.add_mul,Nat.one_mul] at this;omega
  have:(cur.toList.take (xs.length * m))[i * m+j]?=(flatG f xs)[i * m+j]?:=by rw[h6]
  rw[List.getElem?_take,if_pos D,zgx E xs i j x C F,y] at this;exact this
theorem OwnG.keep {B:Nat}{w w':World}{v:Value}{xs:List α}(h:OwnG e m f B w v xs)(hh:∀ k,v.ownBlock=some k->w'.heap[k]?=w.heap[k]?):OwnG e m f B w' v xs:=by
 refine⟨h.1,?_⟩;rcases h.2 with⟨rfl,y⟩ | ⟨g,cap,cur,rfl,h1,h2,h3⟩
 ·exact .inl ⟨rfl,y⟩
 ·exact .inr ⟨g,cap,cur,rfl,h1,(hh g rfl).trans h2,h3⟩
theorem OwnG.lt {B:Nat}{w:World}{v:Value}{xs:List α}(h:OwnG e m f B w v xs){k:Nat}(hk:v.ownBlock=some k):B<=k∧k<w.heap.size:=World.ownsRow.lt h k hk
theorem OwnG.below {B:Nat}{w w':World}{v:Value}{xs:List α}(h:OwnG e m f B w v xs)(hb:Below w.heap.size w w'):OwnG e m f B w' v xs:=h.keep fun _ hk=>hb.block _ (h.lt hk).2
theorem OwnG.mono {B C:Nat}{w:World}{v:Value}{xs:List α}(h:OwnG e m f B w v xs)(hC:C<=B):OwnG e m f C w v xs:=by
 refine⟨h.1,?_⟩;rcases h.2 with⟨rfl,y⟩ | ⟨g,cap,cur,rfl,h1,h2⟩
 ·exact .inl ⟨rfl,y⟩
 ·exact .inr ⟨g,cap,cur,rfl,by omega,h2⟩
theorem OwnG.shape {B:Nat}{w:World}{v:Value}{xs:List α}(h:OwnG e m f B w v xs):∃ sp cap,v=.slice sp xs.length cap:=by
 rcases h.2 with⟨rfl,y⟩ | ⟨g,cap,cur,rfl,h1,h2⟩
 ·exact⟨none,0,by rw[y]⟩
 ·exact⟨_,_,rfl⟩
theorem OwnG.grown {B C:Nat}{w W W':World}{v:Value}{xs:List α}(hv:OwnG e m f B W v xs)(hC:C<=B)(hB:C<=W.heap.size)(fW:Below C w W)(hg:W.grownBy W' v.ownBlock):Below C w W':=by
 refine⟨hg.os.trans fW.os,hg.tape.trans fW.tape,hg.output.trans fW.output,Yo fW.size hg.size,fun k y=>?_⟩;rw[hg.block k (by omega) (fun e=>?_)]
 ·exact fW.block k y
 ·have:=(hv.lt e.symm).1;omega
theorem zpr (E:El t e m f){w:World}{b off:Nat}{ys:List α}(hr:RowsAt w m f (some ⟨b,off,none⟩) ys):∀ j u,(flatG f ys)[j]?=some u->w.cell? ((⟨b,off,none⟩:Addr).add j)=some u:=fun j u hu=>by
 have hm:=E.hm;have hj:j<ys.length * m:=by
  by_cases hj:j<ys.length * m
  ·exact hj
  ·rw[List.getElem?_eq_none (by rw[zev E];omega)] at hu;cases hu
 have A:j / m<ys.length:=(Nat.div_lt_iff_lt_mul hm).2 hj;have C:ys[j / m]?=some (ys[j / m]'A):=Yh A;have e:j / m * m+j % m=j:=by rw[Nat.mul_comm];exact Nat.div_add_mod j m
 have D:=zgx E ys (j / m) (j % m) _ C (Nat.mod_lt _ hm);rw[e,hu] at D;obtain⟨K,M,y,F⟩:=hr (Nat.lt_of_le_of_lt (Yk _) A);injection y with y;injection y with hs1 hs2;subst hs1 hs2;have I:=F _ _ C (j % m) u D.symm;rw[Addr.add_mid,show off+j=off+j / m * m+j % m by omega];exact I
theorem zdn (E:El t e m f){B:Nat}{w:World}{v:Value}{xs ys:List α}{sp:Option Addr}{cap:Nat}(ty:TypeId)(hown:OwnG e m f B w v xs)(hn:sp=none->ys.length=0∧cap=0)(hr:RowsAt w m f sp ys)(hlen:xs.length+ys.length<=1000000)(hB:B<=w.heap.size) :
  ∃ v' w',(Builtin.append_ #[t,t] ty #[v,.slice sp ys.length cap]).run Tryz.prog w=.ok v' w'∧OwnG e m f B w' v' (xs++ys)∧w.grownBy w' v.ownBlock∧(v'.ownBlock=v.ownBlock∨v'.ownBlock=some w.heap.size):=by
 obtain⟨i,z,F,N,U,K,V⟩:=E.hi
 cases sp with
 | none=>
  obtain⟨Z,h2⟩:=hn rfl;have A:ys=[]:=List.eq_nil_of_length_eq_zero Z;subst A h2;refine⟨v,w,run_append_owned_none (P:=Tryz.prog) (w:=w) B t ty e i m E.ht F v xs.length _ hown,by rw[List.append_nil];exact hown,⟨rfl,rfl,rfl,Ya _,fun _ _ _=>rfl⟩,.inl rfl⟩
 | some a=>
  have aa:∀ u ∈ flatG f ys,u.oneCell'=true:=fun u D=>by
   obtain⟨y,-,A⟩:=List.mem_flatMap.1 D;have:=E.h1 y;rw[Array.all_eq_true_iff_forall_mem] at this;exact this u (by simpa using A)
  have M:∀ j u,(flatG f ys)[j]?=some u->w.cell? (a.add j)=some u:=by
   by_cases h0:0<ys.length
   ·obtain⟨b,ab,C,-⟩:=hr h0;injection C with C;subst C;exact zpr E hr
   ·have A:ys=[]:=List.eq_nil_of_length_eq_zero (by omega);subst A;intro j u D;simp[flatG] at D
  obtain⟨v',w',I,X,q3,-,Y⟩:=run_append_own_at (P:=Tryz.prog) (w:=w) B t ty e i z m i.bytes E.ht F N U rfl V E.hm v xs.length _ hown a ys.length cap (flatG f ys) (zev E ys) M aa (by unfold maxLen;omega) (by
   have:=Nat.mul_le_mul hlen K;omega) hB
  refine⟨v',w',I,?_,q3,Y⟩;unfold OwnG;rw[List.length_append,flatG,List.flatMap_append];exact X
theorem zar {w:World}{g:Nat}{x:α}{ty:TypeId}{fr:Nat × Nat}(h:w.heap[g]?=some (.cells (f x) ty fr)):RowsAt w m f (some ⟨g,0,none⟩) [x]:=fun _=>by
 refine⟨g,0,rfl,fun i y hx j u hu=>?_⟩;have hi:i=0:=by have:=(List.getElem?_eq_some_iff.1 hx).1;simp at this;omega
 subst hi;have A:x=y:=by simpa using hx
 subst A;rw[Nat.zero_mul,Nat.zero_add];exact(Yc _ _ _ _ _ _ h).trans hu
end
def byC (c:UInt8):Array Value:=#[.int .u8 c.toNat]
theorem elB:El 71 5 1 byC:=by
 have h:(Tryz.prog.info? 5).map (fun i=>(i.zero,i.size,i.bytes))=some (some (.int .u8 0),1,1):=by kernel_rfl
 refine⟨Tryz.underlying71,?_,fun _=>rfl,fun _=>by simp[byC,Value.oneCell'],by omega⟩
 cases hi:Tryz.prog.info? 5 with
 | none=>rw[hi] at h;cases h
 | some i=>
  rw[hi] at h;simp only[Option.map_some,Option.some.injEq,Prod.mk.injEq] at h;exact⟨i,_,rfl,h.1,h.2.1,by omega,rfl⟩
theorem elT:El 31 38 3 Tok.cells:=by
 have h:(Tryz.prog.info? 38).map (fun i=>(i.zero,i.size,i.bytes))=some (some (.agg (Tok.cells ⟨0,⟨#[]⟩,0⟩)),3,32):=by kernel_rfl
 refine⟨Tryz.underlying31,?_,fun _=>rfl,fun _=>by simp[Tok.cells,Value.oneCell'],by omega⟩
 cases hi:Tryz.prog.info? 38 with
 | none=>rw[hi] at h;cases h
 | some i=>
  rw[hi] at h;simp only[Option.map_some,Option.some.injEq,Prod.mk.injEq] at h;exact⟨i,_,rfl,h.1,h.2.1,by omega,rfl⟩
abbrev OwnB:=OwnG 5 1 byC
abbrev OwnT:=OwnG 38 3 Tok.cells
abbrev RowsT (w:World) (sp:Option Addr) (ts:List Tok):Prop:=RowsAt w 3 Tok.cells sp ts
theorem BA.of_rows {w:World}{sp:Option Addr}{L:List UInt8}(h:RowsAt w 1 byC sp L):BA w sp L:=fun hl=>by
 obtain⟨b,o,e,hc⟩:=h hl;exact⟨b,o,e,fun i c hi=>by have:=hc i c hi 0 (.int .u8 c.toNat) rfl;simpa using this⟩
theorem zf6 {w:World}{b off i:Nat}{ts:List Tok}(h:RowsT w (some ⟨b,off,none⟩) ts){t:Tok}(ht:ts[i]?=some t) :
  w.cell? ⟨b,off+i * 3,none⟩=some (.int .i64 t.kind)∧w.cell? ⟨b,off+i * 3+1,none⟩=some (.string t.text)∧w.cell? ⟨b,off+i * 3+2,none⟩=some (.int .i64 t.pos):=by
 obtain⟨C,A,e,y⟩:=h (by have:=(List.getElem?_eq_some_iff.1 ht).1;omega);injection e with e;injection e with e1 e2;subst e1 e2;exact⟨y i t ht 0 _ rfl,y i t ht 1 _ rfl,y i t ht 2 _ rfl⟩
end Go.Proofs.YtmclgbkijeidaaaGreatDoor
