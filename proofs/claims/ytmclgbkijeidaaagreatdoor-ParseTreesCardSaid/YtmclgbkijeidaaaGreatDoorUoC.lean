import Derived.Test.YtmclgbkijeidaaaGreatDoorUoB
import Derived.Lib.Builder
import Derived.Lib.OthersKept
import Derived.Lib.AppendStr
import Derived.Laws.Externs
import Derived.Test.YtmclgbkijeidaaaGreatDoorUoShelf
import Derived.Lib.SlBytesConst
import Derived.Test.YtmclgbkijeidaaaGreatDoorUoA
namespace Go.Proofs.YtmclgbkijeidaaaGreatDoor
set_option maxRecDepth 100000
set_option maxHeartbeats 4000000
open Go.RowKit
theorem zke (l:List UInt8):flatG byC l=Lib.byteCells l:=by
 induction l with
 | nil=>rfl
 | cons a r ih=>rw[flatG,List.flatMap_cons,<-flatG,ih];rfl
def Bld (B b:Nat) (l:List UInt8) (w:World):Prop:=Lib.IsBuilder 157 5 B b (Lib.byteCells l) w
theorem Bld.row {B b:Nat}{l:List UInt8}{w:World}(h:Bld B b l w):B<=b∧∃ p v,(p=.pointer none∨p=.pointer (some ⟨b,0,none⟩))∧w.heap[b]?=some (.cells #[p,v] 157 (0,0))∧OwnB B w v l:=by
 have A:∀ p,(p=.pointer none∨p=.pointer (some ⟨b,0,none⟩))->Lib.BuilderAt 157 5 B b p (Lib.byteCells l) w->B<=b∧∃ p v,(p=.pointer none∨p=.pointer (some ⟨b,0,none⟩))∧w.heap[b]?=some (.cells #[p,v] 157 (0,0))∧OwnB B w v l:=fun p D h=>by
  obtain⟨C,v,E,y,-⟩:=h;refine⟨C,p,v,D,E,?_⟩;show w.ownsRow B 5 1 v l.length (flatG byC l);rw[zke];rw[Lib.byteCells_length] at y;exact y
 rcases h with h|h
 ·exact A _ (.inl rfl) h
 ·exact A _ (.inr rfl) h
theorem OwnG.nb {α:Type}{e:TypeId}{m:Nat}{f:α->Array Value}{B:Nat}{w:World}{v:Value}{xs:List α}(h:OwnG e m f B w v xs){g:Nat}{cs:Array Value}{e':TypeId}{fr:Nat × Nat}(hg:w.heap[g]?=some (.cells cs e' fr))(hne:e≠e'):v.ownBlock≠some g:=by
 rcases h.2 with⟨rfl,C⟩ | ⟨g',cap,cur,rfl,h1,h2,h3⟩
 ·exact fun h=>by cases h
 ·intro A;have y:g'=g:=by simpa[Value.ownBlock] using A
  subst y;rw[hg] at h2;injection h2 with h2;injection h2 with h2 h4;exact hne h4.symm
theorem Bld.of {B b:Nat}{l:List UInt8}{w:World}{p v:Value}(hB:B<=b)(hp:p=.pointer none∨p=.pointer (some ⟨b,0,none⟩))(hb:w.heap[b]?=some (.cells #[p,v] 157 (0,0)))(ho:OwnB B w v l):Bld B b l w:=by
 have h:Lib.BuilderAt 157 5 B b p (Lib.byteCells l) w:=by
  refine⟨hB,v,hb,?_,OwnG.nb ho hb (by decide)⟩;rw[Lib.byteCells_length,<-zke];exact ho
 rcases hp with rfl|rfl
 ·exact .inl h
 ·exact .inr h
theorem zvn:∃ j,Tryz.prog.info? 157=some j∧j.size=2:=by
 have h:(Tryz.prog.info? 157).map (·.size)=some 2:=by kernel_rfl
 cases hq:Tryz.prog.info? 157 with
 | none=>rw[hq] at h;cases h
 | some j=>rw[hq] at h;exact⟨j,rfl,by simpa using h⟩
theorem zff (B b:Nat)(l:List UInt8)(w:World)(h:Bld B b l w) :
  Calls Tryz.prog 173 #[.pointer (some ⟨b,0,none⟩)] w fun e w'=>e=.returned (.tuple #[])∧Bld B b l w'∧Below B w w'∧Lib.OthersKept 5 (some b) w w'∧w'.heap.size=w.heap.size:=by
 obtain⟨E,p,v,V,y,D⟩:=h.row;obtain⟨j,A,K⟩:=zvn;have I:w.shape? b=some (157,2):=by simp[World.shape?,y]
 have c0:w.cell? ⟨b,0,none⟩=some p:=Yp 0 y rfl;have X:w.frozen? ⟨b,0,none⟩=false:=Yj _ _ _ _ _ y;have U:=J h;have F:=J y;have C:=J D;clear h y D;rcases V with rfl|rfl
 ·go_enter Tryz.func173,Tryz.ntmps173
  go_wp2
  rw[Lib.run_to_unsafe w ⟨b,0,none⟩ Tryz.underlying155 Tryz.underlying173 A (by rw[K];decide) I (Nat.zero_lt_succ 1)];simp only[Result.andThen];rw[Oper.upon_value]
  go_wp2
  rw[run_callFunc_extern Tryz.func178 (by kernel_rfl) (by kernel_rfl) (by kernel_rfl) (e:=Extern.AbiNoEscape.same) (by kernel_rfl)];rw[Lib.run_noEscape];simp only[Result.andThen];rw[Oper.upon_value]
  go_wp2
  rw[Lib.run_from_unsafe w ⟨b,0,none⟩ Tryz.underlying173 Tryz.underlying155 A I (by kernel_rfl)];simp only[Result.andThen];rw[Oper.upon_value]
  go_wp2
  go_end0
  have N:(w.setCell ⟨b,0,none⟩ (.pointer (some ⟨b,0,none⟩))).heap[b]?=some (.cells #[.pointer (some ⟨b,0,none⟩),v] 157 (0,0)):=Yf _ _ _ _ _ _ F;refine⟨rfl,Bld.of E (.inr rfl) N (OwnG.keep C fun k M=>Ye _ _ _ _ (fun (e:k=b)=>OwnG.nb C F (by decide) (e ▸ M))),(Yb B w).setCell (p:=⟨b,0,none⟩) E _,Lib.OthersKept.setCell (b:=b) (Lib.OthersKept.refl _ _ _) ⟨b,0,none⟩ rfl _,by simp⟩
 ·go_enter Tryz.func173,Tryz.ntmps173
  go_wp2
  rw[Lib.run_neq_ptr_same w _ Tryz.underlying155 A]
  go_wp2
  go_end0
  exact⟨rfl,U.out,Yb _ _,Lib.OthersKept.refl _ _ _,rfl⟩
def WrP (B b:Nat) (l:List UInt8) (w w':World):Prop:=Bld B b l w'∧Below B w w'∧Lib.OthersKept 5 (some b) w w'
theorem zoc {B:Nat}{w:World}{v:Value}{l:List UInt8}(h:OwnB B w v l):∀ g,v.ownBlock=some g->∃ c fz,w.heap[g]?=some (.cells c 5 fz):=fun g hg=>by
 rcases h.2 with⟨rfl,_⟩ | ⟨g',cap,cur,rfl,_,hgg,_⟩
 ·simp[Value.ownBlock] at hg
 ·simp[Value.ownBlock] at hg;subst hg;exact⟨cur,_,hgg⟩
theorem zrh {B b:Nat}{w w1 w2:World}{p v v':Value}{l l':List UInt8}(hB:B<=b)(hp:p=.pointer none∨p=.pointer (some ⟨b,0,none⟩))(hr:w1.heap[b]?=some (.cells #[p,v] 157 (0,0)))(ho:OwnB B w1 v l)(hb:Below B w w1)(hk:Lib.OthersKept 5 (some b) w w1)
  (hw:B<=w1.heap.size) (hg:w1.grownBy w2 v.ownBlock) (ho':OwnB B w2 v' l'):WrP B b l' w (w2.setCell ⟨b,1,none⟩ v'):=by
 have y:w2.heap[b]?=some (.cells #[p,v] 157 (0,0)):=(hg.block b (zaa hr) (fun e=>OwnG.nb ho hr (by decide) e.symm)).trans hr;have A:(w2.setCell ⟨b,1,none⟩ v').heap[b]?=some (.cells #[p,v'] 157 (0,0)):=Yf _ _ _ _ _ _ y;refine⟨Bld.of hB hp A (OwnG.keep ho' fun k hk=>Ye _ _ _ _ (fun (e:k=b)=>OwnG.nb ho' y (by decide) (e ▸ hk))),?_,Lib.OthersKept.setCell (b:=b) (hk.grown hg (zoc ho)) ⟨b,1,none⟩ rfl _⟩;exact(OwnG.grown ho (Ya _) hw hb hg).setCell (p:=⟨b,1,none⟩) hB _
theorem zfg (B b:Nat)(l:List UInt8)(c:UInt8)(w:World)(h:Bld B b l w)(hl:l.length<=900000)(hw:B<=w.heap.size) :
  Calls Tryz.prog 158 #[.pointer (some ⟨b,0,none⟩),.int .u8 c.toNat] w fun e w'=>e=.returned .nilIface∧WrP B b (l++[c]) w w':=by
 go_enter Tryz.func158,Tryz.ntmps158
 go_wp2_with fail
 refine(zff B b l w h).mono ?_;rintro e W1 ⟨rfl,N,X,U,M⟩;clear h;obtain⟨hB,p,v,hp,E,C⟩:=N.row;obtain⟨sp,cap,rfl⟩:=OwnG.shape C;have ab:B<=W1.heap.size:=by rw[M];exact hw
 have A:Below W1.heap.size W1 (W1.alloc (.cells #[.int .u8 c.toNat] 5)):=(Yb _ _).alloc (Ya _) _;obtain⟨v',D,V,F,I,-⟩:=zdn elB (ys:=[c]) (sp:=some ⟨W1.heap.size,0,none⟩) (cap:=1) 71 (OwnG.below C A) (fun h=>by cases h) (zar (x:=c) (Yd W1 _)) (by simp;omega) (by simp;omega);obtain⟨ac,aa,rfl⟩:=OwnG.shape F;have y:(W1.alloc (.cells #[.int .u8 c.toNat] 5)).heap[b]?=some (.cells #[p,.slice sp l.length cap] 157 (0,0)):=(A.block b (zaa E)).trans E;have Y:Hid (WrP B b (l++[c]) w (D.setCell ⟨b,1,none⟩ (.slice ac (l++[c]).length aa))):=zrh hB hp y (OwnG.below C A) (X.alloc ab _) (U.alloc _) (by simp;omega) I F;have K:D.heap[b]?=some (.cells #[p,.slice sp l.length cap] 157 (0,0)):=(I.block b (zaa y) (fun e=>OwnG.nb (OwnG.below C A) y (by decide) e.symm)).trans y;have c1:W1.cell? ⟨b,1,none⟩=some (.slice sp l.length cap):=Yp 1 E rfl;have d1:D.cell? ⟨b,1,none⟩=some (.slice sp l.length cap):=Yp 1 K rfl;have z1:D.frozen? ⟨b,1,none⟩=false:=Yj _ _ _ _ _ K;have Z:(l++[c]).length=l.length+1:=by simp
 rw[Z] at V Y;clear F I K y A C E N X U M
 go_wp2_with (at_builtin;refine za8 (.tmp 11) (.tmp 13) 71 (by rfl) (by rfl) (by rfl) (by rfl) V ?_)
 go_ret
 exact⟨rfl,Y.out⟩
theorem zkf (s:ByteArray):Lib.strCells s=flatG byC s.data.toList:=by
 rw[zke];simp[Lib.strCells,Lib.byteCells]
theorem zlp {P:Program}{ops:Array Oper}{rest:List Oper}{Q:Exit->Act->World->Prop}{a:Act}{w w':World}{o:Oper}{v' vs vx:Value}(s x:Operand)(t u:TypeId)
  (ho:o.op=.call { callee:=.builtin .append,args:=#[s,x],argTypes:=#[t,u] }) (hw:Region.wanted o (yielded ops a.tmps)=true) (hs:a.eval s=vs) (hx:a.eval x=vx) (hr:(Builtin.append_ #[t,u] o.type #[vs,vx]).run P w=.ok v' w') (h:wpList P ops Q rest (a.put o.dst v') w'):wpList P ops Q (o::rest) a w :=
 wpList_step fun _ y=>by
  rw[if_pos hw];unfold Oper.wp execOp;simp only[ho,resolve,invoke,builtin,Sem.run_bind,Sem.run_pure,Result.andThen_ok,List.map_toArray,List.map_cons,List.map_nil,hs,hx,hr];exact y _ _ h
theorem zih (B b:Nat)(l:List UInt8)(s:ByteArray)(w:World)(h:Bld B b l w)(hl:l.length+s.size<=140737488355328)(hw:B<=w.heap.size) :
  Calls Tryz.prog 160 #[.pointer (some ⟨b,0,none⟩),.string s] w fun e w'=>e=.returned (.tuple #[.int .i64 s.size,.nilIface])∧WrP B b (l++s.data.toList) w w':=by
 go_enter Tryz.func160,Tryz.ntmps160
 go_wp2_with fail
 refine(zff B b l w h).mono ?_;rintro e W1 ⟨rfl,N,Z,U,s1⟩;clear h;obtain⟨hB,p,v,hp,C,D⟩:=N.row;obtain⟨sp,cap,rfl⟩:=OwnG.shape D;have Y:B<=W1.heap.size:=by rw[s1];exact hw
 obtain⟨i,z,M,ac,ae,ab,-⟩:=elB.hi;have y:(Tryz.prog.info? 5).map (fun i=>(i.zero,i.size,i.bytes))=some (some (.int .u8 0),1,1):=by kernel_rfl
 rw[M] at y;simp only[Option.map_some,Option.some.injEq,Prod.mk.injEq] at y;obtain⟨V,A,X,E,F,-⟩:=Lib.run_append_own_string (P:=Tryz.prog) W1 B 71 9 71 5 i Tryz.underlying71 Tryz.underlying9 M y.1 y.2.1 y.2.2 _ l.length (flatG byC l) D s (by unfold maxLen;omega) hl Y;have I:OwnB B A V (l++s.data.toList):=by
  show A.ownsRow B 5 1 V (l++s.data.toList).length (flatG byC (l++s.data.toList));rw[zkf] at E;rw[List.length_append,show s.data.toList.length=s.size by simp,flatG,List.flatMap_append];exact E
 obtain⟨ag,af,rfl⟩:=OwnG.shape I;have aa:Hid (WrP B b (l++s.data.toList) w (A.setCell ⟨b,1,none⟩ (.slice ag (l++s.data.toList).length af))):=zrh hB hp C D Z U Y F I;have K:A.heap[b]?=some (.cells #[p,.slice sp l.length cap] 157 (0,0)):=(F.block b (zaa C) (fun e=>OwnG.nb D C (by decide) e.symm)).trans C;have c1:W1.cell? ⟨b,1,none⟩=some (.slice sp l.length cap):=Yp 1 C rfl;have d1:A.cell? ⟨b,1,none⟩=some (.slice sp l.length cap):=Yp 1 K rfl;have z1:A.frozen? ⟨b,1,none⟩=false:=Yj _ _ _ _ _ K;generalize (l++s.data.toList).length=n at X aa;clear E I F K D C N Z U y M ac ae ab
 go_wp2_with (at_builtin;refine zlp (.tmp 12) (.tmp 13) 71 9 (by rfl) (by rfl) (by rfl) (by rfl) X ?_)
 go_ret2
 exact⟨rfl,aa.out⟩
theorem zjd (B:Nat)(v:Value)(l:List UInt8)(c:UInt8)(hc:c.toNat<128)(w:World)(ho:OwnB B w v l)(hl:l.length<=900000)(hw:B<=w.heap.size) :
  Calls Tryz.prog 174 #[v,.int .i32 c.toNat] w fun e w'=>∃ v',e=.returned v'∧OwnB B w' v' (l++[c])∧(w.alloc (.cells #[.int .u8 c.toNat] 5)).grownBy w' v.ownBlock:=by
 have A:Below w.heap.size w (w.alloc (.cells #[.int .u8 c.toNat] 5)):=(Yb _ _).alloc (Ya _) _;obtain⟨v',C,F,y,D,-⟩:=zdn elB (ys:=[c]) (sp:=some ⟨w.heap.size,0,none⟩) (cap:=1) 71 (OwnG.below ho A) (fun h=>by cases h) (zar (x:=c) (Yd w _)) (by simp;omega) (by simp;omega);have M:IntKind.u32.wrap (c.toNat:Int)=c.toNat:=by
  rw[show IntKind.u32.wrap (c.toNat:Int)=(c.toNat:Int) % 4294967296 by simp[IntKind.wrap,IntKind.bits,IntKind.signed]];omega
 have K:IntKind.u8.wrap (c.toNat:Int)=c.toNat:=by
  rw[show IntKind.u8.wrap (c.toNat:Int)=(c.toNat:Int) % 256 by simp[IntKind.wrap,IntKind.bits,IntKind.signed]];omega
 have N:(c.toNat:Int)<=127:=by omega
 have E:Hid (OwnB B C v' (l++[c])):=y;have I:Hid ((w.alloc (.cells #[.int .u8 c.toNat] 5)).grownBy C v.ownBlock):=D;clear y D A ho
 go_enter Tryz.func174,Tryz.ntmps174
 go_wp2_with (at_builtin;refine za8 (.tmp 8) (.tmp 11) 71 (by rfl) (by rfl) (by rfl) (by rfl) F ?_)
 go_ret
 exact⟨_,rfl,E.out,I.out⟩
theorem zg2 (B b:Nat)(l:List UInt8)(c:UInt8)(hc:c.toNat<128)(w:World)(h:Bld B b l w)(hl:l.length<=900000)(hw:B<=w.heap.size) :
  Calls Tryz.prog 159 #[.pointer (some ⟨b,0,none⟩),.int .i32 c.toNat] w fun e w'=>(∃ n,e=.returned (.tuple #[.int .i64 n,.nilIface]))∧WrP B b (l++[c]) w w':=by
 go_enter Tryz.func159,Tryz.ntmps159
 go_wp2_with fail
 refine(zff B b l w h).mono ?_;rintro e W1 ⟨rfl,X,b1,Y,V⟩;clear h;obtain⟨hB,p,v,hp,K,D⟩:=X.row;obtain⟨sp,cap,rfl⟩:=OwnG.shape D;have Z:B<=W1.heap.size:=by rw[V];exact hw
 have c1:W1.cell? ⟨b,1,none⟩=some (.slice sp l.length cap):=Yp 1 K rfl;clear V
 go_wp2_with fail
 refine(zjd B _ l c hc W1 D hl Z).mono ?_;rintro e y ⟨v',rfl,M,N⟩;have F:Below W1.heap.size W1 (W1.alloc (.cells #[.int .u8 c.toNat] 5)):=(Yb _ _).alloc (Ya _) _;obtain⟨E,C,rfl⟩:=OwnG.shape M;have A:(W1.alloc (.cells #[.int .u8 c.toNat] 5)).heap[b]?=some (.cells #[p,.slice sp l.length cap] 157 (0,0)):=(F.block b (zaa K)).trans K;have aa:Hid (WrP B b (l++[c]) w (y.setCell ⟨b,1,none⟩ (.slice E (l++[c]).length C))):=zrh hB hp A (OwnG.below D F) (b1.alloc Z _) (Y.alloc _) (by simp;omega) N M;have I:y.heap[b]?=some (.cells #[p,.slice sp l.length cap] 157 (0,0)):=(N.block b (zaa A) (fun e=>OwnG.nb (OwnG.below D F) A (by decide) e.symm)).trans A;have U:(y.setCell ⟨b,1,none⟩ (.slice E (l++[c]).length C)).heap[b]?=some (.cells #[p,.slice E (l++[c]).length C] 157 (0,0)):=Yf _ _ _ _ _ _ I;have d1:y.cell? ⟨b,1,none⟩=some (.slice sp l.length cap):=Yp 1 I rfl;have z1:y.frozen? ⟨b,1,none⟩=false:=Yj _ _ _ _ _ I;have ab:(l++[c]).length=l.length+1:=by simp
 rw[ab] at aa U ⊢;have e1:(y.setCell ⟨b,1,none⟩ (.slice E (l.length+1) C)).cell? ⟨b,1,none⟩=some (.slice E (l.length+1) C):=Yp 1 U rfl;clear M N I U A F D K X b1 Y
 go_wp2
 go_ret2
 exact⟨⟨_,rfl⟩,aa.out⟩
def quoB (c:UInt8):Option (List UInt8):=if c.toNat=34∨c.toNat=92 then some [92,c] else if c.toNat=10 then some [92,110] else if plnB c.toNat then some [c] else none
def quoG (acc:List UInt8):List UInt8->Option (List UInt8)
 | []=>some (acc++[34])
 | c::r=>match quoB c with | none=>none | some x=>quoG (acc++x) r
def quoO (L:List UInt8):Option (List UInt8):=quoG [34] L
theorem zlq {acc:List UInt8}{L:List UInt8}{i:Nat}{c:UInt8}(h:L[i]?=some c):quoG acc (L.drop i)=match quoB c with|none=>none|some x=>quoG (acc++x) (L.drop (i+1)):=by
 rw[zdu h,quoG]
theorem zxg {acc:List UInt8}{L:List UInt8}{i:Nat}{c:UInt8}{o:Option (List UInt8)}(h:L[i]?=some c)(hg:quoG acc (L.drop i)=o)(hq:quoB c=none):o=none:=by
 rw[<-hg,zlq h,hq]
theorem zri {acc x:List UInt8}{L:List UInt8}{i:Nat}{c:UInt8}{o:Option (List UInt8)}(h:L[i]?=some c)(hg:quoG acc (L.drop i)=o)(hq:quoB c=some x):quoG (acc++x) (L.drop (i+1))=o:=by
 rw[<-hg,zlq h,hq]
theorem Bld.iterAt {B b:Nat}{l:List UInt8}{w:World}(h:Bld B b l w){k:Nat}{s:ByteArray}{pos:Nat}(hk:w.heap[k]?=some (.stringIter s pos))(pos':Nat):Bld B b l (w.iterAt k s pos'):=by
 obtain⟨F,p,v,I,y,A⟩:=h.row;have D:b≠k:=fun e=>by rw[e,hk] at y;cases y
 refine Bld.of F I ((Lib.iterAt_other w k b s pos' D).trans y) (OwnG.keep A fun j E=>Lib.iterAt_other w k j s pos' fun e=>?_);obtain⟨c,K,C⟩:=zoc A j E;rw[e,hk] at C
 cases C
theorem Bld.below {B b:Nat}{l:List UInt8}{w w':World}(h:Bld B b l w)(hb:Below w.heap.size w w'):Bld B b l w':=by
 obtain⟨D,p,v,A,y,C⟩:=h.row;exact Bld.of D A ((hb.block b (zaa y)).trans y) (OwnG.below C hb)
def strV (o:Option (List UInt8)) (e:Int):Value:=match o with|none=>.tuple #[.string ⟨#[]⟩,.int .i64 e] | some x=>.tuple #[.string (strU x),.int .i64 0]
theorem zej {w:World}{k:Nat}{s:ByteArray}{pos:Nat}(h:w.heap[k]?=some (.stringIter s pos)):w.iterPos k=pos:=by unfold World.iterPos;rw[h]
theorem zrj (s:ByteArray)(w:World)(hs:s.size<=100000):Calls Tryz.prog 143 #[.string s] w fun e w'=>e=.returned (strV (quoO s.data.toList) 2)∧Below w.heap.size w w':=by
 have HS:Hid (s.size=s.data.toList.length):=by show s.size=s.data.toList.length;simp
 go_enter Tryz.func143,Tryz.ntmps143
 go_wp2
 refine wp_scope_jumps 0 (fun a' w'=>quoO s.data.toList=none∧Below w.heap.size w w'∧∃ u0 u1 u2 u3 u4 u5 u6 u7 u8 u9 aU aI aO aj ay aD aA aw aB ap aQ aM aN aR al aq aE aJ ax az aG aH aK aT:Value,a'={ tmps:=#[u0,u1,u2,u3,u4,u5,u6,u7,u8,u9,aU,aI,aO,aj,ay,aD,aA,aw,aB,ap,aQ,aM,aN,aR,al,aq,aE,aJ,ax,az,aG,aH,aK,aT],defers:=[] }) (fun _ _=>0) rfl ?_ ?_
 rotate_left
 ·rintro a' w' ⟨hn,hb,u0,u1,u2,u3,u4,u5,u6,u7,u8,u9,aU,aI,aO,aj,ay,aD,aA,aw,aB,ap,aQ,aM,aN,aR,al,aq,aE,aJ,ax,az,aG,aH,aK,aT,rfl⟩;have HN:=J hn;clear hn
  go_wp2
  simp only[Exit.jump]
  go_ret2
  refine⟨?_,hb⟩;rw[HN.out];exact rfl
 go_wp2_with fail
 have an:Bld w.heap.size w.heap.size [] (w.alloc (.cells #[.pointer none,.slice none 0 0] 157)):=Bld.of (Ya _) (.inl rfl) (Yd _ _) (zcz _ _);refine(zfg w.heap.size w.heap.size [] 34 _ an (by simp) (by simp)).mono ?_;rintro e W1 ⟨rfl,h1,b1,-⟩;have ai:Below w.heap.size w W1:=((Yb _ _).alloc (Ya _) _).trans b1;clear an b1;have au:w.heap.size<W1.heap.size:=by obtain⟨-,p,v,-,hr,-⟩:=h1.row;exact zaa hr
 go_wp2
 obtain⟨K,HK⟩:∃ K,Hid (W1.heap.size=K):=⟨_,rfl⟩;have ak:Below W1.heap.size W1 (W1.alloc (.stringIter s 0)):=(Yb _ _).alloc (Ya _) _;have H0:Hid (Bld w.heap.size w.heap.size [34] (W1.iter s 0)∧(W1.iter s 0).heap[K]?=some (.stringIter s 0)∧Below w.heap.size w (W1.iter s 0)):=⟨h1.below ak,by rw[<-HK.out];exact Yd _ _,ai.alloc ai.size _⟩;have hK:w.heap.size<K:=by rw[<-HK.out];exact au
 rw[HK.out];clear ak HK au ai h1
 go_loopw [] (fun wr=>∃ (pos:Nat) (y:List UInt8),pos<=s.size∧Bld w.heap.size w.heap.size y wr∧wr.heap[K]?=some (.stringIter s pos)∧Below w.heap.size w wr∧y.length<=1+2 * pos∧quoG y (s.data.toList.drop pos)=quoO s.data.toList) (fun wr=>s.size - wr.iterPos K)
 case atStart=>exact⟨0,[34],Yk _,H0.out.1,H0.out.2.1,H0.out.2.2,by simp,rfl⟩
 case round=>
  clear H0;obtain⟨pos,y,a2,aP,aa,am,a1,aV⟩:=hrel;have ab:=J aP;have ae:=J aa;have I:=J am;have F:=J aV;clear aP am aV
  by_cases hp:pos<s.size
  ·have U:∀ X,(Instr.next (.pointer (some ⟨K,0,none⟩)) true X).run Tryz.prog wr=_:=fun X=>Lib.run_next_any_at wr K s pos X aa hp;have HB:Hid (s.data.toList[pos]?=some (s[pos]'hp)):=zeb hp;obtain⟨c,HC⟩:∃ c,Hid (s[pos]'hp=c):=⟨_,rfl⟩;rw[HC.out] at HB
   by_cases ha:c.toNat<128
   ·have aC:=decode_ascii s pos hp (by rw[HC.out];exact ha);rw[aC] at U;simp only[HC.out] at U;clear aC aa;have h4:Bld w.heap.size w.heap.size y (wr.iterAt K s (pos+1)):=ab.out.iterAt ae _;have i4:(wr.iterAt K s (pos+1)).heap[K]?=some (.stringIter s (pos+1)):=Lib.iterAt_heap _ _ _ _ _ ae;have D:Below w.heap.size w (wr.iterAt K s (pos+1)):=Lib.below_iterAt I (by omega) _ _;have a0:=zfe c;have Z:w.heap.size<=(wr.iterAt K s (pos+1)).heap.size:=D.size
    by_cases hq:c.toNat=34∨c.toNat=92
    ·have ac:Hid (quoG (y++[92,c]) (s.data.toList.drop (pos+1))=quoO s.data.toList):=zri HB F (by unfold quoB;rw[if_pos hq]);have aW:(c.toNat:Int)=34∨(c.toNat:Int)=92:=by omega
     clear ab I F;generalize wr.iterAt K s (pos+1)=WN at U h4 i4 D Z;have ao:Hid (∀ (C:World),WrP w.heap.size w.heap.size (y++[92]) WN C->Calls Tryz.prog 159 #[.pointer (some ⟨w.heap.size,0,none⟩),.int .i32 c.toNat] C fun e w'=>(∃ n,e=.returned (.tuple #[.int .i64 n,.nilIface]))∧(∃ (pos:Nat) (y:List UInt8),pos<=s.size∧Bld w.heap.size w.heap.size y w'∧w'.heap[K]?=some (.stringIter s pos)∧Below w.heap.size w w'∧y.length<=1+2 * pos∧quoG y (s.data.toList.drop pos)=quoO s.data.toList)∧s.size - w'.iterPos K<s.size - wr.iterPos K):=fun C N=>by
      refine(zg2 w.heap.size w.heap.size (y++[92]) c ha C N.1 (by simp;omega) (Yo Z N.2.1.size)).mono ?_;rintro e A ⟨hn,h6,V,k6⟩;have M:A.heap[K]?=some (.stringIter s (pos+1)):=Lib.OthersKept.iter k6 (Lib.OthersKept.iter N.2.2 i4 (by omega)) (by omega);refine⟨hn,⟨pos+1,y++[92,c],by omega,by simpa using h6,M,D.trans (N.2.1.trans V),by simp;omega,ac.out⟩,?_⟩;rw[zej M,zej ae.out];omega
     rcases aW with af|af
     all_goals
      go_wp2_with fail
      refine(zfg w.heap.size w.heap.size y 92 WN h4 (by omega) Z).mono ?_;rintro e C ⟨rfl,N⟩
      go_wp2_with fail
      try rw[af] at ao
      refine(ao.out C N).mono ?_;rintro e A ⟨⟨n6,rfl⟩,hR,hM⟩;have HR:=J hR;have HM:=J hM;clear hR hM
      go_wp2
      exact⟨HR.out,HM.out⟩
    ·by_cases h10:c.toNat=10
     ·have ac:Hid (quoG (y++[92,110]) (s.data.toList.drop (pos+1))=quoO s.data.toList):=zri HB F (by unfold quoB;rw[if_neg hq,if_pos h10]);have aL:(c.toNat:Int)=10:=by omega
      clear ab I F;generalize wr.iterAt K s (pos+1)=WN at U h4 i4 D Z
      go_wp2_with fail
      refine(zih w.heap.size w.heap.size y ⟨#[92,110]⟩ WN h4 (by have:(⟨#[92,110]⟩:ByteArray).size=2:=rfl;omega) Z).mono ?_;rintro e A ⟨rfl,h6,V,k6⟩;have M:A.heap[K]?=some (.stringIter s (pos+1)):=Lib.OthersKept.iter k6 i4 (by omega);have HR:Hid (∃ (pos:Nat) (y:List UInt8),pos<=s.size∧Bld w.heap.size w.heap.size y A∧A.heap[K]?=some (.stringIter s pos)∧Below w.heap.size w A∧y.length<=1+2 * pos∧quoG y (s.data.toList.drop pos)=quoO s.data.toList):=⟨pos+1,y++[92,110],by omega,h6,M,D.trans V,by simp;omega,ac.out⟩;have HM:Hid (s.size - A.iterPos K<s.size - wr.iterPos K):=by
       show s.size - A.iterPos K<s.size - wr.iterPos K;rw[zej M,zej ae.out];omega
      go_wp2
      exact⟨HR.out,HM.out⟩
     ·have af:((c.toNat:Int) == 34)=false:=by rw[beq_eq_false_iff_ne];omega
      have aY:((c.toNat:Int) == 92)=false:=by rw[beq_eq_false_iff_ne];omega
      have aL:((c.toNat:Int) == 10)=false:=by rw[beq_eq_false_iff_ne];omega
      cases Y:plnB c.toNat
      ·have ag:Hid (quoO s.data.toList=none):=zxg HB F (by unfold quoB;rw[if_neg hq,if_neg h10,Y];rfl)
       go_wp2_with (go_at_call 125;refine(zfx _ _).mono ?_;rintro e W1 ⟨rfl,ah⟩;subst ah;rw[Y])
       go_step3
       exact⟨rfl,ag.out,D,_,_,_,_,_,_,_,_,_,_,_,_,_,_,_,_,_,_,_,_,_,_,_,_,_,_,_,_,_,_,_,_,_,_,rfl⟩
      ·have ac:Hid (quoG (y++[c]) (s.data.toList.drop (pos+1))=quoO s.data.toList):=zri HB F (by unfold quoB;rw[if_neg hq,if_neg h10,Y];rfl);clear ab I F;generalize wr.iterAt K s (pos+1)=WN at U h4 i4 D Z
       go_wp2_with fail
       refine(zfx _ _).mono ?_;rintro e C ⟨rfl,av⟩;rw[av,Y];clear av
       go_wp2_with fail
       refine(zg2 w.heap.size w.heap.size y c ha WN h4 (by omega) Z).mono ?_;rintro e A ⟨⟨n6,rfl⟩,h6,V,k6⟩;have M:A.heap[K]?=some (.stringIter s (pos+1)):=Lib.OthersKept.iter k6 i4 (by omega);have HR:Hid (∃ (pos:Nat) (y:List UInt8),pos<=s.size∧Bld w.heap.size w.heap.size y A∧A.heap[K]?=some (.stringIter s pos)∧Below w.heap.size w A∧y.length<=1+2 * pos∧quoG y (s.data.toList.drop pos)=quoO s.data.toList):=⟨pos+1,y++[c],by omega,h6,M,D.trans V,by simp;omega,ac.out⟩;have HM:Hid (s.size - A.iterPos K<s.size - wr.iterPos K):=by
        show s.size - A.iterPos K<s.size - wr.iterPos K;rw[zej M,zej ae.out];omega
       go_wp2
       exact⟨HR.out,HM.out⟩
   ·have aF:=(decode_high s pos hp (by rw[HC.out];omega)).1;obtain⟨E,ar⟩:∃ E:Nat,(Utf8.decode s pos).1=E:=⟨_,rfl⟩;rw[ar] at aF U;have af:((E:Int) == 34)=false:=by rw[beq_eq_false_iff_ne];omega
    have aY:((E:Int) == 92)=false:=by rw[beq_eq_false_iff_ne];omega
    have aL:((E:Int) == 10)=false:=by rw[beq_eq_false_iff_ne];omega
    have Y:plnB (E:Int)=false∨(E:Int)<=126:=by
     by_cases h:(E:Int)<=126
     ·exact .inr h
     ·exact .inl (by unfold plnB;rw[decide_eq_false h,Bool.and_false])
    have aZ:plnB (E:Int)=false:=by
     rcases Y with h|h
     ·exact h
     ·omega
    have ag:Hid (quoO s.data.toList=none):=zxg HB F (by
     unfold quoB;rw[if_neg (by omega),if_neg (by omega)];have:plnB c.toNat=false:=by unfold plnB;rw[decide_eq_false (show ¬ ((c.toNat:Int)<=126) by omega),Bool.and_false]
     rw[this];rfl)
    have D:Below w.heap.size w (wr.iterAt K s (pos+(Utf8.decode s pos).2)):=Lib.below_iterAt I (by omega) _ _;clear aF Y aa ar
    go_wp2_with (go_at_call 125;refine(zfx _ _).mono ?_;rintro e W1 ⟨rfl,ah⟩;subst ah;rw[aZ])
    go_step3
    exact⟨rfl,ag.out,D,_,_,_,_,_,_,_,_,_,_,_,_,_,_,_,_,_,_,_,_,_,_,_,_,_,_,_,_,_,_,_,_,_,_,rfl⟩
  ·have U:∀ X,(Instr.next (.pointer (some ⟨K,0,none⟩)) true X).run Tryz.prog wr=_:=fun X=>Lib.run_next_end_at wr K s pos X aa hp;have HY:Hid (quoO s.data.toList=some (y++[34])):=by rw[<-F.out,List.drop_eq_nil_of_le (by have:=HS.out;omega)];exact rfl
   clear aa
   go_wp2_with fail
   refine(zfg w.heap.size w.heap.size y 34 wr ab (by omega) I.out.size).mono ?_;rintro e C ⟨rfl,N,b5,k5⟩
   go_wp2_with fail
   have aX:Lib.IsBuilder 157 5 w.heap.size w.heap.size (Lib.byteCells (y++[34])) C:=N;refine(Tryz.Builder_String_any w.heap.size w.heap.size (y++[34]) C aX (Yo I.out.size b5.size)).mono ?_;rintro e A ⟨rfl,V⟩
   go_wp2
   simp only[Exit.jump]
   go_ret2
   refine⟨?_,I.out.trans (b5.trans V)⟩;rw[HY.out];exact rfl
def comN (L:List UInt8):Nat:=runN (fun c=>c != 10) L
theorem zvo (L:List UInt8)(c:UInt8):Lib.indexByte L c=if runN (fun d=>d != c) L<L.length then(runN (fun d=>d != c) L:Int) else -1:=by
 induction L with
 | nil=>rfl
 | cons a r ih=>
  rw[Lib.indexByte,zc5,List.length_cons]
  by_cases h:a=c
  ·subst h;simp
  ·have y:(a == c)=false:=by simpa using h
   have A:(a != c)=true:=by simpa using h
   by_cases hlt:runN (fun d=>d != c) r<r.length
   ·have C:((runN (fun d=>d != c) r:Int) == -1)=false:=by rw[beq_eq_false_iff_ne];omega
    simp[y,A,ih,hlt,C]
   ·simp[y,A,ih,hlt]
theorem zm5 (sp:Option Addr)(cap:Nat) (L:List UInt8)(w:World)(h:BA w sp L)(hpos:0<L.length) :
  Calls Tryz.prog 66 #[.slice sp L.length cap] w fun e w'=>e=.returned (.int .i64 (comN L))∧w'=w:=by
 obtain⟨b,o,rfl,D⟩:=h hpos;have C:Hid (Calls Tryz.prog 96 #[.slice (some ⟨b,o,none⟩) L.length cap,.int .u8 10] w fun e w'=>e=.returned (.int .i64 (if runN (fun d=>d != 10) L<L.length then(runN (fun d=>d != 10) L:Int) else -1))∧w'=w):=by
  have:=Tryz.bytes_IndexByte_at ⟨b,o,none⟩ L.length cap (Lib.numsL L) 10 w (by simp[Lib.numsL]) (fun i E=>by
   rw[Addr.add_mid,D i _ (Yh E)];simp[Lib.numsL,E])
  rw[Lib.bytesOf_numsL,zvo] at this;exact this
 have I:=zgl (fun c=>c != 10) L;clear D h
 go_enter Tryz.func66,Tryz.ntmps66
 by_cases hlt:runN (fun d=>d != 10) L<L.length
 ·have F:¬ ((runN (fun d=>d != 10) L:Int)<0):=by omega
  have y:Hid (comN L=runN (fun d=>d != 10) L):=rfl
  go_wp2_with (go_at_call 96;refine C.out.mono ?_;rintro e W1 ⟨rfl,A⟩;subst A;rw[if_pos hlt])
  go_ret
  exact⟨zdh (by rw[y.out]),rfl⟩
 ·have y:Hid (comN L=L.length):=by
   have:comN L=runN (fun d=>d != 10) L:=rfl;rw[this];show runN (fun d=>d != 10) L=L.length;omega
  go_wp2_with (go_at_call 96;refine C.out.mono ?_;rintro e W1 ⟨rfl,A⟩;subst A;rw[if_neg hlt])
  go_ret
  exact⟨zdh (by rw[y.out]),rfl⟩
theorem zvp {L M:List UInt8}{n q k:Nat}(h:numR L=if (decO M).isSome=false∨0<k then(0,201) else(n,0))(hd:decO M=some q):numR L=if 0<k then(0,201) else(n,0):=by
 rw[h,hd];simp
theorem zpt (sp:Option Addr)(cap:Nat) (L:List UInt8)(w:World)(h:BA w sp L)(hpos:0<L.length)(hl:L.length<=100000)(hcap:L.length<=cap) :
  Calls Tryz.prog 63 #[.slice sp L.length cap] w fun e w'=>e=.returned (pairV (numR L))∧Below w.heap.size w w':=by
 obtain⟨b,o,rfl,hc⟩:=h hpos;have E:=J h;clear h hc;obtain⟨n,M⟩:∃ n,Hid (runN (inC [4]) L=n):=⟨_,rfl⟩;have ab:n<=L.length:=by rw[<-M.out];exact zgl _ _
 have D:Hid (numR L=if (decO (L.take n)).isSome=false∨0<runN (inC [3]) (L.drop n) then(0,201) else(n,0)):=by unfold numR;rw[M.out];exact rfl
 have X:Hid (Calls Tryz.prog 92 #[.slice (some ⟨b,o,none⟩) L.length cap,.slice (some ⟨w.heap.size,0,none⟩) 1 1] (w.alloc (.cells #[.int .i64 4] 3)) fun e w'=>e=.returned (.int .i64 n)∧Below w.heap.size w w'):=by
  have C:Below w.heap.size w (w.alloc (.cells #[.int .i64 4] 3)):=(Yb _ _).alloc (Ya _) _;have:=zm4 _ cap L w.heap.size 0 1 [4] _ (E.out.below C) (by omega) (by simp) (zho w [4] 3);rw[M.out] at this;exact this.mono fun e w' ⟨h1,h2⟩=>⟨h1,h2 ▸ C⟩
 go_enter Tryz.func63,Tryz.ntmps63
 go_wp2_with fail
 refine X.out.mono ?_;rintro e W1 ⟨rfl,C⟩;have N:(L.take n).length=n:=by rw[List.length_take];omega
 have V:=zgz ((E.out.below' C).take n) cap;rw[N] at V;have ac:(n:Int)<=cap:=by omega
 go_wp2_with fail
 refine(zif (strU (L.take n)) W1).mono ?_;rintro e y ⟨rfl,Z⟩;rw[zgy];have I:Below w.heap.size w y:=C.trans (Z.mono C.size);clear V N X
 cases hdo:decO (L.take n) with
 | none=>
  have A:Hid (numR L=(0,201)):=by rw[D.out,hdo];exact rfl
  clear D hdo;unfold decV
  go_wp2
  go_ret2
  exact⟨za3 A.out,I⟩
 | some q=>
  have A:Hid (numR L=if 0<runN (inC [3]) (L.drop n) then(0,201) else(n,0)):=zvp D hdo;clear D hdo;have K:Below w.heap.size w (y.alloc (.cells #[.int .i64 3] 3)):=I.alloc I.size _;have U:Hid (Calls Tryz.prog 92 #[.slice (if cap=n then some ⟨b,o,none⟩ else some ⟨b,o+n,none⟩) (L.length - n) (cap - n),.slice (some ⟨y.heap.size,0,none⟩) 1 1] (y.alloc (.cells #[.int .i64 3] 3)) fun e w'=>e=.returned (.int .i64 (runN (inC [3]) (L.drop n)))∧w'=(y.alloc (.cells #[.int .i64 3] 3))):=by
   have:=zm4 _ (cap - n) (L.drop n) y.heap.size 0 1 [3] _ (BA.cut (E.out.below' K) n hcap) (by rw[List.length_drop];omega) (by simp) (zho y [3] 3);rw[List.length_drop] at this;exact this
  unfold decV
  by_cases hr:0<runN (inC [3]) (L.drop n)
  ·have aa:((runN (inC [3]) (L.drop n):Nat):Int) > 0:=by omega
   have F:Hid (numR L=(0,201)):=by rw[A.out,if_pos hr];exact rfl
   clear A
   go_wp2_with (go_at_call 92;refine U.out.mono ?_;rintro e Y ⟨rfl,rfl⟩)
   all_goals go_ret2
   all_goals exact⟨za3 F.out,K⟩
  ·have aa:¬ ((runN (inC [3]) (L.drop n):Nat):Int) > 0:=by omega
   have F:Hid (numR L=(n,0)):=by rw[A.out,if_neg hr];exact rfl
   clear A
   go_wp2_with (go_at_call 92;refine U.out.mono ?_;rintro e Y ⟨rfl,rfl⟩)
   all_goals go_ret2
   all_goals exact⟨za3 F.out,K⟩
def lookR (L:List UInt8) (en:Bool):Int × Nat × Int:=match L with
  | []=>(5,0,0)
  | c::r=>
    if clsI c.toNat=2 then(if en then(5,0,0) else(0,1,0))
    else if clsI c.toNat=1 then(0,1,0)
    else if clsI c.toNat=6 then(5,1,0)
    else if clsI c.toNat=3 then(1,wordR (c::r))
    else if clsI c.toNat=4 then(2,numR (c::r))
    else if clsI c.toNat=5 then(3,quoR (c::r))
    else if Lib.hasPrefix (c::r) [47,47] then(0,comN (c::r),0)
    else(4,sigR (c::r))
def tripV (p:Int × Nat × Int):Value:=.tuple #[.int .i64 p.1,.int .i64 p.2.1,.int .i64 p.2.2]
theorem zeh {p:Int × Nat × Int}{k:Int}{n:Nat}{e:Int}(h:p=(k,n,e)):Ending.returned (.tuple #[.int .i64 k,.int .i64 n,.int .i64 e])=.returned (tripV p):=by rw[h];rfl
theorem zrk (c:Int):clsI c=0∨clsI c=1∨clsI c=2∨clsI c=3∨clsI c=4∨clsI c=5∨clsI c=6:=by
  unfold clsI
  repeat' split
  all_goals simp
theorem zkg (sp:Option Addr)(cap:Nat) (L:List UInt8)(g:Nat)(t:Tok)(w:World)(h:BA w sp L)(hl:L.length<=100000)(hcap:L.length<=cap)
    (h0:w.cell? ⟨g,0,none⟩=some (.int .i64 t.kind)) (h1:w.cell? ⟨g,1,none⟩=some (.string t.text)) :
    Calls Tryz.prog 36 #[.slice sp L.length cap,.func (.func 33) #[.pointer (some ⟨g,0,none⟩)] #[]] w fun e w'=>e=.returned (tripV (lookR L (clo t)))∧Below w.heap.size w w':=by
  have H0:=J h0;have H1:=J h1;have N:=J h;clear h h0 h1
  cases L with
  | nil=>
    go_enter Tryz.func36,Tryz.ntmps36
    go_wp2
    go_ret3
    exact⟨rfl,Yb _ _⟩
  | cons c r=>
    obtain⟨b,o,rfl,hc⟩:=N.out (by simp);have k0:w.cell? ⟨b,o,none⟩=some (.int .u8 c.toNat):=hc 0 c rfl;have ag:((((c::r).length:Nat):Int) == 0)=false:=by rw[beq_eq_false_iff_ne,List.length_cons];omega
    have af:(0:Int)<((c::r).length:Nat):=by rw[List.length_cons];omega
    have hw:=zfe c;clear hc;obtain⟨M,Y⟩:∃ M,Hid (c::r=M):=⟨_,rfl⟩;have E:Hid (lookR M (clo t)=if clsI c.toNat=2 then(if clo t then(5,0,0) else(0,1,0)) else if clsI c.toNat=1 then(0,1,0) else if clsI c.toNat=6 then(5,1,0) else if clsI c.toNat=3 then(1,wordR M)
      else if clsI c.toNat=4 then(2,numR M) else if clsI c.toNat=5 then(3,quoR M) else if Lib.hasPrefix M [47,47] then(0,comN M,0) else(4,sigR M)):=by rw[<-Y.out];exact rfl
    have HC:Hid (∃ r,M=c::r):=⟨r,Y.out.symm⟩;rw[Y.out] at ag af N hl hcap ⊢;clear Y;have ac:0<M.length:=by omega
    go_enter Tryz.func36,Tryz.ntmps36
    rcases zrk c.toNat with A|A|A|A|A|A|A
    . have C:Hid (lookR M (clo t)=if Lib.hasPrefix M [47,47] then(0,comN M,0) else(4,sigR M)):=by rw[E.out,A];exact rfl
      clear E;have ae:=Lib.run_convert_bytes_const (P:=Tryz.prog) w 71 5 #[.int .u8 47,.int .u8 47] 2 2 Tryz.underlying71 Tryz.underlying5;obtain⟨D,aa⟩:∃ D,Hid (w.alloc (.cells #[.int .u8 47,.int .u8 47] 5 (2,3))=D):=⟨_,rfl⟩;have K:Below w.heap.size w D:=by rw[<-aa.out];exact(Yb _ _).alloc (Ya _) _
      have ab:BA D (some ⟨w.heap.size,0,none⟩) [47,47]:=BA.of_rows (fun _=>⟨w.heap.size,0,rfl,fun i x V j u hu=>by
        have ah:D.heap[w.heap.size]?=some (.cells #[.int .u8 47,.int .u8 47] 5 (2,3)):=by rw[<-aa.out];exact Yd _ _
        rw[Yc _ _ _ _ _ _ ah];have hj:j=0:=by have:=(Array.getElem?_eq_some_iff.1 hu).1;simp[byC] at this;omega
        subst hj;rw[<-hu]
        match i,V with
        | 0,V=>have Z:(47:UInt8)=x:=by simpa using V
               subst Z;rfl
        | 1,V=>have Z:(47:UInt8)=x:=by simpa using V
               subst Z;rfl
        | k+2,V=>simp at V⟩)
      have HP:Hid (Calls Tryz.prog 65 #[.slice (some ⟨b,o,none⟩) M.length cap,.slice (some ⟨w.heap.size,0,none⟩) 2 2] D fun e w'=>e=.returned (.bool (Lib.hasPrefix M [47,47]))∧w'=D):=by
        have:=Tryz.bytes_HasPrefix_all (some ⟨b,o,none⟩) (some ⟨w.heap.size,0,none⟩) M.length cap 2 2 (Lib.numsL M) (Lib.numsL [47,47]) D (by simp[Lib.numsL]) rfl hcap (N.out.below K).bytesIn ab.bytesIn;rw[Lib.bytesOf_numsL,Lib.bytesOf_numsL] at this;exact this
      clear ab;have ai:(convert 71 71 (.slice (some ⟨w.heap.size,0,none⟩) 2 2)).run Tryz.prog (w.alloc (.cells #[.int .u8 47,.int .u8 47] 5))=.ok (.slice (some ⟨w.heap.size,0,none⟩) 2 2) D:=by
        rw[ae];exact congrArg _ aa
      clear ae
      cases hp:Lib.hasPrefix M [47,47]
      . have U:Hid (lookR M (clo t)=(4,sigR M)):=by rw[C.out,hp];exact rfl
        clear C;obtain⟨n,F,I⟩:∃ n F,Hid (sigR M=(n,F)):=⟨_,_,rfl⟩;have HS:Hid (Calls Tryz.prog 67 #[.slice (some ⟨b,o,none⟩) M.length cap] D fun e w'=>e=.returned (.tuple #[.int .i64 n,.int .i64 F])∧w'=D):=by
          obtain⟨r',X⟩:=HC.out;have:=zvm (some ⟨b,o,none⟩) cap c r' D (X ▸ N.out.below K) (X ▸ hl) (X ▸ hcap);rw[<-X,I.out] at this;exact this
        go_wp2_with (first
          | (go_at_call 61;refine(zbx _ _).mono ?_;rintro e W1 ⟨rfl,y⟩;subst y;rw[A])
          | (go_at_call 65;refine HP.out.mono ?_;rintro e W1 ⟨rfl,y⟩;rw[y,hp])
          | (go_at_call 67;refine HS.out.mono ?_;rintro e W1 ⟨rfl,y⟩;rw[y]))
        go_ret3
        exact⟨zeh (by rw[U.out,I.out]),K⟩
      . have U:Hid (lookR M (clo t)=(0,comN M,0)):=by rw[C.out,hp];exact rfl
        clear C;have HS:Hid (Calls Tryz.prog 66 #[.slice (some ⟨b,o,none⟩) M.length cap] D fun e w'=>e=.returned (.int .i64 (comN M))∧w'=D):=zm5 _ cap M D (N.out.below K) ac
        go_wp2_with (first
          | (go_at_call 61;refine(zbx _ _).mono ?_;rintro e W1 ⟨rfl,y⟩;subst y;rw[A])
          | (go_at_call 65;refine HP.out.mono ?_;rintro e W1 ⟨rfl,y⟩;rw[y,hp])
          | (go_at_call 66;refine HS.out.mono ?_;rintro e W1 ⟨rfl,y⟩;rw[y]))
        go_ret3
        exact⟨zeh U.out,K⟩
    . have C:Hid (lookR M (clo t)=(0,1,0)):=by rw[E.out,A];exact rfl
      clear E
      go_wp2_with (go_at_call 61;refine(zbx _ _).mono ?_;rintro e W1 ⟨rfl,y⟩;subst y;rw[A])
      go_ret3
      exact⟨zeh C.out,Yb _ _⟩
    . have C:Hid (lookR M (clo t)=if clo t then(5,0,0) else(0,1,0)):=by rw[E.out,A];exact rfl
      clear E
      cases hcl:clo t
      . have U:Hid (lookR M false=(0,1,0)):=by rw[<-hcl,C.out,hcl];exact rfl
        clear C
        go_wp2_with (first
          | (go_at_call 61;refine(zbx _ _).mono ?_;rintro e W1 ⟨rfl,y⟩;subst y;rw[A])
          | (go_at_call 33;refine(zfd g t _ H0 H1).mono ?_;rintro e W1 ⟨rfl,y⟩;subst y;rw[hcl]))
        go_ret3
        exact⟨zeh U.out,Yb _ _⟩
      . have U:Hid (lookR M true=(5,0,0)):=by rw[<-hcl,C.out,hcl];exact rfl
        clear C
        go_wp2_with (first
          | (go_at_call 61;refine(zbx _ _).mono ?_;rintro e W1 ⟨rfl,y⟩;subst y;rw[A])
          | (go_at_call 33;refine(zfd g t _ H0 H1).mono ?_;rintro e W1 ⟨rfl,y⟩;subst y;rw[hcl]))
        go_ret3
        exact⟨zeh U.out,Yb _ _⟩
    . have C:Hid (lookR M (clo t)=(1,wordR M)):=by rw[E.out,A];exact rfl
      clear E;obtain⟨n,F,I⟩:∃ n F,Hid (wordR M=(n,F)):=⟨_,_,rfl⟩
      go_wp2_with (first
        | (go_at_call 61;refine(zbx _ _).mono ?_;rintro e W1 ⟨rfl,y⟩;subst y;rw[A])
        | (go_at_call 62;refine(zvl _ cap M _ N hl).mono ?_;rintro e W1 ⟨rfl,K⟩;rw[I.out,pairV]))
      go_ret3
      exact⟨zeh (by rw[C.out,I.out]),K⟩
    . have C:Hid (lookR M (clo t)=(2,numR M)):=by rw[E.out,A];exact rfl
      clear E;obtain⟨n,F,I⟩:∃ n F,Hid (numR M=(n,F)):=⟨_,_,rfl⟩
      go_wp2_with (first
        | (go_at_call 61;refine(zbx _ _).mono ?_;rintro e W1 ⟨rfl,y⟩;subst y;rw[A])
        | (go_at_call 63;refine(zpt _ cap M _ N ac hl hcap).mono ?_;rintro e W1 ⟨rfl,K⟩;rw[I.out,pairV]))
      go_ret3
      exact⟨zeh (by rw[C.out,I.out]),K⟩
    . have C:Hid (lookR M (clo t)=(3,quoR M)):=by rw[E.out,A];exact rfl
      clear E;obtain⟨n,F,I⟩:∃ n F,Hid (quoR M=(n,F)):=⟨_,_,rfl⟩
      go_wp2_with (first
        | (go_at_call 61;refine(zbx _ _).mono ?_;rintro e W1 ⟨rfl,y⟩;subst y;rw[A])
        | (go_at_call 64;refine(zps _ cap M _ N hl hcap).mono ?_;rintro e W1 ⟨rfl,K⟩;rw[I.out,pairV]))
      go_ret3
      exact⟨zeh (by rw[C.out,I.out]),K⟩
    . have C:Hid (lookR M (clo t)=(5,1,0)):=by rw[E.out,A];exact rfl
      clear E
      go_wp2_with (go_at_call 61;refine(zbx _ _).mono ?_;rintro e W1 ⟨rfl,y⟩;subst y;rw[A])
      go_ret3
      exact⟨zeh C.out,Yb _ _⟩
section
variable {P:Program}{ops:Array Oper}{Q:Exit->Act->World->Prop}{md:Region.Mode}{S:World->Prop}{fuel:Nat}{listed:Array Bool}{tm:Array Value}{df:List Deferred}{w:World}
 {op:Op}{ty0:TypeId}{pos:String}{aft:Array Edge}
theorem zbc {id:Nat}{a:Act}(n:Nat)(hn:ops.size=n)(hm:P.follows .mixedOrders=true)
  (h:wpAnyH P .any ops Q S n (Array.replicate n false) a w.drew):(Code.region id ops true).wp P Q a w:=by
 subst hn;exact wp_region_held hm h
theorem zal (i d:Nat)(v:Value)(hi:ops[i]?=some ⟨some d,op,ty0,pos,aft,none⟩)(hs:Q3 md ops listed i=true)
  (hQ:∀ c a w,Q (.panic c) (a.put (some d) v) w->Q (.panic c) a w) (hrun:∀ w,S w->(execOp (Act.eval ⟨tm,df⟩) ⟨some d,op,ty0,pos,aft,none⟩).run P w=.ok (.value v) w) (hS:S w)
  (h:wpAnyH P md ops Q S fuel (listed.setIfInBounds i true) ⟨tm.setIfInBounds d v,df⟩ w):wpAnyH P md ops Q S (fuel+1) listed ⟨tm,df⟩ w :=
 wpAnyH_take hi (q3 hs).1 (q3 hs).2.1 (q3 hs).2.2 hQ (.inl ⟨rfl,hrun⟩) hS h
theorem zhv (i d:Nat)(ty:TypeId)(x:Operand)(hi:ops[i]?=some ⟨some d,.load ty x,ty0,pos,aft,none⟩)(g:Nat)(t:TypeId)(cs:Array Value)(fr:Nat × Nat)(hx:Act.eval ⟨tm,df⟩ x=.pointer (some ⟨g,0,none⟩))
  (hs:Q3 md ops listed i=true)
  (hQ:∀ c a w,Q (.panic c) (a.put (some d) (.agg cs)) w->Q (.panic c) a w) (D:TypeDesc) (hrow:∀ w,S w->w.heap[g]?=some (.cells cs t fr)) (hu:P.underlying ty=some D)
  (hd:(match D with | .struct _ | .array _ _=>true|_=>false)=true) (hsz:(P.info? ty).map (·.size)=some cs.size) (hS:S w)
  (h:wpAnyH P md ops Q S fuel (listed.setIfInBounds i true) ⟨tm.setIfInBounds d (.agg cs),df⟩ w):wpAnyH P md ops Q S (fuel+1) listed ⟨tm,df⟩ w :=
 zal i d (.agg cs) hi hs hQ (fun w' y=>by
  unfold execOp;simp only[hx,Instr.loadAt,Instr.sureAddr,Sem.run_bind,Sem.run_pure,Result.andThen_ok,run_loadVar_row w' g t ty cs fr D (hrow w' y) hu hd hsz]) hS h
theorem zac (i:Nat){dst:Option Tmp}(hi:ops[i]?=some ⟨dst,op,ty0,pos,aft,none⟩)(hr:Region.ready md ops listed=[i])
  (h:Oper.wp P ⟨dst,op,ty0,pos,aft,none⟩ ⟨tm,df⟩ w (fun a' w'=>S w'∧wpAnyH P md ops Q S fuel (listed.setIfInBounds i true) a' w') Q):wpAnyH P md ops Q S (fuel+1) listed ⟨tm,df⟩ w :=
 zvk rfl hr hi rfl h
theorem zfh (i:Nat)(ty:TypeId)(x y:Operand)(hi:ops[i]?=some ⟨none,.store ty x y,ty0,pos,aft,none⟩)(hr:Region.ready md ops listed=[i])(g:Nat)(t:TypeId)(cells old:Array Value)(hx:Act.eval ⟨tm,df⟩ x=.pointer (some ⟨g,0,none⟩))(hy:Act.eval ⟨tm,df⟩ y=.agg cells)
  (hg:w.heap[g]?=some (.cells old t (0,0))) (hsz:(P.info? ty).map (·.size)=some cells.size) (hold:old.size=cells.size) (h1:cells.all (·.oneCell')=true) (hS:S (w.setRow g cells))
  (h:wpAnyH P md ops Q S fuel (listed.setIfInBounds i true) ⟨tm,df⟩ (w.setRow g cells)):wpAnyH P md ops Q S (fuel+1) listed ⟨tm,df⟩ w :=
 zac i hi hr (wp_store_row ty x y rfl g cells hx hy t old hg hsz hold h1 ⟨hS,h⟩)
end
section
variable {P:Program}{ops:Array Oper}{Q:Exit->Act->World->Prop}{md:Region.Mode}{S:World->Prop}{fuel:Nat}{listed:Array Bool}{tm:Array Value}{df:List Deferred}{w:World}
 {op:Op}{ty0:TypeId}{pos:String}{aft:Array Edge}
theorem zaj (i d:Nat)(v:Value){gd:Option (Nat × Bool)}(hi:ops[i]?=some ⟨some d,op,ty0,pos,aft,gd⟩)(hw:Region.wanted ⟨some d,op,ty0,pos,aft,gd⟩ (yielded ops tm)=true)(hs:Q3 md ops listed i=true)
  (hQ:∀ c a w,Q (.panic c) (a.put (some d) v) w->Q (.panic c) a w) (hrun:∀ w,S w->(execOp (Act.eval ⟨tm,df⟩) ⟨some d,op,ty0,pos,aft,gd⟩).run P w=.ok (.value v) w) (hS:S w)
  (h:wpAnyH P md ops Q S fuel (listed.setIfInBounds i true) ⟨tm.setIfInBounds d v,df⟩ w):wpAnyH P md ops Q S (fuel+1) listed ⟨tm,df⟩ w :=
 wpAnyH_take hi (q3 hs).1 (q3 hs).2.1 (q3 hs).2.2 hQ (.inl ⟨hw,hrun⟩) hS h
theorem zai (i d:Nat){gd:Option (Nat × Bool)}(hi:ops[i]?=some ⟨some d,op,ty0,pos,aft,gd⟩)(hw:Region.wanted ⟨some d,op,ty0,pos,aft,gd⟩ (yielded ops tm)=false)(hs:Q3 md ops listed i=true)
  (hQ:∀ c a w,Q (.panic c) (a.put (some d) undef) w->Q (.panic c) a w) (hS:S w)
  (h:wpAnyH P md ops Q S fuel (listed.setIfInBounds i true) ⟨tm.setIfInBounds d undef,df⟩ w):wpAnyH P md ops Q S (fuel+1) listed ⟨tm,df⟩ w :=
 wpAnyH_take hi (q3 hs).1 (q3 hs).2.1 (q3 hs).2.2 hQ (.inr ⟨hw,rfl⟩) hS h
theorem zyr (i d:Nat)(ty:TypeId)(x:Operand){gd:Option (Nat × Bool)}(hi:ops[i]?=some ⟨some d,.load ty x,ty0,pos,aft,gd⟩)(hw:Region.wanted ⟨some d,.load ty x,ty0,pos,aft,gd⟩ (yielded ops tm)=true)(g:Nat)(t:TypeId)(cs:Array Value)(fr:Nat × Nat)(hx:Act.eval ⟨tm,df⟩ x=.pointer (some ⟨g,0,none⟩))
  (hs:Q3 md ops listed i=true)
  (hQ:∀ c a w,Q (.panic c) (a.put (some d) (.agg cs)) w->Q (.panic c) a w) (D:TypeDesc) (hrow:∀ w,S w->w.heap[g]?=some (.cells cs t fr)) (hu:P.underlying ty=some D)
  (hd:(match D with | .struct _ | .array _ _=>true|_=>false)=true) (hsz:(P.info? ty).map (·.size)=some cs.size) (hS:S w)
  (h:wpAnyH P md ops Q S fuel (listed.setIfInBounds i true) ⟨tm.setIfInBounds d (.agg cs),df⟩ w):wpAnyH P md ops Q S (fuel+1) listed ⟨tm,df⟩ w :=
 zaj i d (.agg cs) hi hw hs hQ (fun w' y=>by
  unfold execOp;simp only[hx,Instr.loadAt,Instr.sureAddr,Sem.run_bind,Sem.run_pure,Result.andThen_ok,run_loadVar_row w' g t ty cs fr D (hrow w' y) hu hd hsz]) hS h
theorem zh4 (i:Nat){dst:Option Tmp}{gd:Option (Nat × Bool)}(hi:ops[i]?=some ⟨dst,op,ty0,pos,aft,gd⟩)(hw:Region.wanted ⟨dst,op,ty0,pos,aft,gd⟩ (yielded ops tm)=true)(hr:Region.ready md ops listed=[i])
  (h:Oper.wp P ⟨dst,op,ty0,pos,aft,gd⟩ ⟨tm,df⟩ w (fun a' w'=>S w'∧wpAnyH P md ops Q S fuel (listed.setIfInBounds i true) a' w') Q):wpAnyH P md ops Q S (fuel+1) listed ⟨tm,df⟩ w:=by
 refine wpAnyH_all hr (by simp) fun j y=>?_;obtain rfl:j=i:=by simpa using y
 unfold wpOp;simp only[hi,hw,if_true];exact .inl h
end
end Go.Proofs.YtmclgbkijeidaaaGreatDoor
