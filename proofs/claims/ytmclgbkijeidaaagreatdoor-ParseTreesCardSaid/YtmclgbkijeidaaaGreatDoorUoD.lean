import Derived.Test.YtmclgbkijeidaaaGreatDoorUoC
import Derived.BigRegion
namespace Go.Proofs.YtmclgbkijeidaaaGreatDoor
set_option maxRecDepth 100000
set_option maxHeartbeats 4000000
open Go.RowKit
def lxC (t:Tok) (tv:Value) (p:Nat) (vt:Value):Array Value:=#[.int .i64 t.kind,.string t.text,.int .i64 t.pos,tv,.int .i64 p,vt]
theorem OwnG.ne {α:Type}{e:TypeId}{m:Nat}{f:α->Array Value}{B:Nat}{w:World}{v:Value}{xs:List α}(h:OwnG e m f B w v xs){g:Nat}{cs:Array Value}{e':TypeId}{fr:Nat × Nat}(hg:w.heap[g]?=some (.cells cs e' fr))(hne:e≠e'):v.ownBlock≠some g:=by
 rcases h.2 with⟨rfl,C⟩ | ⟨g',cap,cur,rfl,h1,h2,h3⟩
 ·exact fun h=>by cases h
 ·intro A;have y:g'=g:=by simpa[Value.ownBlock] using A
  subst y;rw[hg] at h2;injection h2 with h2;injection h2 with h2 h4;exact hne h4.symm
structure Kept (g:Nat) (v:Value) (w w':World):Prop where
 os:w'.os=w.os
 tape:w'.tape=w.tape
 output:w'.output=w.output
 size:w.heap.size<=w'.heap.size
 block:∀ k,k<w.heap.size->k≠g->v.ownBlock≠some k->w'.heap[k]?=w.heap[k]?
theorem Kept.below {g:Nat}{v:Value}{w w':World}(h:Kept g v w w'){B:Nat}{e:TypeId}{m:Nat}{α:Type}{f:α->Array Value}{xs:List α}(ho:OwnG e m f B w v xs)(hB:B<=g)(hw:B<=w.heap.size):Below B w w' :=
 ⟨h.os,h.tape,h.output,h.size,fun k y=>h.block k (by omega) (by omega) (fun e=>by have:=(ho.lt e).1;omega)⟩
theorem Kept.row {g:Nat}{v:Value}{w w':World}(h:Kept g v w w') {α:Type}{e:TypeId}{m:Nat}{f:α->Array Value}{B:Nat}{xs:List α}(ho:OwnG e m f B w v xs){j:Nat}{cs:Array Value}{e':TypeId}{fr:Nat × Nat}(hj:w.heap[j]?=some (.cells cs e' fr))(hne:e≠e')(hg:j≠g):w'.heap[j]?=some (.cells cs e' fr) :=
 (h.block j (zaa hj) hg (ho.ne hj hne)).trans hj
theorem bldTok (e:Tok) (W:World):(Instr.buildSlice 31 1 #[(0,.agg e.cells)]).run Tryz.prog W=.ok (.slice (some ⟨W.heap.size,0,none⟩) 1 1) (W.alloc (.cells e.cells 38)):=by kernel_rfl
theorem zf8 {P:Program}{ops:Array Oper}{Q:Exit->Act->World->Prop}{K:Act->World->Prop}{a:Act}{w:World}{i:Nat}{oi:Oper}(hi:ops[i]?=some oi)(hg:oi.guard=none)(h:oi.wp P a w K Q):wpOp P ops Q i K a w:=by
 unfold wpOp;simp only[hi,zeu hg,if_true];exact .inl h
theorem zfi {P:Program}{Q:Exit->Act->World->Prop}{K:Act->World->Prop}{a:Act}{w w':World}{o:Oper}{v:Value}(ty:TypeId)(x:Operand)(ho:o.op=.buildSlice ty 1 #[(0,x)])(u:Value)(hx:a.eval x=u)
  (hr:(Instr.buildSlice ty 1 #[(0,u)]).run P w=.ok v w') (h:K (a.put o.dst v) w'):o.wp P a w K Q:=by
 unfold Oper.wp execOp;simp only[ho,Sem.run_bind,Sem.run_pure,Result.andThen_ok,List.map_toArray,List.map_cons,List.map_nil,hx,hr];exact h
theorem zh5 {P:Program}{Q:Exit->Act->World->Prop}{K:Act->World->Prop}{a:Act}{w:World}{o:Oper}(v:Value)(hr:(execOp a.eval o).run P w=.ok (.value v) w)(h:K (a.put o.dst v) w):o.wp P a w K Q:=by
 unfold Oper.wp;simp only[hr];exact h
theorem zys {w:World}{g:Nat}{t:Tok}{tv vt:Value}{p:Nat}(h:w.heap[g]?=some (.cells (lxC t tv p vt) 73 (0,0))):(loadVar 38 ⟨g,0,none⟩).run Tryz.prog w=.ok (.agg t.cells) w :=
 zrd (cs:=t.cells) (fun j u y=>by
  have A:j<3:=(Array.getElem?_eq_some_iff.1 y).1;rw[Yc _ _ _ _ _ _ h,Nat.zero_add,<-y]
  match j,A with
  | 0,_=>rfl
  | 1,_=>rfl
  | 2,_=>rfl) Tryz.underlying38 rfl (by kernel_rfl)
theorem zrl {w:World}{a:Addr}{st:Option Addr}{n c:Nat}(h:w.cell? a=some (.slice st n c)):(loadVar 31 a).run Tryz.prog w=.ok (.slice st n c) w:=by go_simp
theorem zlr {P:Program}{ρ:Operand->Value}{o:Oper}{ty:TypeId}{x:Operand}{p:Addr}{v:Value}{w:World}(ho:o.op=.load ty x)(hx:ρ x=.pointer (some p))(hl:(loadVar ty p).run P w=.ok v w):(execOp ρ o).run P w=.ok (.value v) w:=by
 unfold execOp;simp only[ho,hx,Instr.loadAt,Instr.sureAddr,Sem.run_bind,Sem.run_pure,Result.andThen_ok,hl]
theorem zkh (B g:Nat)(t:Tok)(b o cap p:Nat) (L:List UInt8)(vt:Value)(ts:List Tok)(k:Int)(n:Nat)(w:World)(hrow:w.heap[g]?=some (.cells (lxC t (.slice (some ⟨b,o,none⟩) L.length cap) p vt) 73 (0,0)))
  (hL:BA w (some ⟨b,o,none⟩) L) (hT:OwnT B w vt ts) (hlen:p+n<=L.length) (hcap:L.length<=cap) (hl:L.length<=100000) (hts:ts.length<1024) (hk:k≠0) (hB:B<=g) :
  Calls Tryz.prog 37 #[.pointer (some ⟨g,0,none⟩),.int .i64 k,.int .i64 n] w fun e w'=>e=.returned (.int .i64 0)∧∃ vt',w'.heap[g]?=some (.cells (lxC ⟨k,strU ((L.drop p).take n),p⟩ (.slice (some ⟨b,o,none⟩) L.length cap) (p+n) vt') 73 (0,0))∧OwnT B w' vt' (ts++[⟨k,strU ((L.drop p).take n),p⟩])∧Kept g vt w w':=by
 obtain⟨st,I,rfl⟩:=OwnG.shape hT;have U:=J hrow;unfold lxC at hrow;have c0:=(Yc w g 0 _ _ _ hrow).trans rfl;have c1:=(Yc w g 1 _ _ _ hrow).trans rfl;have c2:=(Yc w g 2 _ _ _ hrow).trans rfl;have c3:=(Yc w g 3 _ _ _ hrow).trans rfl;have c4:=(Yc w g 4 _ _ _ hrow).trans rfl;have c5:=(Yc w g 5 _ _ _ hrow).trans rfl;have z0:∀ j,w.frozen? ⟨g,j,none⟩=false:=fun j=>Yj _ _ _ _ _ hrow;have ay:(k != 0)=true:=by simpa using hk
 have az:((ts.length:Int) == 1024)=false:=by rw[beq_eq_false_iff_ne];omega
 have ao:Below w.heap.size w w.drew:=(Yb _ _).drew;have ap:((L.drop p).take n).length=p+n - p:=by rw[List.length_take,List.length_drop];omega
 have al:=zgz ((BA.cut (hL.below ao) p hcap).take n) (cap - p);rw[ap] at al;have am:=al;rw[show p+n - p=n by omega] at am;obtain⟨y,au⟩:∃ y,Hid (strU ((L.drop p).take n)=y):=⟨_,rfl⟩;rw[au.out] at al am ⊢;have HT:=J hT;clear hL hT hrow ao ap
 go_enter Tryz.func37,Tryz.ntmps37
 go_wp2
 go_region
 generalize (if cap=p then some (⟨b,o,none⟩:Addr) else some ⟨b,o+p,none⟩)=X
 go_wp2
 clear al am c0 c1 c2 c3 c4 c5 z0;have r1:(w.setCell ⟨g,0,none⟩ (.int .i64 k)).heap[g]?=_:=Yf _ _ _ _ _ _ U;have r2:((w.setCell ⟨g,0,none⟩ (.int .i64 k)).setCell ⟨g,1,none⟩ (.string y)).heap[g]?=_:=Yf _ _ _ _ _ _ r1;have r3:(((w.setCell ⟨g,0,none⟩ (.int .i64 k)).setCell ⟨g,1,none⟩ (.string y)).setCell ⟨g,2,none⟩ (.int .i64 p)).heap[g]?=_:=Yf _ _ _ _ _ _ r2;have F:∀ j,j≠g->(((w.setCell ⟨g,0,none⟩ (.int .i64 k)).setCell ⟨g,1,none⟩ (.string y)).setCell ⟨g,2,none⟩ (.int .i64 p)).heap[j]?=w.heap[j]?:=fun j A=>(Ye _ _ _ _ A).trans ((Ye _ _ _ _ A).trans (Ye _ _ _ _ A));refine zdq (fun W=>W.heap[g]?=some (.cells (lxC ⟨k,y,p⟩ (.slice (some ⟨b,o,none⟩) L.length cap) p (.slice st ts.length I)) 73 (0,0))∧OwnT B W (.slice st ts.length I) ts∧Kept g (.slice st ts.length I) w W) ⟨r3,?_,?_⟩ ?_
 ·exact OwnG.keep HT fun j A=>F j (fun e=>OwnG.ne HT U (by decide) (e ▸ A))
 ·exact⟨rfl,rfl,rfl,by simp,fun j _ A _=>F j A⟩
 clear r1 r2 r3 F U HT;intro W2 ⟨hrow,hT,hK⟩;have U:=J hrow;have HK:=J hK;have HT:=J hT;unfold lxC at hrow;have c0:=(Yc W2 g 0 _ _ _ hrow).trans rfl;have c1:=(Yc W2 g 1 _ _ _ hrow).trans rfl;have c2:=(Yc W2 g 2 _ _ _ hrow).trans rfl;have c5:=(Yc W2 g 5 _ _ _ hrow).trans rfl;clear hT hK hrow;have aA:W2.drew.heap.size=W2.heap.size:=rfl;have V:Below W2.heap.size W2 (W2.drew.alloc (.cells #[.int .i64 k,.string y,.int .i64 p] 38)):=(Yb _ _).drew.alloc (Ya _) _;have an:OwnT B (W2.drew.alloc (.cells #[.int .i64 k,.string y,.int .i64 p] 38)) (.slice st ts.length I) ts:=OwnG.below HT V;have ax:B<=W2.heap.size:=by have:=zaa U;omega
 obtain⟨v',C,hr,ak,ac,ar⟩:=zdn elT (ys:=[(⟨k,y,p⟩:Tok)]) (sp:=some ⟨W2.heap.size,0,none⟩) (cap:=1) 31 an (fun h=>by cases h) (zar (x:=(⟨k,y,p⟩:Tok)) (Yd W2.drew _)) (by simp;omega) (by simp;omega);obtain⟨D,E,rfl⟩:=OwnG.shape ak;rw[show(ts++[(⟨k,y,p⟩:Tok)]).length=ts.length+1 by simp] at hr ak;have R3:C.heap[g]?=some (.cells (lxC ⟨k,y,p⟩ (.slice (some ⟨b,o,none⟩) L.length cap) p (.slice st ts.length I)) 73 (0,0)):=by
  have rA:=(V.block g (zaa U)).trans U;exact(ac.block g (zaa rA) (fun e=>OwnG.ne an rA (by decide) e.symm)).trans rA
 have d4:C.cell? ⟨g,4,none⟩=some (.int .i64 p):=(Yc C g 4 _ _ _ R3).trans rfl;have d5:C.cell? ⟨g,5,none⟩=some (.slice st ts.length I):=(Yc C g 5 _ _ _ R3).trans rfl;have z3:∀ j,C.frozen? ⟨g,j,none⟩=false:=fun j=>Yj _ _ _ _ _ R3;have ag:Hid (C.heap[g]?=some (.cells (lxC ⟨k,y,p⟩ (.slice (some ⟨b,o,none⟩) L.length cap) p (.slice st ts.length I)) 73 (0,0))):=R3;have af:=J ak;have M:Hid (Kept g (.slice st ts.length I) w C):=⟨ac.os.trans (V.os.trans HK.out.os),ac.tape.trans (V.tape.trans HK.out.tape),ac.output.trans (V.output.trans HK.out.output),Yo HK.out.size (Yo V.size ac.size),fun j A aw aq=>
  (ac.block j (Yg A (Yo HK.out.size V.size)) (fun e=>aq e.symm)).trans ((V.block j (Yg A HK.out.size)).trans (HK.out.block j A aw aq))⟩
 clear ak ac ar an HT HK;have N:∃ x,W2.drew.heap[g]?=some (.cells (lxC ⟨k,y,p⟩ (.slice (some ⟨b,o,none⟩) L.length cap) p x) 73 (0,0)):=⟨_,U.out⟩;have ai:∃ x,(W2.drew.alloc (.cells #[.int .i64 k,.string y,.int .i64 p] 38)).heap[g]?=some (.cells (lxC ⟨k,y,p⟩ (.slice (some ⟨b,o,none⟩) L.length cap) p x) 73 (0,0)):=⟨_,(V.block g (zaa U)).trans U.out⟩;have aa:∃ x,C.heap[g]?=some (.cells (lxC ⟨k,y,p⟩ (.slice (some ⟨b,o,none⟩) L.length cap) p x) 73 (0,0)):=⟨_,R3⟩;have e5:(W2.drew.alloc (.cells #[.int .i64 k,.string y,.int .i64 p] 38)).cell? ⟨g,5,none⟩=some (.slice st ts.length I):=(Yc _ g 5 _ _ _ ((V.block g (zaa U)).trans U)).trans rfl;clear R3 V;refine zbc (S:=fun w'=>∃ x,w'.heap[g]?=some (.cells (lxC ⟨k,y,p⟩ (.slice (some ⟨b,o,none⟩) L.length cap) p x) 73 (0,0))) 15 rfl (by kernel_rfl) ?_;refine zaj 0 41 (.pointer (some ⟨g,0,none⟩)) rfl (by rfl) (by kernel_rfl) (fun _ _ _ h=>h) (fun w' _=>by first|rfl|go_simp) N ?_;simp only[sI,sS,sZ];refine zaj 1 42 (.pointer (some ⟨g,0,none⟩)) rfl (by rfl) (by kernel_rfl) (fun _ _ _ h=>h) (fun w' _=>by first|rfl|go_simp) N ?_;simp only[sI,sS,sZ];refine zaj 2 43 (.pointer (some ⟨g,0,none⟩)) rfl (by rfl) (by kernel_rfl) (fun _ _ _ h=>h) (fun w' _=>by first|rfl|go_simp) N ?_;simp only[sI,sS,sZ];refine zaj 3 44 (.pointer (some ⟨g,5,none⟩)) rfl (by rfl) (by kernel_rfl) (fun _ _ _ h=>h) (fun w' _=>by first|rfl|go_simp) N ?_;simp only[sI,sS,sZ];refine zaj 5 46 (.pointer (some ⟨g,0,none⟩)) rfl (by rfl) (by kernel_rfl) (fun _ _ _ h=>h) (fun w' _=>by first|rfl|go_simp) N ?_;simp only[sI,sS,sZ];refine zaj 6 47 (.pointer (some ⟨g,0,none⟩)) rfl (by rfl) (by kernel_rfl) (fun _ _ _ h=>h) (fun w' _=>by first|rfl|go_simp) N ?_;simp only[sI,sS,sZ];refine zaj 7 48 (.pointer (some ⟨g,0,none⟩)) rfl (by rfl) (by kernel_rfl) (fun _ _ _ h=>h) (fun w' _=>by first|rfl|go_simp) N ?_
 simp only[sI,sS,sZ];refine zaj 8 49 (.pointer (some ⟨g,0,none⟩)) rfl (by rfl) (by kernel_rfl) (fun _ _ _ h=>h) (fun w' _=>by first|rfl|go_simp) N ?_;simp only[sI,sS,sZ];refine zaj 9 50 (.agg #[.int .i64 k,.string y,.int .i64 p]) rfl (by rfl) (by kernel_rfl) (fun _ _ _ h=>h) (fun w' av=>by obtain⟨x,hx⟩:=av;exact zlr rfl rfl (zys hx)) N ?_;simp only[sI,sS,sZ];refine wpAnyH_all (rs:=[4,10]) (by kernel_rfl) (by simp) fun i hi=>?_;simp only[List.mem_cons,List.not_mem_nil,or_false] at hi;rcases hi with rfl|rfl
 ·refine zf8 rfl rfl ?_;refine zh5 (.slice st ts.length I) (by go_simp) ?_;refine⟨N,?_⟩;simp only[Act.put];refine zac 10 rfl (by kernel_rfl) ?_;refine zfi 31 (.tmp 50) rfl (.agg #[.int .i64 k,.string y,.int .i64 p]) rfl (bldTok ⟨k,y,p⟩ _) ?_;refine⟨ai,?_⟩;simp only[Act.put];refine zac 11 rfl (by kernel_rfl) ?_;refine zaf (.tmp 45) (.tmp 51) 31 rfl rfl rfl hr ?_;refine⟨aa,?_⟩;simp only[Act.put];refine zaj 12 53 (.pointer (some ⟨g,0,none⟩)) rfl (by rfl) (by kernel_rfl) (fun _ _ _ h=>h) (fun w' _=>by first|rfl|go_simp) aa ?_;simp only[sI,sS,sZ];refine zaj 13 54 (.pointer (some ⟨g,5,none⟩)) rfl (by rfl) (by kernel_rfl) (fun _ _ _ h=>h) (fun w' _=>by first|rfl|go_simp) aa ?_;simp only[sI,sS,sZ];refine zac 14 rfl (by kernel_rfl) ?_
  go_simp
  have K:(C.setCell ⟨g,5,none⟩ (.slice D (ts.length+1) E)).heap[g]?=some (.cells (lxC ⟨k,y,p⟩ (.slice (some ⟨b,o,none⟩) L.length cap) p (.slice D (ts.length+1) E)) 73 (0,0)):=Yf _ _ _ _ _ _ ag;have F:∀ j,j≠g->(C.setCell ⟨g,5,none⟩ (.slice D (ts.length+1) E)).heap[j]?=C.heap[j]?:=fun j A=>Ye _ _ _ _ A;refine⟨⟨_,K⟩,?_⟩;refine wpAnyH_done (by kernel_rfl) ?_ _;have ab:OwnT B (C.setCell ⟨g,5,none⟩ (.slice D (ts.length+1) E)) (.slice D (ts.length+1) E) (ts++[⟨k,y,p⟩]):=OwnG.keep af fun j A=>F j (fun e=>OwnG.ne af ag (by decide) (e ▸ A));have ae:Kept g (.slice st ts.length I) w (C.setCell ⟨g,5,none⟩ (.slice D (ts.length+1) E)):=⟨M.out.os,M.out.tape,M.out.output,by have:=M.out.size;simpa using this,fun j h1 Z h3=>(F j Z).trans (M.out.block j h1 Z h3)⟩;clear F d4 d5 z3 N ai aa hr e5 c0 c1 c2 c5 ag af M;generalize C.setCell ⟨g,5,none⟩ (.slice D (ts.length+1) E)=W4 at K ab ae;have ah:Hid (W4.heap[g]?=some (.cells (lxC ⟨k,y,p⟩ (.slice (some ⟨b,o,none⟩) L.length cap) p (.slice D (ts.length+1) E)) 73 (0,0))):=K;have aj:=J ab;have Y:=J ae;have d4:W4.cell? ⟨g,4,none⟩=some (.int .i64 p):=(Yc W4 g 4 _ _ _ K).trans rfl;have z4:W4.frozen? ⟨g,4,none⟩=false:=Yj _ _ _ _ _ K;clear K ab ae
  go_wp2
  go_ret
  have r5:(W4.setCell ⟨g,4,none⟩ (.int .i64 (p+n))).heap[g]?=some (.cells (lxC ⟨k,y,p⟩ (.slice (some ⟨b,o,none⟩) L.length cap) (p+n) (.slice D (ts.length+1) E)) 73 (0,0)):=(Yf _ _ _ _ _ _ ah).trans rfl;have F:∀ j,j≠g->(W4.setCell ⟨g,4,none⟩ (.int .i64 (p+n))).heap[j]?=W4.heap[j]?:=fun j A=>Ye _ _ _ _ A;exact⟨rfl,_,r5,OwnG.keep aj.out fun j A=>F j (fun e=>OwnG.ne aj ah (by decide) (e ▸ A)),⟨Y.out.os,Y.out.tape,Y.out.output,by have:=Y.out.size;simpa using this,fun j h1 Z h3=>(F j Z).trans (Y.out.block j h1 Z h3)⟩⟩
 ·refine zf8 rfl rfl ?_;refine zfi 31 (.tmp 50) rfl (.agg #[.int .i64 k,.string y,.int .i64 p]) rfl (bldTok ⟨k,y,p⟩ _) ?_;refine⟨ai,?_⟩;simp only[Act.put];refine zac 4 rfl (by kernel_rfl) ?_;refine zh5 (.slice st ts.length I) (zlr (p:=⟨g,5,none⟩) rfl rfl (zrl e5)) ?_;refine⟨ai,?_⟩;simp only[Act.put];refine zac 11 rfl (by kernel_rfl) ?_;refine zaf (.tmp 45) (.tmp 51) 31 rfl rfl rfl hr ?_;refine⟨aa,?_⟩;simp only[Act.put];refine zaj 12 53 (.pointer (some ⟨g,0,none⟩)) rfl (by rfl) (by kernel_rfl) (fun _ _ _ h=>h) (fun w' _=>by first|rfl|go_simp) aa ?_;simp only[sI,sS,sZ];refine zaj 13 54 (.pointer (some ⟨g,5,none⟩)) rfl (by rfl) (by kernel_rfl) (fun _ _ _ h=>h) (fun w' _=>by first|rfl|go_simp) aa ?_;simp only[sI,sS,sZ];refine zac 14 rfl (by kernel_rfl) ?_
  go_simp
  have K:(C.setCell ⟨g,5,none⟩ (.slice D (ts.length+1) E)).heap[g]?=some (.cells (lxC ⟨k,y,p⟩ (.slice (some ⟨b,o,none⟩) L.length cap) p (.slice D (ts.length+1) E)) 73 (0,0)):=Yf _ _ _ _ _ _ ag;have F:∀ j,j≠g->(C.setCell ⟨g,5,none⟩ (.slice D (ts.length+1) E)).heap[j]?=C.heap[j]?:=fun j A=>Ye _ _ _ _ A;refine⟨⟨_,K⟩,?_⟩;refine wpAnyH_done (by kernel_rfl) ?_ _;have ab:OwnT B (C.setCell ⟨g,5,none⟩ (.slice D (ts.length+1) E)) (.slice D (ts.length+1) E) (ts++[⟨k,y,p⟩]):=OwnG.keep af fun j A=>F j (fun e=>OwnG.ne af ag (by decide) (e ▸ A));have ae:Kept g (.slice st ts.length I) w (C.setCell ⟨g,5,none⟩ (.slice D (ts.length+1) E)):=⟨M.out.os,M.out.tape,M.out.output,by have:=M.out.size;simpa using this,fun j h1 Z h3=>(F j Z).trans (M.out.block j h1 Z h3)⟩;clear F d4 d5 z3 N ai aa hr e5 c0 c1 c2 c5 ag af M;generalize C.setCell ⟨g,5,none⟩ (.slice D (ts.length+1) E)=W4 at K ab ae;have ah:Hid (W4.heap[g]?=some (.cells (lxC ⟨k,y,p⟩ (.slice (some ⟨b,o,none⟩) L.length cap) p (.slice D (ts.length+1) E)) 73 (0,0))):=K;have aj:=J ab;have Y:=J ae;have d4:W4.cell? ⟨g,4,none⟩=some (.int .i64 p):=(Yc W4 g 4 _ _ _ K).trans rfl;have z4:W4.frozen? ⟨g,4,none⟩=false:=Yj _ _ _ _ _ K;clear K ab ae
  go_wp2
  go_ret
  have r5:(W4.setCell ⟨g,4,none⟩ (.int .i64 (p+n))).heap[g]?=some (.cells (lxC ⟨k,y,p⟩ (.slice (some ⟨b,o,none⟩) L.length cap) (p+n) (.slice D (ts.length+1) E)) 73 (0,0)):=(Yf _ _ _ _ _ _ ah).trans rfl;have F:∀ j,j≠g->(W4.setCell ⟨g,4,none⟩ (.int .i64 (p+n))).heap[j]?=W4.heap[j]?:=fun j A=>Ye _ _ _ _ A;exact⟨rfl,_,r5,OwnG.keep aj.out fun j A=>F j (fun e=>OwnG.ne aj ah (by decide) (e ▸ A)),⟨Y.out.os,Y.out.tape,Y.out.output,by have:=Y.out.size;simpa using this,fun j h1 Z h3=>(F j Z).trans (Y.out.block j h1 Z h3)⟩⟩
theorem zki (g:Nat)(t:Tok)(tv:Value)(p:Nat)(vt:Value)(n:Nat)(w:World)(hrow:w.heap[g]?=some (.cells (lxC t tv p vt) 73 (0,0)))(hlen:p+n<=1000000) :
  Calls Tryz.prog 37 #[.pointer (some ⟨g,0,none⟩),.int .i64 0,.int .i64 n] w fun e w'=>e=.returned (.int .i64 0)∧w'.heap[g]?=some (.cells (lxC t tv (p+n) vt) 73 (0,0))∧Kept g (.slice none 0 0) w w':=by
 have y:=J hrow;have E:w.cell? ⟨g,4,none⟩=some (.int .i64 p):=(Yc w g 4 _ _ _ hrow).trans rfl;have D:w.frozen? ⟨g,4,none⟩=false:=Yj _ _ _ _ _ hrow;clear hrow
 go_enter Tryz.func37,Tryz.ntmps37
 go_wp2
 go_ret
 have A:(w.setCell ⟨g,4,none⟩ (.int .i64 (p+n))).heap[g]?=some (.cells (lxC t tv (p+n) vt) 73 (0,0)):=(Yf _ _ _ _ _ _ y).trans rfl;exact⟨rfl,A,⟨rfl,rfl,rfl,by simp,fun j _ C _=>Ye _ _ _ _ C⟩⟩
theorem zii (g:Nat)(t:Tok)(tv:Value)(p:Nat)(st:Option Addr)(ct:Nat)(k:Int)(n:Nat)(w:World)(hrow:w.heap[g]?=some (.cells (lxC t tv p (.slice st 1024 ct)) 73 (0,0)))(hk:k≠0) :
  Calls Tryz.prog 37 #[.pointer (some ⟨g,0,none⟩),.int .i64 k,.int .i64 n] w fun e w'=>e=.returned (.int .i64 3)∧w'=w:=by
 have y:w.cell? ⟨g,5,none⟩=some (.slice st 1024 ct):=(Yc w g 5 _ _ _ hrow).trans rfl;have A:(k != 0)=true:=by simpa using hk
 clear hrow
 go_enter Tryz.func37,Tryz.ntmps37
 go_wp2
 go_ret
 exact⟨rfl,rfl⟩
theorem zkj {p:UInt8->Bool}{c:UInt8}{r:List UInt8}(h:p c=true):0<runN p (c::r):=by
 rw[zc5,h];simp
theorem zd6 {L:List UInt8}{en:Bool}{k:Int}{n:Nat}(h:lookR L en=(k,n,0))(hL:L=[]->en=true):n<=L.length∧(0<n∨(k=5∧n=0∧en=true)):=by
 cases L with
 | nil=>
  simp only[lookR,Prod.mk.injEq] at h;obtain⟨rfl,rfl,-⟩:=h;exact⟨Yk _,.inr ⟨rfl,rfl,hL rfl⟩⟩
 | cons c r=>
  unfold lookR at h;simp only at h;rw[List.length_cons]
  split at h
  ·split at h
   ·rename_i hen
    simp only[Prod.mk.injEq] at h;exact⟨by omega,.inr ⟨by omega,by omega,hen⟩⟩
   ·simp only[Prod.mk.injEq] at h;omega
  ·split at h
   ·simp only[Prod.mk.injEq] at h;omega
   ·split at h
    ·simp only[Prod.mk.injEq] at h;omega
    ·split at h
     ·rename_i A
      unfold wordR at h
      split at h
      ·simp only[Prod.mk.injEq] at h;omega
      ·simp only[Prod.mk.injEq] at h;have y:=zgl (inC [3,4]) (c::r);have C:=zkj (p:=inC [3,4]) (c:=c) (r:=r) (by simp[inC,A]);rw[List.length_cons] at y;omega
     ·split at h
      ·rename_i h4
       unfold numR at h
       split at h
       ·simp only[Prod.mk.injEq] at h;omega
       ·simp only[Prod.mk.injEq] at h;have y:=zgl (inC [4]) (c::r);have C:=zkj (p:=inC [4]) (c:=c) (r:=r) (by simp[inC,h4]);rw[List.length_cons] at y;omega
      ·split at h
       ·unfold quoR at h
        split at h
        ·simp only[Prod.mk.injEq] at h;omega
        ·rename_i v m hq
         simp only[Prod.mk.injEq] at h;have:=zg1 hq;rw[List.length_cons] at this;omega
       ·split at h
        ·rename_i hp
         simp only[Prod.mk.injEq] at h;have D:(c != 10)=true:=by
          have:c=47:=by
           simp[Lib.hasPrefix,List.isPrefixOf] at hp;exact hp.1.symm
          rw[this]
          decide
         have y:=zgl (fun c=>c != 10) (c::r);have C:=zkj (p:=fun c=>c != 10) (c:=c) (r:=r) D;rw[List.length_cons] at y;have A:n=runN (fun c=>c != 10) (c::r):=h.2.1.symm;omega
        ·unfold sigR at h
         split at h
         ·rename_i hs
          simp only[Prod.mk.injEq] at h;have:0<r.length:=by
           cases r with
           | nil=>simp[sig2] at hs
           | cons=>simp
          omega
         ·simp only at h
          split at h <;> (simp only[Prod.mk.injEq] at h;omega)
def lastT (ts:List Tok):Tok:=ts.getLast?.getD ⟨0,⟨#[]⟩,0⟩
theorem zij:lastT []=⟨0,⟨#[]⟩,0⟩:=rfl
theorem zde (ts:List Tok)(t:Tok):lastT (ts++[t])=t:=by simp[lastT]
def lexG (L:List UInt8):Nat->Nat->List Tok->List Tok × Int × Nat
 | 0,_,ts=>(ts,0,0)
 | f+1,p,ts=>
  if p<L.length∨clo (lastT ts)=true then
   if (lookR (L.drop p) (clo (lastT ts))).2.2≠0 then([],(lookR (L.drop p) (clo (lastT ts))).2.2,p)
   else if (lookR (L.drop p) (clo (lastT ts))).1=0 then lexG L f (p+(lookR (L.drop p) (clo (lastT ts))).2.1) ts
   else if ts.length=1024 then([],3,p)
   else lexG L f (p+(lookR (L.drop p) (clo (lastT ts))).2.1) (ts++[⟨(lookR (L.drop p) (clo (lastT ts))).1,strU ((L.drop p).take (lookR (L.drop p) (clo (lastT ts))).2.1),p⟩])
  else(ts,0,0)
def lexMu (L:List UInt8) (p:Nat) (ts:List Tok):Nat:=2 * (L.length - p)+(if clo (lastT ts)=true then 1 else 0)
def lexO (L:List UInt8):List Tok × Int × Nat:=if 4096<L.length then([],3,0) else lexG L (2 * L.length+1) 0 []
theorem zg3 {L:List UInt8}{f p:Nat}{ts:List Tok}(h1:¬ p<L.length)(h2:clo (lastT ts)=false):lexG L (f+1) p ts=(ts,0,0):=by
 rw[lexG,if_neg (by rw[h2];simp;omega)]
theorem zfj {L:List UInt8}{f p:Nat}{ts:List Tok}{k:Int}{n:Nat}{e:Int}(h1:p<L.length∨clo (lastT ts)=true)(h2:lookR (L.drop p) (clo (lastT ts))=(k,n,e))(he:e≠0):lexG L (f+1) p ts=([],e,p):=by
 rw[lexG,if_pos h1,h2,if_pos he]
theorem zfk {L:List UInt8}{f p:Nat}{ts:List Tok}{n:Nat}(h1:p<L.length∨clo (lastT ts)=true)(h2:lookR (L.drop p) (clo (lastT ts))=(0,n,0)):lexG L (f+1) p ts=lexG L f (p+n) ts:=by
 rw[lexG,if_pos h1,h2,if_neg (by simp),if_pos rfl]
theorem ze8 {L:List UInt8}{f p:Nat}{ts:List Tok}{k:Int}{n:Nat}(h1:p<L.length∨clo (lastT ts)=true)(h2:lookR (L.drop p) (clo (lastT ts))=(k,n,0))(hk:k≠0)(ht:ts.length=1024):lexG L (f+1) p ts=([],3,p):=by
 rw[lexG,if_pos h1,h2,if_neg (by simp),if_neg hk,if_pos ht]
theorem zei {L:List UInt8}{f p:Nat}{ts:List Tok}{k:Int}{n:Nat}(h1:p<L.length∨clo (lastT ts)=true)(h2:lookR (L.drop p) (clo (lastT ts))=(k,n,0))(hk:k≠0)(ht:ts.length≠1024):lexG L (f+1) p ts=lexG L f (p+n) (ts++[⟨k,strU ((L.drop p).take n),p⟩]):=by
 rw[lexG,if_pos h1,h2,if_neg (by simp),if_neg hk,if_neg ht]
theorem zod {L:List UInt8}{p n:Nat}{ts:List Tok}(h1:p<L.length∨clo (lastT ts)=true)(hp:p<=L.length)(h2:lookR (L.drop p) (clo (lastT ts))=(0,n,0)):p+n<=L.length∧lexMu L (p+n) ts<lexMu L p ts:=by
 have y:=zd6 h2 (fun e=>by
  rcases h1 with h1|h1
  ·have:=congrArg List.length e;rw[List.length_drop] at this;simp at this;omega
  ·exact h1)
 rw[List.length_drop] at y;unfold lexMu;rcases y with⟨C,A|⟨A,-⟩⟩
 ·omega
 ·omega
theorem zoe {L:List UInt8}{p n:Nat}{ts:List Tok}{k:Int}{t:Tok}(h1:p<L.length∨clo (lastT ts)=true)(hp:p<=L.length)(h2:lookR (L.drop p) (clo (lastT ts))=(k,n,0))(ht:t=⟨k,strU ((L.drop p).take n),p⟩):p+n<=L.length∧lexMu L (p+n) (ts++[t])<lexMu L p ts:=by
 have A:=zd6 h2 (fun e=>by
  rcases h1 with h1|h1
  ·have:=congrArg List.length e;rw[List.length_drop] at this;simp at this;omega
  ·exact h1)
 rw[List.length_drop] at A;unfold lexMu;rw[zde];rcases A with⟨E,y|⟨y,F,D⟩⟩
 ·refine⟨by omega,?_⟩
  split <;> split <;> omega
 ·have C:clo t=false:=by rw[ht,y];rfl
  rw[C,D];simp;omega
end Go.Proofs.YtmclgbkijeidaaaGreatDoor
