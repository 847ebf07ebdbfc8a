import Derived.Test.YtmclgbkijeidaaaGreatDoorUnB
import Derived.Lib.SlBytesConst
import Derived.Test.YtmclgbkijeidaaaGreatDoorUnA
import Derived.BigRegion
namespace Go.Proofs.YtmclgbkijeidaaaGreatDoor
set_option maxRecDepth 100000
set_option maxHeartbeats 4000000
open Go.RowKit
def lookR (L:List UInt8) (en:Bool):Int × Nat × Int:=match L with
  | []=>(5,0,0)
  | c::r=>
    if clsI c.toNat=2 then(if en then(5,0,0) else(0,1,0))
    else if clsI c.toNat=1 then(0,1,0)
    else if clsI c.toNat=6 then(5,1,0)
    else if clsI c.toNat=3 then(1,wordR (c::r))
    else if clsI c.toNat=4 then(2,numR (c::r))
    else if clsI c.toNat=5 then(3,quoR (c::r))
    else if Lib.hasPrefix (c::r) [47,47] then(0,comN (c::r),0)
    else(4,sigR (c::r))
def tripV (p:Int × Nat × Int):Value:=.tuple #[.int .i64 p.1,.int .i64 p.2.1,.int .i64 p.2.2]
theorem zdl {p:Int × Nat × Int}{k:Int}{n:Nat}{e:Int}(h:p=(k,n,e)):Ending.returned (.tuple #[.int .i64 k,.int .i64 n,.int .i64 e])=.returned (tripV p):=by rw[h];rfl
theorem zms (c:Int):clsI c=0∨clsI c=1∨clsI c=2∨clsI c=3∨clsI c=4∨clsI c=5∨clsI c=6:=by
  unfold clsI
  repeat' split
  all_goals simp
theorem zid (sp:Option Addr)(cap:Nat) (L:List UInt8)(g:Nat)(t:Tok)(w:World)(h:BA w sp L)(hl:L.length<=100000)(hcap:L.length<=cap)
    (h0:w.cell? ⟨g,0,none⟩=some (.int .i64 t.kind)) (h1:w.cell? ⟨g,1,none⟩=some (.string t.text)) :
    Calls Tryz.prog 36 #[.slice sp L.length cap,.func (.func 33) #[.pointer (some ⟨g,0,none⟩)] #[]] w fun e w'=>e=.returned (tripV (lookR L (clo t)))∧Below w.heap.size w w':=by
  have H0:=hid h0;have H1:=hid h1;have HL:=hid h;clear h h0 h1
  cases L with
  | nil=>
    go_enter Tryz.func36,Tryz.ntmps36
    go_wp2
    go_ret3
    exact⟨rfl,Below.refl _ _⟩
  | cons c r=>
    obtain⟨b,o,rfl,hc⟩:=HL.out (by simp);have k0:w.cell? ⟨b,o,none⟩=some (.int .u8 c.toNat):=hc 0 c rfl;have hln:((((c::r).length:Nat):Int) == 0)=false:=by rw[beq_eq_false_iff_ne,List.length_cons];omega
    have hlt:(0:Int)<((c::r).length:Nat):=by rw[List.length_cons];omega
    have hw:=ze9 c;clear hc;obtain⟨M,HM⟩:∃ M,Hid (c::r=M):=⟨_,rfl⟩;have HE:Hid (lookR M (clo t)=if clsI c.toNat=2 then(if clo t then(5,0,0) else(0,1,0)) else if clsI c.toNat=1 then(0,1,0) else if clsI c.toNat=6 then(5,1,0) else if clsI c.toNat=3 then(1,wordR M)
      else if clsI c.toNat=4 then(2,numR M) else if clsI c.toNat=5 then(3,quoR M) else if Lib.hasPrefix M [47,47] then(0,comN M,0) else(4,sigR M)):=by rw[<-HM.out];exact rfl
    have HC:Hid (∃ r,M=c::r):=⟨r,HM.out.symm⟩;rw[HM.out] at hln hlt HL hl hcap ⊢;clear HM;have HPOS:0<M.length:=by omega
    go_enter Tryz.func36,Tryz.ntmps36
    rcases zms c.toNat with hk|hk|hk|hk|hk|hk|hk
    . have HX:Hid (lookR M (clo t)=if Lib.hasPrefix M [47,47] then(0,comN M,0) else(4,sigR M)):=by rw[HE.out,hk];exact rfl
      clear HE;have hcv:=Lib.run_convert_bytes_const (P:=Tryz.prog) w 71 5 #[.int .u8 47,.int .u8 47] 2 2 Tryz.underlying71 Tryz.underlying5;obtain⟨WA,HWA⟩:∃ WA,Hid (w.alloc (.cells #[.int .u8 47,.int .u8 47] 5 (2,3))=WA):=⟨_,rfl⟩;have b1:Below w.heap.size w WA:=by rw[<-HWA.out];exact(Below.refl _ _).alloc (Nat.le_refl _) _
      have hP2:BA WA (some ⟨w.heap.size,0,none⟩) [47,47]:=BA.of_rows (fun _=>⟨w.heap.size,0,rfl,fun i x hx j u hu=>by
        have hrow:WA.heap[w.heap.size]?=some (.cells #[.int .u8 47,.int .u8 47] 5 (2,3)):=by rw[<-HWA.out];exact heap_alloc_new _ _
        rw[cell_of_row _ _ _ _ _ _ hrow];have hj:j=0:=by have:=(Array.getElem?_eq_some_iff.1 hu).1;simp[byC] at this;omega
        subst hj;rw[<-hu]
        match i,hx with
        | 0,hx=>have hx':(47:UInt8)=x:=by simpa using hx
                subst hx';rfl
        | 1,hx=>have hx':(47:UInt8)=x:=by simpa using hx
                subst hx';rfl
        | k+2,hx=>simp at hx⟩)
      have HP:Hid (Calls Tryz.prog 65 #[.slice (some ⟨b,o,none⟩) M.length cap,.slice (some ⟨w.heap.size,0,none⟩) 2 2] WA fun e w'=>e=.returned (.bool (Lib.hasPrefix M [47,47]))∧w'=WA):=by
        have:=Tryz.bytes_HasPrefix_all (some ⟨b,o,none⟩) (some ⟨w.heap.size,0,none⟩) M.length cap 2 2 (Lib.numsL M) (Lib.numsL [47,47]) WA (by simp[Lib.numsL]) rfl hcap (HL.out.below b1).bytesIn hP2.bytesIn;rw[Lib.bytesOf_numsL,Lib.bytesOf_numsL] at this;exact this
      clear hP2;have hcv':(convert 71 71 (.slice (some ⟨w.heap.size,0,none⟩) 2 2)).run Tryz.prog (w.alloc (.cells #[.int .u8 47,.int .u8 47] 5))=.ok (.slice (some ⟨w.heap.size,0,none⟩) 2 2) WA:=by
        rw[hcv];exact congrArg _ HWA.out
      clear hcv
      cases hp:Lib.hasPrefix M [47,47]
      . have HY:Hid (lookR M (clo t)=(4,sigR M)):=by rw[HX.out,hp];exact rfl
        clear HX;obtain⟨n,er,HR⟩:∃ n er,Hid (sigR M=(n,er)):=⟨_,_,rfl⟩;have HS:Hid (Calls Tryz.prog 67 #[.slice (some ⟨b,o,none⟩) M.length cap] WA fun e w'=>e=.returned (.tuple #[.int .i64 n,.int .i64 er])∧w'=WA):=by
          obtain⟨r',hr'⟩:=HC.out;have:=zoz (some ⟨b,o,none⟩) cap c r' WA (hr' ▸ HL.out.below b1) (hr' ▸ hl) (hr' ▸ hcap);rw[<-hr',HR.out] at this;exact this
        go_wp2_with (first
          | (go_at_call 61;refine(zbo _ _).mono ?_;rintro e W1 ⟨rfl,hW1⟩;subst hW1;rw[hk])
          | (go_at_call 65;refine HP.out.mono ?_;rintro e W1 ⟨rfl,hW1⟩;rw[hW1,hp])
          | (go_at_call 67;refine HS.out.mono ?_;rintro e W1 ⟨rfl,hW1⟩;rw[hW1]))
        go_ret3
        exact⟨zdl (by rw[HY.out,HR.out]),b1⟩
      . have HY:Hid (lookR M (clo t)=(0,comN M,0)):=by rw[HX.out,hp];exact rfl
        clear HX;have HS:Hid (Calls Tryz.prog 66 #[.slice (some ⟨b,o,none⟩) M.length cap] WA fun e w'=>e=.returned (.int .i64 (comN M))∧w'=WA):=zj6 _ cap M WA (HL.out.below b1) HPOS
        go_wp2_with (first
          | (go_at_call 61;refine(zbo _ _).mono ?_;rintro e W1 ⟨rfl,hW1⟩;subst hW1;rw[hk])
          | (go_at_call 65;refine HP.out.mono ?_;rintro e W1 ⟨rfl,hW1⟩;rw[hW1,hp])
          | (go_at_call 66;refine HS.out.mono ?_;rintro e W1 ⟨rfl,hW1⟩;rw[hW1]))
        go_ret3
        exact⟨zdl HY.out,b1⟩
    . have HX:Hid (lookR M (clo t)=(0,1,0)):=by rw[HE.out,hk];exact rfl
      clear HE
      go_wp2_with (go_at_call 61;refine(zbo _ _).mono ?_;rintro e W1 ⟨rfl,hW1⟩;subst hW1;rw[hk])
      go_ret3
      exact⟨zdl HX.out,Below.refl _ _⟩
    . have HX:Hid (lookR M (clo t)=if clo t then(5,0,0) else(0,1,0)):=by rw[HE.out,hk];exact rfl
      clear HE
      cases hcl:clo t
      . have HY:Hid (lookR M false=(0,1,0)):=by rw[<-hcl,HX.out,hcl];exact rfl
        clear HX
        go_wp2_with (first
          | (go_at_call 61;refine(zbo _ _).mono ?_;rintro e W1 ⟨rfl,hW1⟩;subst hW1;rw[hk])
          | (go_at_call 33;refine(zea g t _ H0.out H1.out).mono ?_;rintro e W1 ⟨rfl,hW1⟩;subst hW1;rw[hcl]))
        go_ret3
        exact⟨zdl HY.out,Below.refl _ _⟩
      . have HY:Hid (lookR M true=(5,0,0)):=by rw[<-hcl,HX.out,hcl];exact rfl
        clear HX
        go_wp2_with (first
          | (go_at_call 61;refine(zbo _ _).mono ?_;rintro e W1 ⟨rfl,hW1⟩;subst hW1;rw[hk])
          | (go_at_call 33;refine(zea g t _ H0.out H1.out).mono ?_;rintro e W1 ⟨rfl,hW1⟩;subst hW1;rw[hcl]))
        go_ret3
        exact⟨zdl HY.out,Below.refl _ _⟩
    . have HX:Hid (lookR M (clo t)=(1,wordR M)):=by rw[HE.out,hk];exact rfl
      clear HE;obtain⟨n,er,HR⟩:∃ n er,Hid (wordR M=(n,er)):=⟨_,_,rfl⟩
      go_wp2_with (first
        | (go_at_call 61;refine(zbo _ _).mono ?_;rintro e W1 ⟨rfl,hW1⟩;subst hW1;rw[hk])
        | (go_at_call 62;refine(zoy _ cap M _ HL.out hl).mono ?_;rintro e W1 ⟨rfl,b1⟩;rw[HR.out,pairV]))
      go_ret3
      exact⟨zdl (by rw[HX.out,HR.out]),b1⟩
    . have HX:Hid (lookR M (clo t)=(2,numR M)):=by rw[HE.out,hk];exact rfl
      clear HE;obtain⟨n,er,HR⟩:∃ n er,Hid (numR M=(n,er)):=⟨_,_,rfl⟩
      go_wp2_with (first
        | (go_at_call 61;refine(zbo _ _).mono ?_;rintro e W1 ⟨rfl,hW1⟩;subst hW1;rw[hk])
        | (go_at_call 63;refine(zlp _ cap M _ HL.out HPOS hl hcap).mono ?_;rintro e W1 ⟨rfl,b1⟩;rw[HR.out,pairV]))
      go_ret3
      exact⟨zdl (by rw[HX.out,HR.out]),b1⟩
    . have HX:Hid (lookR M (clo t)=(3,quoR M)):=by rw[HE.out,hk];exact rfl
      clear HE;obtain⟨n,er,HR⟩:∃ n er,Hid (quoR M=(n,er)):=⟨_,_,rfl⟩
      go_wp2_with (first
        | (go_at_call 61;refine(zbo _ _).mono ?_;rintro e W1 ⟨rfl,hW1⟩;subst hW1;rw[hk])
        | (go_at_call 64;refine(zlo _ cap M _ HL.out hl hcap).mono ?_;rintro e W1 ⟨rfl,b1⟩;rw[HR.out,pairV]))
      go_ret3
      exact⟨zdl (by rw[HX.out,HR.out]),b1⟩
    . have HX:Hid (lookR M (clo t)=(5,1,0)):=by rw[HE.out,hk];exact rfl
      clear HE
      go_wp2_with (go_at_call 61;refine(zbo _ _).mono ?_;rintro e W1 ⟨rfl,hW1⟩;subst hW1;rw[hk])
      go_ret3
      exact⟨zdl HX.out,Below.refl _ _⟩
section
variable {P:Program}{ops:Array Oper}{Q:Exit->Act->World->Prop}{md:Region.Mode}{S:World->Prop}{fuel:Nat}{listed:Array Bool}{tm:Array Value}{df:List Deferred}{w:World}
 {op:Op}{ty0:TypeId}{pos:String}{aft:Array Edge}
theorem zbg {id:Nat}{a:Act}(n:Nat)(hn:ops.size=n)(hm:P.follows .mixedOrders=true)
  (h:wpAnyH P .any ops Q S n (Array.replicate n false) a w.drew):(Code.region id ops true).wp P Q a w:=by
 subst hn;exact wp_region_held hm h
theorem zao (i d:Nat)(v:Value)(hi:ops[i]?=some ⟨some d,op,ty0,pos,aft,none⟩)(hs:Region.noSelect ops=true)(hf:Region.free md ops listed i=true)(hr:(Region.ready md ops listed).contains i=true)
  (hQ:∀ c a w,Q (.panic c) (a.put (some d) v) w->Q (.panic c) a w) (hrun:∀ w,S w->(execOp (Act.eval ⟨tm,df⟩) ⟨some d,op,ty0,pos,aft,none⟩).run P w=.ok (.value v) w) (hS:S w)
  (h:wpAnyH P md ops Q S fuel (listed.setIfInBounds i true) ⟨tm.setIfInBounds d v,df⟩ w):wpAnyH P md ops Q S (fuel+1) listed ⟨tm,df⟩ w :=
 wpAnyH_take hi hs hf hr hQ (.inl ⟨rfl,hrun⟩) hS h
theorem zp4 (i d:Nat)(ty:TypeId)(x:Operand)(hi:ops[i]?=some ⟨some d,.load ty x,ty0,pos,aft,none⟩)(g:Nat)(t:TypeId)(cs:Array Value)(fr:Nat × Nat)(hx:Act.eval ⟨tm,df⟩ x=.pointer (some ⟨g,0,none⟩))
  (hs:Region.noSelect ops=true) (hf:Region.free md ops listed i=true) (hr:(Region.ready md ops listed).contains i=true)
  (hQ:∀ c a w,Q (.panic c) (a.put (some d) (.agg cs)) w->Q (.panic c) a w) (D:TypeDesc) (hrow:∀ w,S w->w.heap[g]?=some (.cells cs t fr)) (hu:P.underlying ty=some D)
  (hd:(match D with | .struct _ | .array _ _=>true|_=>false)=true) (hsz:(P.info? ty).map (·.size)=some cs.size) (hS:S w)
  (h:wpAnyH P md ops Q S fuel (listed.setIfInBounds i true) ⟨tm.setIfInBounds d (.agg cs),df⟩ w):wpAnyH P md ops Q S (fuel+1) listed ⟨tm,df⟩ w :=
 zao i d (.agg cs) hi hs hf hr hQ (fun w' hw'=>by
  unfold execOp;simp only[hx,Instr.loadAt,Instr.sureAddr,Sem.run_bind,Sem.run_pure,Result.andThen_ok,run_loadVar_row w' g t ty cs fr D (hrow w' hw') hu hd hsz]) hS h
theorem zac (i:Nat){dst:Option Tmp}(hi:ops[i]?=some ⟨dst,op,ty0,pos,aft,none⟩)(hr:Region.ready md ops listed=[i])
  (h:Oper.wp P ⟨dst,op,ty0,pos,aft,none⟩ ⟨tm,df⟩ w (fun a' w'=>S w'∧wpAnyH P md ops Q S fuel (listed.setIfInBounds i true) a' w') Q):wpAnyH P md ops Q S (fuel+1) listed ⟨tm,df⟩ w :=
 zox rfl hr hi rfl h
theorem zec (i:Nat)(ty:TypeId)(x y:Operand)(hi:ops[i]?=some ⟨none,.store ty x y,ty0,pos,aft,none⟩)(hr:Region.ready md ops listed=[i])(g:Nat)(t:TypeId)(cells old:Array Value)(hx:Act.eval ⟨tm,df⟩ x=.pointer (some ⟨g,0,none⟩))(hy:Act.eval ⟨tm,df⟩ y=.agg cells)
  (hg:w.heap[g]?=some (.cells old t (0,0))) (hsz:(P.info? ty).map (·.size)=some cells.size) (hold:old.size=cells.size) (h1:cells.all (·.oneCell')=true) (hS:S (w.setRow g cells))
  (h:wpAnyH P md ops Q S fuel (listed.setIfInBounds i true) ⟨tm,df⟩ (w.setRow g cells)):wpAnyH P md ops Q S (fuel+1) listed ⟨tm,df⟩ w :=
 zac i hi hr (wp_store_row ty x y rfl g cells hx hy t old hg hsz hold h1 ⟨hS,h⟩)
end
section
variable {P:Program}{ops:Array Oper}{Q:Exit->Act->World->Prop}{md:Region.Mode}{S:World->Prop}{fuel:Nat}{listed:Array Bool}{tm:Array Value}{df:List Deferred}{w:World}
 {op:Op}{ty0:TypeId}{pos:String}{aft:Array Edge}
theorem zaj (i d:Nat)(v:Value){gd:Option (Nat × Bool)}(hi:ops[i]?=some ⟨some d,op,ty0,pos,aft,gd⟩)(hw:Region.wanted ⟨some d,op,ty0,pos,aft,gd⟩ (yielded ops tm)=true)(hs:Region.noSelect ops=true)(hf:Region.free md ops listed i=true)(hr:(Region.ready md ops listed).contains i=true)
  (hQ:∀ c a w,Q (.panic c) (a.put (some d) v) w->Q (.panic c) a w) (hrun:∀ w,S w->(execOp (Act.eval ⟨tm,df⟩) ⟨some d,op,ty0,pos,aft,gd⟩).run P w=.ok (.value v) w) (hS:S w)
  (h:wpAnyH P md ops Q S fuel (listed.setIfInBounds i true) ⟨tm.setIfInBounds d v,df⟩ w):wpAnyH P md ops Q S (fuel+1) listed ⟨tm,df⟩ w :=
 wpAnyH_take hi hs hf hr hQ (.inl ⟨hw,hrun⟩) hS h
theorem zah (i d:Nat){gd:Option (Nat × Bool)}(hi:ops[i]?=some ⟨some d,op,ty0,pos,aft,gd⟩)(hw:Region.wanted ⟨some d,op,ty0,pos,aft,gd⟩ (yielded ops tm)=false)(hs:Region.noSelect ops=true)(hf:Region.free md ops listed i=true)(hr:(Region.ready md ops listed).contains i=true)
  (hQ:∀ c a w,Q (.panic c) (a.put (some d) undef) w->Q (.panic c) a w) (hS:S w)
  (h:wpAnyH P md ops Q S fuel (listed.setIfInBounds i true) ⟨tm.setIfInBounds d undef,df⟩ w):wpAnyH P md ops Q S (fuel+1) listed ⟨tm,df⟩ w :=
 wpAnyH_take hi hs hf hr hQ (.inr ⟨hw,rfl⟩) hS h
theorem zo2 (i:Nat){dst:Option Tmp}{gd:Option (Nat × Bool)}(hi:ops[i]?=some ⟨dst,op,ty0,pos,aft,gd⟩)(hw:Region.wanted ⟨dst,op,ty0,pos,aft,gd⟩ (yielded ops tm)=true)(hr:Region.ready md ops listed=[i])
  (h:Oper.wp P ⟨dst,op,ty0,pos,aft,gd⟩ ⟨tm,df⟩ w (fun a' w'=>S w'∧wpAnyH P md ops Q S fuel (listed.setIfInBounds i true) a' w') Q):wpAnyH P md ops Q S (fuel+1) listed ⟨tm,df⟩ w:=by
 refine wpAnyH_all hr (by simp) fun j hj=>?_;obtain rfl:j=i:=by simpa using hj
 unfold wpOp;simp only[hi,hw,if_true];exact .inl h
end
def lxC (t:Tok) (tv:Value) (p:Nat) (vt:Value):Array Value:=#[.int .i64 t.kind,.string t.text,.int .i64 t.pos,tv,.int .i64 p,vt]
theorem OwnG.ne {α:Type}{e:TypeId}{m:Nat}{f:α->Array Value}{B:Nat}{w:World}{v:Value}{xs:List α}(h:OwnG e m f B w v xs){g:Nat}{cs:Array Value}{e':TypeId}{fr:Nat × Nat}(hg:w.heap[g]?=some (.cells cs e' fr))(hne:e≠e'):v.ownBlock≠some g:=by
 rcases h.2 with⟨rfl,h0⟩ | ⟨g',cap,cur,rfl,h1,h2,h3⟩
 ·exact fun h=>by cases h
 ·intro hh;have e1:g'=g:=by simpa[Value.ownBlock] using hh
  subst e1;rw[hg] at h2;injection h2 with h2;injection h2 with h2 h4;exact hne h4.symm
structure Kept (g:Nat) (v:Value) (w w':World):Prop where
 os:w'.os=w.os
 tape:w'.tape=w.tape
 output:w'.output=w.output
 size:w.heap.size<=w'.heap.size
 block:∀ k,k<w.heap.size->k≠g->v.ownBlock≠some k->w'.heap[k]?=w.heap[k]?
theorem Kept.below {g:Nat}{v:Value}{w w':World}(h:Kept g v w w'){B:Nat}{e:TypeId}{m:Nat}{α:Type}{f:α->Array Value}{xs:List α}(ho:OwnG e m f B w v xs)(hB:B<=g)(hw:B<=w.heap.size):Below B w w' :=
 ⟨h.os,h.tape,h.output,h.size,fun k hk=>h.block k (by omega) (by omega) (fun e=>by have:=(ho.lt e).1;omega)⟩
theorem Kept.row {g:Nat}{v:Value}{w w':World}(h:Kept g v w w') {α:Type}{e:TypeId}{m:Nat}{f:α->Array Value}{B:Nat}{xs:List α}(ho:OwnG e m f B w v xs){j:Nat}{cs:Array Value}{e':TypeId}{fr:Nat × Nat}(hj:w.heap[j]?=some (.cells cs e' fr))(hne:e≠e')(hg:j≠g):w'.heap[j]?=some (.cells cs e' fr) :=
 (h.block j (zaa hj) hg (ho.ne hj hne)).trans hj
theorem bldTok (e:Tok) (W:World):(Instr.buildSlice 31 1 #[(0,.agg e.cells)]).run Tryz.prog W=.ok (.slice (some ⟨W.heap.size,0,none⟩) 1 1) (W.alloc (.cells e.cells 38)):=by kernel_rfl
theorem zew {P:Program}{ops:Array Oper}{Q:Exit->Act->World->Prop}{K:Act->World->Prop}{a:Act}{w:World}{i:Nat}{oi:Oper}(hi:ops[i]?=some oi)(hg:oi.guard=none)(h:oi.wp P a w K Q):wpOp P ops Q i K a w:=by
 unfold wpOp;simp only[hi,zel hg,if_true];exact .inl h
theorem zed {P:Program}{Q:Exit->Act->World->Prop}{K:Act->World->Prop}{a:Act}{w w':World}{o:Oper}{v:Value}(ty:TypeId)(x:Operand)(ho:o.op=.buildSlice ty 1 #[(0,x)])(u:Value)(hx:a.eval x=u)
  (hr:(Instr.buildSlice ty 1 #[(0,u)]).run P w=.ok v w') (h:K (a.put o.dst v) w'):o.wp P a w K Q:=by
 unfold Oper.wp execOp;simp only[ho,Sem.run_bind,Sem.run_pure,Result.andThen_ok,List.map_toArray,List.map_cons,List.map_nil,hx,hr];exact h
theorem zgj {P:Program}{Q:Exit->Act->World->Prop}{K:Act->World->Prop}{a:Act}{w:World}{o:Oper}(v:Value)(hr:(execOp a.eval o).run P w=.ok (.value v) w)(h:K (a.put o.dst v) w):o.wp P a w K Q:=by
 unfold Oper.wp;simp only[hr];exact h
theorem zqm {w:World}{g:Nat}{t:Tok}{tv vt:Value}{p:Nat}(h:w.heap[g]?=some (.cells (lxC t tv p vt) 73 (0,0))):(loadVar 38 ⟨g,0,none⟩).run Tryz.prog w=.ok (.agg t.cells) w :=
 zmn (cs:=t.cells) (fun j u hu=>by
  have hj:j<3:=(Array.getElem?_eq_some_iff.1 hu).1;rw[cell_of_row _ _ _ _ _ _ h,Nat.zero_add,<-hu]
  match j,hj with
  | 0,_=>rfl
  | 1,_=>rfl
  | 2,_=>rfl) Tryz.underlying38 rfl (by kernel_rfl)
theorem zmt {w:World}{a:Addr}{st:Option Addr}{n c:Nat}(h:w.cell? a=some (.slice st n c)):(loadVar 31 a).run Tryz.prog w=.ok (.slice st n c) w:=by go_simp
theorem zi8 {P:Program}{ρ:Operand->Value}{o:Oper}{ty:TypeId}{x:Operand}{p:Addr}{v:Value}{w:World}(ho:o.op=.load ty x)(hx:ρ x=.pointer (some p))(hl:(loadVar ty p).run P w=.ok v w):(execOp ρ o).run P w=.ok (.value v) w:=by
 unfold execOp;simp only[ho,hx,Instr.loadAt,Instr.sureAddr,Sem.run_bind,Sem.run_pure,Result.andThen_ok,hl]
theorem zie (B g:Nat)(t:Tok)(b o cap p:Nat) (L:List UInt8)(vt:Value)(ts:List Tok)(k:Int)(n:Nat)(w:World)(hrow:w.heap[g]?=some (.cells (lxC t (.slice (some ⟨b,o,none⟩) L.length cap) p vt) 73 (0,0)))
  (hL:BA w (some ⟨b,o,none⟩) L) (hT:OwnT B w vt ts) (hlen:p+n<=L.length) (hcap:L.length<=cap) (hl:L.length<=100000) (hts:ts.length<1024) (hk:k≠0) (hB:B<=g) :
  Calls Tryz.prog 37 #[.pointer (some ⟨g,0,none⟩),.int .i64 k,.int .i64 n] w fun e w'=>e=.returned (.int .i64 0)∧∃ vt',w'.heap[g]?=some (.cells (lxC ⟨k,strU ((L.drop p).take n),p⟩ (.slice (some ⟨b,o,none⟩) L.length cap) (p+n) vt') 73 (0,0))∧OwnT B w' vt' (ts++[⟨k,strU ((L.drop p).take n),p⟩])∧Kept g vt w w':=by
 obtain⟨st,ct,rfl⟩:=OwnG.shape hT;have HR:=hid hrow;unfold lxC at hrow;have c0:=(cell_of_row w g 0 _ _ _ hrow).trans rfl;have c1:=(cell_of_row w g 1 _ _ _ hrow).trans rfl;have c2:=(cell_of_row w g 2 _ _ _ hrow).trans rfl;have c3:=(cell_of_row w g 3 _ _ _ hrow).trans rfl;have c4:=(cell_of_row w g 4 _ _ _ hrow).trans rfl;have c5:=(cell_of_row w g 5 _ _ _ hrow).trans rfl;have z0:∀ j,w.frozen? ⟨g,j,none⟩=false:=fun j=>frozen_of_row _ _ _ _ _ hrow;have hk':(k != 0)=true:=by simpa using hk
 have hts':((ts.length:Int) == 1024)=false:=by rw[beq_eq_false_iff_ne];omega
 have hb1:Below w.heap.size w w.drew:=(Below.refl _ _).drew;have hdl:((L.drop p).take n).length=p+n - p:=by rw[List.length_take,List.length_drop];omega
 have hcv:=zfj ((BA.cut (hL.below hb1) p hcap).take n) (cap - p);rw[hdl] at hcv;have hcv2:=hcv;rw[show p+n - p=n by omega] at hcv2;obtain⟨s1,HS1⟩:∃ s1,Hid (strU ((L.drop p).take n)=s1):=⟨_,rfl⟩;rw[HS1.out] at hcv hcv2 ⊢;have HT:=hid hT;clear hL hT hrow hb1 hdl
 go_enter Tryz.func37,Tryz.ntmps37
 go_wp2
 go_region
 generalize (if cap=p then some (⟨b,o,none⟩:Addr) else some ⟨b,o+p,none⟩)=X
 go_wp2
 clear hcv hcv2 c0 c1 c2 c3 c4 c5 z0;have r1:(w.setCell ⟨g,0,none⟩ (.int .i64 k)).heap[g]?=_:=heap_setCell_same _ _ _ _ _ _ HR.out;have r2:((w.setCell ⟨g,0,none⟩ (.int .i64 k)).setCell ⟨g,1,none⟩ (.string s1)).heap[g]?=_:=heap_setCell_same _ _ _ _ _ _ r1;have r3:(((w.setCell ⟨g,0,none⟩ (.int .i64 k)).setCell ⟨g,1,none⟩ (.string s1)).setCell ⟨g,2,none⟩ (.int .i64 p)).heap[g]?=_:=heap_setCell_same _ _ _ _ _ _ r2;have ho:∀ j,j≠g->(((w.setCell ⟨g,0,none⟩ (.int .i64 k)).setCell ⟨g,1,none⟩ (.string s1)).setCell ⟨g,2,none⟩ (.int .i64 p)).heap[j]?=w.heap[j]?:=fun j hj=>(heap_setCell_other _ _ _ _ hj).trans ((heap_setCell_other _ _ _ _ hj).trans (heap_setCell_other _ _ _ _ hj));refine zdd (fun W=>W.heap[g]?=some (.cells (lxC ⟨k,s1,p⟩ (.slice (some ⟨b,o,none⟩) L.length cap) p (.slice st ts.length ct)) 73 (0,0))∧OwnT B W (.slice st ts.length ct) ts∧Kept g (.slice st ts.length ct) w W) ⟨r3,?_,?_⟩ ?_
 ·exact OwnG.keep HT.out fun j hj=>ho j (fun e=>OwnG.ne HT.out HR.out (by decide) (e ▸ hj))
 ·exact⟨rfl,rfl,rfl,by simp,fun j _ hj _=>ho j hj⟩
 clear r1 r2 r3 ho HR HT;intro W2 ⟨hrow,hT,hK⟩;have HR:=hid hrow;have HK:=hid hK;have HT:=hid hT;unfold lxC at hrow;have c0:=(cell_of_row W2 g 0 _ _ _ hrow).trans rfl;have c1:=(cell_of_row W2 g 1 _ _ _ hrow).trans rfl;have c2:=(cell_of_row W2 g 2 _ _ _ hrow).trans rfl;have c5:=(cell_of_row W2 g 5 _ _ _ hrow).trans rfl;clear hT hK hrow;have hsz:W2.drew.heap.size=W2.heap.size:=rfl;have bA:Below W2.heap.size W2 (W2.drew.alloc (.cells #[.int .i64 k,.string s1,.int .i64 p] 38)):=(Below.refl _ _).drew.alloc (Nat.le_refl _) _;have hTA:OwnT B (W2.drew.alloc (.cells #[.int .i64 k,.string s1,.int .i64 p] 38)) (.slice st ts.length ct) ts:=OwnG.below HT.out bA;have hBs:B<=W2.heap.size:=by have:=zaa HR.out;omega
 obtain⟨v',W3,hr,hT3,hg3,hbk⟩:=zdi elT (ys:=[(⟨k,s1,p⟩:Tok)]) (sp:=some ⟨W2.heap.size,0,none⟩) (cap:=1) 31 hTA (fun h=>by cases h) (zau (x:=(⟨k,s1,p⟩:Tok)) (heap_alloc_new W2.drew _)) (by simp;omega) (by simp;omega);obtain⟨st3,ct3,rfl⟩:=OwnG.shape hT3;rw[show(ts++[(⟨k,s1,p⟩:Tok)]).length=ts.length+1 by simp] at hr hT3;have R3:W3.heap[g]?=some (.cells (lxC ⟨k,s1,p⟩ (.slice (some ⟨b,o,none⟩) L.length cap) p (.slice st ts.length ct)) 73 (0,0)):=by
  have rA:=(bA.block g (zaa HR.out)).trans HR.out;exact(hg3.block g (zaa rA) (fun e=>OwnG.ne hTA rA (by decide) e.symm)).trans rA
 have d4:W3.cell? ⟨g,4,none⟩=some (.int .i64 p):=(cell_of_row W3 g 4 _ _ _ R3).trans rfl;have d5:W3.cell? ⟨g,5,none⟩=some (.slice st ts.length ct):=(cell_of_row W3 g 5 _ _ _ R3).trans rfl;have z3:∀ j,W3.frozen? ⟨g,j,none⟩=false:=fun j=>frozen_of_row _ _ _ _ _ R3;have HR3:Hid (W3.heap[g]?=some (.cells (lxC ⟨k,s1,p⟩ (.slice (some ⟨b,o,none⟩) L.length cap) p (.slice st ts.length ct)) 73 (0,0))):=R3;have HT3:=hid hT3;have HK3:Hid (Kept g (.slice st ts.length ct) w W3):=⟨hg3.os.trans (bA.os.trans HK.out.os),hg3.tape.trans (bA.tape.trans HK.out.tape),hg3.output.trans (bA.output.trans HK.out.output),Nat.le_trans HK.out.size (Nat.le_trans bA.size hg3.size),fun j hj hjg hjv=>
  (hg3.block j (Nat.lt_of_lt_of_le hj (Nat.le_trans HK.out.size bA.size)) (fun e=>hjv e.symm)).trans ((bA.block j (Nat.lt_of_lt_of_le hj HK.out.size)).trans (HK.out.block j hj hjg hjv))⟩
 clear hT3 hg3 hbk hTA HT HK;have hS0:∃ x,W2.drew.heap[g]?=some (.cells (lxC ⟨k,s1,p⟩ (.slice (some ⟨b,o,none⟩) L.length cap) p x) 73 (0,0)):=⟨_,HR.out⟩;have hS1:∃ x,(W2.drew.alloc (.cells #[.int .i64 k,.string s1,.int .i64 p] 38)).heap[g]?=some (.cells (lxC ⟨k,s1,p⟩ (.slice (some ⟨b,o,none⟩) L.length cap) p x) 73 (0,0)):=⟨_,(bA.block g (zaa HR.out)).trans HR.out⟩;have hS2:∃ x,W3.heap[g]?=some (.cells (lxC ⟨k,s1,p⟩ (.slice (some ⟨b,o,none⟩) L.length cap) p x) 73 (0,0)):=⟨_,R3⟩;have e5:(W2.drew.alloc (.cells #[.int .i64 k,.string s1,.int .i64 p] 38)).cell? ⟨g,5,none⟩=some (.slice st ts.length ct):=(cell_of_row _ g 5 _ _ _ ((bA.block g (zaa HR.out)).trans HR.out)).trans rfl;clear R3 bA;refine zbg (S:=fun w'=>∃ x,w'.heap[g]?=some (.cells (lxC ⟨k,s1,p⟩ (.slice (some ⟨b,o,none⟩) L.length cap) p x) 73 (0,0))) 15 rfl (by kernel_rfl) ?_;refine zaj 0 41 (.pointer (some ⟨g,0,none⟩)) rfl (by rfl) (by kernel_rfl) (by kernel_rfl) (by kernel_rfl) (fun _ _ _ h=>h) (fun w' _=>by first|rfl|go_simp) hS0 ?_;simp only[sI,sS,sZ];refine zaj 1 42 (.pointer (some ⟨g,0,none⟩)) rfl (by rfl) (by kernel_rfl) (by kernel_rfl) (by kernel_rfl) (fun _ _ _ h=>h) (fun w' _=>by first|rfl|go_simp) hS0 ?_;simp only[sI,sS,sZ];refine zaj 2 43 (.pointer (some ⟨g,0,none⟩)) rfl (by rfl) (by kernel_rfl) (by kernel_rfl) (by kernel_rfl) (fun _ _ _ h=>h) (fun w' _=>by first|rfl|go_simp) hS0 ?_;simp only[sI,sS,sZ];refine zaj 3 44 (.pointer (some ⟨g,5,none⟩)) rfl (by rfl) (by kernel_rfl) (by kernel_rfl) (by kernel_rfl) (fun _ _ _ h=>h) (fun w' _=>by first|rfl|go_simp) hS0 ?_;simp only[sI,sS,sZ];refine zaj 5 46 (.pointer (some ⟨g,0,none⟩)) rfl (by rfl) (by kernel_rfl) (by kernel_rfl) (by kernel_rfl) (fun _ _ _ h=>h) (fun w' _=>by first|rfl|go_simp) hS0 ?_;simp only[sI,sS,sZ];refine zaj 6 47 (.pointer (some ⟨g,0,none⟩)) rfl (by rfl) (by kernel_rfl) (by kernel_rfl) (by kernel_rfl) (fun _ _ _ h=>h) (fun w' _=>by first|rfl|go_simp) hS0 ?_;simp only[sI,sS,sZ];refine zaj 7 48 (.pointer (some ⟨g,0,none⟩)) rfl (by rfl) (by kernel_rfl) (by kernel_rfl) (by kernel_rfl) (fun _ _ _ h=>h) (fun w' _=>by first|rfl|go_simp) hS0 ?_
 simp only[sI,sS,sZ];refine zaj 8 49 (.pointer (some ⟨g,0,none⟩)) rfl (by rfl) (by kernel_rfl) (by kernel_rfl) (by kernel_rfl) (fun _ _ _ h=>h) (fun w' _=>by first|rfl|go_simp) hS0 ?_;simp only[sI,sS,sZ];refine zaj 9 50 (.agg #[.int .i64 k,.string s1,.int .i64 p]) rfl (by rfl) (by kernel_rfl) (by kernel_rfl) (by kernel_rfl) (fun _ _ _ h=>h) (fun w' hw'=>by obtain⟨x,hx⟩:=hw';exact zi8 rfl rfl (zqm hx)) hS0 ?_;simp only[sI,sS,sZ];refine wpAnyH_all (rs:=[4,10]) (by kernel_rfl) (by simp) fun i hi=>?_;simp only[List.mem_cons,List.not_mem_nil,or_false] at hi;rcases hi with rfl|rfl
 ·refine zew rfl rfl ?_;refine zgj (.slice st ts.length ct) (by go_simp) ?_;refine⟨hS0,?_⟩;simp only[Act.put];refine zac 10 rfl (by kernel_rfl) ?_;refine zed 31 (.tmp 50) rfl (.agg #[.int .i64 k,.string s1,.int .i64 p]) rfl (bldTok ⟨k,s1,p⟩ _) ?_;refine⟨hS1,?_⟩;simp only[Act.put];refine zac 11 rfl (by kernel_rfl) ?_;refine zak (.tmp 45) (.tmp 51) 31 rfl rfl rfl hr ?_;refine⟨hS2,?_⟩;simp only[Act.put];refine zaj 12 53 (.pointer (some ⟨g,0,none⟩)) rfl (by rfl) (by kernel_rfl) (by kernel_rfl) (by kernel_rfl) (fun _ _ _ h=>h) (fun w' _=>by first|rfl|go_simp) hS2 ?_;simp only[sI,sS,sZ];refine zaj 13 54 (.pointer (some ⟨g,5,none⟩)) rfl (by rfl) (by kernel_rfl) (by kernel_rfl) (by kernel_rfl) (fun _ _ _ h=>h) (fun w' _=>by first|rfl|go_simp) hS2 ?_;simp only[sI,sS,sZ];refine zac 14 rfl (by kernel_rfl) ?_
  go_simp
  have r4:(W3.setCell ⟨g,5,none⟩ (.slice st3 (ts.length+1) ct3)).heap[g]?=some (.cells (lxC ⟨k,s1,p⟩ (.slice (some ⟨b,o,none⟩) L.length cap) p (.slice st3 (ts.length+1) ct3)) 73 (0,0)):=heap_setCell_same _ _ _ _ _ _ HR3.out;have ho:∀ j,j≠g->(W3.setCell ⟨g,5,none⟩ (.slice st3 (ts.length+1) ct3)).heap[j]?=W3.heap[j]?:=fun j hj=>heap_setCell_other _ _ _ _ hj;refine⟨⟨_,r4⟩,?_⟩;refine wpAnyH_done (by kernel_rfl) ?_ _;have hT4:OwnT B (W3.setCell ⟨g,5,none⟩ (.slice st3 (ts.length+1) ct3)) (.slice st3 (ts.length+1) ct3) (ts++[⟨k,s1,p⟩]):=OwnG.keep HT3.out fun j hj=>ho j (fun e=>OwnG.ne HT3.out HR3.out (by decide) (e ▸ hj));have hK4:Kept g (.slice st ts.length ct) w (W3.setCell ⟨g,5,none⟩ (.slice st3 (ts.length+1) ct3)):=⟨HK3.out.os,HK3.out.tape,HK3.out.output,by have:=HK3.out.size;simpa using this,fun j h1 h2 h3=>(ho j h2).trans (HK3.out.block j h1 h2 h3)⟩;clear ho d4 d5 z3 hS0 hS1 hS2 hr e5 c0 c1 c2 c5 HR3 HT3 HK3;generalize W3.setCell ⟨g,5,none⟩ (.slice st3 (ts.length+1) ct3)=W4 at r4 hT4 hK4;have HR4:Hid (W4.heap[g]?=some (.cells (lxC ⟨k,s1,p⟩ (.slice (some ⟨b,o,none⟩) L.length cap) p (.slice st3 (ts.length+1) ct3)) 73 (0,0))):=r4;have HT4:=hid hT4;have HK4:=hid hK4;have d4:W4.cell? ⟨g,4,none⟩=some (.int .i64 p):=(cell_of_row W4 g 4 _ _ _ r4).trans rfl;have z4:W4.frozen? ⟨g,4,none⟩=false:=frozen_of_row _ _ _ _ _ r4;clear r4 hT4 hK4
  go_wp2
  go_ret
  have r5:(W4.setCell ⟨g,4,none⟩ (.int .i64 (p+n))).heap[g]?=some (.cells (lxC ⟨k,s1,p⟩ (.slice (some ⟨b,o,none⟩) L.length cap) (p+n) (.slice st3 (ts.length+1) ct3)) 73 (0,0)):=(heap_setCell_same _ _ _ _ _ _ HR4.out).trans rfl;have ho:∀ j,j≠g->(W4.setCell ⟨g,4,none⟩ (.int .i64 (p+n))).heap[j]?=W4.heap[j]?:=fun j hj=>heap_setCell_other _ _ _ _ hj;exact⟨rfl,_,r5,OwnG.keep HT4.out fun j hj=>ho j (fun e=>OwnG.ne HT4.out HR4.out (by decide) (e ▸ hj)),⟨HK4.out.os,HK4.out.tape,HK4.out.output,by have:=HK4.out.size;simpa using this,fun j h1 h2 h3=>(ho j h2).trans (HK4.out.block j h1 h2 h3)⟩⟩
 ·refine zew rfl rfl ?_;refine zed 31 (.tmp 50) rfl (.agg #[.int .i64 k,.string s1,.int .i64 p]) rfl (bldTok ⟨k,s1,p⟩ _) ?_;refine⟨hS1,?_⟩;simp only[Act.put];refine zac 4 rfl (by kernel_rfl) ?_;refine zgj (.slice st ts.length ct) (zi8 (p:=⟨g,5,none⟩) rfl rfl (zmt e5)) ?_;refine⟨hS1,?_⟩;simp only[Act.put];refine zac 11 rfl (by kernel_rfl) ?_;refine zak (.tmp 45) (.tmp 51) 31 rfl rfl rfl hr ?_;refine⟨hS2,?_⟩;simp only[Act.put];refine zaj 12 53 (.pointer (some ⟨g,0,none⟩)) rfl (by rfl) (by kernel_rfl) (by kernel_rfl) (by kernel_rfl) (fun _ _ _ h=>h) (fun w' _=>by first|rfl|go_simp) hS2 ?_;simp only[sI,sS,sZ];refine zaj 13 54 (.pointer (some ⟨g,5,none⟩)) rfl (by rfl) (by kernel_rfl) (by kernel_rfl) (by kernel_rfl) (fun _ _ _ h=>h) (fun w' _=>by first|rfl|go_simp) hS2 ?_;simp only[sI,sS,sZ];refine zac 14 rfl (by kernel_rfl) ?_
  go_simp
  have r4:(W3.setCell ⟨g,5,none⟩ (.slice st3 (ts.length+1) ct3)).heap[g]?=some (.cells (lxC ⟨k,s1,p⟩ (.slice (some ⟨b,o,none⟩) L.length cap) p (.slice st3 (ts.length+1) ct3)) 73 (0,0)):=heap_setCell_same _ _ _ _ _ _ HR3.out;have ho:∀ j,j≠g->(W3.setCell ⟨g,5,none⟩ (.slice st3 (ts.length+1) ct3)).heap[j]?=W3.heap[j]?:=fun j hj=>heap_setCell_other _ _ _ _ hj;refine⟨⟨_,r4⟩,?_⟩;refine wpAnyH_done (by kernel_rfl) ?_ _;have hT4:OwnT B (W3.setCell ⟨g,5,none⟩ (.slice st3 (ts.length+1) ct3)) (.slice st3 (ts.length+1) ct3) (ts++[⟨k,s1,p⟩]):=OwnG.keep HT3.out fun j hj=>ho j (fun e=>OwnG.ne HT3.out HR3.out (by decide) (e ▸ hj));have hK4:Kept g (.slice st ts.length ct) w (W3.setCell ⟨g,5,none⟩ (.slice st3 (ts.length+1) ct3)):=⟨HK3.out.os,HK3.out.tape,HK3.out.output,by have:=HK3.out.size;simpa using this,fun j h1 h2 h3=>(ho j h2).trans (HK3.out.block j h1 h2 h3)⟩;clear ho d4 d5 z3 hS0 hS1 hS2 hr e5 c0 c1 c2 c5 HR3 HT3 HK3;generalize W3.setCell ⟨g,5,none⟩ (.slice st3 (ts.length+1) ct3)=W4 at r4 hT4 hK4;have HR4:Hid (W4.heap[g]?=some (.cells (lxC ⟨k,s1,p⟩ (.slice (some ⟨b,o,none⟩) L.length cap) p (.slice st3 (ts.length+1) ct3)) 73 (0,0))):=r4;have HT4:=hid hT4;have HK4:=hid hK4;have d4:W4.cell? ⟨g,4,none⟩=some (.int .i64 p):=(cell_of_row W4 g 4 _ _ _ r4).trans rfl;have z4:W4.frozen? ⟨g,4,none⟩=false:=frozen_of_row _ _ _ _ _ r4;clear r4 hT4 hK4
  go_wp2
  go_ret
  have r5:(W4.setCell ⟨g,4,none⟩ (.int .i64 (p+n))).heap[g]?=some (.cells (lxC ⟨k,s1,p⟩ (.slice (some ⟨b,o,none⟩) L.length cap) (p+n) (.slice st3 (ts.length+1) ct3)) 73 (0,0)):=(heap_setCell_same _ _ _ _ _ _ HR4.out).trans rfl;have ho:∀ j,j≠g->(W4.setCell ⟨g,4,none⟩ (.int .i64 (p+n))).heap[j]?=W4.heap[j]?:=fun j hj=>heap_setCell_other _ _ _ _ hj;exact⟨rfl,_,r5,OwnG.keep HT4.out fun j hj=>ho j (fun e=>OwnG.ne HT4.out HR4.out (by decide) (e ▸ hj)),⟨HK4.out.os,HK4.out.tape,HK4.out.output,by have:=HK4.out.size;simpa using this,fun j h1 h2 h3=>(ho j h2).trans (HK4.out.block j h1 h2 h3)⟩⟩
theorem zif (g:Nat)(t:Tok)(tv:Value)(p:Nat)(vt:Value)(n:Nat)(w:World)(hrow:w.heap[g]?=some (.cells (lxC t tv p vt) 73 (0,0)))(hlen:p+n<=1000000) :
  Calls Tryz.prog 37 #[.pointer (some ⟨g,0,none⟩),.int .i64 0,.int .i64 n] w fun e w'=>e=.returned (.int .i64 0)∧w'.heap[g]?=some (.cells (lxC t tv (p+n) vt) 73 (0,0))∧Kept g (.slice none 0 0) w w':=by
 have HR:=hid hrow;have d4:w.cell? ⟨g,4,none⟩=some (.int .i64 p):=(cell_of_row w g 4 _ _ _ hrow).trans rfl;have z4:w.frozen? ⟨g,4,none⟩=false:=frozen_of_row _ _ _ _ _ hrow;clear hrow
 go_enter Tryz.func37,Tryz.ntmps37
 go_wp2
 go_ret
 have r5:(w.setCell ⟨g,4,none⟩ (.int .i64 (p+n))).heap[g]?=some (.cells (lxC t tv (p+n) vt) 73 (0,0)):=(heap_setCell_same _ _ _ _ _ _ HR.out).trans rfl;exact⟨rfl,r5,⟨rfl,rfl,rfl,by simp,fun j _ h2 _=>heap_setCell_other _ _ _ _ h2⟩⟩
theorem zg2 (g:Nat)(t:Tok)(tv:Value)(p:Nat)(st:Option Addr)(ct:Nat)(k:Int)(n:Nat)(w:World)(hrow:w.heap[g]?=some (.cells (lxC t tv p (.slice st 1024 ct)) 73 (0,0)))(hk:k≠0) :
  Calls Tryz.prog 37 #[.pointer (some ⟨g,0,none⟩),.int .i64 k,.int .i64 n] w fun e w'=>e=.returned (.int .i64 3)∧w'=w:=by
 have d5:w.cell? ⟨g,5,none⟩=some (.slice st 1024 ct):=(cell_of_row w g 5 _ _ _ hrow).trans rfl;have hk':(k != 0)=true:=by simpa using hk
 clear hrow
 go_enter Tryz.func37,Tryz.ntmps37
 go_wp2
 go_ret
 exact⟨rfl,rfl⟩
theorem zgk {p:UInt8->Bool}{c:UInt8}{r:List UInt8}(h:p c=true):0<runN p (c::r):=by
 rw[zcd,h];simp
theorem zcs {L:List UInt8}{en:Bool}{k:Int}{n:Nat}(h:lookR L en=(k,n,0))(hL:L=[]->en=true):n<=L.length∧(0<n∨(k=5∧n=0∧en=true)):=by
 cases L with
 | nil=>
  simp only[lookR,Prod.mk.injEq] at h;obtain⟨rfl,rfl,-⟩:=h;exact⟨Nat.zero_le _,.inr ⟨rfl,rfl,hL rfl⟩⟩
 | cons c r=>
  unfold lookR at h;simp only at h;rw[List.length_cons]
  split at h
  ·split at h
   ·rename_i hen
    simp only[Prod.mk.injEq] at h;exact⟨by omega,.inr ⟨by omega,by omega,hen⟩⟩
   ·simp only[Prod.mk.injEq] at h;omega
  ·split at h
   ·simp only[Prod.mk.injEq] at h;omega
   ·split at h
    ·simp only[Prod.mk.injEq] at h;omega
    ·split at h
     ·rename_i h3
      unfold wordR at h
      split at h
      ·simp only[Prod.mk.injEq] at h;omega
      ·simp only[Prod.mk.injEq] at h;have h1:=zeb (inC [3,4]) (c::r);have h2:=zgk (p:=inC [3,4]) (c:=c) (r:=r) (by simp[inC,h3]);rw[List.length_cons] at h1;omega
     ·split at h
      ·rename_i h4
       unfold numR at h
       split at h
       ·simp only[Prod.mk.injEq] at h;omega
       ·simp only[Prod.mk.injEq] at h;have h1:=zeb (inC [4]) (c::r);have h2:=zgk (p:=inC [4]) (c:=c) (r:=r) (by simp[inC,h4]);rw[List.length_cons] at h1;omega
      ·split at h
       ·unfold quoR at h
        split at h
        ·simp only[Prod.mk.injEq] at h;omega
        ·rename_i v m hq
         simp only[Prod.mk.injEq] at h;have:=zeo hq;rw[List.length_cons] at this;omega
       ·split at h
        ·rename_i hp
         simp only[Prod.mk.injEq] at h;have hc:(c != 10)=true:=by
          have:c=47:=by
           simp[Lib.hasPrefix,List.isPrefixOf] at hp;exact hp.1.symm
          rw[this]
          decide
         have h1:=zeb (fun c=>c != 10) (c::r);have h2:=zgk (p:=fun c=>c != 10) (c:=c) (r:=r) hc;rw[List.length_cons] at h1;have h3:n=runN (fun c=>c != 10) (c::r):=h.2.1.symm;omega
        ·unfold sigR at h
         split at h
         ·rename_i hs
          simp only[Prod.mk.injEq] at h;have:0<r.length:=by
           cases r with
           | nil=>simp[sig2] at hs
           | cons=>simp
          omega
         ·simp only at h
          split at h <;> (simp only[Prod.mk.injEq] at h;omega)
def lastT (ts:List Tok):Tok:=ts.getLast?.getD ⟨0,⟨#[]⟩,0⟩
theorem zd7:lastT []=⟨0,⟨#[]⟩,0⟩:=rfl
theorem zb5 (ts:List Tok)(t:Tok):lastT (ts++[t])=t:=by simp[lastT]
def lexG (L:List UInt8):Nat->Nat->List Tok->List Tok × Int × Nat
 | 0,_,ts=>(ts,0,0)
 | f+1,p,ts=>
  if p<L.length∨clo (lastT ts)=true then
   if (lookR (L.drop p) (clo (lastT ts))).2.2≠0 then([],(lookR (L.drop p) (clo (lastT ts))).2.2,p)
   else if (lookR (L.drop p) (clo (lastT ts))).1=0 then lexG L f (p+(lookR (L.drop p) (clo (lastT ts))).2.1) ts
   else if ts.length=1024 then([],3,p)
   else lexG L f (p+(lookR (L.drop p) (clo (lastT ts))).2.1) (ts++[⟨(lookR (L.drop p) (clo (lastT ts))).1,strU ((L.drop p).take (lookR (L.drop p) (clo (lastT ts))).2.1),p⟩])
  else(ts,0,0)
def lexMu (L:List UInt8) (p:Nat) (ts:List Tok):Nat:=2 * (L.length - p)+(if clo (lastT ts)=true then 1 else 0)
def lexO (L:List UInt8):List Tok × Int × Nat:=if 4096<L.length then([],3,0) else lexG L (2 * L.length+1) 0 []
theorem zex {L:List UInt8}{f p:Nat}{ts:List Tok}(h1:¬ p<L.length)(h2:clo (lastT ts)=false):lexG L (f+1) p ts=(ts,0,0):=by
 rw[lexG,if_neg (by rw[h2];simp;omega)]
theorem zdm {L:List UInt8}{f p:Nat}{ts:List Tok}{k:Int}{n:Nat}{e:Int}(h1:p<L.length∨clo (lastT ts)=true)(h2:lookR (L.drop p) (clo (lastT ts))=(k,n,e))(he:e≠0):lexG L (f+1) p ts=([],e,p):=by
 rw[lexG,if_pos h1,h2,if_pos he]
theorem zdn {L:List UInt8}{f p:Nat}{ts:List Tok}{n:Nat}(h1:p<L.length∨clo (lastT ts)=true)(h2:lookR (L.drop p) (clo (lastT ts))=(0,n,0)):lexG L (f+1) p ts=lexG L f (p+n) ts:=by
 rw[lexG,if_pos h1,h2,if_neg (by simp),if_pos rfl]
theorem zde {L:List UInt8}{f p:Nat}{ts:List Tok}{k:Int}{n:Nat}(h1:p<L.length∨clo (lastT ts)=true)(h2:lookR (L.drop p) (clo (lastT ts))=(k,n,0))(hk:k≠0)(ht:ts.length=1024):lexG L (f+1) p ts=([],3,p):=by
 rw[lexG,if_pos h1,h2,if_neg (by simp),if_neg hk,if_pos ht]
theorem zc7 {L:List UInt8}{f p:Nat}{ts:List Tok}{k:Int}{n:Nat}(h1:p<L.length∨clo (lastT ts)=true)(h2:lookR (L.drop p) (clo (lastT ts))=(k,n,0))(hk:k≠0)(ht:ts.length≠1024):lexG L (f+1) p ts=lexG L f (p+n) (ts++[⟨k,strU ((L.drop p).take n),p⟩]):=by
 rw[lexG,if_pos h1,h2,if_neg (by simp),if_neg hk,if_neg ht]
theorem zi9 {L:List UInt8}{p n:Nat}{ts:List Tok}(h1:p<L.length∨clo (lastT ts)=true)(hp:p<=L.length)(h2:lookR (L.drop p) (clo (lastT ts))=(0,n,0)):p+n<=L.length∧lexMu L (p+n) ts<lexMu L p ts:=by
 have hs:=zcs h2 (fun e=>by
  rcases h1 with h1|h1
  ·have:=congrArg List.length e;rw[List.length_drop] at this;simp at this;omega
  ·exact h1)
 rw[List.length_drop] at hs;unfold lexMu;rcases hs with⟨h3,h4|⟨h4,-⟩⟩
 ·omega
 ·omega
theorem zja {L:List UInt8}{p n:Nat}{ts:List Tok}{k:Int}{t:Tok}(h1:p<L.length∨clo (lastT ts)=true)(hp:p<=L.length)(h2:lookR (L.drop p) (clo (lastT ts))=(k,n,0))(ht:t=⟨k,strU ((L.drop p).take n),p⟩):p+n<=L.length∧lexMu L (p+n) (ts++[t])<lexMu L p ts:=by
 have hs:=zcs h2 (fun e=>by
  rcases h1 with h1|h1
  ·have:=congrArg List.length e;rw[List.length_drop] at this;simp at this;omega
  ·exact h1)
 rw[List.length_drop] at hs;unfold lexMu;rw[zb5];rcases hs with⟨h3,h4|⟨h4,h5,h6⟩⟩
 ·refine⟨by omega,?_⟩
  split <;> split <;> omega
 ·have hc:clo t=false:=by rw[ht,h4];rfl
  rw[hc,h6];simp;omega
end Go.Proofs.YtmclgbkijeidaaaGreatDoor
