import Derived.Test.YtmclgbkijeidaaaGreatDoorUnC
import Derived.Lib.BytesEntry
import Derived.Lib.AppendStr
import Derived.Test.YtmclgbkijeidaaaGreatDoorUnB
import Derived.Laws.MakeOwn
import Derived.Deep.RegionWith
namespace Go.Proofs.YtmclgbkijeidaaaGreatDoor
set_option maxRecDepth 100000
set_option maxHeartbeats 4000000
open Go.RowKit
theorem zbc {P:Program}{fn:Func}{p q:Tmp}{ty:TypeId}(h:fn.results=#[.tmp q,.cell p ty])(tmps:Array Value)(w:World)(g:Nat)(t:TypeId)(cs:Array Value)(fr:Nat × Nat)(d:TypeDesc)(v:Value)
  (hp:tmps.getD p undef=.pointer (some ⟨g,0,none⟩)) (hq:tmps.getD q undef=v) (hg:w.heap[g]?=some (.cells cs t fr))
  (hu:P.underlying ty=some d) (hd:(match d with | .struct _ | .array _ _=>true|_=>false)=true) (hi:(P.info? ty).map (·.size)=some cs.size) :
  (results fn tmps).run P w=.ok (.tuple #[v,.agg cs]) w:=by
 have hp':tmps[p]?.getD undef=.pointer (some ⟨g,0,none⟩):=by simpa using hp
 have hq':tmps[q]?.getD undef=v:=by simpa using hq
 simp[results,h,hp',hq',asAddr,run_loadVar_row w g t ty cs fr d hg hu hd hi]
theorem zkq (s:ByteArray) (W:World):∃ (cap:Nat) (W':World)(cs:Array Value)(fr:Nat × Nat),(convert 9 71 (.string s)).run Tryz.prog W=.ok (.slice (some ⟨W.heap.size,0,none⟩) s.size cap) W'∧Below W.heap.size W W'∧W'.heap[W.heap.size]?=some (.cells cs 5 fr)∧(∀ (i:Nat)(c:UInt8),s.data.toList[i]?=some c->cs[i]?=some (.int .u8 c.toNat))∧s.size<=cap:=by
 refine⟨_,_,_,_,run_bytes_of_string W 9 71 5 s Tryz.underlying9 Tryz.underlying71 Tryz.underlying5,(Below.refl _ _).drew.alloc (by simp) _,heap_alloc_new W.drew _,fun i c hi=>?_,grownCap_ge _ _ _ _⟩;have hd:i<s.data.size:=by have:=(List.getElem?_eq_some_iff.1 hi).1;simpa using this
 unfold bytesRow;rw[Array.getElem?_append_left (by simpa using hd)];rw[Array.getElem?_toList] at hi;simp[hi]
def LexP (B:Nat) (w':World) (r:List Tok × Int × Nat) (e:Ending):Prop:=∃ v,e=.returned (.tuple #[v,.agg #[.int .i64 r.2.1,.int .i64 r.2.2]])∧OwnT B w' v r.1
def muW (n g:Nat) (w:World):Nat:=match w.heap[g]? with
 | some (.cells cs _ _)=>(match (cs[0]?:Option Value),(cs[1]?:Option Value),(cs[4]?:Option Value) with
  | some (.int _ k),some (.string x),some (.int _ p)=>2 * (n - p.toNat)+(if clo ⟨k,x,0⟩=true then 1 else 0)
  | _,_,_=>0)
 | _=>0
theorem zee {n g:Nat}{w:World}{t:Tok}{tv vt:Value}{p:Nat}{ty:TypeId}{fr:Nat × Nat}(h:w.heap[g]?=some (.cells (lxC t tv p vt) ty fr)):muW n g w=2 * (n - p)+(if clo t=true then 1 else 0):=by
 unfold muW;rw[h];rfl
theorem BA.of_row {w:World}{b:Nat}{cs:Array Value}{ty:TypeId}{fr:Nat × Nat}{L:List UInt8}(h:w.heap[b]?=some (.cells cs ty fr))(hc:∀ (i:Nat)(c:UInt8),L[i]?=some c->cs[i]?=some (.int .u8 c.toNat)):BA w (some ⟨b,0,none⟩) L :=
 fun _=>⟨b,0,rfl,fun i c hi=>(cell_of_row _ _ _ _ _ _ h).trans (by rw[Nat.zero_add];exact hc i c hi)⟩
theorem zmu (s:ByteArray)(w:World):Calls Tryz.prog 20 #[.string s] w fun e w'=>LexP w.heap.size w' (lexO s.data.toList) e∧Below w.heap.size w w':=by
 go_enter Tryz.func20,Tryz.ntmps20
 go_wp2
 refine wp_scope_jumps 0 (fun a' w'=>∃ (er:Int) (p:Nat) (t:Tok) (tv vt:Value),lexO s.data.toList=([],er,p)∧w'.heap[w.heap.size]?=some (.cells #[.int .i64 0,.int .i64 0] 28 (0,0))∧w'.heap[w.heap.size+1]?=some (.cells (lxC t tv p vt) 73 (0,0))∧Below w.heap.size w w'∧∃ u0 u1 u2 u5 u6 u8 u9 u10 u11 u12 u13 u14 u15 u16 u17 u18 u19 u20 u21 u22 u23 u24 u25 u26 u27 u28 u29 u30 u31 u32 u33 u34 u35 u36 u37 u38 u39 u40 u41 u42 u43 u44 u45 u46 u47 u48 u49 u50 u51:Value,a'={ tmps:=#[u0,u1,u2,.pointer (some ⟨w.heap.size,0,none⟩),.pointer (some ⟨w.heap.size+1,0,none⟩),u5,u6,.int .i64 er,u8,u9,u10,u11,u12,u13,u14,u15,u16,u17,u18,u19,u20,u21,u22,u23,u24,u25,u26,u27,u28,u29,u30,u31,u32,u33,u34,u35,u36,u37,u38,u39,u40,u41,u42,u43,u44,u45,u46,u47,u48,u49,u50,u51],defers:=[] }) (fun _ _=>0) rfl ?_ ?_
 rotate_left
 ·rintro a' w' ⟨er,p,t,tv,vt,hn,hsp,hrow,hb,u0,u1,u2,u5,u6,u8,u9,u10,u11,u12,u13,u14,u15,u16,u17,u18,u19,u20,u21,u22,u23,u24,u25,u26,u27,u28,u29,u30,u31,u32,u33,u34,u35,u36,u37,u38,u39,u40,u41,u42,u43,u44,u45,u46,u47,u48,u49,u50,u51,rfl⟩;have HN:=hid hn;have HSP:=hid hsp;have HB:=hid hb;have c4:w'.cell? ⟨w.heap.size+1,4,none⟩=some (.int .i64 p):=(cell_of_row _ _ 4 _ _ _ hrow).trans rfl;have e0:w'.cell? ⟨w.heap.size,0,none⟩=some (.int .i64 0):=(cell_of_row _ _ 0 _ _ _ hsp).trans rfl;have e1:w'.cell? ⟨w.heap.size,1,none⟩=some (.int .i64 0):=(cell_of_row _ _ 1 _ _ _ hsp).trans rfl;have z:∀ j,w'.frozen? ⟨w.heap.size,j,none⟩=false:=fun j=>frozen_of_row _ _ _ _ _ hsp;clear hn hsp hb hrow
  go_wp2
  go_region
  go_wp2
  simp only[Exit.jump];have r1:(w'.setCell ⟨w.heap.size,0,none⟩ (.int .i64 er)).heap[w.heap.size]?=_:=heap_setCell_same _ _ _ _ _ _ HSP.out;have r2:((w'.setCell ⟨w.heap.size,0,none⟩ (.int .i64 er)).setCell ⟨w.heap.size,1,none⟩ (.int .i64 p)).heap[w.heap.size]?=some (.cells #[.int .i64 er,.int .i64 p] 28 (0,0)):=heap_setCell_same _ _ _ _ _ _ r1;refine bodyPost_ret (v:=.tuple #[.slice none 0 0,.agg #[.int .i64 er,.int .i64 p]]) (zbc Tryz.results20 _ _ w.heap.size 28 _ (0,0) _ _ rfl rfl r2 Tryz.underlying28 rfl (by kernel_rfl)) rfl ?_;refine⟨⟨.slice none 0 0,?_,?_⟩,((HB.out.setCell (p:=⟨w.heap.size,0,none⟩) (Nat.le_refl _) _).setCell (p:=⟨w.heap.size,1,none⟩) (Nat.le_refl _) _).drew⟩
  ·rw[HN.out]
  ·rw[HN.out];exact zbv _ _
 have hTl:s.size=s.data.toList.length:=by simp
 by_cases h4:4096<s.size
 ·have HN:Hid (lexO s.data.toList=([],3,0)):=by unfold lexO;rw[if_pos (by omega)];exact rfl
  have h4':(s.size:Int) > 4096:=by omega
  clear hTl h4
  go_wp2
  go_step3
  refine⟨rfl,3,0,⟨0,⟨#[]⟩,0⟩,.slice none 0 0,.slice none 0 0,HN.out,heap_alloc2_old _ _ _,heap_alloc2_new _ _ _,((Below.refl _ _).alloc (Nat.le_refl _) _).alloc (by simp) _,_,_,_,_,_,_,_,_,_,_,_,_,_,_,_,_,_,_,_,_,_,_,_,_,_,_,_,_,_,_,_,_,_,_,_,_,_,_,_,_,_,_,_,_,_,_,_,_,_,rfl⟩
 obtain⟨L,HL⟩:∃ L,Hid (s.data.toList=L):=⟨_,rfl⟩;have hLs:s.size=L.length:=by rw[hTl,HL.out]
 have HO:Hid (lexG L (2 * L.length+1) 0 []=lexO s.data.toList):=by rw[HL.out];unfold lexO;rw[if_neg (by omega)];exact rfl
 have h4':¬ (s.size:Int) > 4096:=by omega
 have hl:L.length<=4096:=by omega
 obtain⟨cap,WT,cs,fr,hcv,bT,hrT,hcs,hcap⟩:=zkq s ((w.alloc (.cells #[.int .i64 0,.int .i64 0] 28)).alloc (.cells (lxC ⟨0,⟨#[]⟩,0⟩ (.slice none 0 0) 0 (.slice none 0 0)) 73));rw[HL.out] at hcs;rw[hLs] at hcv hcap;have hsz:((w.alloc (.cells #[.int .i64 0,.int .i64 0] 28)).alloc (.cells (lxC ⟨0,⟨#[]⟩,0⟩ (.slice none 0 0) 0 (.slice none 0 0)) 73)).heap.size=w.heap.size+2:=by simp
 rw[hsz] at hcv bT hrT;have bT':Below w.heap.size w WT:=(((Below.refl _ _).alloc (Nat.le_refl _) _).alloc (by simp) _).trans (bT.mono (by omega));have g0:WT.heap[w.heap.size]?=some (.cells #[.int .i64 0,.int .i64 0] 28 (0,0)):=(bT.block _ (by omega)).trans (heap_alloc2_old _ _ _);have g1:WT.heap[w.heap.size+1]?=some (.cells (lxC ⟨0,⟨#[]⟩,0⟩ (.slice none 0 0) 0 (.slice none 0 0)) 73 (0,0)):=(bT.block _ (by omega)).trans (heap_alloc2_new _ _ _);have k3:WT.cell? ⟨w.heap.size+1,3,none⟩=some (.slice none 0 0):=(cell_of_row _ _ 3 _ _ _ g1).trans rfl;have z3:WT.frozen? ⟨w.heap.size+1,3,none⟩=false:=frozen_of_row _ _ _ _ _ g1;have HG0:Hid (WT.heap[w.heap.size]?=some (.cells #[.int .i64 0,.int .i64 0] 28 (0,0))):=g0;have HG1:Hid (WT.heap[w.heap.size+1]?=some (.cells (lxC ⟨0,⟨#[]⟩,0⟩ (.slice none 0 0) 0 (.slice none 0 0)) 73 (0,0))):=g1;have HRT:=hid hrT;have HCS:=hid hcs;have HBT:Hid (Below w.heap.size w WT):=bT';clear hTl h4 hLs g0 g1 hrT hcs bT bT' hsz HL
 replace hcv:(convert 9 71 (.string s)).run Tryz.prog ((w.alloc (.cells #[.int .i64 0,.int .i64 0] 28)).alloc (.cells #[.int .i64 0,.string ⟨#[]⟩,.int .i64 0,.slice none 0 0,.int .i64 0,.slice none 0 0] 73))=.ok (.slice (some ⟨w.heap.size+2,0,none⟩) L.length cap) WT:=hcv
 go_wp2
 clear hcv k3 z3;have ho:∀ j,j≠w.heap.size+1->(WT.setCell ⟨w.heap.size+1,3,none⟩ (.slice (some ⟨w.heap.size+2,0,none⟩) L.length cap)).heap[j]?=WT.heap[j]?:=fun j hj=>heap_setCell_other _ _ _ _ hj;have hg1:(WT.setCell ⟨w.heap.size+1,3,none⟩ (.slice (some ⟨w.heap.size+2,0,none⟩) L.length cap)).heap[w.heap.size+1]?=some (.cells (lxC (lastT []) (.slice (some ⟨w.heap.size+2,0,none⟩) L.length cap) 0 (.slice none 0 0)) 73 (0,0)):=heap_setCell_same _ _ _ _ _ _ HG1.out
 go_loopw [] (fun wr=>∃ (p:Nat) (ts:List Tok) (f:Nat) (vt:Value),p<=L.length∧ts.length<=1024∧wr.heap[w.heap.size]?=some (.cells #[.int .i64 0,.int .i64 0] 28 (0,0))∧wr.heap[w.heap.size+1]?=some (.cells (lxC (lastT ts) (.slice (some ⟨w.heap.size+2,0,none⟩) L.length cap) p vt) 73 (0,0))∧wr.heap[w.heap.size+2]?=some (.cells cs 5 fr)∧OwnT w.heap.size wr vt ts∧Below w.heap.size w wr∧lexMu L p ts<f∧lexG L f p ts=lexO s.data.toList) (fun wr=>muW L.length (w.heap.size+1) wr)
 case atStart=>exact⟨0,[],2 * L.length+1,.slice none 0 0,Nat.zero_le _,by simp,(ho _ (by omega)).trans HG0.out,hg1,(ho _ (by omega)).trans HRT.out,zbv _ _,HBT.out.setCell (p:=⟨w.heap.size+1,3,none⟩) (by simp) _,by unfold lexMu;rw[zd7];simp[clo],HO.out⟩
 case round=>
  clear ho hg1 HG0 HG1 HRT HBT HO;obtain⟨p,ts,f,vt,hp,hts,hg0,hg1,hg2,hT,hb,hmu,hgo⟩:=hrel;obtain⟨f,rfl⟩:∃ f',f=f'+1:=⟨f - 1,by omega⟩;obtain⟨lt,HLT⟩:∃ lt,Hid (lastT ts=lt):=⟨_,rfl⟩;rw[HLT.out] at hg1;have HG0:=hid hg0;have HG1:=hid hg1;have HG2:=hid hg2;have HT:=hid hT;have HB:=hid hb;have HGO:=hid hgo;have HBA:Hid (BA wr (some ⟨w.heap.size+2,0,none⟩) L):=BA.of_row hg2 HCS.out;have c0:wr.cell? ⟨w.heap.size+1,0,none⟩=some (.int .i64 lt.kind):=(cell_of_row _ _ 0 _ _ _ hg1).trans rfl;have c1:wr.cell? ⟨w.heap.size+1,1,none⟩=some (.string lt.text):=(cell_of_row _ _ 1 _ _ _ hg1).trans rfl;have c3:wr.cell? ⟨w.heap.size+1,3,none⟩=some (.slice (some ⟨w.heap.size+2,0,none⟩) L.length cap):=(cell_of_row _ _ 3 _ _ _ hg1).trans rfl;have c4:wr.cell? ⟨w.heap.size+1,4,none⟩=some (.int .i64 p):=(cell_of_row _ _ 4 _ _ _ hg1).trans rfl;clear hg0 hg1 hg2 hT hb hgo
  by_cases hlt:p<L.length
  ·have hd:decide ((p:Int)<L.length)=true:=by simp;omega
   have hne:¬ cap=p:=by omega
   have HH:Hid (p<L.length∨clo lt=true):=.inl hlt;have HLK:Hid (Calls Tryz.prog 36 #[.slice (some ⟨w.heap.size+2,p,none⟩) (L.length - p) (cap - p),.func (.func 33) #[.pointer (some ⟨w.heap.size+1,0,none⟩)] #[]] wr fun e w'=>e=.returned (tripV (lookR (L.drop p) (clo lt)))∧Below wr.heap.size wr w'):=by
    have h:=zid (some ⟨w.heap.size+2,p,none⟩) (cap - p) (L.drop p) (w.heap.size+1) lt wr (by have h:=BA.drop HBA.out p;rw[Nat.zero_add] at h;exact h) (by rw[List.length_drop];omega) (by rw[List.length_drop];omega) c0 c1;rw[List.length_drop] at h;exact h
   obtain⟨k,n,er,hlk⟩:∃ k n er,lookR (L.drop p) (clo lt)=(k,n,er):=⟨_,_,_,rfl⟩;have HLR:=hid hlk;clear hlk
   go_wp2_with fail
   refine HLK.out.mono ?_;rintro e W1 ⟨rfl,b1⟩;rw[HLR.out,tripV];clear c0 c1 c3 c4 HLK;have R0:Hid (W1.heap[w.heap.size]?=some (.cells #[.int .i64 0,.int .i64 0] 28 (0,0))):=(b1.block _ (zaa HG0.out)).trans HG0.out;have R1:Hid (W1.heap[w.heap.size+1]?=some (.cells (lxC lt (.slice (some ⟨w.heap.size+2,0,none⟩) L.length cap) p vt) 73 (0,0))):=(b1.block _ (zaa HG1.out)).trans HG1.out;have R2:Hid (W1.heap[w.heap.size+2]?=some (.cells cs 5 fr)):=(b1.block _ (zaa HG2.out)).trans HG2.out;have RT:Hid (OwnT w.heap.size W1 vt ts):=OwnG.below HT.out b1;have RB:=hid (HB.out.trans (b1.mono HB.out.size));have RA:Hid (BA W1 (some ⟨w.heap.size+2,0,none⟩) L):=BA.below HBA.out b1;have hmw:muW L.length (w.heap.size+1) wr=2 * (L.length - p)+(if clo lt=true then 1 else 0):=zee HG1.out;have HMW:Hid (muW L.length (w.heap.size+1) wr=lexMu L p ts):=by rw[hmw];unfold lexMu;rw[HLT.out];exact rfl
   clear b1 HG0 HG1 HG2 HT HB hmw HBA
   by_cases her:er=0
   ·subst her
    by_cases hk:k=0
    ·subst hk;obtain⟨hq1,hq2⟩:=zi9 (ts:=ts) (by rw[HLT.out];exact HH.out) hp (by rw[HLT.out];exact HLR.out);have HQ2:=hid hq2;have HNX:Hid (lexG L f (p+n) ts=lexO s.data.toList):=by rw[<-HGO.out,zdn (by rw[HLT.out];exact HH.out) (by rw[HLT.out];exact HLR.out)];exact rfl
     clear hq2
     go_wp2_with fail
     refine(zif (w.heap.size+1) lt _ p vt n W1 R1.out (by omega)).mono ?_;rintro e W2 ⟨rfl,hr2,hk2⟩;have hk3:∀ j,j<W1.heap.size->j≠w.heap.size+1->W2.heap[j]?=W1.heap[j]?:=fun j h1 h2=>hk2.block j h1 h2 (fun e=>by cases e);have REL:Hid (∃ (p':Nat) (ts':List Tok) (f':Nat) (vt':Value),p'<=L.length∧ts'.length<=1024∧W2.heap[w.heap.size]?=some (.cells #[.int .i64 0,.int .i64 0] 28 (0,0))∧W2.heap[w.heap.size+1]?=some (.cells (lxC (lastT ts') (.slice (some ⟨w.heap.size+2,0,none⟩) L.length cap) p' vt') 73 (0,0))∧W2.heap[w.heap.size+2]?=some (.cells cs 5 fr)∧OwnT w.heap.size W2 vt' ts'∧Below w.heap.size w W2∧lexMu L p' ts'<f'∧lexG L f' p' ts'=lexO s.data.toList) :=
      ⟨p+n,ts,f,vt,hq1,hts,(hk3 _ (zaa R0.out) (by omega)).trans R0.out,by rw[HLT.out];exact hr2,(hk3 _ (zaa R2.out) (by omega)).trans R2.out,OwnG.keep RT.out (fun j hj=>hk3 j (OwnG.lt RT.out hj).2 (fun e=>OwnG.ne RT.out R1.out (by decide) (e ▸ hj))),RB.out.trans ⟨hk2.os,hk2.tape,hk2.output,hk2.size,fun j hj=>hk3 j (Nat.lt_of_lt_of_le hj RB.out.size) (by omega)⟩,by have:=HQ2.out;omega,HNX.out⟩
     have MEA:Hid (muW L.length (w.heap.size+1) W2<muW L.length (w.heap.size+1) wr):=by
      rw[HMW.out,zee hr2];have:=HQ2.out;unfold lexMu at this ⊢;rw[HLT.out] at this ⊢;exact this
     clear hk2 hr2 hk3
     go_wp2
     exact⟨REL.out,MEA.out⟩
    ·by_cases hfull:ts.length=1024
     ·have HNO:Hid (lexO s.data.toList=([],3,p)):=by rw[<-HGO.out,zde (by rw[HLT.out];exact HH.out) (by rw[HLT.out];exact HLR.out) hk hfull];exact rfl
      obtain⟨st,ct,hvt⟩:=OwnG.shape RT.out;rw[hfull] at hvt;subst hvt
      go_wp2_with fail
      refine(zg2 (w.heap.size+1) lt _ p st ct k n W1 R1.out hk).mono ?_;rintro e W2 ⟨rfl,hW2⟩;rw[hW2];clear hW2
      go_wp2
      go_step3
      exact⟨rfl,3,p,lt,_,_,HNO.out,R0.out,R1.out,RB.out,_,_,_,_,_,_,_,_,_,_,_,_,_,_,_,_,_,_,_,_,_,_,_,_,_,_,_,_,_,_,_,_,_,_,_,_,_,_,_,_,_,_,_,_,_,_,_,_,_,rfl⟩
     ·obtain⟨hq1,hq2⟩:=zja (ts:=ts) (by rw[HLT.out];exact HH.out) hp (by rw[HLT.out];exact HLR.out) (t:=⟨k,strU ((L.drop p).take n),p⟩) rfl;have HQ2:=hid hq2;have HNX:Hid (lexG L f (p+n) (ts++[⟨k,strU ((L.drop p).take n),p⟩])=lexO s.data.toList):=by rw[<-HGO.out,zc7 (by rw[HLT.out];exact HH.out) (by rw[HLT.out];exact HLR.out) hk hfull];exact rfl
      clear hq2
      go_wp2_with fail
      refine(zie w.heap.size (w.heap.size+1) lt (w.heap.size+2) 0 cap p L vt ts k n W1 R1.out RA.out RT.out hq1 hcap (by omega) (by omega) hk (by omega)).mono ?_;rintro e W2 ⟨rfl,vt',hr2,ht2,hk2⟩;have REL:Hid (∃ (p':Nat) (ts':List Tok) (f':Nat) (vt':Value),p'<=L.length∧ts'.length<=1024∧W2.heap[w.heap.size]?=some (.cells #[.int .i64 0,.int .i64 0] 28 (0,0))∧W2.heap[w.heap.size+1]?=some (.cells (lxC (lastT ts') (.slice (some ⟨w.heap.size+2,0,none⟩) L.length cap) p' vt') 73 (0,0))∧W2.heap[w.heap.size+2]?=some (.cells cs 5 fr)∧OwnT w.heap.size W2 vt' ts'∧Below w.heap.size w W2∧lexMu L p' ts'<f'∧lexG L f' p' ts'=lexO s.data.toList) :=
       ⟨p+n,ts++[⟨k,strU ((L.drop p).take n),p⟩],f,vt',hq1,by rw[List.length_append,List.length_singleton];omega,Kept.row hk2 RT.out R0.out (by decide) (by omega),by rw[zb5];exact hr2,Kept.row hk2 RT.out R2.out (by decide) (by omega),ht2,RB.out.trans (hk2.below RT.out (by omega) RB.out.size),by have:=HQ2.out;omega,HNX.out⟩
      have MEA:Hid (muW L.length (w.heap.size+1) W2<muW L.length (w.heap.size+1) wr):=by
       rw[HMW.out,zee hr2];have:=HQ2.out;unfold lexMu at this ⊢;rw[zb5] at this;exact this
      clear hk2 hr2 ht2
      go_wp2
      exact⟨REL.out,MEA.out⟩
   ·have HNO:Hid (lexO s.data.toList=([],er,p)):=by rw[<-HGO.out,zdm (by rw[HLT.out];exact HH.out) (by rw[HLT.out];exact HLR.out) her];exact rfl
    have her':(er != 0)=true:=by simpa using her
    go_wp2
    go_step3
    exact⟨rfl,er,p,lt,_,_,HNO.out,R0.out,R1.out,RB.out,_,_,_,_,_,_,_,_,_,_,_,_,_,_,_,_,_,_,_,_,_,_,_,_,_,_,_,_,_,_,_,_,_,_,_,_,_,_,_,_,_,_,_,_,_,_,_,_,_,rfl⟩
  ·have hd:decide ((p:Int)<L.length)=false:=by simp;omega
   cases hcl:clo lt
   ·have HNO:Hid (lexO s.data.toList=(ts,0,0)):=by rw[<-HGO.out,zex hlt (by rw[HLT.out];exact hcl)];exact rfl
    have c5:wr.cell? ⟨w.heap.size+1,5,none⟩=some vt:=(cell_of_row _ _ 5 _ _ _ HG1.out).trans rfl;have e0:wr.cell? ⟨w.heap.size,0,none⟩=some (.int .i64 0):=(cell_of_row _ _ 0 _ _ _ HG0.out).trans rfl;have e1:wr.cell? ⟨w.heap.size,1,none⟩=some (.int .i64 0):=(cell_of_row _ _ 1 _ _ _ HG0.out).trans rfl;have z:∀ j,wr.frozen? ⟨w.heap.size,j,none⟩=false:=fun j=>frozen_of_row _ _ _ _ _ HG0.out;obtain⟨st,ct,rfl⟩:=OwnG.shape HT.out
    go_wp2_with (go_at_call 33;refine(zea (w.heap.size+1) lt wr c0 c1).mono ?_;rintro e W0 ⟨rfl,hW0⟩;rw[hW0,hcl])
    simp only[Exit.jump];have r1:(wr.setCell ⟨w.heap.size,0,none⟩ (.int .i64 0)).heap[w.heap.size]?=_:=heap_setCell_same _ _ _ _ _ _ HG0.out;have r2:((wr.setCell ⟨w.heap.size,0,none⟩ (.int .i64 0)).setCell ⟨w.heap.size,1,none⟩ (.int .i64 0)).heap[w.heap.size]?=some (.cells #[.int .i64 0,.int .i64 0] 28 (0,0)):=heap_setCell_same _ _ _ _ _ _ r1;refine bodyPost_ret (v:=.tuple #[.slice st ts.length ct,.agg #[.int .i64 0,.int .i64 0]]) (zbc Tryz.results20 _ _ w.heap.size 28 _ (0,0) _ _ rfl rfl r2 Tryz.underlying28 rfl (by kernel_rfl)) rfl ?_;have ho:∀ j,j≠w.heap.size->((wr.setCell ⟨w.heap.size,0,none⟩ (.int .i64 0)).setCell ⟨w.heap.size,1,none⟩ (.int .i64 0)).heap[j]?=wr.heap[j]?:=fun j hj=>(heap_setCell_other _ _ _ _ hj).trans (heap_setCell_other _ _ _ _ hj);refine⟨⟨.slice st ts.length ct,?_,?_⟩,(HB.out.setCell (p:=⟨w.heap.size,0,none⟩) (Nat.le_refl _) _).setCell (p:=⟨w.heap.size,1,none⟩) (Nat.le_refl _) _⟩
    ·rw[HNO.out];exact rfl
    ·rw[HNO.out];exact OwnG.keep HT.out fun j hj=>ho j (fun e=>OwnG.ne HT.out HG0.out (by decide) (e ▸ hj))
   ·have HH:Hid (p<L.length∨clo lt=true):=.inr hcl
    by_cases hne:cap=p
    ·subst hne;have HLK:Hid (Calls Tryz.prog 36 #[.slice (some ⟨w.heap.size+2,0,none⟩) 0 0,.func (.func 33) #[.pointer (some ⟨w.heap.size+1,0,none⟩)] #[]] wr fun e w'=>e=.returned (tripV (lookR (L.drop cap) (clo lt)))∧Below wr.heap.size wr w'):=by
      have h:=zid (some ⟨w.heap.size+2,0,none⟩) 0 (L.drop cap) (w.heap.size+1) lt wr (BA.none_left (by omega)) (by rw[List.length_drop];omega) (by rw[List.length_drop];omega) c0 c1;rw[List.length_drop,show L.length - cap=0 by omega] at h;exact h
     obtain⟨k,n,er,hlk⟩:∃ k n er,lookR (L.drop cap) (clo lt)=(k,n,er):=⟨_,_,_,rfl⟩;have HLR:=hid hlk;clear hlk
     go_wp2_with fail
     refine(zea (w.heap.size+1) lt wr c0 c1).mono ?_;rintro e W0 ⟨rfl,hW0⟩;rw[hW0,hcl];clear hW0
     go_wp2_with fail
     refine HLK.out.mono ?_;rintro e W1 ⟨rfl,b1⟩;rw[HLR.out,tripV];clear c0 c1 c3 c4 HLK;have R0:Hid (W1.heap[w.heap.size]?=some (.cells #[.int .i64 0,.int .i64 0] 28 (0,0))):=(b1.block _ (zaa HG0.out)).trans HG0.out;have R1:Hid (W1.heap[w.heap.size+1]?=some (.cells (lxC lt (.slice (some ⟨w.heap.size+2,0,none⟩) L.length cap) cap vt) 73 (0,0))):=(b1.block _ (zaa HG1.out)).trans HG1.out;have R2:Hid (W1.heap[w.heap.size+2]?=some (.cells cs 5 fr)):=(b1.block _ (zaa HG2.out)).trans HG2.out;have RT:Hid (OwnT w.heap.size W1 vt ts):=OwnG.below HT.out b1;have RB:=hid (HB.out.trans (b1.mono HB.out.size));have RA:Hid (BA W1 (some ⟨w.heap.size+2,0,none⟩) L):=BA.below HBA.out b1;have hmw:muW L.length (w.heap.size+1) wr=2 * (L.length - cap)+(if clo lt=true then 1 else 0):=zee HG1.out;have HMW:Hid (muW L.length (w.heap.size+1) wr=lexMu L cap ts):=by rw[hmw];unfold lexMu;rw[HLT.out];exact rfl
     clear b1 HG0 HG1 HG2 HT HB hmw HBA
     by_cases her:er=0
     ·subst her
      by_cases hk:k=0
      ·subst hk;obtain⟨hq1,hq2⟩:=zi9 (ts:=ts) (by rw[HLT.out];exact HH.out) hp (by rw[HLT.out];exact HLR.out);have HQ2:=hid hq2;have HNX:Hid (lexG L f (cap+n) ts=lexO s.data.toList):=by rw[<-HGO.out,zdn (by rw[HLT.out];exact HH.out) (by rw[HLT.out];exact HLR.out)];exact rfl
       clear hq2
       go_wp2_with fail
       refine(zif (w.heap.size+1) lt _ cap vt n W1 R1.out (by omega)).mono ?_;rintro e W2 ⟨rfl,hr2,hk2⟩;have hk3:∀ j,j<W1.heap.size->j≠w.heap.size+1->W2.heap[j]?=W1.heap[j]?:=fun j h1 h2=>hk2.block j h1 h2 (fun e=>by cases e);have REL:Hid (∃ (cap':Nat) (ts':List Tok) (f':Nat) (vt':Value),cap'<=L.length∧ts'.length<=1024∧W2.heap[w.heap.size]?=some (.cells #[.int .i64 0,.int .i64 0] 28 (0,0))∧W2.heap[w.heap.size+1]?=some (.cells (lxC (lastT ts') (.slice (some ⟨w.heap.size+2,0,none⟩) L.length cap) cap' vt') 73 (0,0))∧W2.heap[w.heap.size+2]?=some (.cells cs 5 fr)∧OwnT w.heap.size W2 vt' ts'∧Below w.heap.size w W2∧lexMu L cap' ts'<f'∧lexG L f' cap' ts'=lexO s.data.toList) :=
        ⟨cap+n,ts,f,vt,hq1,hts,(hk3 _ (zaa R0.out) (by omega)).trans R0.out,by rw[HLT.out];exact hr2,(hk3 _ (zaa R2.out) (by omega)).trans R2.out,OwnG.keep RT.out (fun j hj=>hk3 j (OwnG.lt RT.out hj).2 (fun e=>OwnG.ne RT.out R1.out (by decide) (e ▸ hj))),RB.out.trans ⟨hk2.os,hk2.tape,hk2.output,hk2.size,fun j hj=>hk3 j (Nat.lt_of_lt_of_le hj RB.out.size) (by omega)⟩,by have:=HQ2.out;omega,HNX.out⟩
       have MEA:Hid (muW L.length (w.heap.size+1) W2<muW L.length (w.heap.size+1) wr):=by
        rw[HMW.out,zee hr2];have:=HQ2.out;unfold lexMu at this ⊢;rw[HLT.out] at this ⊢;exact this
       clear hk2 hr2 hk3
       go_wp2
       exact⟨REL.out,MEA.out⟩
      ·by_cases hfull:ts.length=1024
       ·have HNO:Hid (lexO s.data.toList=([],3,cap)):=by rw[<-HGO.out,zde (by rw[HLT.out];exact HH.out) (by rw[HLT.out];exact HLR.out) hk hfull];exact rfl
        obtain⟨st,ct,hvt⟩:=OwnG.shape RT.out;rw[hfull] at hvt;subst hvt
        go_wp2_with fail
        refine(zg2 (w.heap.size+1) lt _ cap st ct k n W1 R1.out hk).mono ?_;rintro e W2 ⟨rfl,hW2⟩;rw[hW2];clear hW2
        go_wp2
        go_step3
        exact⟨rfl,3,cap,lt,_,_,HNO.out,R0.out,R1.out,RB.out,_,_,_,_,_,_,_,_,_,_,_,_,_,_,_,_,_,_,_,_,_,_,_,_,_,_,_,_,_,_,_,_,_,_,_,_,_,_,_,_,_,_,_,_,_,_,_,_,_,rfl⟩
       ·obtain⟨hq1,hq2⟩:=zja (ts:=ts) (by rw[HLT.out];exact HH.out) hp (by rw[HLT.out];exact HLR.out) (t:=⟨k,strU ((L.drop cap).take n),cap⟩) rfl;have HQ2:=hid hq2;have HNX:Hid (lexG L f (cap+n) (ts++[⟨k,strU ((L.drop cap).take n),cap⟩])=lexO s.data.toList):=by rw[<-HGO.out,zc7 (by rw[HLT.out];exact HH.out) (by rw[HLT.out];exact HLR.out) hk hfull];exact rfl
        clear hq2
        go_wp2_with fail
        refine(zie w.heap.size (w.heap.size+1) lt (w.heap.size+2) 0 cap cap L vt ts k n W1 R1.out RA.out RT.out hq1 hcap (by omega) (by omega) hk (by omega)).mono ?_;rintro e W2 ⟨rfl,vt',hr2,ht2,hk2⟩;have REL:Hid (∃ (cap':Nat) (ts':List Tok) (f':Nat) (vt':Value),cap'<=L.length∧ts'.length<=1024∧W2.heap[w.heap.size]?=some (.cells #[.int .i64 0,.int .i64 0] 28 (0,0))∧W2.heap[w.heap.size+1]?=some (.cells (lxC (lastT ts') (.slice (some ⟨w.heap.size+2,0,none⟩) L.length cap) cap' vt') 73 (0,0))∧W2.heap[w.heap.size+2]?=some (.cells cs 5 fr)∧OwnT w.heap.size W2 vt' ts'∧Below w.heap.size w W2∧lexMu L cap' ts'<f'∧lexG L f' cap' ts'=lexO s.data.toList) :=
         ⟨cap+n,ts++[⟨k,strU ((L.drop cap).take n),cap⟩],f,vt',hq1,by rw[List.length_append,List.length_singleton];omega,Kept.row hk2 RT.out R0.out (by decide) (by omega),by rw[zb5];exact hr2,Kept.row hk2 RT.out R2.out (by decide) (by omega),ht2,RB.out.trans (hk2.below RT.out (by omega) RB.out.size),by have:=HQ2.out;omega,HNX.out⟩
        have MEA:Hid (muW L.length (w.heap.size+1) W2<muW L.length (w.heap.size+1) wr):=by
         rw[HMW.out,zee hr2];have:=HQ2.out;unfold lexMu at this ⊢;rw[zb5] at this;exact this
        clear hk2 hr2 ht2
        go_wp2
        exact⟨REL.out,MEA.out⟩
     ·have HNO:Hid (lexO s.data.toList=([],er,cap)):=by rw[<-HGO.out,zdm (by rw[HLT.out];exact HH.out) (by rw[HLT.out];exact HLR.out) her];exact rfl
      have her':(er != 0)=true:=by simpa using her
      go_wp2
      go_step3
      exact⟨rfl,er,cap,lt,_,_,HNO.out,R0.out,R1.out,RB.out,_,_,_,_,_,_,_,_,_,_,_,_,_,_,_,_,_,_,_,_,_,_,_,_,_,_,_,_,_,_,_,_,_,_,_,_,_,_,_,_,_,_,_,_,_,_,_,_,_,rfl⟩
    ·skip
     have HLK:Hid (Calls Tryz.prog 36 #[.slice (some ⟨w.heap.size+2,p,none⟩) (L.length - p) (cap - p),.func (.func 33) #[.pointer (some ⟨w.heap.size+1,0,none⟩)] #[]] wr fun e w'=>e=.returned (tripV (lookR (L.drop p) (clo lt)))∧Below wr.heap.size wr w'):=by
      have h:=zid (some ⟨w.heap.size+2,p,none⟩) (cap - p) (L.drop p) (w.heap.size+1) lt wr (by have h:=BA.drop HBA.out p;rw[Nat.zero_add] at h;exact h) (by rw[List.length_drop];omega) (by rw[List.length_drop];omega) c0 c1;rw[List.length_drop] at h;exact h
     obtain⟨k,n,er,hlk⟩:∃ k n er,lookR (L.drop p) (clo lt)=(k,n,er):=⟨_,_,_,rfl⟩;have HLR:=hid hlk;clear hlk
     go_wp2_with fail
     refine(zea (w.heap.size+1) lt wr c0 c1).mono ?_;rintro e W0 ⟨rfl,hW0⟩;rw[hW0,hcl];clear hW0
     go_wp2_with fail
     refine HLK.out.mono ?_;rintro e W1 ⟨rfl,b1⟩;rw[HLR.out,tripV];clear c0 c1 c3 c4 HLK;have R0:Hid (W1.heap[w.heap.size]?=some (.cells #[.int .i64 0,.int .i64 0] 28 (0,0))):=(b1.block _ (zaa HG0.out)).trans HG0.out;have R1:Hid (W1.heap[w.heap.size+1]?=some (.cells (lxC lt (.slice (some ⟨w.heap.size+2,0,none⟩) L.length cap) p vt) 73 (0,0))):=(b1.block _ (zaa HG1.out)).trans HG1.out;have R2:Hid (W1.heap[w.heap.size+2]?=some (.cells cs 5 fr)):=(b1.block _ (zaa HG2.out)).trans HG2.out;have RT:Hid (OwnT w.heap.size W1 vt ts):=OwnG.below HT.out b1;have RB:=hid (HB.out.trans (b1.mono HB.out.size));have RA:Hid (BA W1 (some ⟨w.heap.size+2,0,none⟩) L):=BA.below HBA.out b1;have hmw:muW L.length (w.heap.size+1) wr=2 * (L.length - p)+(if clo lt=true then 1 else 0):=zee HG1.out;have HMW:Hid (muW L.length (w.heap.size+1) wr=lexMu L p ts):=by rw[hmw];unfold lexMu;rw[HLT.out];exact rfl
     clear b1 HG0 HG1 HG2 HT HB hmw HBA
     by_cases her:er=0
     ·subst her
      by_cases hk:k=0
      ·subst hk;obtain⟨hq1,hq2⟩:=zi9 (ts:=ts) (by rw[HLT.out];exact HH.out) hp (by rw[HLT.out];exact HLR.out);have HQ2:=hid hq2;have HNX:Hid (lexG L f (p+n) ts=lexO s.data.toList):=by rw[<-HGO.out,zdn (by rw[HLT.out];exact HH.out) (by rw[HLT.out];exact HLR.out)];exact rfl
       clear hq2
       go_wp2_with fail
       refine(zif (w.heap.size+1) lt _ p vt n W1 R1.out (by omega)).mono ?_;rintro e W2 ⟨rfl,hr2,hk2⟩;have hk3:∀ j,j<W1.heap.size->j≠w.heap.size+1->W2.heap[j]?=W1.heap[j]?:=fun j h1 h2=>hk2.block j h1 h2 (fun e=>by cases e);have REL:Hid (∃ (p':Nat) (ts':List Tok) (f':Nat) (vt':Value),p'<=L.length∧ts'.length<=1024∧W2.heap[w.heap.size]?=some (.cells #[.int .i64 0,.int .i64 0] 28 (0,0))∧W2.heap[w.heap.size+1]?=some (.cells (lxC (lastT ts') (.slice (some ⟨w.heap.size+2,0,none⟩) L.length cap) p' vt') 73 (0,0))∧W2.heap[w.heap.size+2]?=some (.cells cs 5 fr)∧OwnT w.heap.size W2 vt' ts'∧Below w.heap.size w W2∧lexMu L p' ts'<f'∧lexG L f' p' ts'=lexO s.data.toList) :=
        ⟨p+n,ts,f,vt,hq1,hts,(hk3 _ (zaa R0.out) (by omega)).trans R0.out,by rw[HLT.out];exact hr2,(hk3 _ (zaa R2.out) (by omega)).trans R2.out,OwnG.keep RT.out (fun j hj=>hk3 j (OwnG.lt RT.out hj).2 (fun e=>OwnG.ne RT.out R1.out (by decide) (e ▸ hj))),RB.out.trans ⟨hk2.os,hk2.tape,hk2.output,hk2.size,fun j hj=>hk3 j (Nat.lt_of_lt_of_le hj RB.out.size) (by omega)⟩,by have:=HQ2.out;omega,HNX.out⟩
       have MEA:Hid (muW L.length (w.heap.size+1) W2<muW L.length (w.heap.size+1) wr):=by
        rw[HMW.out,zee hr2];have:=HQ2.out;unfold lexMu at this ⊢;rw[HLT.out] at this ⊢;exact this
       clear hk2 hr2 hk3
       go_wp2
       exact⟨REL.out,MEA.out⟩
      ·by_cases hfull:ts.length=1024
       ·have HNO:Hid (lexO s.data.toList=([],3,p)):=by rw[<-HGO.out,zde (by rw[HLT.out];exact HH.out) (by rw[HLT.out];exact HLR.out) hk hfull];exact rfl
        obtain⟨st,ct,hvt⟩:=OwnG.shape RT.out;rw[hfull] at hvt;subst hvt
        go_wp2_with fail
        refine(zg2 (w.heap.size+1) lt _ p st ct k n W1 R1.out hk).mono ?_;rintro e W2 ⟨rfl,hW2⟩;rw[hW2];clear hW2
        go_wp2
        go_step3
        exact⟨rfl,3,p,lt,_,_,HNO.out,R0.out,R1.out,RB.out,_,_,_,_,_,_,_,_,_,_,_,_,_,_,_,_,_,_,_,_,_,_,_,_,_,_,_,_,_,_,_,_,_,_,_,_,_,_,_,_,_,_,_,_,_,_,_,_,_,rfl⟩
       ·obtain⟨hq1,hq2⟩:=zja (ts:=ts) (by rw[HLT.out];exact HH.out) hp (by rw[HLT.out];exact HLR.out) (t:=⟨k,strU ((L.drop p).take n),p⟩) rfl;have HQ2:=hid hq2;have HNX:Hid (lexG L f (p+n) (ts++[⟨k,strU ((L.drop p).take n),p⟩])=lexO s.data.toList):=by rw[<-HGO.out,zc7 (by rw[HLT.out];exact HH.out) (by rw[HLT.out];exact HLR.out) hk hfull];exact rfl
        clear hq2
        go_wp2_with fail
        refine(zie w.heap.size (w.heap.size+1) lt (w.heap.size+2) 0 cap p L vt ts k n W1 R1.out RA.out RT.out hq1 hcap (by omega) (by omega) hk (by omega)).mono ?_;rintro e W2 ⟨rfl,vt',hr2,ht2,hk2⟩;have REL:Hid (∃ (p':Nat) (ts':List Tok) (f':Nat) (vt':Value),p'<=L.length∧ts'.length<=1024∧W2.heap[w.heap.size]?=some (.cells #[.int .i64 0,.int .i64 0] 28 (0,0))∧W2.heap[w.heap.size+1]?=some (.cells (lxC (lastT ts') (.slice (some ⟨w.heap.size+2,0,none⟩) L.length cap) p' vt') 73 (0,0))∧W2.heap[w.heap.size+2]?=some (.cells cs 5 fr)∧OwnT w.heap.size W2 vt' ts'∧Below w.heap.size w W2∧lexMu L p' ts'<f'∧lexG L f' p' ts'=lexO s.data.toList) :=
         ⟨p+n,ts++[⟨k,strU ((L.drop p).take n),p⟩],f,vt',hq1,by rw[List.length_append,List.length_singleton];omega,Kept.row hk2 RT.out R0.out (by decide) (by omega),by rw[zb5];exact hr2,Kept.row hk2 RT.out R2.out (by decide) (by omega),ht2,RB.out.trans (hk2.below RT.out (by omega) RB.out.size),by have:=HQ2.out;omega,HNX.out⟩
        have MEA:Hid (muW L.length (w.heap.size+1) W2<muW L.length (w.heap.size+1) wr):=by
         rw[HMW.out,zee hr2];have:=HQ2.out;unfold lexMu at this ⊢;rw[zb5] at this;exact this
        clear hk2 hr2 ht2
        go_wp2
        exact⟨REL.out,MEA.out⟩
     ·have HNO:Hid (lexO s.data.toList=([],er,p)):=by rw[<-HGO.out,zdm (by rw[HLT.out];exact HH.out) (by rw[HLT.out];exact HLR.out) her];exact rfl
      have her':(er != 0)=true:=by simpa using her
      go_wp2
      go_step3
      exact⟨rfl,er,p,lt,_,_,HNO.out,R0.out,R1.out,RB.out,_,_,_,_,_,_,_,_,_,_,_,_,_,_,_,_,_,_,_,_,_,_,_,_,_,_,_,_,_,_,_,_,_,_,_,_,_,_,_,_,_,_,_,_,_,_,_,_,_,rfl⟩
def numO (t:Tok):Option Nat:=if t.kind=2 then decO t.text.data.toList else none
def valO (t:Tok):Option (List UInt8):=if t.kind=3 then(match unqO t.text.data.toList with|some (v,n)=>if n=t.text.size then some v else none|none=>none) else none
def numV (o:Option Nat) (e:Int):Value:=match o with|none=>.tuple #[.int .i64 0,.int .i64 e] | some n=>.tuple #[.int .i64 n,.int .i64 0]
theorem zmv (t:Tok)(w:World):Calls Tryz.prog 165 #[.agg t.cells] w fun e w'=>e=.returned (numV (numO t) 201)∧Below w.heap.size w w':=by
 unfold Tok.cells
 go_enter Tryz.func165,Tryz.ntmps165
 go_wp2_with fail
 refine zaf (fun W=>W.heap[w.heap.size]?=some (.cells #[.int .i64 t.kind,.string t.text,.int .i64 t.pos] 38 (0,0))∧Below w.heap.size w W) ⟨heap_alloc_new _ _,(Below.refl _ _).alloc (Nat.le_refl _) _⟩ ?_;rintro W0 ⟨hr0,b0⟩;refine(zg1 t.text W0).mono ?_;rintro e W1 ⟨rfl,b1⟩;have hr1:W1.heap[w.heap.size]?=some (.cells #[.int .i64 t.kind,.string t.text,.int .i64 t.pos] 38 (0,0)):=(b1.block _ (zaa hr0)).trans hr0;have c0:W1.cell? ⟨w.heap.size,0,none⟩=some (.int .i64 t.kind):=(cell_of_row _ _ 0 _ _ _ hr1).trans rfl;have bw:Below w.heap.size w W1:=b0.trans (b1.mono b0.size);clear hr0 hr1 b0 b1
 cases hk:(t.kind == 2)
 ·have hk':(t.kind != 2)=true:=by rw[bne,hk];rfl
  have HN:Hid (numO t=none):=by unfold numO;rw[if_neg (by simpa using hk)];exact rfl
  clear hk;unfold decV
  go_wp2
  go_ret2
  refine⟨?_,bw⟩;rw[HN.out];exact rfl
 ·have hk':(t.kind != 2)=false:=by rw[bne,hk];rfl
  have HN:Hid (numO t=decO t.text.data.toList):=by unfold numO;rw[if_pos (by simpa using hk)];exact rfl
  clear hk
  cases hd:decO t.text.data.toList with
  | none=>
   have HX:Hid (numO t=none):=by rw[HN.out,hd];exact rfl
   unfold decV
   go_wp2
   go_ret2
   refine⟨?_,bw⟩;rw[HX.out];exact rfl
  | some n=>
   have HX:Hid (numO t=some n):=by rw[HN.out,hd];exact rfl
   unfold decV
   go_wp2
   go_ret2
   refine⟨?_,bw⟩;rw[HX.out];exact rfl
theorem zkr (t:Tok)(w:World)(hs:t.text.size<=100000):Calls Tryz.prog 106 #[.agg t.cells] w fun e w'=>e=.returned (strV (valO t) 200)∧Below w.heap.size w w':=by
 unfold Tok.cells;obtain⟨cap,WT,cs,fr,hcv,bT,hrT,hcs,hcap⟩:=zkq t.text (w.alloc (.cells #[.int .i64 t.kind,.string t.text,.int .i64 t.pos] 38));have hsz:(w.alloc (.cells #[.int .i64 t.kind,.string t.text,.int .i64 t.pos] 38)).heap.size=w.heap.size+1:=by simp
 have HTL:Hid (t.text.size=t.text.data.toList.length):=by show t.text.size=t.text.data.toList.length;simp
 rw[hsz] at hcv bT hrT;have HBA:Hid (BA WT (some ⟨w.heap.size+1,0,none⟩) t.text.data.toList):=BA.of_row hrT hcs;have bw0:Below w.heap.size w WT:=((Below.refl _ _).alloc (Nat.le_refl _) _).trans (bT.mono (by omega));have hr0:WT.heap[w.heap.size]?=some (.cells #[.int .i64 t.kind,.string t.text,.int .i64 t.pos] 38 (0,0)):=(bT.block _ (by omega)).trans (heap_alloc_new _ _);clear hrT hcs bT hsz
 go_enter Tryz.func106,Tryz.ntmps106
 go_wp2_with fail
 have HU:Hid (Calls Tryz.prog 94 #[.slice (some ⟨w.heap.size+1,0,none⟩) t.text.size cap] WT fun e w'=>UnqP WT.heap.size w' (unqO t.text.data.toList) e∧Below WT.heap.size WT w'):=by
  have:=zfa (some ⟨w.heap.size+1,0,none⟩) cap t.text.data.toList WT HBA.out (by have:=HTL.out;omega) (by have:=HTL.out;omega);rw[<-HTL.out] at this;exact this
 refine HU.out.mono ?_;rintro e W1 ⟨hP,b1⟩;have hr1:W1.heap[w.heap.size]?=some (.cells #[.int .i64 t.kind,.string t.text,.int .i64 t.pos] 38 (0,0)):=(b1.block _ (zaa hr0)).trans hr0;have c0:W1.cell? ⟨w.heap.size,0,none⟩=some (.int .i64 t.kind):=(cell_of_row _ _ 0 _ _ _ hr1).trans rfl;have c1:W1.cell? ⟨w.heap.size,1,none⟩=some (.string t.text):=(cell_of_row _ _ 1 _ _ _ hr1).trans rfl;have bw:Below w.heap.size w W1:=bw0.trans (b1.mono bw0.size);clear hr0 hr1 b1 bw0 HU HBA hcv;have HNK:Hid (¬ t.kind=3->valO t=none):=fun h=>by unfold valO;rw[if_neg h]
 have HVK:Hid (t.kind=3->valO t=match unqO t.text.data.toList with|some (v,n)=>if n=t.text.size then some v else none|none=>none):=fun h=>by unfold valO;rw[if_pos h]
 cases hu:unqO t.text.data.toList with
 | none=>
  rw[hu] at hP;unfold UnqP at hP;subst hP;have HX:Hid (valO t=none):=by
   by_cases hk:t.kind=3
   ·exact(HVK.out hk).trans (by rw[hu])
   ·exact HNK.out hk
  clear HNK HVK hu
  cases hk:(t.kind == 3)
  ·have hk':(t.kind != 3)=true:=by rw[bne,hk];rfl
   clear hk
   go_wp2
   go_ret2
   refine⟨?_,bw⟩;rw[HX.out];exact rfl
  ·have hk':(t.kind != 3)=false:=by rw[bne,hk];rfl
   clear hk
   go_wp2
   go_ret2
   refine⟨?_,bw⟩;rw[HX.out];exact rfl
 | some p=>
  obtain⟨v,n⟩:=p;rw[hu] at hP;obtain⟨u,rfl,hO⟩:=hP;have hn:=zeo hu;have hn0:((n:Int) == 0)=false:=by rw[beq_eq_false_iff_ne];omega
  obtain⟨su,cu,rfl,hRu,-,-,-⟩:=OwnG.rows elB hO;have hcv:=zfj (BA.of_rows hRu) cu
  cases hk:(t.kind == 3)
  ·have hk':(t.kind != 3)=true:=by rw[bne,hk];rfl
   have HX:Hid (valO t=none):=HNK.out (by simpa using hk);clear hk HNK HVK hu
   go_wp2
   go_ret2
   refine⟨?_,bw⟩;rw[HX.out];exact rfl
  ·have hk':(t.kind != 3)=false:=by rw[bne,hk];rfl
   have HV:Hid (valO t=if n=t.text.size then some v else none):=(HVK.out (by simpa using hk)).trans (by rw[hu]);clear hk HNK HVK hu
   by_cases hlt:n<t.text.size
   ·have HX:Hid (valO t=none):=by rw[HV.out,if_neg (by omega)];exact rfl
    have hd:(n:Int)<t.text.size:=by omega
    clear HV
    go_wp2
    go_ret2
    refine⟨?_,bw⟩;rw[HX.out];exact rfl
   ·have HX:Hid (valO t=some v):=by rw[HV.out,if_pos (by have:=HTL.out;omega)];exact rfl
    have hd:¬ (n:Int)<t.text.size:=by omega
    clear HV
    go_wp2
    go_ret2
    refine⟨?_,bw⟩;rw[HX.out];exact rfl
def tkEq (a b:Tok):Bool:=(a.kind == b.kind) && (a.text.toList == b.text.toList)
theorem zhp {α:Type}{eq:α->α->Bool}(h:∀ a,eq a a=true):∀ l:List α,eqAll eq l l=true
 | []=>rfl
 | a::r=>by rw[eqAll,h a,zhp h r];rfl
theorem zks {α:Type}{eq:α->α->Bool}{r q:List α}(h:¬ r.length=q.length):eqAll eq r q=false:=by
 rw[<-Bool.not_eq_true];exact fun hh=>h (zgz hh)
theorem zkt {α:Type}{eq:α->α->Bool}{r q:List α}{i:Nat}{a b:α}(ha:r[i]?=some a)(hb:q[i]?=some b)(h:eq a b=false):eqAll eq r q=false:=by
 rw[<-Bool.not_eq_true];intro hh;have:=(zfh (zgz hh)).1 hh i a b ha hb;rw[h] at this
 cases this
theorem zjb (a b:Tok)(w:World):Calls Tryz.prog 91 #[.agg a.cells,.agg b.cells] w fun e w'=>e=.returned (.bool (tkEq a b))∧Below w.heap.size w w':=by
 unfold Tok.cells
 go_enter Tryz.func91,Tryz.ntmps91
 go_wp2
 all_goals go_ret
 all_goals (refine⟨za9 ?_,((Below.refl _ _).alloc (Nat.le_refl _) _).alloc (by simp) _⟩;simp_all [tkEq])
theorem zo3 (sp tp:Option Addr)(c1 c2:Nat)(xs ys:List Tok)(w:World)(h1:RowsT w sp xs)(h2:RowsT w tp ys)(hl:xs.length<=1000000)(hlc:ys.length<=1000000) :
  Calls Tryz.prog 90 #[.slice sp xs.length c1,.slice tp ys.length c2,.func (.func 91) #[] #[]] w fun e w'=>e=.returned (.bool (eqAll tkEq xs ys))∧Below w.heap.size w w':=by
 have H1:=hid h1;have H2:=hid h2;clear h1 h2
 by_cases hlen:xs.length=ys.length
 ·have HIF:Hid (eqAll tkEq xs ys=true ↔ ∀ (i:Nat) a b,xs[i]?=some a->ys[i]?=some b->tkEq a b=true):=zfh hlen;have hln:((xs.length:Int) != (ys.length:Int))=false:=by simp;omega
  have HLEN:=hid hlen;clear hlen
  go_enter Tryz.func90,Tryz.ntmps90
  go_wp2
  go_loopw [17] (fun i wr=>∃ t:Nat,t<=xs.length∧i=.int .i64 t∧Below w.heap.size w wr∧∀ (j:Nat) (a b:Tok),j<t->xs[j]?=some a->ys[j]?=some b->tkEq a b=true) (fun i _=>xs.length - (intOf i).toNat)
  case atStart=>exact⟨0,Nat.zero_le _,rfl,Below.refl _ _,fun j a b hj=>by omega⟩
  case round=>
   obtain⟨t,ht,rfl,hB,hz⟩:=hrel;have HZ:=hid hz;clear hz
   by_cases hlt:t<xs.length
   ·have hlt2:t<ys.length:=by have:=HLEN.out;omega
    have hd:decide ((t:Int)<xs.length)=true:=by simp;omega
    have hd2:decide ((t:Int)<ys.length)=true:=by simp;omega
    obtain⟨b1,f1,rfl,-⟩:=H1.out (by omega);obtain⟨b2,f2,rfl,-⟩:=H2.out (by omega);obtain⟨x,hx⟩:∃ x,xs[t]?=some x:=⟨_,List.getElem?_eq_getElem hlt⟩;obtain⟨y,hy⟩:∃ y,ys[t]?=some y:=⟨_,List.getElem?_eq_getElem hlt2⟩;obtain⟨k0,k1,k2⟩:=zcn (RowsAt.below H1.out hB) hx;obtain⟨l0,l1,l2⟩:=zcn (RowsAt.below H2.out hB) hy;have lt2:b2<wr.heap.size:=block_lt_of_cell l0;have HX:=hid hx;have HY:=hid hy;clear hx hy;have HBB:Hid (Below w.heap.size w ((wr.alloc (.cells #[.int .i64 x.kind,.string x.text,.int .i64 x.pos] 38)).alloc (.cells #[.int .i64 y.kind,.string y.text,.int .i64 y.pos] 38))):=(hB.alloc hB.size _).alloc (by simp;exact Nat.le_succ_of_le hB.size) _
    cases hq:tkEq x y
    ·have HNO:Hid (eqAll tkEq xs ys=false):=zkt HX.out HY.out hq
     go_wp2_with (go_at_call 91;refine(zjb x y _).mono ?_;rintro e W10 ⟨rfl,b10⟩;rw[hq])
     go_ret
     exact⟨za9 HNO.out.symm,HBB.out.trans (b10.mono HBB.out.size)⟩
    ·have HNX:Hid (∀ (j:Nat) (a b:Tok),j<t+1->xs[j]?=some a->ys[j]?=some b->tkEq a b=true):=fun j a b hj ha hb=>by
      by_cases hjt:j<t
      ·exact HZ.out j a b hjt ha hb
      ·obtain rfl:j=t:=by omega
       rw[HX.out] at ha;rw[HY.out] at hb;injection ha with ha;injection hb with hb;rw[<-ha,<-hb];exact hq
     go_wp2_with (go_at_call 91;refine(zjb x y _).mono ?_;rintro e W10 ⟨rfl,b10⟩;rw[hq])
     exact⟨⟨t+1,by omega,by go_num,HBB.out.trans (b10.mono HBB.out.size),HNX.out⟩,by simp[intOf];omega⟩
   ·have hd:decide ((t:Int)<xs.length)=false:=by simp;omega
    have HYES:Hid (eqAll tkEq xs ys=true):=HIF.out.2 fun j a b ha hb=>HZ.out j a b (by have:=(List.getElem?_eq_some_iff.1 ha).1;omega) ha hb
    go_wp2
    go_ret
    exact⟨za9 HYES.out.symm,hB⟩
 ·have hln:((xs.length:Int) != (ys.length:Int))=true:=by simp;omega
  have HNO:Hid (eqAll tkEq xs ys=false):=zks hlen
  go_enter Tryz.func90,Tryz.ntmps90
  go_wp2
  go_ret
  exact⟨za9 HNO.out.symm,Below.refl _ _⟩
theorem zo4 (sp tp:Option Addr)(c1 c2:Nat)(xs ys:List Tok)(w:World)(h1:RowsT w sp xs)(h2:RowsT w tp ys)(hl:xs.length<=1000000)(hlc:ys.length<=1000000) :
  Calls Tryz.prog 60 #[.slice sp xs.length c1,.slice tp ys.length c2] w fun e w'=>e=.returned (.bool (eqAll tkEq xs ys))∧Below w.heap.size w w':=by
 have H1:=hid h1;have H2:=hid h2;clear h1 h2
 go_enter Tryz.func60,Tryz.ntmps60
 go_wp2_with fail
 refine(zo3 sp tp c1 c2 xs ys w H1.out H2.out hl hlc).mono ?_;rintro e W ⟨rfl,b⟩
 go_wp2
 go_ret
 exact⟨rfl,b⟩
theorem zmw (w:World)(n m:Nat):(w.drewN n).drewN m=w.drewN (n+m):=by simp[World.drewN,Nat.add_assoc]
def alnB (t:Tok):Bool:=match (lexO t.text.data.toList).1 with
 | []=>false
 | x::_=>tkEq x t
theorem zmx (t:Tok)(w:World):Calls Tryz.prog 35 #[.agg t.cells] w fun e w'=>e=.returned (.bool (alnB t))∧Below w.heap.size w w':=by
 unfold Tok.cells
 go_enter Tryz.func35,Tryz.ntmps35
 go_wp2_with fail
 refine zaf (fun W1=>Below w.heap.size w W1∧W1.heap[w.heap.size]?=some (.cells t.cells 38 (0,0))∧W1.heap.size=w.heap.size+1) ⟨(Below.refl _ _).alloc (Nat.le_refl _) _,heap_alloc_new _ _,by simp⟩ ?_;intro W1 ⟨b1,r1,z1⟩;refine(zmu t.text W1).mono ?_;rintro e W2 ⟨⟨v,rfl,o2⟩,b2⟩;obtain⟨sp,cap,rfl,R2,hn,hc,hm⟩:=OwnG.rows elT o2;have bw2:Below w.heap.size w W2:=b1.trans (b2.mono b1.size);have row2:W2.heap[w.heap.size]?=some (.cells t.cells 38 (0,0)):=(b2.block _ (by omega)).trans r1;clear r1 b1 b2 o2 z1;have BW:Hid (Below w.heap.size w W2):=bw2;have RR:Hid (RowsT W2 sp (lexO t.text.data.toList).1):=R2;have AL:Hid (alnB t=match (lexO t.text.data.toList).1 with
  | []=>false
  | x::_=>tkEq x t):=rfl
 clear bw2 R2;generalize lexO t.text.data.toList=r at hn hc RR AL ⊢;obtain⟨ts,er,p⟩:=r
 cases ts with
 | nil=>
  have hR:Hid (alnB t=false):=AL.out;clear AL RR hn hc hm
  go_wp2
  go_region
  go_wp2
  go_ret
  exact⟨za9 hR.out.symm,(BW.out.alloc BW.out.size _).drew⟩
 | cons x xs=>
  have hR:Hid (alnB t=tkEq x t):=AL.out;obtain⟨bl,off,rfl,hcc⟩:=RR.out (by simp);have hcap:1<=cap:=by simp at hc;omega
  have HC:Hid (∀ j u,x.cells[j]?=some u->W2.cell? ⟨bl,off+j,none⟩=some u):=fun j u hu=>(by simpa using hcc 0 x rfl j u hu);have ROW:Hid (W2.heap[w.heap.size]?=some (.cells t.cells 38 (0,0))):=row2;clear AL RR hn hc row2 hcc
  go_wp2
  refine zdd (fun W=>Below w.heap.size w W∧W.heap[w.heap.size]?=some (.cells t.cells 38 (0,0))∧∀ j u,x.cells[j]?=some u->W.cell? ⟨bl,off+j,none⟩=some u) ⟨BW.out.alloc BW.out.size _,?_,?_⟩ ?_
  ·exact(((Below.refl W2.heap.size W2).alloc (Nat.le_refl _) _).block _ (zaa ROW.out)).trans ROW.out
  ·exact fun j u hu=>(((Below.refl W2.heap.size W2).alloc (Nat.le_refl _) _).cell (block_lt_of_cell (HC.out j u hu))).trans (HC.out j u hu)
  clear BW HC ROW;intro W ⟨bw,row,hcc⟩;have R3:Hid (RowsT (W.alloc (.cells t.cells 38)).drew (some ⟨bl,off,none⟩) [x]):=fun _=>⟨bl,off,rfl,fun i y hy j u hu=>by
   have hi:i=0:=by have:=(List.getElem?_eq_some_iff.1 hy).1;simp at this;omega
   subst hi;have:=hcc j u (by rw[List.getElem?_cons_zero] at hy;injection hy with hy;rw[hy];exact hu);rw[Nat.zero_mul,Nat.add_zero];exact((((Below.refl W.heap.size W).alloc (Nat.le_refl _) _).drew).cell (block_lt_of_cell this)).trans this⟩
  have R4:Hid (RowsT (W.alloc (.cells t.cells 38)).drew (some ⟨W.heap.size,0,none⟩) [t]):=fun _=>⟨W.heap.size,0,rfl,fun i y hy j u hu=>by
   have hi:i=0:=by have:=(List.getElem?_eq_some_iff.1 hy).1;simp at this;omega
   subst hi;rw[List.getElem?_cons_zero] at hy;injection hy with hy;subst hy;exact(cell_of_row _ _ _ _ _ _ (heap_alloc_new _ _)).trans (by simpa using hu)⟩
  have BW:Hid (Below w.heap.size w (W.alloc (.cells t.cells 38)).drew):=(bw.alloc bw.size _).drew;have c0:W.cell? ⟨w.heap.size,0,none⟩=some (.int .i64 t.kind):=(cell_of_row _ _ 0 _ _ _ row).trans rfl;have c1:W.cell? ⟨w.heap.size,1,none⟩=some (.string t.text):=(cell_of_row _ _ 1 _ _ _ row).trans rfl;have c2:W.cell? ⟨w.heap.size,2,none⟩=some (.int .i64 t.pos):=(cell_of_row _ _ 2 _ _ _ row).trans rfl;clear row hcc bw;unfold Tok.cells at R3 R4 BW
  go_region_with (refine(zo4 (some ⟨bl,off,none⟩) (some ⟨W.heap.size,0,none⟩) cap 1 [x] [t] _ R3.out R4.out (by simp) (by simp)).mono ?_;rintro e W5 ⟨rfl,b5⟩)
  all_goals (go_wp2;go_ret;exact⟨za9 (by rw[hR.out];simp[eqAll]),BW.out.trans (b5.mono BW.out.size)⟩)
end Go.Proofs.YtmclgbkijeidaaaGreatDoor
