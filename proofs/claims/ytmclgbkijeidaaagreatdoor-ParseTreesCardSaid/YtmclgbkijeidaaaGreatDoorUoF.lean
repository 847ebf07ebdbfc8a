import Derived.Test.YtmclgbkijeidaaaGreatDoorUoE
import Derived.Test.YtmclgbkijeidaaaGreatDoorUoC
import Derived.WalkSmall
namespace Go.Proofs.YtmclgbkijeidaaaGreatDoor
set_option maxRecDepth 100000
set_option maxHeartbeats 4000000
open Go.RowKit
def chkF:Tok->List Tok->Bool
 | last,[]=>!clo last
 | last,t::r=>if bareB t then(if clo last then chkF t r else false) else if alnB t then chkF t r else false
def chkO (ts:List Tok):Int:=if 1024<ts.length then 2 else if chkF ⟨0,⟨#[]⟩,0⟩ ts then 0 else 2
structure ChF (w:World) (K:Nat) (last x:Tok) (W:World):Prop where
 b:Below w.heap.size w W
 l:W.heap[w.heap.size]?=some (.cells last.cells 70 (0,0))
 x:W.heap[K]?=some (.cells x.cells 38 (0,0))
theorem ChF.below {w:World}{K:Nat}{last x:Tok}{W W':World}(h:ChF w K last x W)(hb:Below W.heap.size W W'):ChF w K last x W' :=
 ⟨h.b.trans (hb.mono h.b.size),(hb.block _ (zaa h.l)).trans h.l,(hb.block _ (zaa h.x)).trans h.x⟩
theorem ChF.c {w:World}{K:Nat}{last x:Tok}{W:World}(h:ChF w K last x W):W.cell? ⟨K,0,none⟩=some (.int .i64 x.kind)∧W.cell? ⟨K,1,none⟩=some (.string x.text)∧W.cell? ⟨K,2,none⟩=some (.int .i64 x.pos) :=
 ⟨Yp 0 h.x rfl,Yp 1 h.x rfl,Yp 2 h.x rfl⟩
theorem ChF.d {w:World}{K:Nat}{last x:Tok}{W:World}(h:ChF w K last x W):W.cell? ⟨w.heap.size,0,none⟩=some (.int .i64 last.kind)∧W.cell? ⟨w.heap.size,1,none⟩=some (.string last.text)∧W.cell? ⟨w.heap.size,2,none⟩=some (.int .i64 last.pos) :=
 ⟨Yp 0 h.l rfl,Yp 1 h.l rfl,Yp 2 h.l rfl⟩
theorem ChF.z {w:World}{K:Nat}{last x:Tok}{W:World}(h:ChF w K last x W)(j:Nat):W.frozen? ⟨w.heap.size,j,none⟩=false:=Yj _ _ _ _ _ h.l
theorem zik (sp:Option Addr)(cap:Nat)(ts:List Tok)(w:World)(hr:RowsT w sp ts)(hm:ts.length<=100000) :
  Calls Tryz.prog 19 #[.slice sp ts.length cap] w fun e w'=>e=.returned (.int .i64 (chkO ts))∧Below w.heap.size w w':=by
 have HR:=J hr;clear hr
 go_enter Tryz.func19,Tryz.ntmps19
 go_wp2
 refine wp_scope_jumps 0 (fun a' w'=>chkO ts=2∧Below w.heap.size w w'∧∃ u0 u1 u2 u3 u4 u5 u6 u7 u8 u9 aJ ax aF ab al ar an ai ap af aG aD aE aH ac ag au ay aj am av aw az aI ae aC ao ah aq:Value,a'={ tmps:=#[u0,u1,u2,u3,u4,u5,u6,u7,u8,u9,aJ,ax,aF,ab,al,ar,an,ai,ap,af,aG,aD,aE,aH,ac,ag,au,ay,aj,am,av,aw,az,aI,ae,aC,ao,ah,aq],defers:=[] }) (fun _ _=>0) rfl ?_ ?_
 rotate_left
 ·rintro a' w' ⟨hn,hb,u0,u1,u2,u3,u4,u5,u6,u7,u8,u9,aJ,ax,aF,ab,al,ar,an,ai,ap,af,aG,aD,aE,aH,ac,ag,au,ay,aj,am,av,aw,az,aI,ae,aC,ao,ah,aq,rfl⟩;have A:=J hn;clear hn
  go_wp2
  simp only[Exit.jump]
  go_ret
  refine⟨?_,hb⟩;rw[A.out];exact rfl
 by_cases h4:1024<ts.length
 ·have A:Hid (chkO ts=2):=by unfold chkO;rw[if_pos h4];exact rfl
  have aK:(ts.length:Int) > 1024:=by omega
  clear h4
  go_wp2
  go_step3
  exact⟨rfl,A.out,(Yb _ _).alloc (Ya _) _,_,_,_,_,_,_,_,_,_,_,_,_,_,_,_,_,_,_,_,_,_,_,_,_,_,_,_,_,_,_,_,_,_,_,_,_,_,_,_,rfl⟩
 have aK:¬ (ts.length:Int) > 1024:=by omega
 have HO:Hid (∀ b,chkF ⟨0,⟨#[]⟩,0⟩ ts=b->chkO ts=if b then 0 else 2):=fun b hb=>by unfold chkO;rw[if_neg h4,hb]
 clear h4
 go_wp2
 go_loopw [13] (fun i wr=>∃ (t:Nat) (y:Tok),t<=ts.length∧i=.int .i64 t∧wr.heap[w.heap.size]?=some (.cells y.cells 70 (0,0))∧Below w.heap.size w wr∧chkF y (ts.drop t)=chkF ⟨0,⟨#[]⟩,0⟩ ts) (fun i _=>ts.length - (intOf i).toNat)
 case atStart=>exact⟨0,⟨0,⟨#[]⟩,0⟩,Yk _,rfl,Yd _ _,(Yb _ _).alloc (Ya _) _,rfl⟩
 case round=>
  obtain⟨t,y,ht,rfl,ak,hB,aB⟩:=hrel;have N:=J ak;have M:=J hB;have V:=J aB;clear hB aB ak
  by_cases hlt:t<ts.length
  ·have hd:decide ((t:Int)<ts.length)=true:=by simp;omega
   obtain⟨b,o,rfl,-⟩:=HR.out (by omega);obtain⟨x,hx⟩:∃ x,ts[t]?=some x:=⟨_,Yh (by omega)⟩;obtain⟨E,I,F⟩:=zf6 (RowsAt.below HR M) hx;have HD:Hid (ts.drop t=x::ts.drop (t+1)):=by
    have hg:=List.getElem?_eq_some_iff.1 hx;show ts.drop t=x::ts.drop (t+1);rw[<-List.getElem_cons_drop (h:=hlt),hg.2]
   clear hx
   go_wp2_with fail
   obtain⟨K,HK⟩:∃ K,Hid (wr.heap.size=K):=⟨_,rfl⟩;have aL:Hid (w.heap.size≠K):=fun e=>by have:=zaa N;have:=HK.out;omega
   refine zag (fun W=>ChF w K y x W) ⟨M.out.alloc M.out.size _,?_,by rw[<-HK.out];exact Yd _ _⟩ ?_
   ·exact(((Yb wr.heap.size wr).alloc (Ya _) _).block _ (zaa N)).trans N
   intro W1 f1;clear E I F M N;rw[HK.out];refine(zj9 x W1).mono ?_;rintro e W2 ⟨rfl,b2⟩;have D:Hid (ChF w K y x W2):=f1.below b2;clear f1 b2 HK;have NO:Hid (chkF y (ts.drop t)=false->chkO ts=2):=fun h=>by rw[V.out] at h;exact HO _ h
   have GO:Hid (chkF y (ts.drop t)=chkF x (ts.drop (t+1))->∀ W:World,ChF w K y x W->(∃ (t':Nat) (last':Tok),t'<=ts.length∧Value.int .i64 ((t:Int)+1)=.int .i64 t'∧(((W.setCell ⟨w.heap.size,0,none⟩ (.int .i64 x.kind)).setCell ⟨w.heap.size,1,none⟩ (.string x.text)).setCell ⟨w.heap.size,2,none⟩ (.int .i64 x.pos)).heap[w.heap.size]?=some (.cells last'.cells 70 (0,0))∧Below w.heap.size w (((W.setCell ⟨w.heap.size,0,none⟩ (.int .i64 x.kind)).setCell ⟨w.heap.size,1,none⟩ (.string x.text)).setCell ⟨w.heap.size,2,none⟩ (.int .i64 x.pos))∧chkF last' (ts.drop t')=chkF ⟨0,⟨#[]⟩,0⟩ ts)∧ts.length - (intOf (.int .i64 ((t:Int)+1))).toNat<ts.length - (intOf (.int .i64 (t:Int))).toNat):=fun h W f=>by
    have r1:(W.setCell ⟨w.heap.size,0,none⟩ (.int .i64 x.kind)).heap[w.heap.size]?=_:=Yf _ _ _ _ _ _ f.l;have r2:((W.setCell ⟨w.heap.size,0,none⟩ (.int .i64 x.kind)).setCell ⟨w.heap.size,1,none⟩ (.string x.text)).heap[w.heap.size]?=_:=Yf _ _ _ _ _ _ r1;have r3:(((W.setCell ⟨w.heap.size,0,none⟩ (.int .i64 x.kind)).setCell ⟨w.heap.size,1,none⟩ (.string x.text)).setCell ⟨w.heap.size,2,none⟩ (.int .i64 x.pos)).heap[w.heap.size]?=_:=Yf _ _ _ _ _ _ r2;refine⟨⟨t+1,x,by omega,by congr 1,r3,((f.b.setCell (p:=⟨w.heap.size,0,none⟩) (Ya _) _).setCell (p:=⟨w.heap.size,1,none⟩) (Ya _) _).setCell (p:=⟨w.heap.size,2,none⟩) (Ya _) _,by rw[<-h];exact V.out⟩,?_⟩;show ts.length - ((t:Int)+1).toNat<ts.length - (t:Int).toNat;omega
   clear HO V
   cases hbx:bareB x
   ·have h:=D.out.c;obtain⟨E,I,F⟩:=h
    go_wp2_with fail
    refine(zj9 x W2).mono ?_;rintro e U ⟨rfl,b3⟩;have F3:Hid (ChF w K y x U):=D.out.below b3;obtain⟨E,I,F⟩:=F3.out.c;rw[hbx];clear b3 D
    go_wp2_with fail
    refine(zro x U).mono ?_;rintro e X ⟨rfl,Z⟩;have C:Hid (ChF w K y x X):=F3.out.below Z;obtain⟨E,I,F⟩:=C.out.c;obtain⟨d0,d1,d2⟩:=C.out.d;have z:=C.out.z;clear Z F3
    cases hax:alnB x
    ·have A:Hid (chkO ts=2):=NO.out (by rw[HD.out,chkF,hbx,hax];exact rfl)
     go_wp2
     go_step3
     exact⟨rfl,A.out,C.out.b,_,_,_,_,_,_,_,_,_,_,_,_,_,_,_,_,_,_,_,_,_,_,_,_,_,_,_,_,_,_,_,_,_,_,_,_,_,_,_,rfl⟩
    ·have Y:=GO.out (by rw[HD.out,chkF,hbx,hax];exact rfl) X C.out;have aa:Hid _:=Y;clear Y GO
     go_wp2
     exact aa.out
   ·obtain⟨d0,d1,d2⟩:=D.out.d
    go_wp2_with fail
    refine(zfd w.heap.size y W2 d0 d1).mono ?_;rintro e U ⟨rfl,rfl⟩;obtain⟨E,I,F⟩:=D.out.c
    cases hcl:clo y
    ·have A:Hid (chkO ts=2):=NO.out (by rw[HD.out,chkF,hbx,hcl];exact rfl)
     go_wp2
     go_step3
     exact⟨rfl,A.out,D.out.b,_,_,_,_,_,_,_,_,_,_,_,_,_,_,_,_,_,_,_,_,_,_,_,_,_,_,_,_,_,_,_,_,_,_,_,_,_,_,_,rfl⟩
    ·go_wp2_with fail
     refine(zj9 x U).mono ?_;rintro e X ⟨rfl,Z⟩;have C:Hid (ChF w K y x X):=D.out.below Z;obtain⟨E,I,F⟩:=C.out.c;obtain⟨d0,d1,d2⟩:=C.out.d;have z:=C.out.z;rw[hbx];clear Z D;have Y:=GO.out (by rw[HD.out,chkF,hbx,hcl];exact rfl) X C.out;have aa:Hid _:=Y;clear Y GO
     go_wp2
     exact aa.out
  ·have hd:decide ((t:Int)<ts.length)=false:=by simp;omega
   have aA:ts.drop t=[]:=List.drop_eq_nil_iff.2 (by omega);have HE:Hid (chkO ts=if clo y then 2 else 0):=by
    have h:=V.out;rw[aA,chkF] at h;have:=HO.out _ h.symm;rw[this]
    cases clo y <;> exact rfl
   have c0:wr.cell? ⟨w.heap.size,0,none⟩=some (.int .i64 y.kind):=Yp 0 N rfl;have c1:wr.cell? ⟨w.heap.size,1,none⟩=some (.string y.text):=Yp 1 N rfl;clear aA V HO
   go_wp2_with fail
   refine(zfd w.heap.size y wr c0 c1).mono ?_;rintro e U ⟨rfl,rfl⟩
   cases hcl:clo y
   ·have A:Hid (chkO ts=0):=by rw[HE.out,hcl];exact rfl
    go_wp2
    simp only[Exit.jump]
    go_ret
    refine⟨?_,M.out⟩;rw[A.out];exact rfl
   ·have A:Hid (chkO ts=2):=by rw[HE.out,hcl];exact rfl
    go_wp2
    go_step3
    exact⟨rfl,A.out,M.out,_,_,_,_,_,_,_,_,_,_,_,_,_,_,_,_,_,_,_,_,_,_,_,_,_,_,_,_,_,_,_,_,_,_,_,_,_,_,_,rfl⟩
inductive Pt where
 | mk (kind:Int) (text:ByteArray) (num:Int) (pos frm to:Int) (kids:List Pt)
inductive Rs (α:Type) where
 | ok (v:α) (p:Nat)
 | bad (s:Int)
 | out
def Rs.bind {α β:Type}(r:Rs α) (f:α->Nat->Rs β):Rs β:=match r with
 | .ok v p=>f v p
 | .bad s=>.bad s
 | .out=>.out
def Rs.need {β:Type}(b:Bool) (s:Int) (k:Rs β):Rs β:=if b then k else .bad s
def tokZ:Tok:=⟨0,⟨#[]⟩,0⟩
section
variable (ts:List Tok)
def nxT (p:Nat):Tok:=ts.getD p tokZ
def behI (p:Nat):Int:=if p=0 then 0 else(nxT ts (p - 1)).pos+(nxT ts (p - 1)).text.size
def herI (p:Nat):Int:=if p<ts.length then(nxT ts p).pos else behI ts p
def isT (p:Nat) (s:List UInt8):Bool:=(nxT ts p).text.data.toList == s
def kepB (s:ByteArray):Bool :=
 (s.data.toList == [112,97,99,107,97,103,101]) || (s.data.toList == [105,109,112,111,114,116]) || (s.data.toList == [99,111,110,115,116]) || (s.data.toList == [118,97,114]) ||
 (s.data.toList == [116,121,112,101]) || (s.data.toList == [115,116,114,117,99,116]) || (s.data.toList == [102,117,110,99]) || (s.data.toList == [105,102]) ||
 (s.data.toList == [101,108,115,101]) || (s.data.toList == [102,111,114]) || (s.data.toList == [114,101,116,117,114,110]) || (s.data.toList == [116,114,117,101]) ||
 (s.data.toList == [102,97,108,115,101]) || (s.data.toList == [105,110,116]) || (s.data.toList == [98,111,111,108]) || (s.data.toList == [115,116,114,105,110,103])
def namB (p:Nat):Bool:=((nxT ts p).kind == 1) && !kepB (nxT ts p).text
def rowI (s:ByteArray):Int :=
 if s.data.toList == [124,124] then 0 else if s.data.toList == [38,38] then 1
 else if (s.data.toList == [61,61]) || (s.data.toList == [33,61]) || (s.data.toList == [60]) || (s.data.toList == [60,61]) || (s.data.toList == [62]) || (s.data.toList == [62,61]) then 2
 else if (s.data.toList == [43]) || (s.data.toList == [45]) then 3 else if (s.data.toList == [42]) || (s.data.toList == [47]) || (s.data.toList == [37]) then 4 else -1
def valT (t:Tok):ByteArray:=match valO t with|some x=>strU x|none=>⟨#[]⟩
def numT (t:Tok):Int:=match numO t with|some n=>n|none=>0
def leaP (k:Int) (p:Nat):Rs Pt:=.ok (.mk k (nxT ts p).text 0 (nxT ts p).pos (herI ts p) (behI ts (p+1)) []) (p+1)
def worP (k:Int) (p:Nat):Rs Pt:=.need (namB ts p) (herI ts p) (leaP ts k p)
def expP (s:List UInt8) (p:Nat) {β:Type}(k:Nat->Rs β):Rs β:=.need (isT ts p s) (herI ts p) (k (p+1))
def kinP (n:Int) (p:Nat) {β:Type}(k:Tok->Nat->Rs β):Rs β:=.need ((nxT ts p).kind == n) (herI ts p) (k (nxT ts p) (p+1))
def namP (p:Nat) {β:Type}(k:Tok->Nat->Rs β):Rs β:=.need (namB ts p) (herI ts p) (k (nxT ts p) (p+1))
def va1P (p:Nat):Rs Pt :=
 if (nxT ts p).kind == 2 then .ok (.mk 20 ⟨#[]⟩ (numT (nxT ts p)) (nxT ts p).pos (herI ts p) (behI ts (p+1)) []) (p+1)
 else if (nxT ts p).kind == 3 then .ok (.mk 21 (valT (nxT ts p)) 0 (nxT ts p).pos (herI ts p) (behI ts (p+1)) []) (p+1)
 else if isT ts p [116,114,117,101] || isT ts p [102,97,108,115,101] then leaP ts 22 p
 else .bad (herI ts p)
def valP (p:Nat):Rs Pt :=
 if isT ts p [45] then(if (nxT ts (p+1)).kind == 2 then(va1P ts (p+1)).bind fun v q=>.ok (.mk 26 (nxT ts p).text 0 (nxT ts p).pos (herI ts p) (behI ts q) [v]) q else .bad (herI ts (p+1)))
 else va1P ts p
def typP (p:Nat):Rs Pt :=
 if isT ts p [105,110,116] || isT ts p [98,111,111,108] || isT ts p [115,116,114,105,110,103] then leaP ts 10 p
 else if isT ts (p+1) [46] then(worP ts 23 p).bind fun v q=>expP ts [46] q fun q=>namP ts q fun t q=>.ok (.mk 12 t.text 0 t.pos (herI ts p) (behI ts q) [v]) q
 else worP ts 11 p
def tydP (k:Int) (p:Nat):Rs Pt:=namP ts p fun t q=>(typP ts q).bind fun v q=>.ok (.mk k t.text 0 t.pos (herI ts p) (behI ts q) [v]) q
structure Fns where
 bin:Nat->Nat->Rs Pt
 binL:Nat->Int->Pt->Nat->Rs Pt
 una:Nat->Rs Pt
 post:Nat->Rs Pt
 posL:Int->Pt->Nat->Rs Pt
 prim:Nat->Rs Pt
 argL:List Pt->Nat->Rs (List Pt)
 parL:List Pt->Nat->Rs (List Pt)
 fieL:List Pt->Nat->Rs (List Pt)
 stmt:Nat->Rs Pt
 bran:Nat->Rs Pt
 stmL:List Pt->Nat->Rs (List Pt)
 impL:List Pt->Nat->Rs (List Pt)
 decL:List Pt->Nat->Rs (List Pt)
def lisP (one:Nat->Rs Pt) (more:List Pt->Nat->Rs (List Pt)) (p:Nat):Rs (List Pt) :=
 expP ts [40] p fun q=>if isT ts q [41] then .ok [] (q+1) else(one q).bind fun v q=>(more [v] q).bind fun l q=>expP ts [41] q fun q=>.ok l q
def linP (more:List Pt->Nat->Rs (List Pt)) (p:Nat):Rs (List Pt) :=
 expP ts [123] p fun q=>(more [] q).bind fun l q=>expP ts [125] q fun q=>.ok l q
def bloP (f:Fns) (p:Nat):Rs Pt:=(linP ts f.stmL p).bind fun l q=>.ok (.mk 13 ⟨#[]⟩ 0 (herI ts p) (herI ts p) (behI ts q) l) q
def varP (f:Fns) (p:Nat):Rs Pt :=
 expP ts [118,97,114] p fun q=>namP ts q fun t q=>(typP ts q).bind fun v q=>
  if isT ts q [61] then(f.bin 0 (q+1)).bind fun x q=>.ok (.mk 4 t.text 0 t.pos (herI ts p) (behI ts q) [v,x]) q
  else .ok (.mk 4 t.text 0 t.pos (herI ts p) (behI ts q) [v]) q
def looP (f:Fns) (p:Nat):Rs Pt :=
 expP ts [102,111,114] p fun q=>(f.bin 0 q).bind fun x q=>(bloP ts f q).bind fun b q=>.ok (.mk 15 ⟨#[]⟩ 0 (herI ts p) (herI ts p) (behI ts q) [x,b]) q
def resP (f:Fns) (p:Nat):Rs Pt :=
 expP ts [114,101,116,117,114,110] p fun q=>
  if (!((nxT ts q).kind == 5)) && !isT ts q [125] then(f.bin 0 q).bind fun x q=>.ok (.mk 16 ⟨#[]⟩ 0 (herI ts p) (herI ts p) (behI ts q) [x]) q
  else .ok (.mk 16 ⟨#[]⟩ 0 (herI ts p) (herI ts p) (behI ts q) []) q
def shoP (f:Fns) (p:Nat):Rs Pt :=
 namP ts p fun t q=>expP ts [58,61] q fun q=>(f.bin 0 q).bind fun x q=>.ok (.mk 17 t.text 0 t.pos (herI ts p) (behI ts q) [x]) q
def simP (f:Fns) (p:Nat):Rs Pt :=
 (f.bin 0 p).bind fun x q=>if isT ts q [61] then(f.bin 0 (q+1)).bind fun y q=>.ok (.mk 18 ⟨#[]⟩ 0 (herI ts p) (herI ts p) (behI ts q) [x,y]) q
  else .ok (.mk 19 ⟨#[]⟩ 0 (herI ts p) (herI ts p) (behI ts q) [x]) q
def impP (p:Nat):Rs Pt:=expP ts [105,109,112,111,114,116] p fun q=>kinP ts 3 q fun t q=>.ok (.mk 2 (valT t) 0 t.pos (herI ts p) (behI ts q) []) q
def conP (p:Nat):Rs Pt :=
 expP ts [99,111,110,115,116] p fun q=>namP ts q fun t q=>expP ts [61] q fun q=>(valP ts q).bind fun v q=>.ok (.mk 3 t.text 0 t.pos (herI ts p) (behI ts q) [v]) q
def strP (f:Fns) (p:Nat):Rs Pt :=
 expP ts [116,121,112,101] p fun q=>namP ts q fun t q=>expP ts [115,116,114,117,99,116] q fun q=>(linP ts f.fieL q).bind fun l q=>.ok (.mk 5 t.text 0 t.pos (herI ts p) (behI ts q) l) q
def recP (p:Nat):Rs Pt:=namP ts p fun t q=>(worP ts 11 q).bind fun v q=>.ok (.mk 8 t.text 0 t.pos (herI ts p) (behI ts q) [v]) q
def funR (f:Fns) (fr:Int) (l:List Pt) (p:Nat):Rs Pt :=
 namP ts p fun t q=>(lisP ts (tydP ts 9) f.parL q).bind fun ps q=>
  if isT ts q [123] then(bloP ts f q).bind fun b q=>.ok (.mk 7 t.text 0 t.pos fr (behI ts q) (l++ps++[b])) q
  else(typP ts q).bind fun v q=>(bloP ts f q).bind fun b q=>.ok (.mk 7 t.text 0 t.pos fr (behI ts q) (l++ps++[v]++[b])) q
def funP (f:Fns) (p:Nat):Rs Pt :=
 expP ts [102,117,110,99] p fun q=>if isT ts q [40] then(recP ts (q+1)).bind fun v q=>expP ts [41] q fun q=>funR ts f (herI ts p) [v] q else funR ts f (herI ts p) [] q
def decP (f:Fns) (p:Nat):Rs Pt :=
 if isT ts p [99,111,110,115,116] then conP ts p else if isT ts p [118,97,114] then varP ts f p else if isT ts p [116,121,112,101] then strP ts f p
 else if isT ts p [102,117,110,99] then funP ts f p else .bad (herI ts p)
def fns:Nat->Fns
 | 0=>⟨fun _ _=>.out,fun _ _ _ _=>.out,fun _=>.out,fun _=>.out,fun _ _ _=>.out,fun _=>.out,fun _ _=>.out,fun _ _=>.out,fun _ _=>.out,fun _=>.out,fun _=>.out,fun _ _=>.out,fun _ _=>.out,fun _ _=>.out⟩
 | n+1=>{
  bin:=fun l p=>if l=5 then(fns n).una p else((fns n).bin (l+1) p).bind fun t q=>(fns n).binL l (herI ts p) t q
  binL:=fun l fr t p=>if rowI (nxT ts p).text=l then
    ((fns n).bin (l+1) (p+1)).bind fun u q=>
     if l=2 then .ok (.mk 27 (nxT ts p).text 0 (nxT ts p).pos fr (behI ts q) [t,u]) q
     else(fns n).binL l fr (.mk 27 (nxT ts p).text 0 (nxT ts p).pos fr (behI ts q) [t,u]) q
   else .ok t p
  una:=fun p=>if isT ts p [45] || isT ts p [33] then((fns n).una (p+1)).bind fun u q=>.ok (.mk 26 (nxT ts p).text 0 (nxT ts p).pos (herI ts p) (behI ts q) [u]) q else(fns n).post p
  post:=fun p=>((fns n).prim p).bind fun t q=>(fns n).posL (herI ts p) t q
  posL:=fun fr t p=>
   if isT ts p [46] then namP ts (p+1) fun x q=>(fns n).posL fr (.mk 24 x.text 0 x.pos fr (behI ts q) [t]) q
   else if isT ts p [40] then(lisP ts ((fns n).bin 0) (fns n).argL p).bind fun l q=>(fns n).posL fr (.mk 25 ⟨#[]⟩ 0 fr fr (behI ts q) ([t]++l)) q
   else .ok t p
  prim:=fun p=>
   if isT ts p [40] then((fns n).bin 0 (p+1)).bind fun t q=>expP ts [41] q fun q=>.ok t q
   else if namB ts p then leaP ts 23 p else va1P ts p
  argL:=fun l p=>if isT ts p [44] then((fns n).bin 0 (p+1)).bind fun t q=>(fns n).argL (l++[t]) q else .ok l p
  parL:=fun l p=>if isT ts p [44] then(tydP ts 9 (p+1)).bind fun t q=>(fns n).parL (l++[t]) q else .ok l p
  fieL:=fun l p=>if isT ts p [125] then .ok l p else(tydP ts 6 p).bind fun t q=>if isT ts q [125] then(fns n).fieL (l++[t]) q else kinP ts 5 q fun _ q=>(fns n).fieL (l++[t]) q
  stmt:=fun p=>
   if isT ts p [123] then bloP ts (fns n) p else if isT ts p [118,97,114] then varP ts (fns n) p else if isT ts p [105,102] then(fns n).bran p
   else if isT ts p [102,111,114] then looP ts (fns n) p else if isT ts p [114,101,116,117,114,110] then resP ts (fns n) p
   else if namB ts p && isT ts (p+1) [58,61] then shoP ts (fns n) p else simP ts (fns n) p
  bran:=fun p=>
   expP ts [105,102] p fun q=>((fns n).bin 0 q).bind fun x q=>(bloP ts (fns n) q).bind fun b q=>
    if isT ts q [101,108,115,101] then
     (if isT ts (q+1) [105,102] then(fns n).bran (q+1) else bloP ts (fns n) (q+1)).bind fun c q=>.ok (.mk 14 ⟨#[]⟩ 0 (herI ts p) (herI ts p) (behI ts q) [x,b,c]) q
    else .ok (.mk 14 ⟨#[]⟩ 0 (herI ts p) (herI ts p) (behI ts q) [x,b]) q
  stmL:=fun l p=>if isT ts p [125] then .ok l p else((fns n).stmt p).bind fun t q=>if isT ts q [125] then(fns n).stmL (l++[t]) q else kinP ts 5 q fun _ q=>(fns n).stmL (l++[t]) q
  impL:=fun l p=>if isT ts p [105,109,112,111,114,116] then(impP ts p).bind fun t q=>kinP ts 5 q fun _ q=>(fns n).impL (l++[t]) q else .ok l p
  decL:=fun l p=>if p<ts.length then(decP ts (fns n) p).bind fun t q=>kinP ts 5 q fun _ q=>(fns n).decL (l++[t]) q else .ok l p }
def filP (n:Nat) (p:Nat):Rs Pt :=
 expP ts [112,97,99,107,97,103,101] p fun q=>namP ts q fun t q=>kinP ts 5 q fun _ q=>((fns ts n).impL [] q).bind fun l q=>((fns ts n).decL l q).bind fun l q=>
  .ok (.mk 1 t.text 0 t.pos (herI ts p) (behI ts q) l) q
end
def fw {α:Type}(r:Rs α) (k:Nat):Prop:=match r with | .ok _ q=>k<=q | .bad _=>True | .out=>False
theorem z0z {α:Type}{r:Rs α}{k:Nat}(h:fw r k):r≠.out:=by rintro rfl;exact h
theorem zc1 {α:Type}{r:Rs α}{k m:Nat}(h:fw r k)(hm:m<=k):fw r m:=by
 cases r with
 | ok v q=>exact Yo hm h
 | bad s=>trivial
 | out=>exact h
theorem za4 {α β:Type}{r:Rs α}{f:α->Nat->Rs β}{k m:Nat}(h:fw r k)(hf:∀ v q,k<=q->fw (f v q) m):fw (r.bind f) m:=by
 cases r with
 | ok v q=>exact hf v q h
 | bad s=>trivial
 | out=>exact h
theorem zkm {β:Type}{b:Bool}{s:Int}{k:Rs β}{m:Nat}(h:b=true->fw k m):fw (Rs.need b s k) m:=by
 unfold Rs.need
 split
 ·rename_i hb;exact h hb
 ·trivial
theorem zbm {β:Type}{c:Prop} [Decidable c] {a b:Rs β}{m:Nat}(h:c->fw a m)(h':¬ c->fw b m):fw (if c then a else b) m:=by
 split
 ·rename_i hc;exact h hc
 ·rename_i hc;exact h' hc
section
variable {ts:List Tok}
theorem zyt {p:Nat}(h:nxT ts p≠tokZ):p<ts.length:=by
 apply Nat.lt_of_not_le;intro y;exact h (by unfold nxT;rw[List.getD_eq_getElem?_getD,List.getElem?_eq_none y];rfl)
theorem zcx {p:Nat}{s:List UInt8}(h:isT ts p s=true)(hs:s≠[]):p<ts.length:=by
 apply zyt;intro e;unfold isT at h;rw[e] at h;exact hs (eq_of_beq h).symm
theorem zg4 {p:Nat}{n:Int}(h:((nxT ts p).kind == n)=true)(hn:n≠0):p<ts.length:=by
 apply zyt;intro e;rw[e] at h;exact hn (eq_of_beq h).symm
theorem zek {p:Nat}(h:namB ts p=true):p<ts.length:=by
 unfold namB at h;rw[Bool.and_eq_true] at h;exact zg4 h.1 (by decide)
theorem zoh {p:Nat}{l:Nat}(h:rowI (nxT ts p).text=l):p<ts.length:=by
 apply zyt;intro e;rw[e] at h;have y:rowI tokZ.text = -1:=by rfl
 omega
theorem zdi {β:Type}{s:List UInt8}{p m:Nat}{k:Nat->Rs β}(hs:s≠[])(h:p<ts.length->fw (k (p+1)) m):fw (expP ts s p k) m:=zkm fun hb=>h (zcx hb hs)
theorem zjj {β:Type}{n:Int}{p m:Nat}{k:Tok->Nat->Rs β}(hn:n≠0)(h:p<ts.length->fw (k (nxT ts p) (p+1)) m):fw (kinP ts n p k) m:=zkm fun hb=>h (zg4 hb hn)
theorem zgh {β:Type}{p m:Nat}{k:Tok->Nat->Rs β}(h:p<ts.length->fw (k (nxT ts p) (p+1)) m):fw (namP ts p k) m:=zkm fun hb=>h (zek hb)
theorem zrp (k:Int)(p:Nat):fw (leaP ts k p) (p+1):=Ya _
theorem zrq (k:Int)(p:Nat):fw (worP ts k p) (p+1):=zkm fun _=>Ya _
theorem zrr (p:Nat):fw (va1P ts p) (p+1):=by
 unfold va1P;refine zbm (fun _=>Ya _) fun _=>zbm (fun _=>Ya _) fun _=>zbm (fun _=>zrp _ _) fun _=>trivial
theorem z00 (p:Nat):fw (valP ts p) (p+1):=by
 unfold valP;refine zbm (fun _=>zbm (fun _=>za4 (zrr _) fun v q h=>?_) fun _=>trivial) fun _=>zrr _;show p+1<=q;omega
theorem zrs (p:Nat):fw (typP ts p) (p+1):=by
 unfold typP;refine zbm (fun _=>zrp _ _) fun _=>zbm (fun _=>za4 (zrq _ _) fun v q h=>zdi (by simp) fun _=>zgh fun _=>?_) fun _=>zrq _ _;show p+1<=q+1+1;omega
theorem zrt (k:Int)(p:Nat):fw (tydP ts k p) (p+2):=by
 unfold tydP;refine zgh fun _=>za4 (zrs _) fun v q h=>?_;show p+2<=q;omega
theorem z01 (p:Nat):fw (impP ts p) (p+2):=by
 unfold impP;exact zdi (by simp) fun _=>zjj (by simp) fun _=>Ya _
theorem z02 (p:Nat):fw (conP ts p) (p+1):=by
 unfold conP;refine zdi (by simp) fun _=>zgh fun _=>zdi (by simp) fun _=>za4 (z00 _) fun v q h=>?_;show p+1<=q;omega
theorem z03 (p:Nat):fw (recP ts p) (p+1):=by
 unfold recP;refine zgh fun _=>za4 (zrq _ _) fun v q h=>?_;show p+1<=q;omega
structure FwA (ts:List Tok) (n:Nat):Prop where
 bin:∀ l p,l<=5->12 * (ts.length - p)+(9 - l)<=n->fw ((fns ts n).bin l p) (p+1)
 binL:∀ l fr t p,l<=4->12 * (ts.length - p)+1<=n->fw ((fns ts n).binL l fr t p) p
 una:∀ p,12 * (ts.length - p)+3<=n->fw ((fns ts n).una p) (p+1)
 post:∀ p,12 * (ts.length - p)+2<=n->fw ((fns ts n).post p) (p+1)
 posL:∀ fr t p,12 * (ts.length - p)+1<=n->fw ((fns ts n).posL fr t p) p
 prim:∀ p,12 * (ts.length - p)+1<=n->fw ((fns ts n).prim p) (p+1)
 argL:∀ l p,12 * (ts.length - p)+1<=n->fw ((fns ts n).argL l p) p
 parL:∀ l p,12 * (ts.length - p)+1<=n->fw ((fns ts n).parL l p) p
 fieL:∀ l p,12 * (ts.length - p)+1<=n->fw ((fns ts n).fieL l p) p
 stmt:∀ p,12 * (ts.length - p)+10<=n->fw ((fns ts n).stmt p) (p+1)
 bran:∀ p,12 * (ts.length - p)+1<=n->fw ((fns ts n).bran p) (p+1)
 stmL:∀ l p,12 * (ts.length - p)+11<=n->fw ((fns ts n).stmL l p) p
 impL:∀ l p,12 * (ts.length - p)+1<=n->fw ((fns ts n).impL l p) p
 decL:∀ l p,12 * (ts.length - p)+1<=n->fw ((fns ts n).decL l p) p
theorem zds {α:Type}{v:α}{k q:Nat}(h:k<=q):fw (Rs.ok v q) k:=h
theorem z04 {n p:Nat}(h:FwA ts n)(hn:p<ts.length->12 * (ts.length - (p+1))+11<=n):fw (bloP ts (fns ts n) p) (p+1):=by
 unfold bloP linP;refine za4 (k:=p+1) (zdi (by simp) fun A=>za4 (h.stmL _ _ (hn A)) fun l q y=>zdi (by simp) fun _=>zds (by omega)) fun l q y=>zds y
theorem zxh {one:Nat->Rs Pt}{more:List Pt->Nat->Rs (List Pt)}{p:Nat}(h1:p<ts.length->fw (one (p+1)) (p+1))(h2:∀ l q,p<ts.length->p+1<=q->fw (more l q) q):fw (lisP ts one more p) (p+1):=by
 unfold lisP;refine zdi (by simp) fun y=>zbm (fun _=>zds (by omega)) fun _=>za4 (h1 y) fun v q A=>za4 (h2 _ _ y A) fun l D C=>zdi (by simp) fun _=>zds (by omega)
theorem fwA (n:Nat):FwA ts n:=by
 induction n with
 | zero=>constructor <;> (intros;omega)
 | succ n ih=>
  have X:∀ p,p<ts.length->12 * (ts.length - (p+1))+11<=n->fw (varP ts (fns ts n) p) (p+1):=fun p D C=>by
   unfold varP;refine zdi (by simp) fun _=>zgh fun _=>za4 (zrs _) fun v q A=>zbm (fun _=>za4 (ih.bin _ _ (by omega) (by omega)) fun x F I=>zds (by omega)) fun _=>zds (by omega)
  have E:∀ p,(p<ts.length->12 * (ts.length - (p+1))+11<=n)->fw (bloP ts (fns ts n) p) (p+1):=fun p C=>z04 ih C
  constructor
  ·intro l p N C;show fw (if l=5 then(fns ts n).una p else((fns ts n).bin (l+1) p).bind fun t q=>(fns ts n).binL l (herI ts p) t q) (p+1);refine zbm (fun h=>ih.una _ (by omega)) fun h=>za4 (ih.bin _ _ (by omega) (by omega)) fun t q A=>zc1 (ih.binL _ _ _ _ (by omega) (by omega)) A
  ·intro l K t p N C;refine zbm (fun h=>?_) fun _=>zds (Ya _);have D:=zoh h;refine za4 (ih.bin _ _ (by omega) (by omega)) fun u q A=>zbm (fun _=>zds (by omega)) fun _=>zc1 (ih.binL _ _ _ _ N (by omega)) (by omega)
  ·intro p C;refine zbm (fun h=>?_) fun _=>ih.post _ (by omega);have D:p<ts.length:=by
    rw[Bool.or_eq_true] at h;rcases h with h|h <;> exact zcx h (by simp)
   exact za4 (ih.una _ (by omega)) fun u q A=>zds (by omega)
  ·intro p C;exact za4 (ih.prim _ (by omega)) fun t q A=>zc1 (ih.posL _ _ _ (by omega)) A
  ·intro K t p C;refine zbm (fun h=>?_) fun _=>zbm (fun h=>?_) fun _=>zds (Ya _)
   ·exact zgh fun D=>zc1 (ih.posL _ _ _ (by omega)) (by omega)
   ·have D:=zcx h (by simp);exact za4 (zxh (fun _=>zc1 (ih.bin _ _ (by omega) (by omega)) (by omega)) fun l q _ A=>ih.argL _ _ (by omega)) fun l q A=>zc1 (ih.posL _ _ _ (by omega)) (by omega)
  ·intro p C;refine zbm (fun h=>?_) fun _=>zbm (fun _=>zrp _ _) fun _=>zrr _;have D:=zcx h (by simp);exact za4 (ih.bin _ _ (by omega) (by omega)) fun t q A=>zdi (by simp) fun _=>zds (by omega)
  ·intro l p C;refine zbm (fun h=>?_) fun _=>zds (Ya _);have D:=zcx h (by simp);exact za4 (ih.bin _ _ (by omega) (by omega)) fun t q A=>zc1 (ih.argL _ _ (by omega)) (by omega)
  ·intro l p C;refine zbm (fun h=>?_) fun _=>zds (Ya _);have D:=zcx h (by simp);exact za4 (zrt _ _) fun t q A=>zc1 (ih.parL _ _ (by omega)) (by omega)
  ·intro l p C;refine zbm (fun _=>zds (Ya _)) fun _=>?_;refine za4 (zrt _ _) fun t q A=>zbm (fun h=>?_) fun _=>zjj (by simp) fun h=>zc1 (ih.fieL _ _ (by omega)) (by omega);have:=zcx h (by simp);exact zc1 (ih.fieL _ _ (by omega)) (by omega)
  ·intro p C;refine zbm (fun h=>?_) fun _=>zbm (fun h=>?_) fun _=>zbm (fun h=>ih.bran _ (by omega)) fun _=>zbm (fun h=>?_) fun _=>zbm (fun h=>?_) fun _=>zbm (fun h=>?_) fun _=>?_
   ·exact E p fun D=>by omega
   ·exact X p (zcx h (by simp)) (by have:=zcx h (by simp);omega)
   ·unfold looP;refine zdi (by simp) fun D=>za4 (ih.bin _ _ (by omega) (by omega)) fun x q A=>za4 (E q fun _=>by omega) fun b F I=>zds (by omega)
   ·unfold resP;refine zdi (by simp) fun D=>zbm (fun _=>za4 (ih.bin _ _ (by omega) (by omega)) fun x q A=>zds (by omega)) fun _=>zds (by omega)
   ·unfold shoP;refine zgh fun D=>zdi (by simp) fun _=>za4 (ih.bin _ _ (by omega) (by omega)) fun x q A=>zds (by omega)
   ·unfold simP;refine za4 (ih.bin _ _ (by omega) (by omega)) fun x q A=>zbm (fun h=>?_) fun _=>zds (by omega);have:=zcx h (by simp);exact za4 (ih.bin _ _ (by omega) (by omega)) fun y F I=>zds (by omega)
  ·intro p C;unfold fns
   dsimp only
   refine zdi (by simp) fun D=>za4 (ih.bin _ _ (by omega) (by omega)) fun x q A=>za4 (E q fun _=>by omega) fun b F I=>zbm (fun h=>?_) fun _=>zds (by omega);have:=zcx h (by simp);refine za4 (k:=F+1) (zbm (fun _=>zc1 (ih.bran _ (by omega)) (by omega)) fun _=>zc1 (E _ fun _=>by omega) (by omega)) fun c V U=>zds (by omega)
  ·intro l p C;refine zbm (fun _=>zds (Ya _)) fun _=>za4 (ih.stmt _ (by omega)) fun t q A=>zbm (fun h=>?_) fun _=>zjj (by simp) fun h=>zc1 (ih.stmL _ _ (by omega)) (by omega);have:=zcx h (by simp);exact zc1 (ih.stmL _ _ (by omega)) (by omega)
  ·intro l p C;refine zbm (fun h=>?_) fun _=>zds (Ya _);have:=zcx h (by simp);exact za4 (z01 _) fun t q A=>zjj (by simp) fun _=>zc1 (ih.impL _ _ (by omega)) (by omega)
  ·intro l p C;refine zbm (fun D=>?_) fun _=>zds (Ya _);have Z:fw (decP ts (fns ts n) p) (p+1):=by
    have Y:∀ q,p+1<=q->fw (lisP ts (tydP ts 9) (fns ts n).parL q) (q+1):=fun q A=>zxh (fun _=>zc1 (zrt _ _) (by omega)) fun l F _ I=>ih.parL _ _ (by omega);have M:∀ K l q,p+1<=q->fw (funR ts (fns ts n) K l q) (q+1):=fun K l q A=>by
     unfold funR;refine zgh fun _=>za4 (Y _ (by omega)) fun ps F I=>zbm (fun _=>za4 (E _ fun _=>by omega) fun b V U=>zds (by omega)) fun _=>za4 (zrs _) fun v V U=>za4 (E _ fun _=>by omega) fun b q3 aa=>zds (by omega)
    unfold decP;refine zbm (fun _=>z02 _) fun _=>zbm (fun _=>X p D (by omega)) fun _=>zbm (fun _=>?_) fun _=>zbm (fun _=>?_) fun _=>trivial
    ·unfold strP linP;refine zdi (by simp) fun _=>zgh fun _=>zdi (by simp) fun _=>za4 (k:=p+1) (zdi (by simp) fun _=>za4 (ih.fieL _ _ (by omega)) fun l q A=>zdi (by simp) fun _=>zds (by omega)) fun l q A=>zds A
    ·unfold funP;refine zdi (by simp) fun _=>zbm (fun _=>za4 (z03 _) fun v q A=>zdi (by simp) fun _=>zc1 (M _ _ _ (by omega)) (by omega)) fun _=>zc1 (M _ _ _ (by omega)) (by omega)
   exact za4 Z fun t q A=>zjj (by simp) fun _=>zc1 (ih.decL _ _ (by omega)) (by omega)
def filO (ts:List Tok):Rs Pt:=filP ts (12 * ts.length+12) 0
theorem zkn:filO ts≠.out:=by
 have h:=fwA (ts:=ts) (12 * ts.length+12);refine z0z (k:=0) ?_;unfold filO filP;exact zdi (by simp) fun _=>zgh fun _=>zjj (by simp) fun _=>za4 (h.impL _ _ (by omega)) fun l q _=>za4 (h.decL _ _ (by omega)) fun l q _=>zds (Yk _)
end
structure Nd where
 kind:Int
 text:ByteArray
 num:Int
 kids:List Nat
 pos:Int
 frm:Int
 to:Int
mutual
def cntP:Pt->Nat | .mk _ _ _ _ _ _ l=>1+cntL l
def cntL:List Pt->Nat | []=>0|t::r=>cntP t+cntL r
end
def kidI (i:Nat):List Pt->List Nat | []=>[] | t::r=>i::kidI (i+cntP t) r
mutual
def layP (i:Nat):Pt->List Nd | .mk k x n a f t l=>⟨k,x,n,kidI (i+1) l,a,f,t⟩::layL (i+1) l
def layL (i:Nat):List Pt->List Nd | []=>[] | t::r=>layP i t++layL (i+cntP t) r
end
def ptrC (b:Nat):Array Value:=#[.pointer (some ⟨b,0,none⟩)]
theorem elP:El 111 93 1 ptrC:=by
 have h:(Tryz.prog.info? 93).map (fun i=>(i.zero,i.size,i.bytes))=some (some (.pointer none),1,8):=by kernel_rfl
 refine⟨Tryz.underlying111,?_,fun _=>rfl,fun _=>by simp[ptrC,Value.oneCell'],by omega⟩
 cases hi:Tryz.prog.info? 93 with
 | none=>rw[hi] at h;cases h
 | some i=>
  rw[hi] at h;simp only[Option.map_some,Option.some.injEq,Prod.mk.injEq] at h;exact⟨i,_,rfl,h.1,h.2.1,by omega,rfl⟩
abbrev OwnP:=OwnG 93 1 ptrC
abbrev RowsP (w:World) (sp:Option Addr) (bs:List Nat):Prop:=RowsAt w 1 ptrC sp bs
theorem RowsAt.stay {α:Type}{w w':World}{m:Nat}{cs:α->Array Value}{sp:Option Addr}{xs:List α}(h:RowsAt w m cs sp xs)(hb:∀ q,sp=some q->w'.heap[q.block]?=w.heap[q.block]?):RowsAt w' m cs sp xs:=fun hl=>by
 obtain⟨b,o,e,hc⟩:=h hl;exact⟨b,o,e,fun i x hx j u hu=>(World.cell?_of_block (a:=⟨b,o+i * m+j,Option.none⟩) (hb ⟨b,o,Option.none⟩ e)).trans (hc i x hx j u hu)⟩
theorem zby (w:World)(g:Nat):w.grownBy w (some g):=⟨rfl,rfl,rfl,Ya _,fun _ _ _=>rfl⟩
theorem zab {w W W':World}{g:Nat}(h:w.grownBy W (some g))(h':W.grownBy W' (some g)):w.grownBy W' (some g) :=
 ⟨h'.os.trans h.os,h'.tape.trans h.tape,h'.output.trans h.output,Yo h.size h'.size,fun k y A=>(h'.block k (Yg y h.size) A).trans (h.block k y A)⟩
theorem zae {w W:World}{g:Nat}(h:Below w.heap.size w W):w.grownBy W (some g):=⟨h.os,h.tape,h.output,h.size,fun k hk _=>h.block k hk⟩
theorem zaw {w W W':World}{g:Nat}(h:w.grownBy W (some g))(h':Below w.heap.size W W'):w.grownBy W' (some g) :=
 ⟨h'.os.trans h.os,h'.tape.trans h.tape,h'.output.trans h.output,Yo h.size h'.size,fun k y A=>(h'.block k y).trans (h.block k y A)⟩
def paC (k:Int) (x:ByteArray) (n a f t:Int) (v:Value):Array Value:=#[.int .i64 k,.string x,.int .i64 n,.slice none 0 0,.int .i64 a,.int .i64 f,.int .i64 t,v]
inductive PtAt (w:World) (S:Nat->Prop):Nat->Pt->Prop
 | mk (b:Nat) (k:Int) (x:ByteArray) (n a f t:Int) (l:List Pt) (bs:List Nat) (sp:Option Addr) (cap:Nat)
  (hrow:w.heap[b]?=some (.cells (paC k x n a f t (.slice sp bs.length cap)) 113 (0,0))) (hb:S b) (hr:RowsP w sp bs) (hs:∀ q,sp=some q->S q.block)
  (hl:bs.length=l.length) (hk:∀ (i b':Nat) (t':Pt),bs[i]?=some b'->l[i]?=some t'->PtAt w S b' t'):PtAt w S b (.mk k x n a f t l)
theorem PtAt.keep {w w':World}{S S':Nat->Prop}{b:Nat}{t:Pt}(h:PtAt w S b t)(hS:∀ k,S k->S' k)(hh:∀ k,S k->w'.heap[k]?=w.heap[k]?):PtAt w' S' b t:=by
 induction h with
 | mk b k x n a f t l bs sp cap hrow hb hr hs hl hk ih=>
  exact .mk b k x n a f t l bs sp cap ((hh _ hb).trans hrow) (hS _ hb) (hr.stay fun q e=>hh _ (hs q e)) (fun q e=>hS _ (hs q e)) hl ih
def PsAt (w:World) (S:Nat->Prop) (bs:List Nat) (l:List Pt):Prop:=bs.length=l.length∧∀ (i b:Nat) (t:Pt),bs[i]?=some b->l[i]?=some t->PtAt w S b t
theorem PsAt.keep {w w':World}{S S':Nat->Prop}{bs:List Nat}{l:List Pt}(h:PsAt w S bs l)(hS:∀ k,S k->S' k)(hh:∀ k,S k->w'.heap[k]?=w.heap[k]?):PsAt w' S' bs l :=
 ⟨h.1,fun i b t y A=>(h.2 i b t y A).keep hS hh⟩
theorem PsAt.nil (w:World) (S:Nat->Prop):PsAt w S [] []:=⟨rfl,fun i b t h=>by simp at h⟩
theorem PsAt.one {w:World}{S:Nat->Prop}{b:Nat}{t:Pt}(h:PtAt w S b t):PsAt w S [b] [t]:=⟨rfl,fun i b' t' h1 h2=>by
 cases i with
 | zero=>
  have e1:b=b':=by simpa using h1
  have y:t=t':=by simpa using h2
  rw[<-e1,<-y];exact h
 | succ i=>simp at h1⟩
theorem PsAt.app {w:World}{S:Nat->Prop}{bs cs:List Nat}{l m:List Pt}(h:PsAt w S bs l)(h':PsAt w S cs m):PsAt w S (bs++cs) (l++m) :=
 ⟨by rw[List.length_append,List.length_append,h.1,h'.1],fun i b t y A=>by
  by_cases hi:i<bs.length
  ·rw[List.getElem?_append_left hi] at y;rw[List.getElem?_append_left (by rw[<-h.1];exact hi)] at A;exact h.2 i b t y A
  ·rw[List.getElem?_append_right (by omega)] at y;rw[List.getElem?_append_right (by rw[<-h.1];omega),<-h.1] at A;exact h'.2 _ b t y A⟩
structure Mk (B:Nat) (w:World) (b:Nat) (k:Int) (x:ByteArray) (n a f t:Int) (v:Value) (l:List Pt):Prop where
 hB:B<=b
 row:w.heap[b]?=some (.cells (paC k x n a f t v) 113 (0,0))
 ex:∃ (bs:List Nat) (S:Nat->Prop),OwnP B w v bs∧PsAt w S bs l∧∀ j,S j->B<=j∧j<w.heap.size∧j≠b∧v.ownBlock≠some j
section
variable {B:Nat}{w w':World}{b:Nat}{k:Int}{x:ByteArray}{n a f t:Int}{v:Value}{l:List Pt}
theorem Mk.lt (h:Mk B w b k x n a f t v l):b<w.heap.size:=zaa h.row
theorem Mk.own (h:Mk B w b k x n a f t v l){q:Nat}(hq:v.ownBlock=some q):q<w.heap.size:=by
 obtain⟨A,S,y,-⟩:=h.ex;exact(y.lt hq).2
theorem Mk.mono {C:Nat}(h:Mk B w b k x n a f t v l)(hC:C<=B):Mk C w b k x n a f t v l:=by
 obtain⟨E,F,D,S,K,I,y⟩:=h;exact⟨Yo hC E,F,D,S,K.mono hC,I,fun j A=>⟨Yo hC (y j A).1,(y j A).2⟩⟩
theorem Mk.keep (h:Mk B w b k x n a f t v l)(hs:w.heap.size<=w'.heap.size)(hh:∀ j,B<=j->j<w.heap.size->w'.heap[j]?=w.heap[j]?):Mk B w' b k x n a f t v l:=by
 have I:=h.lt;obtain⟨E,K,N,S,C,U,A⟩:=h;refine⟨E,(hh _ E I).trans K,N,S,C.keep fun q D=>hh _ (C.lt D).1 (C.lt D).2,U.keep (fun _ h=>h) fun j y=>hh _ (A j y).1 (A j y).2.1,fun j y=>?_⟩;obtain⟨c1,c2,F,M⟩:=A j y;exact⟨c1,by omega,F,M⟩
theorem Mk.grow {g:Nat}(h:Mk B w b k x n a f t v l)(hg:g<B)(hw:w.grownBy w' (some g)):Mk B w' b k x n a f t v l :=
 h.keep hw.size fun j A y=>hw.block j y (fun e=>by injection e with e;omega)
theorem Mk.below (h:Mk B w b k x n a f t v l)(hw:Below w.heap.size w w'):Mk B w' b k x n a f t v l :=
 h.keep hw.size fun j _ y=>hw.block j y
theorem Mk.turn {k':Int}{x':ByteArray}{n' a' f' t':Int}(h:Mk B w b k x n a f t v l)(hs:w.heap.size<=w'.heap.size)(hh:∀ j,j≠b->j<w.heap.size->w'.heap[j]?=w.heap[j]?)
  (hr:w'.heap[b]?=some (.cells (paC k' x' n' a' f' t' v) 113 (0,0))):Mk B w' b k' x' n' a' f' t' v l:=by
 obtain⟨M,F,K,S,C,N,A⟩:=h;refine⟨M,hr,K,S,C.keep fun q D=>hh _ (fun e=>?_) (C.lt D).2,N.keep (fun _ h=>h) fun j y=>hh _ (A j y).2.2.1 (A j y).2.1,fun j y=>?_⟩
 ·exact C.ne F (by decide) (by rw[D,e])
 ·obtain⟨c1,c2,E,I⟩:=A j y;exact⟨c1,by omega,E,I⟩
theorem Mk.fin (h:Mk B w b k x n a f t v l):PtAt w (fun j=>B<=j∧j<w.heap.size) b (.mk k x n a f t l):=by
 have I:=h.lt;obtain⟨N,K,M,S,D,C,y⟩:=h;obtain⟨sp,cap,rfl,X,-⟩:=OwnG.rows elP D;refine .mk b k x n a f t l M sp cap K ⟨N,I⟩ X (fun q F=>?_) C.1 fun i U t' E V=>(C.2 i U t' E V).keep (fun j A=>⟨(y j A).1,(y j A).2.1⟩) fun _ _=>rfl;subst F;exact D.lt rfl
theorem Mk.new (w:World)(k:Int)(x:ByteArray)(n a f t:Int):Mk w.heap.size (w.alloc (.cells (paC k x n a f t (.slice none 0 0)) 113)) w.heap.size k x n a f t (.slice none 0 0) [] :=
 ⟨Ya _,Yd _ _,[],fun _=>False,zcz _ _,PsAt.nil _ _,fun _ h=>h.elim⟩
end
def rowsL:List (List (List UInt8)):=[[[124,124]],[[38,38]],[[61,61],[33,61],[60],[60,61],[62],[62,61]],[[43],[45]],[[42],[47],[37]]]
def strC (s:ByteArray):Array Value:=#[.string s]
def Tabl (w:World):Prop:=∃ F:Nat->Option Addr × Nat,∀ (i:Nat) (l:List (List UInt8)),rowsL[i]?=some l->w.cell? ⟨1,i,none⟩=some (.slice (F i).1 l.length (F i).2)∧RowsAt w 1 strC (F i).1 (l.map strU)
structure Rdr (T:Nat) (w:World) (g:Nat) (st:Option Addr) (cap:Nat) (ts:List Tok) (p:Nat):Prop where
 row:w.heap[g]?=some (.cells #[.slice st ts.length cap,.int .i64 p] 91 (0,0))
 le:p<=ts.length
 few:ts.length<=100000
 ok:∀ t ∈ ts,-1000000000000000000<=t.pos∧t.pos<=1000000000000000000∧t.text.size<=100000
 hg:g<T
 hT:T<=w.heap.size
 env:∀ W:World,(∀ k,k<T->k≠g->W.heap[k]?=w.heap[k]?)->RowsT W st ts∧Tabl W
section
variable {T:Nat}{w w':World}{g:Nat}{st:Option Addr}{cap:Nat}{ts:List Tok}{p q:Nat}
theorem Rdr.lt (h:Rdr T w g st cap ts p):g<w.heap.size:=zaa h.row
theorem Rdr.stay (h:Rdr T w g st cap ts p)(hs:w.heap.size<=w'.heap.size)(hw:∀ k,k<T->k≠g->w'.heap[k]?=w.heap[k]?)(hr:w'.heap[g]?=some (.cells #[.slice st ts.length cap,.int .i64 q] 91 (0,0)))(hq:q<=ts.length):Rdr T w' g st cap ts q :=
 ⟨hr,hq,h.few,h.ok,h.hg,Yo h.hT hs,fun W C=>h.env W fun k y A=>(C k y A).trans (hw k y A)⟩
theorem Rdr.keep (h:Rdr T w g st cap ts p)(hw:w.grownBy w' (some g))(hr:w'.heap[g]?=some (.cells #[.slice st ts.length cap,.int .i64 q] 91 (0,0)))(hq:q<=ts.length):Rdr T w' g st cap ts q :=
 h.stay hw.size (fun k y A=>hw.block k (Yg y h.hT) fun e=>A (by injection e)) hr hq
theorem Rdr.below {B:Nat}(h:Rdr T w g st cap ts p)(hT:T<=B)(hb:Below B w w'):Rdr T w' g st cap ts p :=
 h.stay hb.size (fun k y _=>hb.block k (by omega)) ((hb.block _ (Yg h.hg hT)).trans h.row) h.le
theorem Rdr.low (h:Rdr T w g st cap ts p)(hb:Below w.heap.size w w'):Rdr T w' g st cap ts p:=h.below h.hT hb
theorem Rdr.c0 (h:Rdr T w g st cap ts p):w.cell? ⟨g,0,none⟩=some (.slice st ts.length cap):=(Yc _ _ _ _ _ _ h.row).trans rfl
theorem Rdr.c1 (h:Rdr T w g st cap ts p):w.cell? ⟨g,1,none⟩=some (.int .i64 p):=(Yc _ _ _ _ _ _ h.row).trans rfl
theorem Rdr.z (h:Rdr T w g st cap ts p)(j:Nat):w.frozen? ⟨g,j,none⟩=false:=Yj _ _ _ _ _ h.row
theorem Rdr.go (h:Rdr T w g st cap ts p)(hq:q<=ts.length):Rdr T (w.setCell ⟨g,1,none⟩ (.int .i64 q)) g st cap ts q:=by
 have y:=(Yb 0 w).setCell (p:=⟨g,1,none⟩) (Yk _) (.int .i64 q);refine h.keep ⟨y.os,y.tape,y.output,y.size,fun k C A=>Ye _ _ _ _ fun e=>A (by rw[show k=g from e])⟩ ?_ hq;exact Yf _ _ 1 _ _ _ h.row
theorem Rdr.tok (h:Rdr T w g st cap ts p){i:Nat}(hi:i<ts.length):∃ b o,st=some ⟨b,o,none⟩∧w.cell? ⟨b,o+i * 3,none⟩=some (.int .i64 (nxT ts i).kind)∧w.cell? ⟨b,o+i * 3+1,none⟩=some (.string (nxT ts i).text)∧w.cell? ⟨b,o+i * 3+2,none⟩=some (.int .i64 (nxT ts i).pos):=by
 obtain⟨y,-⟩:=h.env w fun _ _ _=>rfl;obtain⟨b,o,e,-⟩:=y (by omega);subst e;have A:ts[i]?=some (nxT ts i):=by unfold nxT;rw[List.getD_eq_getElem?_getD,Yh hi];rfl
 exact⟨b,o,rfl,zf6 y A⟩
theorem Rdr.bound (h:Rdr T w g st cap ts p)(i:Nat):-1000000000000000000<=(nxT ts i).pos∧(nxT ts i).pos<=1000000000000000000∧(nxT ts i).text.size<=100000:=by
 by_cases hi:i<ts.length
 ·refine h.ok _ ?_;unfold nxT;rw[List.getD_eq_getElem?_getD,Yh hi];exact List.getElem_mem hi
 ·have e:nxT ts i=tokZ:=by unfold nxT;rw[List.getD_eq_getElem?_getD,List.getElem?_eq_none (by omega)];rfl
  rw[e];exact⟨by decide,by decide,by decide⟩
end
theorem zru {ts:List Tok}{i:Nat}(h:¬ i<ts.length):nxT ts i=tokZ:=by unfold nxT;rw[List.getD_eq_getElem?_getD,List.getElem?_eq_none (by omega)];rfl
theorem zdr {P:Program}{fn:Func}{p:Tmp}{ty:TypeId}(h:fn.results=#[.cell p ty])(tmps:Array Value)(w:World)(g:Nat)(t:TypeId)(cs:Array Value)(fr:Nat × Nat)(d:TypeDesc)
  (hp:tmps.getD p undef=.pointer (some ⟨g,0,none⟩)) (hg:w.heap[g]?=some (.cells cs t fr))
  (hu:P.underlying ty=some d) (hd:(match d with | .struct _ | .array _ _=>true|_=>false)=true) (hi:(P.info? ty).map (·.size)=some cs.size) :
  (results fn tmps).run P w=.ok (.agg cs) w:=by
 have y:tmps[p]?.getD undef=.pointer (some ⟨g,0,none⟩):=by simpa using hp
 simp[results,h,y,asAddr,run_loadVar_row w g t ty cs fr d hg hu hd hi]
theorem zbz {fn:Func}{q:Tmp}(h:fn.results=#[.cell q 38]){R:Ending->World->Prop}{tm:Array Value}{W:World}{k:Nat}{t:Tok}(hp:tm.getD q undef=.pointer (some ⟨k,0,none⟩))
  (hg:W.heap[k]?=some (.cells t.cells 38 (0,0))) (hR:R (.returned (.agg t.cells)) W):bodyPost Tryz.prog fn R .ret ⟨tm,[]⟩ W :=
 bodyPost_ret (v:=.agg t.cells) (zdr h _ _ k 38 t.cells (0,0) _ hp hg Tryz.underlying38 rfl (by kernel_rfl)) rfl hR
theorem zcc {ops:Array Oper}{rest:List Oper}{o:Oper}{a:Act}{w:World}{Q:Exit->Act->World->Prop}(hgd:o.guard=none)(x y:Operand)(ho:o.op=.store 38 x y){k:Nat}{t z:Tok}
  (hx:a.eval x=.pointer (some ⟨k,0,none⟩)) (hy:a.eval y=.agg t.cells) (hz:w.heap[k]?=some (.cells z.cells 38 (0,0))) (h:wpList Tryz.prog ops Q rest (a.put o.dst undef) (w.setRow k t.cells)):wpList Tryz.prog ops Q (o::rest) a w :=
 wpList_store_row hgd 38 x y ho k t.cells hx hy 38 z.cells hz (by kernel_rfl) rfl (by simp[Tok.cells,Value.oneCell']) h
theorem zlt {ops:Array Oper}{rest:List Oper}{o:Oper}{a:Act}{w:World}{Q:Exit->Act->World->Prop}(hgd:o.guard=none)(x:Operand)(ho:o.op=.load 38 x){k:Nat}{t:Tok}
  (hx:a.eval x=.pointer (some ⟨k,0,none⟩)) (hz:w.heap[k]?=some (.cells t.cells 38 (0,0))) (h:wpList Tryz.prog ops Q rest (a.put o.dst (.agg t.cells)) w):wpList Tryz.prog ops Q (o::rest) a w :=
 wpList_load_row hgd 38 x ho k hx 38 t.cells (0,0) _ hz Tryz.underlying38 rfl (by kernel_rfl) h
section
variable {T:Nat}{w:World}{g:Nat}{st:Option Addr}{cap:Nat}{ts:List Tok}{p:Nat}
theorem zko (n:Nat)(hn:n<=1)(hR:Rdr T w g st cap ts p) :
  Calls Tryz.prog 131 #[.pointer (some ⟨g,0,none⟩),.int .i64 n] w fun e w'=>e=.returned (.agg (nxT ts (p+n)).cells)∧Below w.heap.size w w':=by
 have F:=J hR;have aa:=hR.le;have ab:=hR.few;clear hR
 go_enter Tryz.func131,Tryz.ntmps131
 go_wp2
 refine zdq (fun W=>Below w.heap.size w W∧W.heap[w.heap.size]?=some (.cells tokZ.cells 38 (0,0))) ⟨(Yb _ _).alloc (Ya _) _,Yd _ _⟩ ?_;rintro W ⟨D,E⟩;have C:=J (F.out.low D);have M:=J D;have y:=J E;clear F D E;have c0:=C.out.c0;have c1:=C.out.c1;have N:W.cell? ⟨w.heap.size,0,none⟩=some (.int .i64 0):=Yp 0 y rfl;have V:W.cell? ⟨w.heap.size,1,none⟩=some (.string ⟨#[]⟩):=Yp 1 y rfl;have z2:W.cell? ⟨w.heap.size,2,none⟩=some (.int .i64 0):=Yp 2 y rfl;have X:W.frozen? ⟨w.heap.size,0,none⟩=false:=Yj _ _ _ _ _ y;have U:W.frozen? ⟨w.heap.size,1,none⟩=false:=Yj _ _ _ _ _ y;have Z:W.frozen? ⟨w.heap.size,2,none⟩=false:=Yj _ _ _ _ _ y;have A:Hid (∀ a b c:Value,(((W.setCell ⟨w.heap.size,0,none⟩ a).setCell ⟨w.heap.size,1,none⟩ b).setCell ⟨w.heap.size,2,none⟩ c).heap[w.heap.size]?=some (.cells #[a,b,c] 38 (0,0))∧Below w.heap.size w (((W.setCell ⟨w.heap.size,0,none⟩ a).setCell ⟨w.heap.size,1,none⟩ b).setCell ⟨w.heap.size,2,none⟩ c)):=fun a b c=>
  ⟨Yf _ _ 2 _ _ _ (Yf _ _ 1 _ _ _ (Yf _ _ 0 _ _ _ y)),((M.out.setCell (Ya _) _).setCell (Ya _) _).setCell (Ya _) _⟩
 by_cases h:p+n<ts.length
 ·obtain⟨b,o,rfl,k0,k1,Y⟩:=C.out.tok h;have K:¬ ((p:Int)+n ≥ ts.length):=by omega
  go_region
  go_wp2
  go_region
  go_wp2
  exact zbz Tryz.results131 rfl (A _ _ _).1 ⟨rfl,(A _ _ _).2.drew.drew⟩
 ·have I:Hid (nxT ts (p+n)=tokZ):=zru h;have K:((p:Int)+n ≥ ts.length):=by omega
  clear h
  go_region
  go_wp2
  refine zbz (t:=tokZ) Tryz.results131 rfl (A _ _ _).1 ⟨by rw[I.out],(A _ _ _).2.drew⟩
theorem zdw (hR:Rdr T w g st cap ts p) :
  Calls Tryz.prog 105 #[.pointer (some ⟨g,0,none⟩)] w fun e w'=>e=.returned (.agg (nxT ts p).cells)∧Below w.heap.size w w':=by
 have E:=J hR;clear hR
 go_enter Tryz.func105,Tryz.ntmps105
 go_wp2_with fail
 refine zag (fun W=>Below w.heap.size w W∧W.heap[w.heap.size]?=some (.cells tokZ.cells 38 (0,0))) ⟨(Yb _ _).alloc (Ya _) _,Yd _ _⟩ ?_;rintro W ⟨y,A⟩;refine(zko 0 (by omega) (E.out.low y)).mono ?_;rintro e W1 ⟨rfl,C⟩;have D:Hid (W1.heap[w.heap.size]?=some (.cells tokZ.cells 38 (0,0))):=(C.block _ (zaa A)).trans A;have F:Hid (Below w.heap.size w W1):=y.trans (C.mono y.size);clear E y A C
 go_wp2_with (refine zcc (by rfl) (.tmp 2) (.tmp 4) (by rfl) (by rfl) (by rfl) D.out ?_)
 exact zbz Tryz.results105 rfl (zad D) ⟨rfl,zak F.out (Ya _) _⟩
theorem zjk (hR:Rdr T w g st cap ts p) :
  Calls Tryz.prog 112 #[.pointer (some ⟨g,0,none⟩)] w fun e w'=>e=.returned (.int .i64 (behI ts p))∧Below w.heap.size w w':=by
 have c0:=hR.c0;have c1:=hR.c1;have X:=hR.le;have aa:=hR.few;obtain⟨I,K,q3⟩:=hR.bound (p - 1)
 by_cases h:p=0
 ·subst h;clear hR
  go_enter Tryz.func112,Tryz.ntmps112
  go_wp2
  go_ret
  exact⟨rfl,Yb _ _⟩
 ·have F:behI ts p=(nxT ts (p - 1)).pos+(nxT ts (p - 1)).text.size:=by unfold behI;rw[if_neg h]
  obtain⟨b,o,rfl,D,C,A⟩:=hR.tok (show p - 1<ts.length by omega);have E:Hid _:=F;obtain⟨m,rfl⟩:∃ m,p=m+1:=⟨p - 1,by omega⟩;rw[Nat.add_sub_cancel] at E I K q3 D C A;clear hR F h;have V:((((m+1:Nat):Int)) == 0)=false:=by rw[beq_eq_false_iff_ne];omega
  have U:(((m+1:Nat):Int)) - 1=m:=by omega
  have y:=(Yb w.heap.size w).alloc (Ya _) (.cells #[.int .i64 0,.string ⟨#[]⟩,.int .i64 0] 38);have Z:=(y.cell (block_lt_of_cell c0)).trans c0;have d1:=(y.cell (block_lt_of_cell c1)).trans c1;have e0:=(y.cell (block_lt_of_cell D)).trans D;have N:=(y.cell (block_lt_of_cell C)).trans C;have Y:=(y.cell (block_lt_of_cell A)).trans A;clear y;have M:Below w.heap.size w (w.drew.alloc (.cells (nxT ts m).cells 38)):=(Yb _ _).drew.alloc (Ya _) _
  go_enter Tryz.func112,Tryz.ntmps112
  go_wp2
  go_region
  go_wp2
  go_ret
  exact⟨by rw[E.out];rfl,M⟩
theorem zh6 (hR:Rdr T w g st cap ts p) :
  Calls Tryz.prog 102 #[.pointer (some ⟨g,0,none⟩)] w fun e w'=>e=.returned (.int .i64 (herI ts p))∧Below w.heap.size w w':=by
 have c0:=hR.c0;have c1:=hR.c1;have K:=hR.le;have N:=hR.few
 by_cases h:p<ts.length
 ·have y:Hid (herI ts p=(nxT ts p).pos):=by show _=_;unfold herI;rw[if_pos h]
  obtain⟨b,o,rfl,M,I,F⟩:=hR.tok h;clear hR;have C:(p:Int)<ts.length:=by omega
  go_enter Tryz.func102,Tryz.ntmps102
  go_wp2
  go_region
  go_wp2
  go_region
  go_wp2
  go_ret
  exact⟨by rw[y.out];rfl,(Yb _ _).drew.drew⟩
 ·have y:Hid (herI ts p=behI ts p):=by show _=_;unfold herI;rw[if_neg h]
  have D:Hid _:=hR;have C:¬ ((p:Int)<ts.length):=by omega
  clear hR
  go_enter Tryz.func102,Tryz.ntmps102
  go_wp2
  go_region
  go_wp2_with fail
  refine zag (fun W=>Below w.heap.size w W) (Yb _ _).drew ?_;intro W A;refine(zjk (D.out.low A)).mono ?_;rintro e W1 ⟨rfl,E⟩
  go_wp2
  go_ret
  exact⟨by rw[y.out];rfl,A.trans (E.mono A.size)⟩
def wroC (s:Int):Array Value:=#[.int .i64 210,.int .i64 s]
def wroE (s:Int):Ending:=.panicked [{ v:=.iface 88 (.agg (wroC s)),recovered:=false }]
theorem zfz (hR:Rdr T w g st cap ts p) :
  Calls Tryz.prog 111 #[.pointer (some ⟨g,0,none⟩)] w fun e w'=>e=.returned (.agg (wroC (herI ts p)))∧Below w.heap.size w w':=by
 have E:=J hR;clear hR
 go_enter Tryz.func111,Tryz.ntmps111
 go_wp2_with fail
 refine zag (fun W=>Below w.heap.size w W∧W.heap[w.heap.size]?=some (.cells #[.int .i64 0,.int .i64 0] 88 (0,0))) ⟨(Yb _ _).alloc (Ya _) _,Yd _ _⟩ ?_;rintro W ⟨y,A⟩;refine(zh6 (E.out.low y)).mono ?_;rintro e W1 ⟨rfl,C⟩;have D:Hid (W1.heap[w.heap.size]?=some (.cells #[.int .i64 0,.int .i64 0] 88 (0,0))):=(C.block _ (zaa A)).trans A;have F:Hid (Below w.heap.size w W1):=y.trans (C.mono y.size);clear E y A C
 go_wp2_with (refine wpList_store_row (by rfl) 88 (.tmp 2) (.tmp 6) (by rfl) w.heap.size (wroC (herI ts p)) (by rfl) (by rfl) 88 _ D (by kernel_rfl) (by rfl) (by simp[wroC,Value.oneCell']) ?_)
 exact bodyPost_ret (v:=.agg (wroC (herI ts p))) (zdr Tryz.results111 _ _ w.heap.size 88 (wroC (herI ts p)) (0,0) _ rfl (zad D) Tryz.underlying88 rfl (by kernel_rfl)) rfl ⟨rfl,zak F.out (Ya _) _⟩
theorem ze9 (s:ByteArray)(hR:Rdr T w g st cap ts p) :
  Calls Tryz.prog 79 #[.pointer (some ⟨g,0,none⟩),.string s] w fun e w'=>e=.returned (.bool (isT ts p s.data.toList))∧Below w.heap.size w w':=by
 have y:=J hR;clear hR;have C:Hid (((nxT ts p).text.toList == s.toList)=isT ts p s.data.toList):=by unfold isT;rw[ByteArray.toList_eq,ByteArray.toList_eq];rfl
 go_enter Tryz.func79,Tryz.ntmps79
 go_wp2_with fail
 refine(zdw y).mono ?_;rintro e W1 ⟨rfl,A⟩;clear y;unfold Tok.cells;have D:∀ (a b c:Value) (W:World),(Instr.field 38 (.agg #[a,b,c]) 1).run Tryz.prog W=.ok b W:=fun _ _ _ _=>rfl
 go_wp2
 go_ret
 exact⟨by rw[<-C.out];rfl,A⟩
theorem zoi (s:ByteArray)(w:World):Calls Tryz.prog 11 #[.string s] w fun e w'=>e=.returned (.bool (kepB s))∧Below w.heap.size w w':=by
 have y:Hid (kepB s=((s.toList == [112,97,99,107,97,103,101]) || (s.toList == [105,109,112,111,114,116]) || (s.toList == [99,111,110,115,116]) || (s.toList == [118,97,114]) ||
 (s.toList == [116,121,112,101]) || (s.toList == [115,116,114,117,99,116]) || (s.toList == [102,117,110,99]) || (s.toList == [105,102]) ||
 (s.toList == [101,108,115,101]) || (s.toList == [102,111,114]) || (s.toList == [114,101,116,117,114,110]) || (s.toList == [116,114,117,101]) ||
 (s.toList == [102,97,108,115,101]) || (s.toList == [105,110,116]) || (s.toList == [98,111,111,108]) || (s.toList == [115,116,114,105,110,103]))):=by unfold kepB;rw[ByteArray.toList_eq];rfl
 go_enter Tryz.func11,Tryz.ntmps11
 go_wp2 <;> first
  | (exfalso;simp_all;done)
  | (go_ret;exact⟨by rw[y.out];simp_all,Yb _ _⟩)
end
end Go.Proofs.YtmclgbkijeidaaaGreatDoor
