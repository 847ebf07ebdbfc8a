import Derived.Test.YtabiangdmibocaaGreatDoorUnD
import Derived.Test.YtabiangdmibocaaGreatDoorUnShelf
namespace Go.Proofs.YtabiangdmibocaaGreatDoor
set_option maxRecDepth 100000
set_option maxHeartbeats 4000000
open Go.RowKit
def quoB (c:UInt8):Option (List UInt8):=if c.toNat=34∨c.toNat=92 then some [92,c] else if c.toNat=10 then some [92,110] else if plnB c.toNat then some [c] else none
def quoG (acc:List UInt8):List UInt8->Option (List UInt8)
 | []=>some (acc++[34])
 | c::r=>match quoB c with | none=>none | some x=>quoG (acc++x) r
def quoO (L:List UInt8):Option (List UInt8):=quoG [34] L
theorem zk0 {acc:List UInt8}{L:List UInt8}{i:Nat}{c:UInt8}(h:L[i]?=some c):quoG acc (L.drop i)=match quoB c with|none=>none|some x=>quoG (acc++x) (L.drop (i+1)):=by
 rw[zek h,quoG]
theorem zrg {acc:List UInt8}{L:List UInt8}{i:Nat}{c:UInt8}{o:Option (List UInt8)}(h:L[i]?=some c)(hg:quoG acc (L.drop i)=o)(hq:quoB c=none):o=none:=by
 rw[<-hg,zk0 h,hq]
theorem zn3 {acc x:List UInt8}{L:List UInt8}{i:Nat}{c:UInt8}{o:Option (List UInt8)}(h:L[i]?=some c)(hg:quoG acc (L.drop i)=o)(hq:quoB c=some x):quoG (acc++x) (L.drop (i+1))=o:=by
 rw[<-hg,zk0 h,hq]
theorem Bld.iterAt {B b:Nat}{l:List UInt8}{w:World}(h:Bld B b l w){k:Nat}{s:ByteArray}{pos:Nat}(hk:w.heap[k]?=some (.stringIter s pos))(pos':Nat):Bld B b l (w.iterAt k s pos'):=by
 obtain⟨hB,p,v,hp,hr,ho⟩:=h.row;have hkb:b≠k:=fun e=>by rw[e,hk] at hr;cases hr
 refine Bld.of hB hp ((Lib.iterAt_other w k b s pos' hkb).trans hr) (OwnG.keep ho fun j hj=>Lib.iterAt_other w k j s pos' fun e=>?_);obtain⟨c,fz,hc⟩:=zn2 ho j hj;rw[e,hk] at hc
 cases hc
theorem Bld.below {B b:Nat}{l:List UInt8}{w w':World}(h:Bld B b l w)(hb:Below w.heap.size w w'):Bld B b l w':=by
 obtain⟨hB,p,v,hp,hr,ho⟩:=h.row;exact Bld.of hB hp ((hb.block b (zab hr)).trans hr) (OwnG.below ho hb)
def strV (o:Option (List UInt8)) (e:Int):Value:=match o with|none=>.tuple #[.string ⟨#[]⟩,.int .i64 e] | some x=>.tuple #[.string (strU x),.int .i64 0]
theorem zd4 {w:World}{k:Nat}{s:ByteArray}{pos:Nat}(h:w.heap[k]?=some (.stringIter s pos)):w.iterPos k=pos:=by unfold World.iterPos;rw[h]
theorem zk1 (s:ByteArray)(w:World)(hs:s.size<=100000):Calls Tryz.prog 157 #[.string s] w fun e w'=>e=.returned (strV (quoO s.data.toList) 2)∧Below w.heap.size w w':=by
 have HS:Hid (s.size=s.data.toList.length):=by show s.size=s.data.toList.length;simp
 go_enter Tryz.func157,Tryz.ntmps157
 go_wp2
 refine wp_scope_jumps 0 (fun a' w'=>quoO s.data.toList=none∧Below w.heap.size w w'∧∃ u0 u1 u2 u3 u4 u5 u6 u7 u8 u9 u10 u11 u12 u13 u14 u15 u16 u17 u18 u19 u20 u21 u22 u23 u24 u25 u26 u27 u28 u29 u30 u31 u32 u33:Value,a'={ tmps:=#[u0,u1,u2,u3,u4,u5,u6,u7,u8,u9,u10,u11,u12,u13,u14,u15,u16,u17,u18,u19,u20,u21,u22,u23,u24,u25,u26,u27,u28,u29,u30,u31,u32,u33],defers:=[] }) (fun _ _=>0) rfl ?_ ?_
 rotate_left
 ·rintro a' w' ⟨hn,hb,u0,u1,u2,u3,u4,u5,u6,u7,u8,u9,u10,u11,u12,u13,u14,u15,u16,u17,u18,u19,u20,u21,u22,u23,u24,u25,u26,u27,u28,u29,u30,u31,u32,u33,rfl⟩;have HN:=hid hn;clear hn
  go_wp2
  simp only[Exit.jump]
  go_ret2
  refine⟨?_,hb⟩;rw[HN.out];exact rfl
 go_wp2_with fail
 have hB0:Bld w.heap.size w.heap.size [] (w.alloc (.cells #[.pointer none,.slice none 0 0] 121)):=Bld.of (Nat.le_refl _) (.inl rfl) (heap_alloc_new _ _) (zcy _ _);refine(zex w.heap.size w.heap.size [] 34 _ hB0 (by simp) (by simp)).mono ?_;rintro e W1 ⟨rfl,h1,b1,-⟩;have bw1:Below w.heap.size w W1:=((Below.refl _ _).alloc (Nat.le_refl _) _).trans b1;clear hB0 b1;have hkb:w.heap.size<W1.heap.size:=by obtain⟨-,p,v,-,hr,-⟩:=h1.row;exact zab hr
 go_wp2
 obtain⟨K,HK⟩:∃ K,Hid (W1.heap.size=K):=⟨_,rfl⟩;have hbi:Below W1.heap.size W1 (W1.alloc (.stringIter s 0)):=(Below.refl _ _).alloc (Nat.le_refl _) _;have H0:Hid (Bld w.heap.size w.heap.size [34] (W1.iter s 0)∧(W1.iter s 0).heap[K]?=some (.stringIter s 0)∧Below w.heap.size w (W1.iter s 0)):=⟨h1.below hbi,by rw[<-HK.out];exact heap_alloc_new _ _,bw1.alloc bw1.size _⟩;have hK:w.heap.size<K:=by rw[<-HK.out];exact hkb
 rw[HK.out];clear hbi HK hkb bw1 h1
 go_loopw [] (fun wr=>∃ (pos:Nat) (acc:List UInt8),pos<=s.size∧Bld w.heap.size w.heap.size acc wr∧wr.heap[K]?=some (.stringIter s pos)∧Below w.heap.size w wr∧acc.length<=1+2 * pos∧quoG acc (s.data.toList.drop pos)=quoO s.data.toList) (fun wr=>s.size - wr.iterPos K)
 case atStart=>exact⟨0,[34],Nat.zero_le _,H0.out.1,H0.out.2.1,H0.out.2.2,by simp,rfl⟩
 case round=>
  clear H0;obtain⟨pos,acc,hps,hbl,hit,hbe,hal,hqu⟩:=hrel;have HBL:=hid hbl;have HIT:=hid hit;have HBE:=hid hbe;have HQU:=hid hqu;clear hbl hbe hqu
  by_cases hp:pos<s.size
  ·have hnx:∀ ty,(Instr.next (.pointer (some ⟨K,0,none⟩)) true ty).run Tryz.prog wr=_:=fun ty=>Lib.run_next_any_at wr K s pos ty hit hp;have HB:Hid (s.data.toList[pos]?=some (s[pos]'hp)):=zhk hp;obtain⟨c,HC⟩:∃ c,Hid (s[pos]'hp=c):=⟨_,rfl⟩;rw[HC.out] at HB
   by_cases ha:c.toNat<128
   ·have hdc:=decode_ascii s pos hp (by rw[HC.out];exact ha);rw[hdc] at hnx;simp only[HC.out] at hnx;clear hdc hit;have h4:Bld w.heap.size w.heap.size acc (wr.iterAt K s (pos+1)):=HBL.out.iterAt HIT.out _;have i4:(wr.iterAt K s (pos+1)).heap[K]?=some (.stringIter s (pos+1)):=Lib.iterAt_heap _ _ _ _ _ HIT.out;have b4:Below w.heap.size w (wr.iterAt K s (pos+1)):=Lib.below_iterAt HBE.out (by omega) _ _;have hw2:=zer c;have hsz:w.heap.size<=(wr.iterAt K s (pos+1)).heap.size:=b4.size
    by_cases hq:c.toNat=34∨c.toNat=92
    ·have HNX:Hid (quoG (acc++[92,c]) (s.data.toList.drop (pos+1))=quoO s.data.toList):=zn3 HB.out HQU.out (by unfold quoB;rw[if_pos hq]);have hqi:(c.toNat:Int)=34∨(c.toNat:Int)=92:=by omega
     clear HBL HBE HQU;generalize wr.iterAt K s (pos+1)=WN at hnx h4 i4 b4 hsz;have KEY:Hid (∀ (W5:World),WrP w.heap.size w.heap.size (acc++[92]) WN W5->Calls Tryz.prog 189 #[.pointer (some ⟨w.heap.size,0,none⟩),.int .i32 c.toNat] W5 fun e w'=>(∃ n,e=.returned (.tuple #[.int .i64 n,.nilIface]))∧(∃ (pos:Nat) (acc:List UInt8),pos<=s.size∧Bld w.heap.size w.heap.size acc w'∧w'.heap[K]?=some (.stringIter s pos)∧Below w.heap.size w w'∧acc.length<=1+2 * pos∧quoG acc (s.data.toList.drop pos)=quoO s.data.toList)∧s.size - w'.iterPos K<s.size - wr.iterPos K):=fun W5 h5=>by
      refine(zf0 w.heap.size w.heap.size (acc++[92]) c ha W5 h5.1 (by simp;omega) (Nat.le_trans hsz h5.2.1.size)).mono ?_;rintro e W6 ⟨hn,h6,b6,k6⟩;have i6:W6.heap[K]?=some (.stringIter s (pos+1)):=Lib.OthersKept.iter k6 (Lib.OthersKept.iter h5.2.2 i4 (by omega)) (by omega);refine⟨hn,⟨pos+1,acc++[92,c],by omega,by simpa using h6,i6,b4.trans (h5.2.1.trans b6),by simp;omega,HNX.out⟩,?_⟩;rw[zd4 i6,zd4 HIT.out];omega
     rcases hqi with hq1|hq1
     all_goals
      go_wp2_with fail
      refine(zex w.heap.size w.heap.size acc 92 WN h4 (by omega) hsz).mono ?_;rintro e W5 ⟨rfl,h5⟩
      go_wp2_with fail
      try rw[hq1] at KEY
      refine(KEY.out W5 h5).mono ?_;rintro e W6 ⟨⟨n6,rfl⟩,hR,hM⟩;have HR:=hid hR;have HM:=hid hM;clear hR hM
      go_wp2
      exact⟨HR.out,HM.out⟩
    ·by_cases h10:c.toNat=10
     ·have HNX:Hid (quoG (acc++[92,110]) (s.data.toList.drop (pos+1))=quoO s.data.toList):=zn3 HB.out HQU.out (by unfold quoB;rw[if_neg hq,if_pos h10]);have h10':(c.toNat:Int)=10:=by omega
      clear HBL HBE HQU;generalize wr.iterAt K s (pos+1)=WN at hnx h4 i4 b4 hsz
      go_wp2_with fail
      refine(zhr w.heap.size w.heap.size acc ⟨#[92,110]⟩ WN h4 (by have:(⟨#[92,110]⟩:ByteArray).size=2:=rfl;omega) hsz).mono ?_;rintro e W6 ⟨rfl,h6,b6,k6⟩;have i6:W6.heap[K]?=some (.stringIter s (pos+1)):=Lib.OthersKept.iter k6 i4 (by omega);have HR:Hid (∃ (pos:Nat) (acc:List UInt8),pos<=s.size∧Bld w.heap.size w.heap.size acc W6∧W6.heap[K]?=some (.stringIter s pos)∧Below w.heap.size w W6∧acc.length<=1+2 * pos∧quoG acc (s.data.toList.drop pos)=quoO s.data.toList):=⟨pos+1,acc++[92,110],by omega,h6,i6,b4.trans b6,by simp;omega,HNX.out⟩;have HM:Hid (s.size - W6.iterPos K<s.size - wr.iterPos K):=by
       show s.size - W6.iterPos K<s.size - wr.iterPos K;rw[zd4 i6,zd4 HIT.out];omega
      go_wp2
      exact⟨HR.out,HM.out⟩
     ·have hq1:((c.toNat:Int) == 34)=false:=by rw[beq_eq_false_iff_ne];omega
      have hq2:((c.toNat:Int) == 92)=false:=by rw[beq_eq_false_iff_ne];omega
      have h10':((c.toNat:Int) == 10)=false:=by rw[beq_eq_false_iff_ne];omega
      cases hpl:plnB c.toNat
      ·have HNO:Hid (quoO s.data.toList=none):=zrg HB.out HQU.out (by unfold quoB;rw[if_neg hq,if_neg h10,hpl];rfl)
       go_wp2_with (go_at_call 165;refine(ze3 _ _).mono ?_;rintro e W1 ⟨rfl,hW1⟩;subst hW1;rw[hpl])
       go_step3
       exact⟨rfl,HNO.out,b4,_,_,_,_,_,_,_,_,_,_,_,_,_,_,_,_,_,_,_,_,_,_,_,_,_,_,_,_,_,_,_,_,_,_,rfl⟩
      ·have HNX:Hid (quoG (acc++[c]) (s.data.toList.drop (pos+1))=quoO s.data.toList):=zn3 HB.out HQU.out (by unfold quoB;rw[if_neg hq,if_neg h10,hpl];rfl);clear HBL HBE HQU;generalize wr.iterAt K s (pos+1)=WN at hnx h4 i4 b4 hsz
       go_wp2_with fail
       refine(ze3 _ _).mono ?_;rintro e W5 ⟨rfl,hW5⟩;rw[hW5,hpl];clear hW5
       go_wp2_with fail
       refine(zf0 w.heap.size w.heap.size acc c ha WN h4 (by omega) hsz).mono ?_;rintro e W6 ⟨⟨n6,rfl⟩,h6,b6,k6⟩;have i6:W6.heap[K]?=some (.stringIter s (pos+1)):=Lib.OthersKept.iter k6 i4 (by omega);have HR:Hid (∃ (pos:Nat) (acc:List UInt8),pos<=s.size∧Bld w.heap.size w.heap.size acc W6∧W6.heap[K]?=some (.stringIter s pos)∧Below w.heap.size w W6∧acc.length<=1+2 * pos∧quoG acc (s.data.toList.drop pos)=quoO s.data.toList):=⟨pos+1,acc++[c],by omega,h6,i6,b4.trans b6,by simp;omega,HNX.out⟩;have HM:Hid (s.size - W6.iterPos K<s.size - wr.iterPos K):=by
        show s.size - W6.iterPos K<s.size - wr.iterPos K;rw[zd4 i6,zd4 HIT.out];omega
       go_wp2
       exact⟨HR.out,HM.out⟩
   ·have hdh:=(decode_high s pos hp (by rw[HC.out];omega)).1;obtain⟨rn,hrn⟩:∃ rn:Nat,(Utf8.decode s pos).1=rn:=⟨_,rfl⟩;rw[hrn] at hdh hnx;have hq1:((rn:Int) == 34)=false:=by rw[beq_eq_false_iff_ne];omega
    have hq2:((rn:Int) == 92)=false:=by rw[beq_eq_false_iff_ne];omega
    have h10':((rn:Int) == 10)=false:=by rw[beq_eq_false_iff_ne];omega
    have hpl:plnB (rn:Int)=false∨(rn:Int)<=126:=by
     by_cases h:(rn:Int)<=126
     ·exact .inr h
     ·exact .inl (by unfold plnB;rw[decide_eq_false h,Bool.and_false])
    have hpl':plnB (rn:Int)=false:=by
     rcases hpl with h|h
     ·exact h
     ·omega
    have HNO:Hid (quoO s.data.toList=none):=zrg HB.out HQU.out (by
     unfold quoB;rw[if_neg (by omega),if_neg (by omega)];have:plnB c.toNat=false:=by unfold plnB;rw[decide_eq_false (show ¬ ((c.toNat:Int)<=126) by omega),Bool.and_false]
     rw[this];rfl)
    have b4:Below w.heap.size w (wr.iterAt K s (pos+(Utf8.decode s pos).2)):=Lib.below_iterAt HBE.out (by omega) _ _;clear hdh hpl hit hrn
    go_wp2_with (go_at_call 165;refine(ze3 _ _).mono ?_;rintro e W1 ⟨rfl,hW1⟩;subst hW1;rw[hpl'])
    go_step3
    exact⟨rfl,HNO.out,b4,_,_,_,_,_,_,_,_,_,_,_,_,_,_,_,_,_,_,_,_,_,_,_,_,_,_,_,_,_,_,_,_,_,_,rfl⟩
  ·have hnx:∀ ty,(Instr.next (.pointer (some ⟨K,0,none⟩)) true ty).run Tryz.prog wr=_:=fun ty=>Lib.run_next_end_at wr K s pos ty hit hp;have HY:Hid (quoO s.data.toList=some (acc++[34])):=by rw[<-HQU.out,List.drop_eq_nil_of_le (by have:=HS.out;omega)];exact rfl
   clear hit
   go_wp2_with fail
   refine(zex w.heap.size w.heap.size acc 34 wr HBL.out (by omega) HBE.out.size).mono ?_;rintro e W5 ⟨rfl,h5,b5,k5⟩
   go_wp2_with fail
   have h5':Lib.IsBuilder 121 5 w.heap.size w.heap.size (Lib.byteCells (acc++[34])) W5:=h5;refine(Tryz.Builder_String_any w.heap.size w.heap.size (acc++[34]) W5 h5' (Nat.le_trans HBE.out.size b5.size)).mono ?_;rintro e W6 ⟨rfl,b6⟩
   go_wp2
   simp only[Exit.jump]
   go_ret2
   refine⟨?_,HBE.out.trans (b5.trans b6)⟩;rw[HY.out];exact rfl
def chkF:Tok->List Tok->Bool
 | last,[]=>!clo last
 | last,t::r=>if bareB t then(if clo last then chkF t r else false) else if alnB t then chkF t r else false
def chkO (ts:List Tok):Int:=if 1024<ts.length then 2 else if chkF ⟨0,⟨#[]⟩,0⟩ ts then 0 else 2
structure ChF (w:World) (K:Nat) (last x:Tok) (W:World):Prop where
 b:Below w.heap.size w W
 l:W.heap[w.heap.size]?=some (.cells last.cells 81 (0,0))
 x:W.heap[K]?=some (.cells x.cells 38 (0,0))
theorem ChF.below {w:World}{K:Nat}{last x:Tok}{W W':World}(h:ChF w K last x W)(hb:Below W.heap.size W W'):ChF w K last x W' :=
 ⟨h.b.trans (hb.mono h.b.size),(hb.block _ (zab h.l)).trans h.l,(hb.block _ (zab h.x)).trans h.x⟩
theorem ChF.c {w:World}{K:Nat}{last x:Tok}{W:World}(h:ChF w K last x W):W.cell? ⟨K,0,none⟩=some (.int .i64 x.kind)∧W.cell? ⟨K,1,none⟩=some (.string x.text)∧W.cell? ⟨K,2,none⟩=some (.int .i64 x.pos) :=
 ⟨(cell_of_row _ _ 0 _ _ _ h.x).trans rfl,(cell_of_row _ _ 1 _ _ _ h.x).trans rfl,(cell_of_row _ _ 2 _ _ _ h.x).trans rfl⟩
theorem ChF.d {w:World}{K:Nat}{last x:Tok}{W:World}(h:ChF w K last x W):W.cell? ⟨w.heap.size,0,none⟩=some (.int .i64 last.kind)∧W.cell? ⟨w.heap.size,1,none⟩=some (.string last.text)∧W.cell? ⟨w.heap.size,2,none⟩=some (.int .i64 last.pos) :=
 ⟨(cell_of_row _ _ 0 _ _ _ h.l).trans rfl,(cell_of_row _ _ 1 _ _ _ h.l).trans rfl,(cell_of_row _ _ 2 _ _ _ h.l).trans rfl⟩
theorem ChF.z {w:World}{K:Nat}{last x:Tok}{W:World}(h:ChF w K last x W)(j:Nat):W.frozen? ⟨w.heap.size,j,none⟩=false:=frozen_of_row _ _ _ _ _ h.l
theorem zk2 (sp:Option Addr)(cap:Nat)(ts:List Tok)(w:World)(hr:RowsT w sp ts)(hm:ts.length<=100000) :
  Calls Tryz.prog 21 #[.slice sp ts.length cap] w fun e w'=>e=.returned (.int .i64 (chkO ts))∧Below w.heap.size w w':=by
 have HR:=hid hr;clear hr
 go_enter Tryz.func21,Tryz.ntmps21
 go_wp2
 refine wp_scope_jumps 0 (fun a' w'=>chkO ts=2∧Below w.heap.size w w'∧∃ u0 u1 u2 u3 u4 u5 u6 u7 u8 u9 u10 u11 u12 u13 u14 u15 u16 u17 u18 u19 u20 u21 u22 u23 u24 u25 u26 u27 u28 u29 u30 u31 u32 u33 u34 u35 u36 u37 u38:Value,a'={ tmps:=#[u0,u1,u2,u3,u4,u5,u6,u7,u8,u9,u10,u11,u12,u13,u14,u15,u16,u17,u18,u19,u20,u21,u22,u23,u24,u25,u26,u27,u28,u29,u30,u31,u32,u33,u34,u35,u36,u37,u38],defers:=[] }) (fun _ _=>0) rfl ?_ ?_
 rotate_left
 ·rintro a' w' ⟨hn,hb,u0,u1,u2,u3,u4,u5,u6,u7,u8,u9,u10,u11,u12,u13,u14,u15,u16,u17,u18,u19,u20,u21,u22,u23,u24,u25,u26,u27,u28,u29,u30,u31,u32,u33,u34,u35,u36,u37,u38,rfl⟩;have HN:=hid hn;clear hn
  go_wp2
  simp only[Exit.jump]
  go_ret
  refine⟨?_,hb⟩;rw[HN.out];exact rfl
 by_cases h4:1024<ts.length
 ·have HN:Hid (chkO ts=2):=by unfold chkO;rw[if_pos h4];exact rfl
  have h4':(ts.length:Int) > 1024:=by omega
  clear h4
  go_wp2
  go_step3
  exact⟨rfl,HN.out,(Below.refl _ _).alloc (Nat.le_refl _) _,_,_,_,_,_,_,_,_,_,_,_,_,_,_,_,_,_,_,_,_,_,_,_,_,_,_,_,_,_,_,_,_,_,_,_,_,_,_,_,rfl⟩
 have h4':¬ (ts.length:Int) > 1024:=by omega
 have HO:Hid (∀ b,chkF ⟨0,⟨#[]⟩,0⟩ ts=b->chkO ts=if b then 0 else 2):=fun b hb=>by unfold chkO;rw[if_neg h4,hb]
 clear h4
 go_wp2
 go_loopw [13] (fun i wr=>∃ (t:Nat) (last:Tok),t<=ts.length∧i=.int .i64 t∧wr.heap[w.heap.size]?=some (.cells last.cells 81 (0,0))∧Below w.heap.size w wr∧chkF last (ts.drop t)=chkF ⟨0,⟨#[]⟩,0⟩ ts) (fun i _=>ts.length - (intOf i).toNat)
 case atStart=>exact⟨0,⟨0,⟨#[]⟩,0⟩,Nat.zero_le _,rfl,heap_alloc_new _ _,(Below.refl _ _).alloc (Nat.le_refl _) _,rfl⟩
 case round=>
  obtain⟨t,last,ht,rfl,hrow,hB,hch⟩:=hrel;have HROW:=hid hrow;have HB:=hid hB;have HCH:=hid hch;clear hB hch hrow
  by_cases hlt:t<ts.length
  ·have hd:decide ((t:Int)<ts.length)=true:=by simp;omega
   obtain⟨b,o,rfl,-⟩:=HR.out (by omega);obtain⟨x,hx⟩:∃ x,ts[t]?=some x:=⟨_,List.getElem?_eq_getElem (by omega)⟩;obtain⟨k0,k1,k2⟩:=zfv (RowsAt.below HR.out HB.out) hx;have HD:Hid (ts.drop t=x::ts.drop (t+1)):=by
    have hg:=List.getElem?_eq_some_iff.1 hx;show ts.drop t=x::ts.drop (t+1);rw[<-List.getElem_cons_drop (h:=hlt),hg.2]
   clear hx
   go_wp2_with fail
   obtain⟨K,HK⟩:∃ K,Hid (wr.heap.size=K):=⟨_,rfl⟩;have HKw:Hid (w.heap.size≠K):=fun e=>by have:=zab HROW.out;have:=HK.out;omega
   refine zag (fun W=>ChF w K last x W) ⟨HB.out.alloc HB.out.size _,?_,by rw[<-HK.out];exact heap_alloc_new _ _⟩ ?_
   ·exact(((Below.refl wr.heap.size wr).alloc (Nat.le_refl _) _).block _ (zab HROW.out)).trans HROW.out
   intro W1 f1;clear k0 k1 k2 HB HROW;rw[HK.out];refine(zjn x W1).mono ?_;rintro e W2 ⟨rfl,b2⟩;have F2:Hid (ChF w K last x W2):=f1.below b2;clear f1 b2 HK;have NO:Hid (chkF last (ts.drop t)=false->chkO ts=2):=fun h=>by rw[HCH.out] at h;exact HO.out _ h
   have GO:Hid (chkF last (ts.drop t)=chkF x (ts.drop (t+1))->∀ W:World,ChF w K last x W->(∃ (t':Nat) (last':Tok),t'<=ts.length∧Value.int .i64 ((t:Int)+1)=.int .i64 t'∧(((W.setCell ⟨w.heap.size,0,none⟩ (.int .i64 x.kind)).setCell ⟨w.heap.size,1,none⟩ (.string x.text)).setCell ⟨w.heap.size,2,none⟩ (.int .i64 x.pos)).heap[w.heap.size]?=some (.cells last'.cells 81 (0,0))∧Below w.heap.size w (((W.setCell ⟨w.heap.size,0,none⟩ (.int .i64 x.kind)).setCell ⟨w.heap.size,1,none⟩ (.string x.text)).setCell ⟨w.heap.size,2,none⟩ (.int .i64 x.pos))∧chkF last' (ts.drop t')=chkF ⟨0,⟨#[]⟩,0⟩ ts)∧ts.length - (intOf (.int .i64 ((t:Int)+1))).toNat<ts.length - (intOf (.int .i64 (t:Int))).toNat):=fun h W f=>by
    have r1:(W.setCell ⟨w.heap.size,0,none⟩ (.int .i64 x.kind)).heap[w.heap.size]?=_:=heap_setCell_same _ _ _ _ _ _ f.l;have r2:((W.setCell ⟨w.heap.size,0,none⟩ (.int .i64 x.kind)).setCell ⟨w.heap.size,1,none⟩ (.string x.text)).heap[w.heap.size]?=_:=heap_setCell_same _ _ _ _ _ _ r1;have r3:(((W.setCell ⟨w.heap.size,0,none⟩ (.int .i64 x.kind)).setCell ⟨w.heap.size,1,none⟩ (.string x.text)).setCell ⟨w.heap.size,2,none⟩ (.int .i64 x.pos)).heap[w.heap.size]?=_:=heap_setCell_same _ _ _ _ _ _ r2;refine⟨⟨t+1,x,by omega,by congr 1,r3,((f.b.setCell (p:=⟨w.heap.size,0,none⟩) (Nat.le_refl _) _).setCell (p:=⟨w.heap.size,1,none⟩) (Nat.le_refl _) _).setCell (p:=⟨w.heap.size,2,none⟩) (Nat.le_refl _) _,by rw[<-h];exact HCH.out⟩,?_⟩;show ts.length - ((t:Int)+1).toNat<ts.length - (t:Int).toNat;omega
   clear HO HCH
   cases hbx:bareB x
   ·have h:=F2.out.c;obtain⟨k0,k1,k2⟩:=h
    go_wp2_with fail
    refine(zjn x W2).mono ?_;rintro e W3 ⟨rfl,b3⟩;have F3:Hid (ChF w K last x W3):=F2.out.below b3;obtain⟨k0,k1,k2⟩:=F3.out.c;rw[hbx];clear b3 F2
    go_wp2_with fail
    refine(zre x W3).mono ?_;rintro e W4 ⟨rfl,b4⟩;have F4:Hid (ChF w K last x W4):=F3.out.below b4;obtain⟨k0,k1,k2⟩:=F4.out.c;obtain⟨d0,d1,d2⟩:=F4.out.d;have z:=F4.out.z;clear b4 F3
    cases hax:alnB x
    ·have HN:Hid (chkO ts=2):=NO.out (by rw[HD.out,chkF,hbx,hax];exact rfl)
     go_wp2
     go_step3
     exact⟨rfl,HN.out,F4.out.b,_,_,_,_,_,_,_,_,_,_,_,_,_,_,_,_,_,_,_,_,_,_,_,_,_,_,_,_,_,_,_,_,_,_,_,_,_,_,_,rfl⟩
    ·have HG:=GO.out (by rw[HD.out,chkF,hbx,hax];exact rfl) W4 F4.out;have HG':Hid _:=HG;clear HG GO
     go_wp2
     exact HG'.out
   ·obtain⟨d0,d1,d2⟩:=F2.out.d
    go_wp2_with fail
    refine(zeq w.heap.size last W2 d0 d1).mono ?_;rintro e W3 ⟨rfl,rfl⟩;obtain⟨k0,k1,k2⟩:=F2.out.c
    cases hcl:clo last
    ·have HN:Hid (chkO ts=2):=NO.out (by rw[HD.out,chkF,hbx,hcl];exact rfl)
     go_wp2
     go_step3
     exact⟨rfl,HN.out,F2.out.b,_,_,_,_,_,_,_,_,_,_,_,_,_,_,_,_,_,_,_,_,_,_,_,_,_,_,_,_,_,_,_,_,_,_,_,_,_,_,_,rfl⟩
    ·go_wp2_with fail
     refine(zjn x W3).mono ?_;rintro e W4 ⟨rfl,b4⟩;have F4:Hid (ChF w K last x W4):=F2.out.below b4;obtain⟨k0,k1,k2⟩:=F4.out.c;obtain⟨d0,d1,d2⟩:=F4.out.d;have z:=F4.out.z;rw[hbx];clear b4 F2;have HG:=GO.out (by rw[HD.out,chkF,hbx,hcl];exact rfl) W4 F4.out;have HG':Hid _:=HG;clear HG GO
     go_wp2
     exact HG'.out
  ·have hd:decide ((t:Int)<ts.length)=false:=by simp;omega
   have hdn:ts.drop t=[]:=List.drop_eq_nil_iff.2 (by omega);have HE:Hid (chkO ts=if clo last then 2 else 0):=by
    have h:=HCH.out;rw[hdn,chkF] at h;have:=HO.out _ h.symm;rw[this]
    cases clo last <;> exact rfl
   have c0:wr.cell? ⟨w.heap.size,0,none⟩=some (.int .i64 last.kind):=(cell_of_row _ _ 0 _ _ _ HROW.out).trans rfl;have c1:wr.cell? ⟨w.heap.size,1,none⟩=some (.string last.text):=(cell_of_row _ _ 1 _ _ _ HROW.out).trans rfl;clear hdn HCH HO
   go_wp2_with fail
   refine(zeq w.heap.size last wr c0 c1).mono ?_;rintro e W3 ⟨rfl,rfl⟩
   cases hcl:clo last
   ·have HN:Hid (chkO ts=0):=by rw[HE.out,hcl];exact rfl
    go_wp2
    simp only[Exit.jump]
    go_ret
    refine⟨?_,HB.out⟩;rw[HN.out];exact rfl
   ·have HN:Hid (chkO ts=2):=by rw[HE.out,hcl];exact rfl
    go_wp2
    go_step3
    exact⟨rfl,HN.out,HB.out,_,_,_,_,_,_,_,_,_,_,_,_,_,_,_,_,_,_,_,_,_,_,_,_,_,_,_,_,_,_,_,_,_,_,_,_,_,_,_,rfl⟩
theorem zk3 {t:Tok}(h:alnB t=true):t.text.size<=4096:=by
 unfold alnB lexO at h;have e:t.text.size=t.text.data.toList.length:=by simp
 by_cases h4:4096<t.text.data.toList.length
 ·rw[if_pos h4] at h
  cases h
 ·omega
theorem zz0 {L:List UInt8}:∀ (f p:Nat)(ts:List Tok),∀ x ∈ (lexG L f p ts).1,x ∈ ts∨x.text.data.toList.length<=L.length - p:=by
 intro f
 induction f with
 | zero=>exact fun p ts x hx=>.inl hx
 | succ f ih=>
  intro p ts x hx;obtain⟨k,n,e,hl⟩:∃ k n e,lookR (L.drop p) (clo (lastT ts))=(k,n,e):=⟨_,_,_,rfl⟩
  by_cases h1:p<L.length∨clo (lastT ts)=true
  ·by_cases he:e=0
   ·subst he
    by_cases hk:k=0
    ·subst hk;rw[zeu h1 hl] at hx;rcases ih _ _ x hx with h|h
     ·exact .inl h
     ·exact .inr (by omega)
    ·by_cases ht:ts.length=1024
     ·rw[zem h1 hl hk ht] at hx;simp at hx
     ·rw[zd3 h1 hl hk ht] at hx;rcases ih _ _ x hx with h|h
      ·rcases List.mem_append.1 h with h|h
       ·exact .inl h
       ·rw[List.mem_singleton] at h;subst h;refine .inr ?_;show((L.drop p).take n).length<=_;rw[List.length_take,List.length_drop];omega
      ·exact .inr (by omega)
   ·rw[zet h1 hl he] at hx;simp at hx
  ·rw[lexG,if_neg h1] at hx;exact .inl hx
theorem zz1 {L:List UInt8}:∀ (f p:Nat)(ts:List Tok),(lexG L f p ts).1=[]∨∃ z,(lexG L f p ts).1=ts++z:=by
 intro f
 induction f with
 | zero=>exact fun p ts=>.inr ⟨[],by rw[List.append_nil];rfl⟩
 | succ f ih=>
  intro p ts;obtain⟨k,n,e,hl⟩:∃ k n e,lookR (L.drop p) (clo (lastT ts))=(k,n,e):=⟨_,_,_,rfl⟩
  by_cases h1:p<L.length∨clo (lastT ts)=true
  ·by_cases he:e=0
   ·subst he
    by_cases hk:k=0
    ·subst hk;rw[zeu h1 hl];exact ih _ _
    ·by_cases ht:ts.length=1024
     ·rw[zem h1 hl hk ht];exact .inl rfl
     ·rw[zd3 h1 hl hk ht];rcases ih (p+n) (ts++[⟨k,strU ((L.drop p).take n),p⟩]) with h|⟨z,h⟩
      ·exact .inl h
      ·exact .inr ⟨_,by rw[h,List.append_assoc]⟩
   ·rw[zet h1 hl he];exact .inl rfl
  ·rw[lexG,if_neg h1];exact .inr ⟨[],by rw[List.append_nil]⟩
theorem zv6 {t:Tok}(h:alnB t=true):lookR t.text.data.toList false=(t.kind,t.text.data.toList.length,0)∧t.kind≠0∧t.text.data.toList≠[]:=by
 have h4:=zk3 h;have e4:t.text.size=t.text.data.toList.length:=by simp
 unfold alnB lexO at h;generalize hLe:t.text.data.toList=L at h e4 ⊢;rw[if_neg (by omega)] at h
 by_cases h0:0<L.length
 ·obtain⟨k,n,e,hl⟩:∃ k n e,lookR (L.drop 0) (clo (lastT []))=(k,n,e):=⟨_,_,_,rfl⟩;have hl':lookR L false=(k,n,e):=hl
  by_cases he:e=0
  ·subst he;have hs:=zdt hl' (fun e=>by rw[e] at h0;simp at h0)
   by_cases hk:k=0
   ·subst hk;rw[zeu (.inl h0) hl] at h
    exfalso
    have hx:=zz0 (L:=L) (2 * L.length) (0+n) []
    cases hr:(lexG L (2 * L.length) (0+n) []).1 with
    | nil=>rw[hr] at h;cases h
    | cons x xs=>
     rw[hr] at h hx;have h5:=hx x (by simp);simp only[tkEq,Bool.and_eq_true,beq_iff_eq] at h;rw[ByteArray.toList_eq,ByteArray.toList_eq,hLe] at h;rw[h.2] at h5;rcases h5 with h5|h5
     ·simp at h5
     ·rcases hs.2 with h6|h6
      ·omega
      ·exact absurd h6.1 (by decide)
   ·rw[zd3 (.inl h0) hl hk (by simp)] at h;rcases zz1 (L:=L) (2 * L.length) (0+n) ([]++[⟨k,strU ((L.drop 0).take n),((0:Nat):Int)⟩]) with h5|⟨z,h5⟩
    ·rw[h5] at h;cases h
    ·rw[h5] at h;simp only[List.nil_append,List.cons_append,tkEq,Bool.and_eq_true,beq_iff_eq] at h;rw[zcw,ByteArray.toList_eq,hLe,List.drop_zero] at h;have h6:=congrArg List.length h.2;rw[List.length_take] at h6;have hn:n=L.length:=by omega
     rw[hl',hn,h.1];refine⟨rfl,?_,fun e=>by rw[e] at h0;simp at h0⟩;rw[<-h.1];exact hk
  ·rw[zet (.inl h0) hl he] at h
   cases h
 ·rw[zfy h0 rfl] at h
  cases h
theorem zn4 {t:Tok}(h:bareB t=true):clo t=false∧t.kind=5∧t.text.toList=[]:=by
 unfold bareB at h;rw[Bool.and_eq_true,beq_iff_eq,List.isEmpty_iff] at h;refine⟨?_,h.1,h.2⟩;unfold clo;rw[h.1];rfl
def numO (t:Tok):Option Nat:=if t.kind=2 then decO t.text.data.toList else none
def valO (t:Tok):Option (List UInt8):=if t.kind=3 then(match unqO t.text.data.toList with|some (v,n)=>if n=t.text.size then some v else none|none=>none) else none
def numV (o:Option Nat) (e:Int):Value:=match o with|none=>.tuple #[.int .i64 0,.int .i64 e] | some n=>.tuple #[.int .i64 n,.int .i64 0]
theorem zrh (t:Tok)(w:World):Calls Tryz.prog 213 #[.agg t.cells] w fun e w'=>e=.returned (numV (numO t) 201)∧Below w.heap.size w w':=by
 unfold Tok.cells
 go_enter Tryz.func213,Tryz.ntmps213
 go_wp2_with fail
 refine zag (fun W=>W.heap[w.heap.size]?=some (.cells #[.int .i64 t.kind,.string t.text,.int .i64 t.pos] 38 (0,0))∧Below w.heap.size w W) ⟨heap_alloc_new _ _,(Below.refl _ _).alloc (Nat.le_refl _) _⟩ ?_;rintro W0 ⟨hr0,b0⟩;refine(zhl t.text W0).mono ?_;rintro e W1 ⟨rfl,b1⟩;have hr1:W1.heap[w.heap.size]?=some (.cells #[.int .i64 t.kind,.string t.text,.int .i64 t.pos] 38 (0,0)):=(b1.block _ (zab hr0)).trans hr0;have c0:W1.cell? ⟨w.heap.size,0,none⟩=some (.int .i64 t.kind):=(cell_of_row _ _ 0 _ _ _ hr1).trans rfl;have bw:Below w.heap.size w W1:=b0.trans (b1.mono b0.size);clear hr0 hr1 b0 b1
 cases hk:(t.kind == 2)
 ·have hk':(t.kind != 2)=true:=by rw[bne,hk];rfl
  have HN:Hid (numO t=none):=by unfold numO;rw[if_neg (by simpa using hk)];exact rfl
  clear hk;unfold decV
  go_wp2
  go_ret2
  refine⟨?_,bw⟩;rw[HN.out];exact rfl
 ·have hk':(t.kind != 2)=false:=by rw[bne,hk];rfl
  have HN:Hid (numO t=decO t.text.data.toList):=by unfold numO;rw[if_pos (by simpa using hk)];exact rfl
  clear hk
  cases hd:decO t.text.data.toList with
  | none=>
   have HX:Hid (numO t=none):=by rw[HN.out,hd];exact rfl
   unfold decV
   go_wp2
   go_ret2
   refine⟨?_,bw⟩;rw[HX.out];exact rfl
  | some n=>
   have HX:Hid (numO t=some n):=by rw[HN.out,hd];exact rfl
   unfold decV
   go_wp2
   go_ret2
   refine⟨?_,bw⟩;rw[HX.out];exact rfl
theorem zn5 (t:Tok)(w:World)(hs:t.text.size<=100000):Calls Tryz.prog 138 #[.agg t.cells] w fun e w'=>e=.returned (strV (valO t) 200)∧Below w.heap.size w w':=by
 unfold Tok.cells;obtain⟨cap,WT,cs,fr,hcv,bT,hrT,hcs,hcap⟩:=zn0 t.text (w.alloc (.cells #[.int .i64 t.kind,.string t.text,.int .i64 t.pos] 38));have hsz:(w.alloc (.cells #[.int .i64 t.kind,.string t.text,.int .i64 t.pos] 38)).heap.size=w.heap.size+1:=by simp
 have HTL:Hid (t.text.size=t.text.data.toList.length):=by show t.text.size=t.text.data.toList.length;simp
 rw[hsz] at hcv bT hrT;have HBA:Hid (BA WT (some ⟨w.heap.size+1,0,none⟩) t.text.data.toList):=BA.of_row hrT hcs;have bw0:Below w.heap.size w WT:=((Below.refl _ _).alloc (Nat.le_refl _) _).trans (bT.mono (by omega));have hr0:WT.heap[w.heap.size]?=some (.cells #[.int .i64 t.kind,.string t.text,.int .i64 t.pos] 38 (0,0)):=(bT.block _ (by omega)).trans (heap_alloc_new _ _);clear hrT hcs bT hsz
 go_enter Tryz.func138,Tryz.ntmps138
 go_wp2_with fail
 have HU:Hid (Calls Tryz.prog 126 #[.slice (some ⟨w.heap.size+1,0,none⟩) t.text.size cap] WT fun e w'=>UnqP WT.heap.size w' (unqO t.text.data.toList) e∧Below WT.heap.size WT w'):=by
  have:=zfk (some ⟨w.heap.size+1,0,none⟩) cap t.text.data.toList WT HBA.out (by have:=HTL.out;omega) (by have:=HTL.out;omega);rw[<-HTL.out] at this;exact this
 refine HU.out.mono ?_;rintro e W1 ⟨hP,b1⟩;have hr1:W1.heap[w.heap.size]?=some (.cells #[.int .i64 t.kind,.string t.text,.int .i64 t.pos] 38 (0,0)):=(b1.block _ (zab hr0)).trans hr0;have c0:W1.cell? ⟨w.heap.size,0,none⟩=some (.int .i64 t.kind):=(cell_of_row _ _ 0 _ _ _ hr1).trans rfl;have c1:W1.cell? ⟨w.heap.size,1,none⟩=some (.string t.text):=(cell_of_row _ _ 1 _ _ _ hr1).trans rfl;have bw:Below w.heap.size w W1:=bw0.trans (b1.mono bw0.size);clear hr0 hr1 b1 bw0 HU HBA hcv;have HNK:Hid (¬ t.kind=3->valO t=none):=fun h=>by unfold valO;rw[if_neg h]
 have HVK:Hid (t.kind=3->valO t=match unqO t.text.data.toList with|some (v,n)=>if n=t.text.size then some v else none|none=>none):=fun h=>by unfold valO;rw[if_pos h]
 cases hu:unqO t.text.data.toList with
 | none=>
  rw[hu] at hP;unfold UnqP at hP;subst hP;have HX:Hid (valO t=none):=by
   by_cases hk:t.kind=3
   ·exact(HVK.out hk).trans (by rw[hu])
   ·exact HNK.out hk
  clear HNK HVK hu
  cases hk:(t.kind == 3)
  ·have hk':(t.kind != 3)=true:=by rw[bne,hk];rfl
   clear hk
   go_wp2
   go_ret2
   refine⟨?_,bw⟩;rw[HX.out];exact rfl
  ·have hk':(t.kind != 3)=false:=by rw[bne,hk];rfl
   clear hk
   go_wp2
   go_ret2
   refine⟨?_,bw⟩;rw[HX.out];exact rfl
 | some p=>
  obtain⟨v,n⟩:=p;rw[hu] at hP;obtain⟨u,rfl,hO⟩:=hP;have hn:=zhn hu;have hn0:((n:Int) == 0)=false:=by rw[beq_eq_false_iff_ne];omega
  obtain⟨su,cu,rfl,hRu,-,-,-⟩:=OwnG.rows elB hO;have hcv:=zfx (BA.of_rows hRu) cu
  cases hk:(t.kind == 3)
  ·have hk':(t.kind != 3)=true:=by rw[bne,hk];rfl
   have HX:Hid (valO t=none):=HNK.out (by simpa using hk);clear hk HNK HVK hu
   go_wp2
   go_ret2
   refine⟨?_,bw⟩;rw[HX.out];exact rfl
  ·have hk':(t.kind != 3)=false:=by rw[bne,hk];rfl
   have HV:Hid (valO t=if n=t.text.size then some v else none):=(HVK.out (by simpa using hk)).trans (by rw[hu]);clear hk HNK HVK hu
   by_cases hlt:n<t.text.size
   ·have HX:Hid (valO t=none):=by rw[HV.out,if_neg (by omega)];exact rfl
    have hd:(n:Int)<t.text.size:=by omega
    clear HV
    go_wp2
    go_ret2
    refine⟨?_,bw⟩;rw[HX.out];exact rfl
   ·have HX:Hid (valO t=some v):=by rw[HV.out,if_pos (by have:=HTL.out;omega)];exact rfl
    have hd:¬ (n:Int)<t.text.size:=by omega
    clear HV
    go_wp2
    go_ret2
    refine⟨?_,bw⟩;rw[HX.out];exact rfl
inductive Pt where
 | mk (kind:Int) (text:ByteArray) (num:Int) (pos frm to:Int) (kids:List Pt)
inductive Rs (α:Type) where
 | ok (v:α) (p:Nat)
 | bad (s:Int)
 | out
def Rs.bind {α β:Type}(r:Rs α) (f:α->Nat->Rs β):Rs β:=match r with
 | .ok v p=>f v p
 | .bad s=>.bad s
 | .out=>.out
def Rs.need {β:Type}(b:Bool) (s:Int) (k:Rs β):Rs β:=if b then k else .bad s
def tokZ:Tok:=⟨0,⟨#[]⟩,0⟩
section
variable (ts:List Tok)
def nxT (p:Nat):Tok:=ts.getD p tokZ
def behI (p:Nat):Int:=if p=0 then 0 else(nxT ts (p - 1)).pos+(nxT ts (p - 1)).text.size
def herI (p:Nat):Int:=if p<ts.length then(nxT ts p).pos else behI ts p
def isT (p:Nat) (s:List UInt8):Bool:=(nxT ts p).text.data.toList == s
def kepB (s:ByteArray):Bool :=
 (s.data.toList == [112,97,99,107,97,103,101]) || (s.data.toList == [105,109,112,111,114,116]) || (s.data.toList == [99,111,110,115,116]) || (s.data.toList == [118,97,114]) ||
 (s.data.toList == [116,121,112,101]) || (s.data.toList == [115,116,114,117,99,116]) || (s.data.toList == [102,117,110,99]) || (s.data.toList == [105,102]) ||
 (s.data.toList == [101,108,115,101]) || (s.data.toList == [102,111,114]) || (s.data.toList == [114,101,116,117,114,110]) || (s.data.toList == [116,114,117,101]) ||
 (s.data.toList == [102,97,108,115,101]) || (s.data.toList == [105,110,116]) || (s.data.toList == [98,111,111,108]) || (s.data.toList == [115,116,114,105,110,103])
def namB (p:Nat):Bool:=((nxT ts p).kind == 1) && !kepB (nxT ts p).text
def rowI (s:ByteArray):Int :=
 if s.data.toList == [124,124] then 0 else if s.data.toList == [38,38] then 1
 else if (s.data.toList == [61,61]) || (s.data.toList == [33,61]) || (s.data.toList == [60]) || (s.data.toList == [60,61]) || (s.data.toList == [62]) || (s.data.toList == [62,61]) then 2
 else if (s.data.toList == [43]) || (s.data.toList == [45]) then 3 else if (s.data.toList == [42]) || (s.data.toList == [47]) || (s.data.toList == [37]) then 4 else -1
def valT (t:Tok):ByteArray:=match valO t with|some x=>strU x|none=>⟨#[]⟩
def numT (t:Tok):Int:=match numO t with|some n=>n|none=>0
def leaP (k:Int) (p:Nat):Rs Pt:=.ok (.mk k (nxT ts p).text 0 (nxT ts p).pos (herI ts p) (behI ts (p+1)) []) (p+1)
def worP (k:Int) (p:Nat):Rs Pt:=.need (namB ts p) (herI ts p) (leaP ts k p)
def expP (s:List UInt8) (p:Nat) {β:Type}(k:Nat->Rs β):Rs β:=.need (isT ts p s) (herI ts p) (k (p+1))
def kinP (n:Int) (p:Nat) {β:Type}(k:Tok->Nat->Rs β):Rs β:=.need ((nxT ts p).kind == n) (herI ts p) (k (nxT ts p) (p+1))
def namP (p:Nat) {β:Type}(k:Tok->Nat->Rs β):Rs β:=.need (namB ts p) (herI ts p) (k (nxT ts p) (p+1))
def va1P (p:Nat):Rs Pt :=
 if (nxT ts p).kind == 2 then .ok (.mk 20 ⟨#[]⟩ (numT (nxT ts p)) (nxT ts p).pos (herI ts p) (behI ts (p+1)) []) (p+1)
 else if (nxT ts p).kind == 3 then .ok (.mk 21 (valT (nxT ts p)) 0 (nxT ts p).pos (herI ts p) (behI ts (p+1)) []) (p+1)
 else if isT ts p [116,114,117,101] || isT ts p [102,97,108,115,101] then leaP ts 22 p
 else .bad (herI ts p)
def valP (p:Nat):Rs Pt :=
 if isT ts p [45] then(if (nxT ts (p+1)).kind == 2 then(va1P ts (p+1)).bind fun v q=>.ok (.mk 26 (nxT ts p).text 0 (nxT ts p).pos (herI ts p) (behI ts q) [v]) q else .bad (herI ts (p+1)))
 else va1P ts p
def typP (p:Nat):Rs Pt :=
 if isT ts p [105,110,116] || isT ts p [98,111,111,108] || isT ts p [115,116,114,105,110,103] then leaP ts 10 p
 else if isT ts (p+1) [46] then(worP ts 23 p).bind fun v q=>expP ts [46] q fun q=>namP ts q fun t q=>.ok (.mk 12 t.text 0 t.pos (herI ts p) (behI ts q) [v]) q
 else worP ts 11 p
def tydP (k:Int) (p:Nat):Rs Pt:=namP ts p fun t q=>(typP ts q).bind fun v q=>.ok (.mk k t.text 0 t.pos (herI ts p) (behI ts q) [v]) q
structure Fns where
 bin:Nat->Nat->Rs Pt
 binL:Nat->Int->Pt->Nat->Rs Pt
 una:Nat->Rs Pt
 post:Nat->Rs Pt
 posL:Int->Pt->Nat->Rs Pt
 prim:Nat->Rs Pt
 argL:List Pt->Nat->Rs (List Pt)
 parL:List Pt->Nat->Rs (List Pt)
 fieL:List Pt->Nat->Rs (List Pt)
 stmt:Nat->Rs Pt
 bran:Nat->Rs Pt
 stmL:List Pt->Nat->Rs (List Pt)
 impL:List Pt->Nat->Rs (List Pt)
 decL:List Pt->Nat->Rs (List Pt)
def lisP (one:Nat->Rs Pt) (more:List Pt->Nat->Rs (List Pt)) (p:Nat):Rs (List Pt) :=
 expP ts [40] p fun q=>if isT ts q [41] then .ok [] (q+1) else(one q).bind fun v q=>(more [v] q).bind fun l q=>expP ts [41] q fun q=>.ok l q
def linP (more:List Pt->Nat->Rs (List Pt)) (p:Nat):Rs (List Pt) :=
 expP ts [123] p fun q=>(more [] q).bind fun l q=>expP ts [125] q fun q=>.ok l q
def bloP (f:Fns) (p:Nat):Rs Pt:=(linP ts f.stmL p).bind fun l q=>.ok (.mk 13 ⟨#[]⟩ 0 (herI ts p) (herI ts p) (behI ts q) l) q
def varP (f:Fns) (p:Nat):Rs Pt :=
 expP ts [118,97,114] p fun q=>namP ts q fun t q=>(typP ts q).bind fun v q=>
  if isT ts q [61] then(f.bin 0 (q+1)).bind fun x q=>.ok (.mk 4 t.text 0 t.pos (herI ts p) (behI ts q) [v,x]) q
  else .ok (.mk 4 t.text 0 t.pos (herI ts p) (behI ts q) [v]) q
def looP (f:Fns) (p:Nat):Rs Pt :=
 expP ts [102,111,114] p fun q=>(f.bin 0 q).bind fun x q=>(bloP ts f q).bind fun b q=>.ok (.mk 15 ⟨#[]⟩ 0 (herI ts p) (herI ts p) (behI ts q) [x,b]) q
def resP (f:Fns) (p:Nat):Rs Pt :=
 expP ts [114,101,116,117,114,110] p fun q=>
  if (!((nxT ts q).kind == 5)) && !isT ts q [125] then(f.bin 0 q).bind fun x q=>.ok (.mk 16 ⟨#[]⟩ 0 (herI ts p) (herI ts p) (behI ts q) [x]) q
  else .ok (.mk 16 ⟨#[]⟩ 0 (herI ts p) (herI ts p) (behI ts q) []) q
def shoP (f:Fns) (p:Nat):Rs Pt :=
 namP ts p fun t q=>expP ts [58,61] q fun q=>(f.bin 0 q).bind fun x q=>.ok (.mk 17 t.text 0 t.pos (herI ts p) (behI ts q) [x]) q
def simP (f:Fns) (p:Nat):Rs Pt :=
 (f.bin 0 p).bind fun x q=>if isT ts q [61] then(f.bin 0 (q+1)).bind fun y q=>.ok (.mk 18 ⟨#[]⟩ 0 (herI ts p) (herI ts p) (behI ts q) [x,y]) q
  else .ok (.mk 19 ⟨#[]⟩ 0 (herI ts p) (herI ts p) (behI ts q) [x]) q
def impP (p:Nat):Rs Pt:=expP ts [105,109,112,111,114,116] p fun q=>kinP ts 3 q fun t q=>.ok (.mk 2 (valT t) 0 t.pos (herI ts p) (behI ts q) []) q
def conP (p:Nat):Rs Pt :=
 expP ts [99,111,110,115,116] p fun q=>namP ts q fun t q=>expP ts [61] q fun q=>(valP ts q).bind fun v q=>.ok (.mk 3 t.text 0 t.pos (herI ts p) (behI ts q) [v]) q
def strP (f:Fns) (p:Nat):Rs Pt :=
 expP ts [116,121,112,101] p fun q=>namP ts q fun t q=>expP ts [115,116,114,117,99,116] q fun q=>(linP ts f.fieL q).bind fun l q=>.ok (.mk 5 t.text 0 t.pos (herI ts p) (behI ts q) l) q
def recP (p:Nat):Rs Pt:=namP ts p fun t q=>(worP ts 11 q).bind fun v q=>.ok (.mk 8 t.text 0 t.pos (herI ts p) (behI ts q) [v]) q
def funR (f:Fns) (fr:Int) (l:List Pt) (p:Nat):Rs Pt :=
 namP ts p fun t q=>(lisP ts (tydP ts 9) f.parL q).bind fun ps q=>
  if isT ts q [123] then(bloP ts f q).bind fun b q=>.ok (.mk 7 t.text 0 t.pos fr (behI ts q) (l++ps++[b])) q
  else(typP ts q).bind fun v q=>(bloP ts f q).bind fun b q=>.ok (.mk 7 t.text 0 t.pos fr (behI ts q) (l++ps++[v]++[b])) q
def funP (f:Fns) (p:Nat):Rs Pt :=
 expP ts [102,117,110,99] p fun q=>if isT ts q [40] then(recP ts (q+1)).bind fun v q=>expP ts [41] q fun q=>funR ts f (herI ts p) [v] q else funR ts f (herI ts p) [] q
def decP (f:Fns) (p:Nat):Rs Pt :=
 if isT ts p [99,111,110,115,116] then conP ts p else if isT ts p [118,97,114] then varP ts f p else if isT ts p [116,121,112,101] then strP ts f p
 else if isT ts p [102,117,110,99] then funP ts f p else .bad (herI ts p)
def fns:Nat->Fns
 | 0=>⟨fun _ _=>.out,fun _ _ _ _=>.out,fun _=>.out,fun _=>.out,fun _ _ _=>.out,fun _=>.out,fun _ _=>.out,fun _ _=>.out,fun _ _=>.out,fun _=>.out,fun _=>.out,fun _ _=>.out,fun _ _=>.out,fun _ _=>.out⟩
 | n+1=>{
  bin:=fun l p=>if l=5 then(fns n).una p else((fns n).bin (l+1) p).bind fun t q=>(fns n).binL l (herI ts p) t q
  binL:=fun l fr t p=>if rowI (nxT ts p).text=l then
    ((fns n).bin (l+1) (p+1)).bind fun u q=>
     if l=2 then .ok (.mk 27 (nxT ts p).text 0 (nxT ts p).pos fr (behI ts q) [t,u]) q
     else(fns n).binL l fr (.mk 27 (nxT ts p).text 0 (nxT ts p).pos fr (behI ts q) [t,u]) q
   else .ok t p
  una:=fun p=>if isT ts p [45] || isT ts p [33] then((fns n).una (p+1)).bind fun u q=>.ok (.mk 26 (nxT ts p).text 0 (nxT ts p).pos (herI ts p) (behI ts q) [u]) q else(fns n).post p
  post:=fun p=>((fns n).prim p).bind fun t q=>(fns n).posL (herI ts p) t q
  posL:=fun fr t p=>
   if isT ts p [46] then namP ts (p+1) fun x q=>(fns n).posL fr (.mk 24 x.text 0 x.pos fr (behI ts q) [t]) q
   else if isT ts p [40] then(lisP ts ((fns n).bin 0) (fns n).argL p).bind fun l q=>(fns n).posL fr (.mk 25 ⟨#[]⟩ 0 fr fr (behI ts q) ([t]++l)) q
   else .ok t p
  prim:=fun p=>
   if isT ts p [40] then((fns n).bin 0 (p+1)).bind fun t q=>expP ts [41] q fun q=>.ok t q
   else if namB ts p then leaP ts 23 p else va1P ts p
  argL:=fun l p=>if isT ts p [44] then((fns n).bin 0 (p+1)).bind fun t q=>(fns n).argL (l++[t]) q else .ok l p
  parL:=fun l p=>if isT ts p [44] then(tydP ts 9 (p+1)).bind fun t q=>(fns n).parL (l++[t]) q else .ok l p
  fieL:=fun l p=>if isT ts p [125] then .ok l p else(tydP ts 6 p).bind fun t q=>if isT ts q [125] then(fns n).fieL (l++[t]) q else kinP ts 5 q fun _ q=>(fns n).fieL (l++[t]) q
  stmt:=fun p=>
   if isT ts p [123] then bloP ts (fns n) p else if isT ts p [118,97,114] then varP ts (fns n) p else if isT ts p [105,102] then(fns n).bran p
   else if isT ts p [102,111,114] then looP ts (fns n) p else if isT ts p [114,101,116,117,114,110] then resP ts (fns n) p
   else if namB ts p && isT ts (p+1) [58,61] then shoP ts (fns n) p else simP ts (fns n) p
  bran:=fun p=>
   expP ts [105,102] p fun q=>((fns n).bin 0 q).bind fun x q=>(bloP ts (fns n) q).bind fun b q=>
    if isT ts q [101,108,115,101] then
     (if isT ts (q+1) [105,102] then(fns n).bran (q+1) else bloP ts (fns n) (q+1)).bind fun c q=>.ok (.mk 14 ⟨#[]⟩ 0 (herI ts p) (herI ts p) (behI ts q) [x,b,c]) q
    else .ok (.mk 14 ⟨#[]⟩ 0 (herI ts p) (herI ts p) (behI ts q) [x,b]) q
  stmL:=fun l p=>if isT ts p [125] then .ok l p else((fns n).stmt p).bind fun t q=>if isT ts q [125] then(fns n).stmL (l++[t]) q else kinP ts 5 q fun _ q=>(fns n).stmL (l++[t]) q
  impL:=fun l p=>if isT ts p [105,109,112,111,114,116] then(impP ts p).bind fun t q=>kinP ts 5 q fun _ q=>(fns n).impL (l++[t]) q else .ok l p
  decL:=fun l p=>if p<ts.length then(decP ts (fns n) p).bind fun t q=>kinP ts 5 q fun _ q=>(fns n).decL (l++[t]) q else .ok l p }
def filP (n:Nat) (p:Nat):Rs Pt :=
 expP ts [112,97,99,107,97,103,101] p fun q=>namP ts q fun t q=>kinP ts 5 q fun _ q=>((fns ts n).impL [] q).bind fun l q=>((fns ts n).decL l q).bind fun l q=>
  .ok (.mk 1 t.text 0 t.pos (herI ts p) (behI ts q) l) q
end
def fw {α:Type}(r:Rs α) (k:Nat):Prop:=match r with | .ok _ q=>k<=q | .bad _=>True | .out=>False
theorem z2j {α:Type}{r:Rs α}{k:Nat}(h:fw r k):r≠.out:=by rintro rfl;exact h
theorem zcj {α:Type}{r:Rs α}{k m:Nat}(h:fw r k)(hm:m<=k):fw r m:=by
 cases r with
 | ok v q=>exact Nat.le_trans hm h
 | bad s=>trivial
 | out=>exact h
theorem zay {α β:Type}{r:Rs α}{f:α->Nat->Rs β}{k m:Nat}(h:fw r k)(hf:∀ v q,k<=q->fw (f v q) m):fw (r.bind f) m:=by
 cases r with
 | ok v q=>exact hf v q h
 | bad s=>trivial
 | out=>exact h
theorem zjv {β:Type}{b:Bool}{s:Int}{k:Rs β}{m:Nat}(h:b=true->fw k m):fw (Rs.need b s k) m:=by
 unfold Rs.need
 split
 ·rename_i hb;exact h hb
 ·trivial
theorem zbf {β:Type}{c:Prop} [Decidable c] {a b:Rs β}{m:Nat}(h:c->fw a m)(h':¬ c->fw b m):fw (if c then a else b) m:=by
 split
 ·rename_i hc;exact h hc
 ·rename_i hc;exact h' hc
section
variable {ts:List Tok}
theorem zz2 {p:Nat}(h:nxT ts p≠tokZ):p<ts.length:=by
 apply Nat.lt_of_not_le;intro hle;exact h (by unfold nxT;rw[List.getD_eq_getElem?_getD,List.getElem?_eq_none hle];rfl)
theorem zb5 {p:Nat}{s:List UInt8}(h:isT ts p s=true)(hs:s≠[]):p<ts.length:=by
 apply zz2;intro e;unfold isT at h;rw[e] at h;exact hs (eq_of_beq h).symm
theorem zf1 {p:Nat}{n:Int}(h:((nxT ts p).kind == n)=true)(hn:n≠0):p<ts.length:=by
 apply zz2;intro e;rw[e] at h;exact hn (eq_of_beq h).symm
theorem zg3 {p:Nat}(h:namB ts p=true):p<ts.length:=by
 unfold namB at h;rw[Bool.and_eq_true] at h;exact zf1 h.1 (by decide)
theorem zn6 {p:Nat}{l:Nat}(h:rowI (nxT ts p).text=l):p<ts.length:=by
 apply zz2;intro e;rw[e] at h;have h2:rowI tokZ.text = -1:=by rfl
 omega
theorem zc4 {β:Type}{s:List UInt8}{p m:Nat}{k:Nat->Rs β}(hs:s≠[])(h:p<ts.length->fw (k (p+1)) m):fw (expP ts s p k) m:=zjv fun hb=>h (zb5 hb hs)
theorem ziw {β:Type}{n:Int}{p m:Nat}{k:Tok->Nat->Rs β}(hn:n≠0)(h:p<ts.length->fw (k (nxT ts p) (p+1)) m):fw (kinP ts n p k) m:=zjv fun hb=>h (zf1 hb hn)
theorem zfh {β:Type}{p m:Nat}{k:Tok->Nat->Rs β}(h:p<ts.length->fw (k (nxT ts p) (p+1)) m):fw (namP ts p k) m:=zjv fun hb=>h (zg3 hb)
theorem zri (k:Int)(p:Nat):fw (leaP ts k p) (p+1):=Nat.le_refl _
theorem zrj (k:Int)(p:Nat):fw (worP ts k p) (p+1):=zjv fun _=>Nat.le_refl _
theorem zrk (p:Nat):fw (va1P ts p) (p+1):=by
 unfold va1P;refine zbf (fun _=>Nat.le_refl _) fun _=>zbf (fun _=>Nat.le_refl _) fun _=>zbf (fun _=>zri _ _) fun _=>trivial
theorem z2k (p:Nat):fw (valP ts p) (p+1):=by
 unfold valP;refine zbf (fun _=>zbf (fun _=>zay (zrk _) fun v q h=>?_) fun _=>trivial) fun _=>zrk _;show p+1<=q;omega
theorem zrl (p:Nat):fw (typP ts p) (p+1):=by
 unfold typP;refine zbf (fun _=>zri _ _) fun _=>zbf (fun _=>zay (zrj _ _) fun v q h=>zc4 (by simp) fun _=>zfh fun _=>?_) fun _=>zrj _ _;show p+1<=q+1+1;omega
theorem zrm (k:Int)(p:Nat):fw (tydP ts k p) (p+2):=by
 unfold tydP;refine zfh fun _=>zay (zrl _) fun v q h=>?_;show p+2<=q;omega
theorem z2l (p:Nat):fw (impP ts p) (p+2):=by
 unfold impP;exact zc4 (by simp) fun _=>ziw (by simp) fun _=>Nat.le_refl _
theorem z2m (p:Nat):fw (conP ts p) (p+1):=by
 unfold conP;refine zc4 (by simp) fun _=>zfh fun _=>zc4 (by simp) fun _=>zay (z2k _) fun v q h=>?_;show p+1<=q;omega
theorem z2n (p:Nat):fw (recP ts p) (p+1):=by
 unfold recP;refine zfh fun _=>zay (zrj _ _) fun v q h=>?_;show p+1<=q;omega
structure FwA (ts:List Tok) (n:Nat):Prop where
 bin:∀ l p,l<=5->12 * (ts.length - p)+(9 - l)<=n->fw ((fns ts n).bin l p) (p+1)
 binL:∀ l fr t p,l<=4->12 * (ts.length - p)+1<=n->fw ((fns ts n).binL l fr t p) p
 una:∀ p,12 * (ts.length - p)+3<=n->fw ((fns ts n).una p) (p+1)
 post:∀ p,12 * (ts.length - p)+2<=n->fw ((fns ts n).post p) (p+1)
 posL:∀ fr t p,12 * (ts.length - p)+1<=n->fw ((fns ts n).posL fr t p) p
 prim:∀ p,12 * (ts.length - p)+1<=n->fw ((fns ts n).prim p) (p+1)
 argL:∀ l p,12 * (ts.length - p)+1<=n->fw ((fns ts n).argL l p) p
 parL:∀ l p,12 * (ts.length - p)+1<=n->fw ((fns ts n).parL l p) p
 fieL:∀ l p,12 * (ts.length - p)+1<=n->fw ((fns ts n).fieL l p) p
 stmt:∀ p,12 * (ts.length - p)+10<=n->fw ((fns ts n).stmt p) (p+1)
 bran:∀ p,12 * (ts.length - p)+1<=n->fw ((fns ts n).bran p) (p+1)
 stmL:∀ l p,12 * (ts.length - p)+11<=n->fw ((fns ts n).stmL l p) p
 impL:∀ l p,12 * (ts.length - p)+1<=n->fw ((fns ts n).impL l p) p
 decL:∀ l p,12 * (ts.length - p)+1<=n->fw ((fns ts n).decL l p) p
theorem zdc {α:Type}{v:α}{k q:Nat}(h:k<=q):fw (Rs.ok v q) k:=h
theorem z2o {n p:Nat}(h:FwA ts n)(hn:p<ts.length->12 * (ts.length - (p+1))+11<=n):fw (bloP ts (fns ts n) p) (p+1):=by
 unfold bloP linP;refine zay (k:=p+1) (zc4 (by simp) fun hp=>zay (h.stmL _ _ (hn hp)) fun l q hq=>zc4 (by simp) fun _=>zdc (by omega)) fun l q hq=>zdc hq
theorem zya {one:Nat->Rs Pt}{more:List Pt->Nat->Rs (List Pt)}{p:Nat}(h1:p<ts.length->fw (one (p+1)) (p+1))(h2:∀ l q,p<ts.length->p+1<=q->fw (more l q) q):fw (lisP ts one more p) (p+1):=by
 unfold lisP;refine zc4 (by simp) fun hp=>zbf (fun _=>zdc (by omega)) fun _=>zay (h1 hp) fun v q hq=>zay (h2 _ _ hp hq) fun l q' hq'=>zc4 (by simp) fun _=>zdc (by omega)
theorem fwA (n:Nat):FwA ts n:=by
 induction n with
 | zero=>constructor <;> (intros;omega)
 | succ n ih=>
  have hvar:∀ p,p<ts.length->12 * (ts.length - (p+1))+11<=n->fw (varP ts (fns ts n) p) (p+1):=fun p hp hn=>by
   unfold varP;refine zc4 (by simp) fun _=>zfh fun _=>zay (zrl _) fun v q hq=>zbf (fun _=>zay (ih.bin _ _ (by omega) (by omega)) fun x q' hq'=>zdc (by omega)) fun _=>zdc (by omega)
  have hblo:∀ p,(p<ts.length->12 * (ts.length - (p+1))+11<=n)->fw (bloP ts (fns ts n) p) (p+1):=fun p hn=>z2o ih hn
  constructor
  ·intro l p hl hn;show fw (if l=5 then(fns ts n).una p else((fns ts n).bin (l+1) p).bind fun t q=>(fns ts n).binL l (herI ts p) t q) (p+1);refine zbf (fun h=>ih.una _ (by omega)) fun h=>zay (ih.bin _ _ (by omega) (by omega)) fun t q hq=>zcj (ih.binL _ _ _ _ (by omega) (by omega)) hq
  ·intro l fr t p hl hn;refine zbf (fun h=>?_) fun _=>zdc (Nat.le_refl _);have hp:=zn6 h;refine zay (ih.bin _ _ (by omega) (by omega)) fun u q hq=>zbf (fun _=>zdc (by omega)) fun _=>zcj (ih.binL _ _ _ _ hl (by omega)) (by omega)
  ·intro p hn;refine zbf (fun h=>?_) fun _=>ih.post _ (by omega);have hp:p<ts.length:=by
    rw[Bool.or_eq_true] at h;rcases h with h|h <;> exact zb5 h (by simp)
   exact zay (ih.una _ (by omega)) fun u q hq=>zdc (by omega)
  ·intro p hn;exact zay (ih.prim _ (by omega)) fun t q hq=>zcj (ih.posL _ _ _ (by omega)) hq
  ·intro fr t p hn;refine zbf (fun h=>?_) fun _=>zbf (fun h=>?_) fun _=>zdc (Nat.le_refl _)
   ·exact zfh fun hp=>zcj (ih.posL _ _ _ (by omega)) (by omega)
   ·have hp:=zb5 h (by simp);exact zay (zya (fun _=>zcj (ih.bin _ _ (by omega) (by omega)) (by omega)) fun l q _ hq=>ih.argL _ _ (by omega)) fun l q hq=>zcj (ih.posL _ _ _ (by omega)) (by omega)
  ·intro p hn;refine zbf (fun h=>?_) fun _=>zbf (fun _=>zri _ _) fun _=>zrk _;have hp:=zb5 h (by simp);exact zay (ih.bin _ _ (by omega) (by omega)) fun t q hq=>zc4 (by simp) fun _=>zdc (by omega)
  ·intro l p hn;refine zbf (fun h=>?_) fun _=>zdc (Nat.le_refl _);have hp:=zb5 h (by simp);exact zay (ih.bin _ _ (by omega) (by omega)) fun t q hq=>zcj (ih.argL _ _ (by omega)) (by omega)
  ·intro l p hn;refine zbf (fun h=>?_) fun _=>zdc (Nat.le_refl _);have hp:=zb5 h (by simp);exact zay (zrm _ _) fun t q hq=>zcj (ih.parL _ _ (by omega)) (by omega)
  ·intro l p hn;refine zbf (fun _=>zdc (Nat.le_refl _)) fun _=>?_;refine zay (zrm _ _) fun t q hq=>zbf (fun h=>?_) fun _=>ziw (by simp) fun h=>zcj (ih.fieL _ _ (by omega)) (by omega);have:=zb5 h (by simp);exact zcj (ih.fieL _ _ (by omega)) (by omega)
  ·intro p hn;refine zbf (fun h=>?_) fun _=>zbf (fun h=>?_) fun _=>zbf (fun h=>ih.bran _ (by omega)) fun _=>zbf (fun h=>?_) fun _=>zbf (fun h=>?_) fun _=>zbf (fun h=>?_) fun _=>?_
   ·exact hblo p fun hp=>by omega
   ·exact hvar p (zb5 h (by simp)) (by have:=zb5 h (by simp);omega)
   ·unfold looP;refine zc4 (by simp) fun hp=>zay (ih.bin _ _ (by omega) (by omega)) fun x q hq=>zay (hblo q fun _=>by omega) fun b q' hq'=>zdc (by omega)
   ·unfold resP;refine zc4 (by simp) fun hp=>zbf (fun _=>zay (ih.bin _ _ (by omega) (by omega)) fun x q hq=>zdc (by omega)) fun _=>zdc (by omega)
   ·unfold shoP;refine zfh fun hp=>zc4 (by simp) fun _=>zay (ih.bin _ _ (by omega) (by omega)) fun x q hq=>zdc (by omega)
   ·unfold simP;refine zay (ih.bin _ _ (by omega) (by omega)) fun x q hq=>zbf (fun h=>?_) fun _=>zdc (by omega);have:=zb5 h (by simp);exact zay (ih.bin _ _ (by omega) (by omega)) fun y q' hq'=>zdc (by omega)
  ·intro p hn;unfold fns
   dsimp only
   refine zc4 (by simp) fun hp=>zay (ih.bin _ _ (by omega) (by omega)) fun x q hq=>zay (hblo q fun _=>by omega) fun b q' hq'=>zbf (fun h=>?_) fun _=>zdc (by omega);have:=zb5 h (by simp);refine zay (k:=q'+1) (zbf (fun _=>zcj (ih.bran _ (by omega)) (by omega)) fun _=>zcj (hblo _ fun _=>by omega) (by omega)) fun c q'' hq''=>zdc (by omega)
  ·intro l p hn;refine zbf (fun _=>zdc (Nat.le_refl _)) fun _=>zay (ih.stmt _ (by omega)) fun t q hq=>zbf (fun h=>?_) fun _=>ziw (by simp) fun h=>zcj (ih.stmL _ _ (by omega)) (by omega);have:=zb5 h (by simp);exact zcj (ih.stmL _ _ (by omega)) (by omega)
  ·intro l p hn;refine zbf (fun h=>?_) fun _=>zdc (Nat.le_refl _);have:=zb5 h (by simp);exact zay (z2l _) fun t q hq=>ziw (by simp) fun _=>zcj (ih.impL _ _ (by omega)) (by omega)
  ·intro l p hn;refine zbf (fun hp=>?_) fun _=>zdc (Nat.le_refl _);have hdec:fw (decP ts (fns ts n) p) (p+1):=by
    have hlis:∀ q,p+1<=q->fw (lisP ts (tydP ts 9) (fns ts n).parL q) (q+1):=fun q hq=>zya (fun _=>zcj (zrm _ _) (by omega)) fun l q' _ hq'=>ih.parL _ _ (by omega);have hfun:∀ fr l q,p+1<=q->fw (funR ts (fns ts n) fr l q) (q+1):=fun fr l q hq=>by
     unfold funR;refine zfh fun _=>zay (hlis _ (by omega)) fun ps q' hq'=>zbf (fun _=>zay (hblo _ fun _=>by omega) fun b q'' hq''=>zdc (by omega)) fun _=>zay (zrl _) fun v q'' hq''=>zay (hblo _ fun _=>by omega) fun b q3 hq3=>zdc (by omega)
    unfold decP;refine zbf (fun _=>z2m _) fun _=>zbf (fun _=>hvar p hp (by omega)) fun _=>zbf (fun _=>?_) fun _=>zbf (fun _=>?_) fun _=>trivial
    ·unfold strP linP;refine zc4 (by simp) fun _=>zfh fun _=>zc4 (by simp) fun _=>zay (k:=p+1) (zc4 (by simp) fun _=>zay (ih.fieL _ _ (by omega)) fun l q hq=>zc4 (by simp) fun _=>zdc (by omega)) fun l q hq=>zdc hq
    ·unfold funP;refine zc4 (by simp) fun _=>zbf (fun _=>zay (z2n _) fun v q hq=>zc4 (by simp) fun _=>zcj (hfun _ _ _ (by omega)) (by omega)) fun _=>zcj (hfun _ _ _ (by omega)) (by omega)
   exact zay hdec fun t q hq=>ziw (by simp) fun _=>zcj (ih.decL _ _ (by omega)) (by omega)
def filO (ts:List Tok):Rs Pt:=filP ts (12 * ts.length+12) 0
theorem zjw:filO ts≠.out:=by
 have h:=fwA (ts:=ts) (12 * ts.length+12);refine z2j (k:=0) ?_;unfold filO filP;exact zc4 (by simp) fun _=>zfh fun _=>ziw (by simp) fun _=>zay (h.impL _ _ (by omega)) fun l q _=>zay (h.decL _ _ (by omega)) fun l q _=>zdc (Nat.zero_le _)
end
structure Nd where
 kind:Int
 text:ByteArray
 num:Int
 kids:List Nat
 pos:Int
 frm:Int
 to:Int
mutual
def cntP:Pt->Nat | .mk _ _ _ _ _ _ l=>1+cntL l
def cntL:List Pt->Nat | []=>0|t::r=>cntP t+cntL r
end
def kidI (i:Nat):List Pt->List Nat | []=>[] | t::r=>i::kidI (i+cntP t) r
mutual
def layP (i:Nat):Pt->List Nd | .mk k x n a f t l=>⟨k,x,n,kidI (i+1) l,a,f,t⟩::layL (i+1) l
def layL (i:Nat):List Pt->List Nd | []=>[] | t::r=>layP i t++layL (i+cntP t) r
end
end Go.Proofs.YtabiangdmibocaaGreatDoor
