import Derived.Test.YtmclgbkijeidaaaGreatDoorUnY
import Derived.Test.YtmclgbkijeidaaaGreatDoorUnD
import Derived.Test.YtmclgbkijeidaaaGreatDoorUnQ
import Derived.Test.YtmclgbkijeidaaaGreatDoorUnS
import Derived.BigQuiet
namespace Go.Proofs.YtmclgbkijeidaaaGreatDoor
open Go.RowKit
def AtL (L:List UInt8) (O:List Tok × Int × Nat) (p:Nat) (ts:List Tok):Prop :=
 (p<=L.length∧∃ f,lexMu L p ts<f∧lexG L f p ts=O)∨(p=L.length+1∧O=(ts,0,0))
variable {L:List UInt8}{O:List Tok × Int × Nat}{p n:Nat}{ts:List Tok}{k:Int}
theorem AtL.le (h:AtL L O p ts):p<=L.length+1:=by rcases h with⟨h,-⟩ | ⟨h,-⟩ <;> omega
theorem AtL.start (h:L.length<=4096):AtL L (lexO L) 0 []:=by
 refine .inl ⟨Nat.zero_le _,2 * L.length+1,?_,?_⟩
 ·unfold lexMu;rw[zd7];simp[clo]
 ·unfold lexO;rw[if_neg (by omega)]
theorem AtL.over (h:AtL L O p ts)(hp:L.length<p):O=(ts,0,0):=by
 rcases h with⟨h,-⟩ | ⟨-,h⟩
 ·omega
 ·exact h
theorem AtL.gap (h:AtL L O p ts)(hp:p<L.length)(h2:lookR (L.drop p) (clo (lastT ts))=(0,n,0)):AtL L O (p+n) ts:=by
 rcases h with⟨-,f,hf,hg⟩ | ⟨h,-⟩
 ·obtain⟨f,rfl⟩:∃ f',f=f'+1:=⟨f - 1,by omega⟩;rw[zdn (.inl hp) h2] at hg;have:=zi9 (.inl hp) (by omega) h2;exact .inl ⟨this.1,f,by omega,hg⟩
 ·omega
theorem AtL.tok (h:AtL L O p ts)(hp:p<=L.length)(h1:p<L.length∨clo (lastT ts)=true)(h2:lookR (L.drop p) (clo (lastT ts))=(k,n,0))(hk:k≠0)(ht:ts.length≠1024):p+n<=L.length∧AtL L O (p+n) (ts++[⟨k,strU ((L.drop p).take n),p⟩]):=by
 rcases h with⟨-,f,hf,hg⟩ | ⟨h,-⟩
 ·obtain⟨f,rfl⟩:∃ f',f=f'+1:=⟨f - 1,by omega⟩;rw[zc7 h1 h2 hk ht] at hg;have:=zja h1 hp h2 rfl;exact⟨this.1,.inl ⟨this.1,f,by omega,hg⟩⟩
 ·omega
theorem AtL.err {e:Int}(h:AtL L O p ts)(hp:p<=L.length)(h1:p<L.length∨clo (lastT ts)=true)(h2:lookR (L.drop p) (clo (lastT ts))=(k,n,e))(he:e≠0):O=([],e,p):=by
 rcases h with⟨-,f,hf,hg⟩ | ⟨h,-⟩
 ·obtain⟨f,rfl⟩:∃ f',f=f'+1:=⟨f - 1,by omega⟩;rw[zdm h1 h2 he] at hg;exact hg.symm
 ·omega
theorem AtL.full (h:AtL L O p ts)(hp:p<=L.length)(h1:p<L.length∨clo (lastT ts)=true)(h2:lookR (L.drop p) (clo (lastT ts))=(k,n,0))(hk:k≠0)(ht:ts.length=1024):O=([],3,p):=by
 rcases h with⟨-,f,hf,hg⟩ | ⟨h,-⟩
 ·obtain⟨f,rfl⟩:∃ f',f=f'+1:=⟨f - 1,by omega⟩;rw[zde h1 h2 hk ht] at hg;exact hg.symm
 ·omega
theorem zeu {c:UInt8}(h:L[p]?=some c):L.drop p=c::L.drop (p+1):=by
 obtain⟨hlt,he⟩:=List.getElem?_eq_some_iff.1 h;rw[List.drop_eq_getElem_cons hlt,he]
def LineE (L:List UInt8) (p:Nat):Prop:=p=L.length∨L[p]?=some 10
theorem LineE.le (h:LineE L p):p<=L.length:=by
 rcases h with h|h
 ·omega
 ·have:=(List.getElem?_eq_some_iff.1 h).1;omega
theorem LineE.look (h:LineE L p):lookR (L.drop p) true=(5,0,0):=by
 rcases h with h|h
 ·rw[List.drop_eq_nil_of_le (by omega)];rfl
 ·rw[zeu h];rfl
theorem AtL.feed (h:AtL L O p ts)(hl:LineE L p)(hc:clo (lastT ts)=false):AtL L O (p+1) ts:=by
 rcases hl with hl|hl
 ·rcases h with⟨-,f,hf,hg⟩ | ⟨h,-⟩
  ·obtain⟨f,rfl⟩:∃ f',f=f'+1:=⟨f - 1,by omega⟩;rw[zex (by omega) hc] at hg;exact .inr ⟨by omega,hg.symm⟩
  ·omega
 ·have hlt:=(List.getElem?_eq_some_iff.1 hl).1;exact h.gap hlt (by rw[hc,zeu hl];rfl)
theorem AtL.ends (h:AtL L O p ts)(hl:LineE L p)(hc:clo (lastT ts)=true)(ht:ts.length≠1024):AtL L O (p+1) (ts++[⟨5,⟨#[]⟩,p⟩]):=by
 have h1:=(h.tok hl.le (.inr hc) (by rw[hc];exact hl.look) (by omega) ht).2;rw[Nat.add_zero,List.take_zero] at h1;exact h1.feed hl (by rw[zb5];rfl)
theorem AtL.endsFull (h:AtL L O p ts)(hl:LineE L p)(hc:clo (lastT ts)=true)(ht:ts.length=1024):O=([],3,p) :=
 h.full hl.le (.inr hc) (by rw[hc];exact hl.look) (by omega) ht
theorem zf8 {M:List UInt8}(h:nextR M=(k,n,0)):k≠0:=by
 match M with
 | []=>simp[nextR] at h
 | c::r=>
  simp only[nextR] at h
  repeat' split at h
  all_goals (simp only[Prod.mk.injEq] at h;omega)
def Word0 (L:List UInt8) (p:Nat):Prop:=∃ c,L[p]?=some c∧clsI c.toNat≠1∧clsI c.toNat≠2∧Lib.hasPrefix (L.drop p) [47,47]=false
theorem Word0.look {en:Bool}(h:Word0 L p):lookR (L.drop p) en=nextR (L.drop p):=by
 obtain⟨c,h1,h2,h3,h4⟩:=h;rw[zeu h1] at h4 ⊢;exact zj2 h2 h3 h4
theorem Word0.lt (h:Word0 L p):p<L.length:=by
 obtain⟨c,h1,-⟩:=h;exact(List.getElem?_eq_some_iff.1 h1).1
theorem AtL.word (h:AtL L O p ts)(hw:Word0 L p)(h2:nextR (L.drop p)=(k,n,0))(ht:ts.length≠1024):p+n<=L.length∧AtL L O (p+n) (ts++[⟨k,strU ((L.drop p).take n),p⟩]) :=
 h.tok (by have:=hw.lt;omega) (.inl hw.lt) (by rw[hw.look];exact h2) (zf8 h2) ht
theorem AtL.wordFull (h:AtL L O p ts)(hw:Word0 L p)(h2:nextR (L.drop p)=(k,n,0))(ht:ts.length=1024):O=([],3,p) :=
 h.full (by have:=hw.lt;omega) (.inl hw.lt) (by rw[hw.look];exact h2) (zf8 h2) ht
theorem AtL.wordErr {e:Int}(h:AtL L O p ts)(hw:Word0 L p)(h2:nextR (L.drop p)=(k,n,e))(he:e≠0):O=([],e,p) :=
 h.err (by have:=hw.lt;omega) (.inl hw.lt) (by rw[hw.look];exact h2) he
theorem AtL.blank {c:UInt8}(h:AtL L O p ts)(hc:L[p]?=some c)(h1:clsI c.toNat=1):AtL L O (p+1) ts :=
 h.gap (List.getElem?_eq_some_iff.1 hc).1 (by rw[zeu hc];simp only[lookR,h1];rfl)
theorem AtL.note (h:AtL L O p ts)(hp:p<L.length)(hc:Lib.hasPrefix (L.drop p) [47,47]=true):AtL L O (p+comN (L.drop p)) ts:=by
 refine h.gap hp ?_;obtain⟨c,hcc⟩:∃ c,L[p]?=some c:=⟨_,List.getElem?_eq_getElem hp⟩;rw[zeu hcc] at hc ⊢;have h47:c=47:=by
  have h:=hc;simp[Lib.hasPrefix] at h;exact h.1.symm
 subst h47;simp only[lookR,hc];rfl
theorem zgx {B:Nat}{w wr:World}{v:Value}(t:Tok)(ho:OwnT B wr v ts)(hb:Below B w wr)(hB:B<=wr.heap.size)(hl:ts.length<=900000) :
  ∃ v' w',(Builtin.append_ #[31,31] 31 #[v,.slice (some ⟨wr.heap.size,0,none⟩) 1 1]).run Tryz.prog (wr.alloc (.cells t.cells 38))=.ok v' w'∧OwnT B w' v' (ts++[t])∧Below B w w':=by
 have ba:Below wr.heap.size wr (wr.alloc (.cells t.cells 38)):=(Below.refl _ _).alloc (Nat.le_refl _) _;have ho':=ho.below ba;have hr:RowsT (wr.alloc (.cells t.cells 38)) (some ⟨wr.heap.size,0,none⟩) [t]:=zau (heap_alloc_new wr _);obtain⟨v',w',hr,q1,q2,-⟩:=zdi elT (ys:=[t]) (sp:=some ⟨wr.heap.size,0,none⟩) (cap:=1) 31 ho' (fun h=>by cases h) hr (by simp;omega) (by simp;omega);exact⟨v',w',hr,q1,OwnG.grown ho' (Nat.le_refl _) (by simp;omega) (hb.alloc hB _) q2⟩
theorem zkl (s:ByteArray)(a b:Nat):s.extract a b=strU ((s.data.toList.drop a).take (b - a)):=by
 apply ByteArray.ext;rw[ByteArray.data_extract];unfold strU;apply Array.ext';simp[List.extract_eq_take_drop]
set_option maxRecDepth 100000
set_option maxHeartbeats 4000000
theorem zpv (s:ByteArray)(p:Nat):Lib.hasPrefix (s.data.toList.drop p) [47,47]=(decide (p+1<s.size) && ((s.extract p (p+2)).toList == [47,47])):=by
 have hx:(s.extract p (p+2)).toList=(s.data.toList.drop p).take 2:=by
  rw[ByteArray.toList_eq,ByteArray.data_extract];simp[List.extract_eq_take_drop]
 have hl:s.size=s.data.toList.length:=by simp
 rw[hx,hl];generalize s.data.toList=M;have e:p+1<M.length ↔ 1<(M.drop p).length:=by rw[List.length_drop];omega
 rw[show decide (p+1<M.length)=decide (1<(M.drop p).length) from decide_eq_decide.2 e]
 match M.drop p with
 | []=>rfl
 | [c]=>simp[Lib.hasPrefix,List.isPrefixOf]
 | c::d::r=>
  rw[Bool.eq_iff_iff];simp[Lib.hasPrefix]
  constructor
  ·rintro⟨h1,h2⟩;exact⟨h1.symm,h2.symm⟩
  ·rintro⟨h1,h2⟩;exact⟨h1.symm,h2.symm⟩
set_option pp.deepTerms.threshold 2000 in
set_option maxHeartbeats 8000000 in
theorem zpw (s:ByteArray)(w:World):Calls Tryz.prog 8 #[.string s] w fun e w'=>LexP w.heap.size w' (lexO s.data.toList) e∧Below w.heap.size w w':=by
 have HSL:Hid (s.data.toList.length=s.size):=by show s.data.toList.length=s.size;simp
 obtain⟨L,HL⟩:∃ L,Hid (s.data.toList=L):=⟨_,rfl⟩;rw[HL.out];rw[HL.out] at HSL
 by_cases h4:4096<s.size
 ·have HN:Hid (lexO L=([],3,0)):=by unfold lexO;rw[if_pos (by rw[HSL.out];exact h4)];exact rfl
  have h4':(s.size:Int) > 4096:=by omega
  clear h4
  go_enter Tryz.func8,Tryz.ntmps8
  go_wp2
  refine bodyPost_ret (v:=.tuple #[.slice none 0 0,.agg #[.int .i64 3,.int .i64 0]]) (zbc Tryz.results8 _ _ w.heap.size 28 _ (0,0) _ _ rfl rfl (heap_alloc_new _ _) Tryz.underlying28 rfl (by kernel_rfl)) rfl ?_;refine⟨⟨.slice none 0 0,?_,?_⟩,(Below.refl _ _).alloc (Nat.le_refl _) _⟩
  ·rw[HN.out];rfl
  ·rw[HN.out];exact zbv _ _
 ·have h4':¬ (s.size:Int) > 4096:=by omega
  have HA0:Hid (AtL L (lexO L) 0 []):=AtL.start (by rw[HSL.out];omega);obtain⟨O,HO⟩:∃ O,Hid (lexO L=O):=⟨_,rfl⟩;rw[HO.out] at HA0 ⊢;clear HO;have hs5:s.size<=4096:=by omega
  clear h4
  go_enter Tryz.func8,Tryz.ntmps8
  go_wp2
  obtain⟨g,hgw,HGW,HB0⟩:∃ g,w.heap.size=g∧Hid (w.heap.size=g)∧Hid (Below g w w):=⟨_,rfl,rfl,Below.refl _ _⟩;refine zdd (fun W=>Below g w W∧W.heap[g]?=some (.cells #[.int .i64 0,.int .i64 0] 28 (0,0))∧W.heap.size=g+1) ⟨HB0.out.alloc (by omega) _,by rw[<-hgw];exact heap_alloc_new _ _,by rw[<-hgw];simp⟩ ?_;rw[hgw];clear hgw HB0;rintro W0 ⟨b0,r0,hz0⟩;have B0:Hid (Below g w W0):=b0;have R0:Hid (W0.heap[g]?=some (.cells #[.int .i64 0,.int .i64 0] 28 (0,0))):=r0;have Z0:=hid hz0;clear b0 r0 hz0
  go_loopw [4,5] (fun o i wr=>∃ (p:Nat) (ts:List Tok),i=.int .i64 p∧ts.length<=1024∧OwnT (g+1) wr o ts∧Below (g+1) W0 wr∧AtL L O p ts) (fun _ i _=>s.size+1 - (intOf i).toNat)
  case atStart=>exact⟨0,[],rfl,by simp,zbv _ _,Below.refl _ _,HA0.out⟩
  case round=>
   clear HA0;obtain⟨p,ts,rfl,hts,ho,hb,hat⟩:=hrel;have HO:=hid ho;have HB:=hid hb;have HAT:=hid hat;have hple:p<=s.size+1:=by have:=hat.le;rw[HSL.out] at this;exact this
   clear ho hb hat;have RG:Hid (wr.heap[g]?=some (.cells #[.int .i64 0,.int .i64 0] 28 (0,0))):=(HB.out.block _ (by omega)).trans R0.out
   by_cases hov:s.size<p
   ·have HE:Hid (O=(ts,0,0)):=HAT.out.over (by rw[HSL.out];exact hov);have hd:decide ((p:Int)<=s.size)=false:=by simp;omega
    have q0:wr.cell? ⟨g,0,none⟩=some (.int .i64 0):=(cell_of_row _ _ 0 _ _ _ RG.out).trans rfl;have q1:wr.cell? ⟨g,1,none⟩=some (.int .i64 0):=(cell_of_row _ _ 1 _ _ _ RG.out).trans rfl;have qz:∀ j,wr.frozen? ⟨g,j,none⟩=false:=fun j=>frozen_of_row _ _ _ _ _ RG.out;clear HAT
    go_wp2
    have r1:(wr.setCell ⟨g,0,none⟩ (.int .i64 0)).heap[g]?=_:=heap_setCell_same _ _ _ _ _ _ RG.out;have r2:((wr.setCell ⟨g,0,none⟩ (.int .i64 0)).setCell ⟨g,1,none⟩ (.int .i64 0)).heap[g]?=some (.cells #[.int .i64 0,.int .i64 0] 28 (0,0)):=heap_setCell_same _ _ _ _ _ _ r1;refine bodyPost_ret (v:=.tuple #[u4,.agg #[.int .i64 0,.int .i64 0]]) (zbc Tryz.results8 _ _ g 28 _ (0,0) _ _ rfl rfl r2 Tryz.underlying28 rfl (by kernel_rfl)) rfl ?_;rw[HGW.out];refine⟨⟨u4,by rw[HE.out];rfl,?_⟩,((B0.out.trans (HB.out.mono (by omega))).setCell (p:=⟨g,0,none⟩) (Nat.le_refl _) _).setCell (p:=⟨g,1,none⟩) (Nat.le_refl _) _⟩;rw[HE.out];exact(OwnG.keep HO.out (fun j hj=>by have h1:=(OwnG.lt HO.out hj).1;have hne:j≠g:=(by omega);exact(heap_setCell_other _ _ _ _ hne).trans (heap_setCell_other _ _ _ _ hne))).mono (by omega)
   ·have hd:decide ((p:Int)<=s.size)=true:=by simp;omega
    obtain⟨sp,cap,rfl,R,hnil,hcap,hmx⟩:=OwnG.rows elT HO.out;have HR:Hid (RowsT wr sp ts):=R;clear R hnil
    by_cases hend:p=s.size
    ·have HLE:Hid (LineE L p):=.inl (by rw[HSL.out];exact hend);have he:((p:Int) == (s.size:Int))=true:=by rw[beq_iff_eq];omega
     clear hend
     by_cases hz:ts.length=0
     ·have hz':ts=[]:=List.eq_nil_of_length_eq_zero hz;have HX:Hid (AtL L O (p+1) ts):=HAT.out.feed HLE.out (by rw[hz',zd7];rfl);have hz0:((ts.length:Int) == 0)=true:=by rw[beq_iff_eq];omega
      clear HAT hz' hz HR
      go_wp2
      exact⟨⟨p+1,ts,by go_num,hts,HO.out,HB.out,HX.out⟩,by simp[intOf];omega⟩
     ·obtain⟨ds,⟨lk,lx,lp⟩,hds⟩:∃ ds lt,ts=ds++[lt]:=by
       rcases List.eq_nil_or_concat ts with h|⟨ds,lt,h⟩
       ·rw[h] at hz;simp at hz
       ·exact⟨ds,lt,by rw[h,List.concat_eq_append]⟩
      have HLT:Hid (lastT ts=⟨lk,lx,lp⟩):=by show _=_;rw[hds,zb5]
      obtain⟨n,hn⟩:∃ n,ds.length=n:=⟨_,rfl⟩;have hlen:ts.length=n+1:=by rw[hds];simp[hn]
      have hw64:RowKit.wrap64 (n:Int)=n:=IntWalk.wrap64_in _ (by omega);obtain⟨b,o,rfl,-⟩:=HR.out (by omega);obtain⟨k0,k1,k2⟩:=zcn HR.out (i:=n) (t:=⟨lk,lx,lp⟩) (by rw[hds,<-hn];simp);simp only at k0 k1 k2;have HLN:=hid hlen;rw[hlen] at HO hcap ⊢;have hz0:(((n:Nat):Int)+1 == 0)=false:=by rw[beq_eq_false_iff_ne];omega
      cases hc:clo ⟨lk,lx,lp⟩
      ·have HX:Hid (AtL L O (p+1) ts):=HAT.out.feed HLE.out (by rw[HLT.out,hc]);have REL:Hid (∀ W1,Below wr.heap.size wr W1->(∃ (p':Nat) (ts:List Tok),Value.int .i64 ((p:Int)+1)=.int .i64 p'∧ts.length<=1024∧OwnT (g+1) W1 (.slice (some ⟨b,o,none⟩) (n+1) cap) ts∧Below (g+1) W0 W1∧AtL L O p' ts)∧s.size+1 - (intOf (.int .i64 ((p:Int)+1))).toNat<s.size+1 - (intOf (.int .i64 (p:Int))).toNat):=fun W1 hW=>⟨⟨p+1,ts,by go_num,hts,OwnG.below HO.out hW,HB.out.trans (hW.mono (by have:=HB.out.size;have:=Z0.out;omega)),HX.out⟩,by simp[intOf];omega⟩;clear HAT hds HR HLT hn hlen HX HLN
       go_wp2_with (go_at_call 22;refine(zch ⟨lk,lx,lp⟩ _).mono ?_;rintro e W1 ⟨rfl,hW1⟩;rw[hc];clear k0 k1 k2)
       exact REL.out _ hW1
      ·have HLE1:Hid (clo (lastT ts)=true):=by show _=_;rw[HLT.out,hc]
       have FW:Hid (∀ W1,Below wr.heap.size wr W1->OwnT (g+1) W1 (.slice (some ⟨b,o,none⟩) (n+1) cap) ts∧Below (g+1) W0 W1∧W1.heap[g]?=some (.cells #[.int .i64 0,.int .i64 0] 28 (0,0))∧g<W1.heap.size):=fun W1 hW=>⟨OwnG.below HO.out hW,HB.out.trans (hW.mono (by have:=HB.out.size;have:=Z0.out;omega)),(hW.block _ (zaa RG.out)).trans RG.out,by have:=zaa RG.out;have:=hW.size;omega⟩
       by_cases hfu:n+1=1024
       ·have HE:Hid (O=([],3,p)):=HAT.out.endsFull HLE.out HLE1.out (by rw[HLN.out];exact hfu);have hfu':(((n:Nat):Int)+1 == 1024)=true:=by rw[beq_iff_eq];omega
        clear HAT hds HR HLT hn hlen HLN hfu
        go_wp2_with (go_at_call 22;refine(zch ⟨lk,lx,lp⟩ _).mono ?_;rintro e W1 ⟨rfl,hW1⟩;rw[hc];obtain⟨ho1,hb1,hr1,hgl⟩:=FW.out W1 hW1;have HO1:Hid (OwnT (g+1) W1 (.slice (some ⟨b,o,none⟩) (n+1) cap) ts):=ho1;have HB1:Hid (Below (g+1) W0 W1):=hb1;have RG1:Hid (W1.heap[g]?=some (.cells #[.int .i64 0,.int .i64 0] 28 (0,0))):=hr1;have q0:W1.cell? ⟨g,0,none⟩=some (.int .i64 0):=(cell_of_row _ _ 0 _ _ _ hr1).trans rfl;have q1:W1.cell? ⟨g,1,none⟩=some (.int .i64 0):=(cell_of_row _ _ 1 _ _ _ hr1).trans rfl;have qz:∀ j,W1.frozen? ⟨g,j,none⟩=false:=(fun j=>frozen_of_row _ _ _ _ _ hr1);have hgn:¬ g=W1.heap.size:=(by omega);clear k0 k1 k2 ho1 hb1 hr1 hW1 FW HO HB RG)
        have r1:(W1.setCell ⟨g,0,none⟩ (.int .i64 3)).heap[g]?=_:=heap_setCell_same _ _ _ _ _ _ RG1.out;have r2:((W1.setCell ⟨g,0,none⟩ (.int .i64 3)).setCell ⟨g,1,none⟩ (.int .i64 p)).heap[g]?=some (.cells #[.int .i64 3,.int .i64 p] 28 (0,0)):=heap_setCell_same _ _ _ _ _ _ r1;have r3:(((W1.setCell ⟨g,0,none⟩ (.int .i64 3)).setCell ⟨g,1,none⟩ (.int .i64 p)).alloc (.cells #[.int .i64 5,.string ⟨#[]⟩,.int .i64 0] 38)).heap[g]?=some (.cells #[.int .i64 3,.int .i64 p] 28 (0,0)):=(((Below.refl _ _).alloc (Nat.le_refl _) _).block _ (zaa r2)).trans r2;refine bodyPost_ret (v:=.tuple #[.slice none 0 0,.agg #[.int .i64 3,.int .i64 p]]) (zbc Tryz.results8 _ _ g 28 _ (0,0) _ _ rfl rfl r3 Tryz.underlying28 rfl (by kernel_rfl)) rfl ?_;rw[HGW.out];refine⟨⟨.slice none 0 0,by rw[HE.out],by rw[HE.out];exact zbv _ _⟩,(((B0.out.trans (HB1.out.mono (by omega))).setCell (p:=⟨g,0,none⟩) (Nat.le_refl _) _).setCell (p:=⟨g,1,none⟩) (Nat.le_refl _) _).alloc (by have:=zaa r2;omega) _⟩
       ·have HX:Hid (AtL L O (p+1) (ts++[⟨5,⟨#[]⟩,p⟩])):=HAT.out.ends HLE.out HLE1.out (by rw[HLN.out];exact hfu);have hfu':(((n:Nat):Int)+1 == 1024)=false:=by rw[beq_eq_false_iff_ne];omega
        have HTL:Hid ((ts++[(⟨5,⟨#[]⟩,p⟩:Tok)]).length<=1024):=by show _<=_;rw[List.length_append,HLN.out];simp;omega
        clear HAT hds HR HLT hn hlen hfu
        go_wp2_with (first
     | (go_at_call 22;refine(zch ⟨lk,lx,lp⟩ _).mono ?_;rintro e W1 ⟨rfl,hW1⟩;rw[hc];obtain⟨ho1,hb1,hr1,hgl⟩:=FW.out W1 hW1;obtain⟨v',W3,hr,ho3,hb3⟩:=zgx ⟨5,⟨#[]⟩,p⟩ (OwnG.below ho1 ((Below.refl _ _).alloc (Nat.le_refl _) (.cells #[.int .i64 5,.string ⟨#[]⟩,.int .i64 p] 38))) (hb1.alloc (by omega) (.cells #[.int .i64 5,.string ⟨#[]⟩,.int .i64 p] 38)) (by simp;omega) (by omega);have hsz:(W1.alloc (.cells #[.int .i64 5,.string ⟨#[]⟩,.int .i64 p] 38)).heap.size=W1.heap.size+1:=(by simp);rw[hsz] at hr;simp only[Tok.cells] at hr;have HO3:Hid (OwnT (g+1) W3 v' (ts++[⟨5,⟨#[]⟩,p⟩])):=ho3;have HB3:Hid (Below (g+1) W0 W3):=hb3;clear k0 k1 k2 ho1 hb1 hr1 hW1 FW HO HB RG ho3 hb3 hsz)
     | (at_builtin;refine zaz (.tmp 112) (.tmp 114) 31 (by rfl) (by rfl) (by rfl) (by rfl) hr ?_))
        exact⟨⟨p+1,ts++[⟨5,⟨#[]⟩,p⟩],by go_num,HTL.out,HO3.out,HB3.out,HX.out⟩,by simp[intOf];omega⟩
    ·have hlt:p<s.size:=by omega
     have he:((p:Int) == (s.size:Int))=false:=by rw[beq_eq_false_iff_ne];omega
     have hB:=zcq hlt;rw[HL.out] at hB;obtain⟨c,HC⟩:∃ c,Hid (s[p]'hlt=c):=⟨_,rfl⟩;rw[HC.out] at hB;have HBY:=hid hB;clear hB hend
     by_cases h10:c.toNat=10
     ·have HLE:Hid (LineE L p):=.inr (by rw[HBY.out];exact congrArg some (UInt8.toNat.inj h10));have h10':(((s[p]'hlt).toNat:Int) == 10)=true:=by rw[HC.out,beq_iff_eq];omega
      clear h10
      by_cases hz:ts.length=0
      ·have hz':ts=[]:=List.eq_nil_of_length_eq_zero hz;have HX:Hid (AtL L O (p+1) ts):=HAT.out.feed HLE.out (by rw[hz',zd7];rfl);have hz0:((ts.length:Int) == 0)=true:=by rw[beq_iff_eq];omega
       clear HAT hz' hz HR
       go_wp2
       exact⟨⟨p+1,ts,by go_num,hts,HO.out,HB.out,HX.out⟩,by simp[intOf];omega⟩
      ·obtain⟨ds,⟨lk,lx,lp⟩,hds⟩:∃ ds lt,ts=ds++[lt]:=by
        rcases List.eq_nil_or_concat ts with h|⟨ds,lt,h⟩
        ·rw[h] at hz;simp at hz
        ·exact⟨ds,lt,by rw[h,List.concat_eq_append]⟩
       have HLT:Hid (lastT ts=⟨lk,lx,lp⟩):=by show _=_;rw[hds,zb5]
       obtain⟨n,hn⟩:∃ n,ds.length=n:=⟨_,rfl⟩;have hlen:ts.length=n+1:=by rw[hds];simp[hn]
       have hw64:RowKit.wrap64 (n:Int)=n:=IntWalk.wrap64_in _ (by omega);obtain⟨b,o,rfl,-⟩:=HR.out (by omega);obtain⟨k0,k1,k2⟩:=zcn HR.out (i:=n) (t:=⟨lk,lx,lp⟩) (by rw[hds,<-hn];simp);simp only at k0 k1 k2;have HLN:=hid hlen;rw[hlen] at HO hcap ⊢;have hz0:(((n:Nat):Int)+1 == 0)=false:=by rw[beq_eq_false_iff_ne];omega
       cases hc:clo ⟨lk,lx,lp⟩
       ·have HX:Hid (AtL L O (p+1) ts):=HAT.out.feed HLE.out (by rw[HLT.out,hc]);have REL:Hid (∀ W1,Below wr.heap.size wr W1->(∃ (p':Nat) (ts:List Tok),Value.int .i64 ((p:Int)+1)=.int .i64 p'∧ts.length<=1024∧OwnT (g+1) W1 (.slice (some ⟨b,o,none⟩) (n+1) cap) ts∧Below (g+1) W0 W1∧AtL L O p' ts)∧s.size+1 - (intOf (.int .i64 ((p:Int)+1))).toNat<s.size+1 - (intOf (.int .i64 (p:Int))).toNat):=fun W1 hW=>⟨⟨p+1,ts,by go_num,hts,OwnG.below HO.out hW,HB.out.trans (hW.mono (by have:=HB.out.size;have:=Z0.out;omega)),HX.out⟩,by simp[intOf];omega⟩;clear HAT hds HR HLT hn hlen HX HLN
        go_wp2_with (go_at_call 22;refine(zch ⟨lk,lx,lp⟩ _).mono ?_;rintro e W1 ⟨rfl,hW1⟩;rw[hc];clear k0 k1 k2)
        exact REL.out _ hW1
       ·have HLE1:Hid (clo (lastT ts)=true):=by show _=_;rw[HLT.out,hc]
        have FW:Hid (∀ W1,Below wr.heap.size wr W1->OwnT (g+1) W1 (.slice (some ⟨b,o,none⟩) (n+1) cap) ts∧Below (g+1) W0 W1∧W1.heap[g]?=some (.cells #[.int .i64 0,.int .i64 0] 28 (0,0))∧g<W1.heap.size):=fun W1 hW=>⟨OwnG.below HO.out hW,HB.out.trans (hW.mono (by have:=HB.out.size;have:=Z0.out;omega)),(hW.block _ (zaa RG.out)).trans RG.out,by have:=zaa RG.out;have:=hW.size;omega⟩
        by_cases hfu:n+1=1024
        ·have HE:Hid (O=([],3,p)):=HAT.out.endsFull HLE.out HLE1.out (by rw[HLN.out];exact hfu);have hfu':(((n:Nat):Int)+1 == 1024)=true:=by rw[beq_iff_eq];omega
         clear HAT hds HR HLT hn hlen HLN hfu
         go_wp2_with (go_at_call 22;refine(zch ⟨lk,lx,lp⟩ _).mono ?_;rintro e W1 ⟨rfl,hW1⟩;rw[hc];obtain⟨ho1,hb1,hr1,hgl⟩:=FW.out W1 hW1;have HO1:Hid (OwnT (g+1) W1 (.slice (some ⟨b,o,none⟩) (n+1) cap) ts):=ho1;have HB1:Hid (Below (g+1) W0 W1):=hb1;have RG1:Hid (W1.heap[g]?=some (.cells #[.int .i64 0,.int .i64 0] 28 (0,0))):=hr1;have q0:W1.cell? ⟨g,0,none⟩=some (.int .i64 0):=(cell_of_row _ _ 0 _ _ _ hr1).trans rfl;have q1:W1.cell? ⟨g,1,none⟩=some (.int .i64 0):=(cell_of_row _ _ 1 _ _ _ hr1).trans rfl;have qz:∀ j,W1.frozen? ⟨g,j,none⟩=false:=(fun j=>frozen_of_row _ _ _ _ _ hr1);have hgn:¬ g=W1.heap.size:=(by omega);clear k0 k1 k2 ho1 hb1 hr1 hW1 FW HO HB RG)
         have r1:(W1.setCell ⟨g,0,none⟩ (.int .i64 3)).heap[g]?=_:=heap_setCell_same _ _ _ _ _ _ RG1.out;have r2:((W1.setCell ⟨g,0,none⟩ (.int .i64 3)).setCell ⟨g,1,none⟩ (.int .i64 p)).heap[g]?=some (.cells #[.int .i64 3,.int .i64 p] 28 (0,0)):=heap_setCell_same _ _ _ _ _ _ r1;have r3:(((W1.setCell ⟨g,0,none⟩ (.int .i64 3)).setCell ⟨g,1,none⟩ (.int .i64 p)).alloc (.cells #[.int .i64 5,.string ⟨#[]⟩,.int .i64 0] 38)).heap[g]?=some (.cells #[.int .i64 3,.int .i64 p] 28 (0,0)):=(((Below.refl _ _).alloc (Nat.le_refl _) _).block _ (zaa r2)).trans r2;refine bodyPost_ret (v:=.tuple #[.slice none 0 0,.agg #[.int .i64 3,.int .i64 p]]) (zbc Tryz.results8 _ _ g 28 _ (0,0) _ _ rfl rfl r3 Tryz.underlying28 rfl (by kernel_rfl)) rfl ?_;rw[HGW.out];refine⟨⟨.slice none 0 0,by rw[HE.out],by rw[HE.out];exact zbv _ _⟩,(((B0.out.trans (HB1.out.mono (by omega))).setCell (p:=⟨g,0,none⟩) (Nat.le_refl _) _).setCell (p:=⟨g,1,none⟩) (Nat.le_refl _) _).alloc (by have:=zaa r2;omega) _⟩
        ·have HX:Hid (AtL L O (p+1) (ts++[⟨5,⟨#[]⟩,p⟩])):=HAT.out.ends HLE.out HLE1.out (by rw[HLN.out];exact hfu);have hfu':(((n:Nat):Int)+1 == 1024)=false:=by rw[beq_eq_false_iff_ne];omega
         have HTL:Hid ((ts++[(⟨5,⟨#[]⟩,p⟩:Tok)]).length<=1024):=by show _<=_;rw[List.length_append,HLN.out];simp;omega
         clear HAT hds HR HLT hn hlen hfu
         go_wp2_with (first
      | (go_at_call 22;refine(zch ⟨lk,lx,lp⟩ _).mono ?_;rintro e W1 ⟨rfl,hW1⟩;rw[hc];obtain⟨ho1,hb1,hr1,hgl⟩:=FW.out W1 hW1;obtain⟨v',W3,hr,ho3,hb3⟩:=zgx ⟨5,⟨#[]⟩,p⟩ (OwnG.below ho1 ((Below.refl _ _).alloc (Nat.le_refl _) (.cells #[.int .i64 5,.string ⟨#[]⟩,.int .i64 p] 38))) (hb1.alloc (by omega) (.cells #[.int .i64 5,.string ⟨#[]⟩,.int .i64 p] 38)) (by simp;omega) (by omega);have hsz:(W1.alloc (.cells #[.int .i64 5,.string ⟨#[]⟩,.int .i64 p] 38)).heap.size=W1.heap.size+1:=(by simp);rw[hsz] at hr;simp only[Tok.cells] at hr;have HO3:Hid (OwnT (g+1) W3 v' (ts++[⟨5,⟨#[]⟩,p⟩])):=ho3;have HB3:Hid (Below (g+1) W0 W3):=hb3;clear k0 k1 k2 ho1 hb1 hr1 hW1 FW HO HB RG ho3 hb3 hsz)
      | (at_builtin;refine zaz (.tmp 112) (.tmp 114) 31 (by rfl) (by rfl) (by rfl) (by rfl) hr ?_))
         exact⟨⟨p+1,ts++[⟨5,⟨#[]⟩,p⟩],by go_num,HTL.out,HO3.out,HB3.out,HX.out⟩,by simp[intOf];omega⟩
     ·have h10':(((s[p]'hlt).toNat:Int) == 10)=false:=by rw[HC.out,beq_eq_false_iff_ne];omega
      by_cases k1:clsI c.toNat=1
      ·have HBL:Hid (inC [1] (s[p]'hlt)=true):=by show _=_;rw[HC.out];simp[inC,k1]
       have HX:Hid (AtL L O (p+1) ts):=HAT.out.blank HBY.out k1;clear HAT k1 h10
       go_wp2_with (go_at_call 21;refine(zcy _ _).mono ?_;rintro e W1 ⟨rfl,hW1⟩;subst hW1;rw[HBL.out])
       exact⟨⟨p+1,ts,by go_num,hts,HO.out,HB.out,HX.out⟩,by simp[intOf];omega⟩
      ·have HBL:Hid (inC [1] (s[p]'hlt)=false):=by show _=_;rw[HC.out];simp[inC];exact k1
       have k2:clsI c.toNat≠2:=by
        intro h;unfold clsI at h
        repeat' split at h
        all_goals first|(cases h;done) | omega
       have hni:=zpv s p;rw[HL.out] at hni
       cases hnt:Lib.hasPrefix (L.drop p) [47,47]
       ·have HW0:Hid (Word0 L p):=⟨c,HBY.out,k1,k2,hnt⟩;have hn1:decide ((p:Int)+1<s.size)=true∧((s.extract p (p+2)).toList == [47,47])=false∧(p:Int)+2<=s.size∨decide ((p:Int)+1<s.size)=false:=by
         rw[hnt] at hni
         by_cases h1:p+1<s.size
         ·left
          rw[decide_eq_true h1,Bool.true_and] at hni;exact⟨by simp;omega,hni.symm,by omega⟩
         ·right
          simp;omega
        have HM:Hid ((s.extract p s.size).data.toList=L.drop p∧(s.extract p s.size).size=s.size - p):=by
         have h1:(s.extract p s.size).data.toList=L.drop p:=by
          rw[zkl,zd6,List.take_of_length_le (by rw[List.length_drop,HL.out,HSL.out];omega),HL.out]
         refine⟨h1,?_⟩;have h2:(s.extract p s.size).data.toList.length=(s.extract p s.size).size:=by simp
         rw[<-h2,h1,List.length_drop,HSL.out]
        obtain⟨M,hM⟩:∃ M,s.extract p s.size=M:=⟨_,rfl⟩;have HMM:Hid (M.data.toList=L.drop p∧M.size=s.size - p):=hM ▸ HM.out;clear HM;obtain⟨k,n,er,HN⟩:∃ k n er,Hid (nextR (L.drop p)=(k,n,er)):=⟨_,_,_,rfl⟩;obtain⟨tk,tx,HT⟩:∃ tk tx,Hid (nextT M.data.toList=⟨tk,tx,0⟩∧(er=0->tk=k∧tx=strU ((L.drop p).take n))):=by
         rw[HMM.out.1];unfold nextT;rw[HN.out]
         by_cases he:er=0
         ·rw[if_neg (by simpa using he)];exact⟨_,_,rfl,fun _=>⟨rfl,rfl⟩⟩
         ·rw[if_pos (by simpa using he)];exact⟨_,_,rfl,fun h=>absurd h he⟩
        have HCL:Hid (∀ W,Calls Tryz.prog 23 #[.string M] W fun e w'=>e=.returned (.tuple #[.agg #[.int .i64 tk,.string tx,.int .i64 0],.int .i64 er])∧Below W.heap.size W w'):=fun W=>by
         have:=zj3 M W (by rw[HMM.out.2];omega) (by rw[HMM.out.2];omega);rw[HT.out.1,HMM.out.1,HN.out] at this;exact this
        have FW:Hid (∀ W2,Below (wr.alloc (.cells #[.int .i64 5,.string ⟨#[]⟩,.int .i64 0] 38)).heap.size (wr.alloc (.cells #[.int .i64 5,.string ⟨#[]⟩,.int .i64 0] 38)) W2->OwnT (g+1) W2 (.slice sp ts.length cap) ts∧Below (g+1) W0 W2∧W2.heap[wr.heap.size]?=some (.cells #[.int .i64 5,.string ⟨#[]⟩,.int .i64 0] 38 (0,0))∧W2.heap[g]?=some (.cells #[.int .i64 0,.int .i64 0] 28 (0,0))∧g<wr.heap.size∧(∀ k,(Value.slice sp ts.length cap).ownBlock=some k->k≠wr.heap.size)):=fun W2 hW=>by
         have ba:Below wr.heap.size wr (wr.alloc (.cells #[.int .i64 5,.string ⟨#[]⟩,.int .i64 0] 38)):=(Below.refl _ _).alloc (Nat.le_refl _) _;have hgl:=zaa RG.out;have bw:Below wr.heap.size wr W2:=ba.trans (hW.mono (by simp));exact⟨OwnG.below HO.out bw,HB.out.trans (bw.mono (by omega)),(hW.block _ (by simp)).trans (heap_alloc_new _ _),(bw.block _ hgl).trans RG.out,hgl,fun k hk=>Nat.ne_of_lt (OwnG.lt HO.out hk).2⟩
        clear hni hnt k1 k2 h10
        by_cases her:er=0
        ·subst her;obtain⟨rfl,htx⟩:=HT.out.2 rfl
         by_cases hfu:ts.length=1024
         ·have HE:Hid (O=([],3,p)):=HAT.out.wordFull HW0.out HN.out hfu;have hfu':((ts.length:Int) == 1024)=true:=by rw[beq_iff_eq];omega
          clear HAT HN HT HW0 hfu htx;have hpz:(p:Int)<=s.size:=by omega
          rcases hn1 with⟨d1,d2,d3⟩ | d1
          ·go_wp2_with (first
            | (go_at_call 21;refine(zcy _ _).mono ?_;rintro e W1 ⟨rfl,hW1⟩;subst hW1;rw[HBL.out])
            | (go_at_call 23;refine(HCL.out _).mono ?_;rintro e W2 ⟨rfl,hW2⟩;obtain⟨ho2,hb2,hr2,hg2,hgl,hnk⟩:=FW.out W2 hW2;have HO2:Hid (OwnT (g+1) W2 (.slice sp ts.length cap) ts):=ho2;have HB2:Hid (Below (g+1) W0 W2):=hb2;have RT2:Hid (W2.heap[W1.heap.size]?=some (.cells #[.int .i64 5,.string ⟨#[]⟩,.int .i64 0] 38 (0,0))):=hr2;have RG2:Hid (W2.heap[g]?=some (.cells #[.int .i64 0,.int .i64 0] 28 (0,0))):=hg2;have q0:W2.cell? ⟨g,0,none⟩=some (.int .i64 0):=(cell_of_row _ _ 0 _ _ _ hg2).trans rfl;have q1:W2.cell? ⟨g,1,none⟩=some (.int .i64 0):=(cell_of_row _ _ 1 _ _ _ hg2).trans rfl;have qz:∀ j,W2.frozen? ⟨g,j,none⟩=false:=(fun j=>frozen_of_row _ _ _ _ _ hg2);have c0:W2.cell? ⟨W1.heap.size,0,none⟩=some (.int .i64 5):=(cell_of_row _ _ 0 _ _ _ hr2).trans rfl;have c1:W2.cell? ⟨W1.heap.size,1,none⟩=some (.string ⟨#[]⟩):=(cell_of_row _ _ 1 _ _ _ hr2).trans rfl;have c2:W2.cell? ⟨W1.heap.size,2,none⟩=some (.int .i64 0):=(cell_of_row _ _ 2 _ _ _ hr2).trans rfl;have cz:∀ j,W2.frozen? ⟨W1.heap.size,j,none⟩=false:=(fun j=>frozen_of_row _ _ _ _ _ hr2);have hgn:¬ g=W1.heap.size:=(by omega);have hgn':¬ W1.heap.size=g:=(by omega);clear ho2 hb2 hr2 hg2 hW2 FW HCL))
           have r0:(((W2.setCell ⟨W1.heap.size,0,none⟩ (.int .i64 tk)).setCell ⟨W1.heap.size,1,none⟩ (.string tx)).setCell ⟨W1.heap.size,2,none⟩ (.int .i64 0)).heap[g]?=some (.cells #[.int .i64 0,.int .i64 0] 28 (0,0)):=(heap_setCell_other _ _ _ _ hgn).trans ((heap_setCell_other _ _ _ _ hgn).trans ((heap_setCell_other _ _ _ _ hgn).trans RG2.out));have r1:((((W2.setCell ⟨W1.heap.size,0,none⟩ (.int .i64 tk)).setCell ⟨W1.heap.size,1,none⟩ (.string tx)).setCell ⟨W1.heap.size,2,none⟩ (.int .i64 0)).setCell ⟨g,0,none⟩ (.int .i64 3)).heap[g]?=_:=heap_setCell_same _ _ _ _ _ _ r0;have r2:(((((W2.setCell ⟨W1.heap.size,0,none⟩ (.int .i64 tk)).setCell ⟨W1.heap.size,1,none⟩ (.string tx)).setCell ⟨W1.heap.size,2,none⟩ (.int .i64 0)).setCell ⟨g,0,none⟩ (.int .i64 3)).setCell ⟨g,1,none⟩ (.int .i64 p)).heap[g]?=some (.cells #[.int .i64 3,.int .i64 p] 28 (0,0)):=heap_setCell_same _ _ _ _ _ _ r1;refine bodyPost_ret (v:=.tuple #[.slice none 0 0,.agg #[.int .i64 3,.int .i64 p]]) (zbc Tryz.results8 _ _ g 28 _ (0,0) _ _ rfl rfl r2 Tryz.underlying28 rfl (by kernel_rfl)) rfl ?_;rw[HGW.out];refine⟨⟨.slice none 0 0,by rw[HE.out],by rw[HE.out];exact zbv _ _⟩,(((((B0.out.trans (HB2.out.mono (by omega))).setCell (p:=⟨W1.heap.size,0,none⟩) (Nat.le_of_lt hgl) _).setCell (p:=⟨W1.heap.size,1,none⟩) (Nat.le_of_lt hgl) _).setCell (p:=⟨W1.heap.size,2,none⟩) (Nat.le_of_lt hgl) _).setCell (p:=⟨g,0,none⟩) (Nat.le_refl _) _).setCell (p:=⟨g,1,none⟩) (Nat.le_refl _) _⟩
          ·go_wp2_with (first
            | (go_at_call 21;refine(zcy _ _).mono ?_;rintro e W1 ⟨rfl,hW1⟩;subst hW1;rw[HBL.out])
            | (go_at_call 23;refine(HCL.out _).mono ?_;rintro e W2 ⟨rfl,hW2⟩;obtain⟨ho2,hb2,hr2,hg2,hgl,hnk⟩:=FW.out W2 hW2;have HO2:Hid (OwnT (g+1) W2 (.slice sp ts.length cap) ts):=ho2;have HB2:Hid (Below (g+1) W0 W2):=hb2;have RT2:Hid (W2.heap[W1.heap.size]?=some (.cells #[.int .i64 5,.string ⟨#[]⟩,.int .i64 0] 38 (0,0))):=hr2;have RG2:Hid (W2.heap[g]?=some (.cells #[.int .i64 0,.int .i64 0] 28 (0,0))):=hg2;have q0:W2.cell? ⟨g,0,none⟩=some (.int .i64 0):=(cell_of_row _ _ 0 _ _ _ hg2).trans rfl;have q1:W2.cell? ⟨g,1,none⟩=some (.int .i64 0):=(cell_of_row _ _ 1 _ _ _ hg2).trans rfl;have qz:∀ j,W2.frozen? ⟨g,j,none⟩=false:=(fun j=>frozen_of_row _ _ _ _ _ hg2);have c0:W2.cell? ⟨W1.heap.size,0,none⟩=some (.int .i64 5):=(cell_of_row _ _ 0 _ _ _ hr2).trans rfl;have c1:W2.cell? ⟨W1.heap.size,1,none⟩=some (.string ⟨#[]⟩):=(cell_of_row _ _ 1 _ _ _ hr2).trans rfl;have c2:W2.cell? ⟨W1.heap.size,2,none⟩=some (.int .i64 0):=(cell_of_row _ _ 2 _ _ _ hr2).trans rfl;have cz:∀ j,W2.frozen? ⟨W1.heap.size,j,none⟩=false:=(fun j=>frozen_of_row _ _ _ _ _ hr2);have hgn:¬ g=W1.heap.size:=(by omega);have hgn':¬ W1.heap.size=g:=(by omega);clear ho2 hb2 hr2 hg2 hW2 FW HCL))
           have r0:(((W2.setCell ⟨W1.heap.size,0,none⟩ (.int .i64 tk)).setCell ⟨W1.heap.size,1,none⟩ (.string tx)).setCell ⟨W1.heap.size,2,none⟩ (.int .i64 0)).heap[g]?=some (.cells #[.int .i64 0,.int .i64 0] 28 (0,0)):=(heap_setCell_other _ _ _ _ hgn).trans ((heap_setCell_other _ _ _ _ hgn).trans ((heap_setCell_other _ _ _ _ hgn).trans RG2.out));have r1:((((W2.setCell ⟨W1.heap.size,0,none⟩ (.int .i64 tk)).setCell ⟨W1.heap.size,1,none⟩ (.string tx)).setCell ⟨W1.heap.size,2,none⟩ (.int .i64 0)).setCell ⟨g,0,none⟩ (.int .i64 3)).heap[g]?=_:=heap_setCell_same _ _ _ _ _ _ r0;have r2:(((((W2.setCell ⟨W1.heap.size,0,none⟩ (.int .i64 tk)).setCell ⟨W1.heap.size,1,none⟩ (.string tx)).setCell ⟨W1.heap.size,2,none⟩ (.int .i64 0)).setCell ⟨g,0,none⟩ (.int .i64 3)).setCell ⟨g,1,none⟩ (.int .i64 p)).heap[g]?=some (.cells #[.int .i64 3,.int .i64 p] 28 (0,0)):=heap_setCell_same _ _ _ _ _ _ r1;refine bodyPost_ret (v:=.tuple #[.slice none 0 0,.agg #[.int .i64 3,.int .i64 p]]) (zbc Tryz.results8 _ _ g 28 _ (0,0) _ _ rfl rfl r2 Tryz.underlying28 rfl (by kernel_rfl)) rfl ?_;rw[HGW.out];refine⟨⟨.slice none 0 0,by rw[HE.out],by rw[HE.out];exact zbv _ _⟩,(((((B0.out.trans (HB2.out.mono (by omega))).setCell (p:=⟨W1.heap.size,0,none⟩) (Nat.le_of_lt hgl) _).setCell (p:=⟨W1.heap.size,1,none⟩) (Nat.le_of_lt hgl) _).setCell (p:=⟨W1.heap.size,2,none⟩) (Nat.le_of_lt hgl) _).setCell (p:=⟨g,0,none⟩) (Nat.le_refl _) _).setCell (p:=⟨g,1,none⟩) (Nat.le_refl _) _⟩
         ·obtain⟨hnl,hx⟩:=HAT.out.word HW0.out HN.out hfu;have htz:tx.size=n:=by rw[htx,zi7,List.length_take,List.length_drop];omega
          rw[<-htx,<-htz] at hx;have HX:=hid hx;have hnz:0<tx.size:=by
           have hl0:lookR (L.drop p) false=(tk,n,0):=by rw[HW0.out.look];exact HN.out
           have:=(zcs hl0 (fun h=>by have:=congrArg List.length h;rw[List.length_drop,HSL.out] at this;simp at this;omega)).2;rw[htz];rcases this with h|⟨-,-,h⟩
           ·exact h
           ·cases h
          have htl:p+tx.size<=s.size:=by rw[<-HSL.out,htz];exact hnl
          have HTL:Hid ((ts++[(⟨tk,tx,p⟩:Tok)]).length<=1024):=by show _<=_;rw[List.length_append];simp;omega
          have hfu':((ts.length:Int) == 1024)=false:=by rw[beq_eq_false_iff_ne];omega
          clear HAT HN HT HW0 hfu htx hx htz hnl;have hpz:(p:Int)<=s.size:=by omega
          rcases hn1 with⟨d1,d2,d3⟩ | d1
          ·go_wp2_with (first
            | (go_at_call 21;refine(zcy _ _).mono ?_;rintro e W1 ⟨rfl,hW1⟩;subst hW1;rw[HBL.out])
            | (go_at_call 23;refine(HCL.out _).mono ?_;rintro e W2 ⟨rfl,hW2⟩;obtain⟨ho2,hb2,hr2,hg2,hgl,hnk⟩:=FW.out W2 hW2;have y1:(W2.setCell ⟨W1.heap.size,0,none⟩ (.int .i64 tk)).heap[W1.heap.size]?=_:=heap_setCell_same _ _ _ _ _ _ hr2;have y2:((W2.setCell ⟨W1.heap.size,0,none⟩ (.int .i64 tk)).setCell ⟨W1.heap.size,1,none⟩ (.string tx)).heap[W1.heap.size]?=_:=heap_setCell_same _ _ _ _ _ _ y1;have y3:(((W2.setCell ⟨W1.heap.size,0,none⟩ (.int .i64 tk)).setCell ⟨W1.heap.size,1,none⟩ (.string tx)).setCell ⟨W1.heap.size,2,none⟩ (.int .i64 0)).heap[W1.heap.size]?=_:=heap_setCell_same _ _ _ _ _ _ y2;have y4:((((W2.setCell ⟨W1.heap.size,0,none⟩ (.int .i64 tk)).setCell ⟨W1.heap.size,1,none⟩ (.string tx)).setCell ⟨W1.heap.size,2,none⟩ (.int .i64 0)).setCell ⟨W1.heap.size,2,none⟩ (.int .i64 p)).heap[W1.heap.size]?=some (.cells #[.int .i64 tk,.string tx,.int .i64 p] 38 (0,0)):=heap_setCell_same _ _ _ _ _ _ y3;have x2:((((W2.setCell ⟨W1.heap.size,0,none⟩ (.int .i64 tk)).setCell ⟨W1.heap.size,1,none⟩ (.string tx)).setCell ⟨W1.heap.size,2,none⟩ (.int .i64 0)).setCell ⟨W1.heap.size,2,none⟩ (.int .i64 p)).cell? ⟨W1.heap.size,2,none⟩=some (.int .i64 p):=(cell_of_row _ _ 2 _ _ _ y4).trans rfl;have x1:((((W2.setCell ⟨W1.heap.size,0,none⟩ (.int .i64 tk)).setCell ⟨W1.heap.size,1,none⟩ (.string tx)).setCell ⟨W1.heap.size,2,none⟩ (.int .i64 0)).setCell ⟨W1.heap.size,2,none⟩ (.int .i64 p)).cell? ⟨W1.heap.size,1,none⟩=some (.string tx):=(cell_of_row _ _ 1 _ _ _ y4).trans rfl;have x0:((((W2.setCell ⟨W1.heap.size,0,none⟩ (.int .i64 tk)).setCell ⟨W1.heap.size,1,none⟩ (.string tx)).setCell ⟨W1.heap.size,2,none⟩ (.int .i64 0)).setCell ⟨W1.heap.size,2,none⟩ (.int .i64 p)).cell? ⟨W1.heap.size,0,none⟩=some (.int .i64 tk):=(cell_of_row _ _ 0 _ _ _ y4).trans rfl;have ho4:OwnT (g+1) ((((W2.setCell ⟨W1.heap.size,0,none⟩ (.int .i64 tk)).setCell ⟨W1.heap.size,1,none⟩ (.string tx)).setCell ⟨W1.heap.size,2,none⟩ (.int .i64 0)).setCell ⟨W1.heap.size,2,none⟩ (.int .i64 p)) (.slice sp ts.length cap) ts:=OwnG.keep ho2 (fun k hk=>(have hne:=hnk k hk;(heap_setCell_other _ _ _ _ hne).trans ((heap_setCell_other _ _ _ _ hne).trans ((heap_setCell_other _ _ _ _ hne).trans (heap_setCell_other _ _ _ _ hne)))));have hb4:Below (g+1) W0 ((((W2.setCell ⟨W1.heap.size,0,none⟩ (.int .i64 tk)).setCell ⟨W1.heap.size,1,none⟩ (.string tx)).setCell ⟨W1.heap.size,2,none⟩ (.int .i64 0)).setCell ⟨W1.heap.size,2,none⟩ (.int .i64 p)):=(((hb2.setCell (p:=⟨W1.heap.size,0,none⟩) hgl _).setCell (p:=⟨W1.heap.size,1,none⟩) hgl _).setCell (p:=⟨W1.heap.size,2,none⟩) hgl _).setCell (p:=⟨W1.heap.size,2,none⟩) hgl _;obtain⟨v',W5,hr,ho5,hb5⟩:=zgx ⟨tk,tx,p⟩ ho4 hb4 (by have:=zaa y4;omega) (by omega);have hsz:((((W2.setCell ⟨W1.heap.size,0,none⟩ (.int .i64 tk)).setCell ⟨W1.heap.size,1,none⟩ (.string tx)).setCell ⟨W1.heap.size,2,none⟩ (.int .i64 0)).setCell ⟨W1.heap.size,2,none⟩ (.int .i64 p)).heap.size=W2.heap.size:=(by simp);rw[hsz] at hr;simp only[Tok.cells] at hr;have HO5:Hid (OwnT (g+1) W5 v' (ts++[⟨tk,tx,p⟩])):=ho5;have HB5:Hid (Below (g+1) W0 W5):=hb5;clear y1 y2 y3 y4 ho4 hb4 ho5 hb5 hsz;have HO2:Hid (OwnT (g+1) W2 (.slice sp ts.length cap) ts):=ho2;have HB2:Hid (Below (g+1) W0 W2):=hb2;have RT2:Hid (W2.heap[W1.heap.size]?=some (.cells #[.int .i64 5,.string ⟨#[]⟩,.int .i64 0] 38 (0,0))):=hr2;have RG2:Hid (W2.heap[g]?=some (.cells #[.int .i64 0,.int .i64 0] 28 (0,0))):=hg2;have q0:W2.cell? ⟨g,0,none⟩=some (.int .i64 0):=(cell_of_row _ _ 0 _ _ _ hg2).trans rfl;have q1:W2.cell? ⟨g,1,none⟩=some (.int .i64 0):=(cell_of_row _ _ 1 _ _ _ hg2).trans rfl;have qz:∀ j,W2.frozen? ⟨g,j,none⟩=false:=(fun j=>frozen_of_row _ _ _ _ _ hg2);have c0:W2.cell? ⟨W1.heap.size,0,none⟩=some (.int .i64 5):=(cell_of_row _ _ 0 _ _ _ hr2).trans rfl;have c1:W2.cell? ⟨W1.heap.size,1,none⟩=some (.string ⟨#[]⟩):=(cell_of_row _ _ 1 _ _ _ hr2).trans rfl;have c2:W2.cell? ⟨W1.heap.size,2,none⟩=some (.int .i64 0):=(cell_of_row _ _ 2 _ _ _ hr2).trans rfl;have cz:∀ j,W2.frozen? ⟨W1.heap.size,j,none⟩=false:=(fun j=>frozen_of_row _ _ _ _ _ hr2);have hgn:¬ g=W1.heap.size:=(by omega);have hgn':¬ W1.heap.size=g:=(by omega);clear ho2 hb2 hr2 hg2 hW2 FW HCL)
            | (at_builtin;refine zaz (.tmp 112) (.tmp 114) 31 (by rfl) (by rfl) (by rfl) (by rfl) hr ?_))
           exact⟨⟨p+tx.size,ts++[⟨tk,tx,p⟩],by go_num,HTL.out,HO5.out,HB5.out,HX.out⟩,by simp[intOf];omega⟩
          ·go_wp2_with (first
            | (go_at_call 21;refine(zcy _ _).mono ?_;rintro e W1 ⟨rfl,hW1⟩;subst hW1;rw[HBL.out])
            | (go_at_call 23;refine(HCL.out _).mono ?_;rintro e W2 ⟨rfl,hW2⟩;obtain⟨ho2,hb2,hr2,hg2,hgl,hnk⟩:=FW.out W2 hW2;have y1:(W2.setCell ⟨W1.heap.size,0,none⟩ (.int .i64 tk)).heap[W1.heap.size]?=_:=heap_setCell_same _ _ _ _ _ _ hr2;have y2:((W2.setCell ⟨W1.heap.size,0,none⟩ (.int .i64 tk)).setCell ⟨W1.heap.size,1,none⟩ (.string tx)).heap[W1.heap.size]?=_:=heap_setCell_same _ _ _ _ _ _ y1;have y3:(((W2.setCell ⟨W1.heap.size,0,none⟩ (.int .i64 tk)).setCell ⟨W1.heap.size,1,none⟩ (.string tx)).setCell ⟨W1.heap.size,2,none⟩ (.int .i64 0)).heap[W1.heap.size]?=_:=heap_setCell_same _ _ _ _ _ _ y2;have y4:((((W2.setCell ⟨W1.heap.size,0,none⟩ (.int .i64 tk)).setCell ⟨W1.heap.size,1,none⟩ (.string tx)).setCell ⟨W1.heap.size,2,none⟩ (.int .i64 0)).setCell ⟨W1.heap.size,2,none⟩ (.int .i64 p)).heap[W1.heap.size]?=some (.cells #[.int .i64 tk,.string tx,.int .i64 p] 38 (0,0)):=heap_setCell_same _ _ _ _ _ _ y3;have x2:((((W2.setCell ⟨W1.heap.size,0,none⟩ (.int .i64 tk)).setCell ⟨W1.heap.size,1,none⟩ (.string tx)).setCell ⟨W1.heap.size,2,none⟩ (.int .i64 0)).setCell ⟨W1.heap.size,2,none⟩ (.int .i64 p)).cell? ⟨W1.heap.size,2,none⟩=some (.int .i64 p):=(cell_of_row _ _ 2 _ _ _ y4).trans rfl;have x1:((((W2.setCell ⟨W1.heap.size,0,none⟩ (.int .i64 tk)).setCell ⟨W1.heap.size,1,none⟩ (.string tx)).setCell ⟨W1.heap.size,2,none⟩ (.int .i64 0)).setCell ⟨W1.heap.size,2,none⟩ (.int .i64 p)).cell? ⟨W1.heap.size,1,none⟩=some (.string tx):=(cell_of_row _ _ 1 _ _ _ y4).trans rfl;have x0:((((W2.setCell ⟨W1.heap.size,0,none⟩ (.int .i64 tk)).setCell ⟨W1.heap.size,1,none⟩ (.string tx)).setCell ⟨W1.heap.size,2,none⟩ (.int .i64 0)).setCell ⟨W1.heap.size,2,none⟩ (.int .i64 p)).cell? ⟨W1.heap.size,0,none⟩=some (.int .i64 tk):=(cell_of_row _ _ 0 _ _ _ y4).trans rfl;have ho4:OwnT (g+1) ((((W2.setCell ⟨W1.heap.size,0,none⟩ (.int .i64 tk)).setCell ⟨W1.heap.size,1,none⟩ (.string tx)).setCell ⟨W1.heap.size,2,none⟩ (.int .i64 0)).setCell ⟨W1.heap.size,2,none⟩ (.int .i64 p)) (.slice sp ts.length cap) ts:=OwnG.keep ho2 (fun k hk=>(have hne:=hnk k hk;(heap_setCell_other _ _ _ _ hne).trans ((heap_setCell_other _ _ _ _ hne).trans ((heap_setCell_other _ _ _ _ hne).trans (heap_setCell_other _ _ _ _ hne)))));have hb4:Below (g+1) W0 ((((W2.setCell ⟨W1.heap.size,0,none⟩ (.int .i64 tk)).setCell ⟨W1.heap.size,1,none⟩ (.string tx)).setCell ⟨W1.heap.size,2,none⟩ (.int .i64 0)).setCell ⟨W1.heap.size,2,none⟩ (.int .i64 p)):=(((hb2.setCell (p:=⟨W1.heap.size,0,none⟩) hgl _).setCell (p:=⟨W1.heap.size,1,none⟩) hgl _).setCell (p:=⟨W1.heap.size,2,none⟩) hgl _).setCell (p:=⟨W1.heap.size,2,none⟩) hgl _;obtain⟨v',W5,hr,ho5,hb5⟩:=zgx ⟨tk,tx,p⟩ ho4 hb4 (by have:=zaa y4;omega) (by omega);have hsz:((((W2.setCell ⟨W1.heap.size,0,none⟩ (.int .i64 tk)).setCell ⟨W1.heap.size,1,none⟩ (.string tx)).setCell ⟨W1.heap.size,2,none⟩ (.int .i64 0)).setCell ⟨W1.heap.size,2,none⟩ (.int .i64 p)).heap.size=W2.heap.size:=(by simp);rw[hsz] at hr;simp only[Tok.cells] at hr;have HO5:Hid (OwnT (g+1) W5 v' (ts++[⟨tk,tx,p⟩])):=ho5;have HB5:Hid (Below (g+1) W0 W5):=hb5;clear y1 y2 y3 y4 ho4 hb4 ho5 hb5 hsz;have HO2:Hid (OwnT (g+1) W2 (.slice sp ts.length cap) ts):=ho2;have HB2:Hid (Below (g+1) W0 W2):=hb2;have RT2:Hid (W2.heap[W1.heap.size]?=some (.cells #[.int .i64 5,.string ⟨#[]⟩,.int .i64 0] 38 (0,0))):=hr2;have RG2:Hid (W2.heap[g]?=some (.cells #[.int .i64 0,.int .i64 0] 28 (0,0))):=hg2;have q0:W2.cell? ⟨g,0,none⟩=some (.int .i64 0):=(cell_of_row _ _ 0 _ _ _ hg2).trans rfl;have q1:W2.cell? ⟨g,1,none⟩=some (.int .i64 0):=(cell_of_row _ _ 1 _ _ _ hg2).trans rfl;have qz:∀ j,W2.frozen? ⟨g,j,none⟩=false:=(fun j=>frozen_of_row _ _ _ _ _ hg2);have c0:W2.cell? ⟨W1.heap.size,0,none⟩=some (.int .i64 5):=(cell_of_row _ _ 0 _ _ _ hr2).trans rfl;have c1:W2.cell? ⟨W1.heap.size,1,none⟩=some (.string ⟨#[]⟩):=(cell_of_row _ _ 1 _ _ _ hr2).trans rfl;have c2:W2.cell? ⟨W1.heap.size,2,none⟩=some (.int .i64 0):=(cell_of_row _ _ 2 _ _ _ hr2).trans rfl;have cz:∀ j,W2.frozen? ⟨W1.heap.size,j,none⟩=false:=(fun j=>frozen_of_row _ _ _ _ _ hr2);have hgn:¬ g=W1.heap.size:=(by omega);have hgn':¬ W1.heap.size=g:=(by omega);clear ho2 hb2 hr2 hg2 hW2 FW HCL)
            | (at_builtin;refine zaz (.tmp 112) (.tmp 114) 31 (by rfl) (by rfl) (by rfl) (by rfl) hr ?_))
           exact⟨⟨p+tx.size,ts++[⟨tk,tx,p⟩],by go_num,HTL.out,HO5.out,HB5.out,HX.out⟩,by simp[intOf];omega⟩
        ·have HE:Hid (O=([],er,p)):=HAT.out.wordErr HW0.out HN.out her;have her':(er == 0)=false:=by simpa using her
         have her'':(er != 0)=true:=by simpa using her
         clear HAT HN HT HW0 her;have hpz:(p:Int)<=s.size:=by omega
         rcases hn1 with⟨d1,d2,d3⟩ | d1
         ·go_wp2_with (first
           | (go_at_call 21;refine(zcy _ _).mono ?_;rintro e W1 ⟨rfl,hW1⟩;subst hW1;rw[HBL.out])
           | (go_at_call 23;refine(HCL.out _).mono ?_;rintro e W2 ⟨rfl,hW2⟩;obtain⟨ho2,hb2,hr2,hg2,hgl,hnk⟩:=FW.out W2 hW2;have HO2:Hid (OwnT (g+1) W2 (.slice sp ts.length cap) ts):=ho2;have HB2:Hid (Below (g+1) W0 W2):=hb2;have RT2:Hid (W2.heap[W1.heap.size]?=some (.cells #[.int .i64 5,.string ⟨#[]⟩,.int .i64 0] 38 (0,0))):=hr2;have RG2:Hid (W2.heap[g]?=some (.cells #[.int .i64 0,.int .i64 0] 28 (0,0))):=hg2;have q0:W2.cell? ⟨g,0,none⟩=some (.int .i64 0):=(cell_of_row _ _ 0 _ _ _ hg2).trans rfl;have q1:W2.cell? ⟨g,1,none⟩=some (.int .i64 0):=(cell_of_row _ _ 1 _ _ _ hg2).trans rfl;have qz:∀ j,W2.frozen? ⟨g,j,none⟩=false:=(fun j=>frozen_of_row _ _ _ _ _ hg2);have c0:W2.cell? ⟨W1.heap.size,0,none⟩=some (.int .i64 5):=(cell_of_row _ _ 0 _ _ _ hr2).trans rfl;have c1:W2.cell? ⟨W1.heap.size,1,none⟩=some (.string ⟨#[]⟩):=(cell_of_row _ _ 1 _ _ _ hr2).trans rfl;have c2:W2.cell? ⟨W1.heap.size,2,none⟩=some (.int .i64 0):=(cell_of_row _ _ 2 _ _ _ hr2).trans rfl;have cz:∀ j,W2.frozen? ⟨W1.heap.size,j,none⟩=false:=(fun j=>frozen_of_row _ _ _ _ _ hr2);have hgn:¬ g=W1.heap.size:=(by omega);have hgn':¬ W1.heap.size=g:=(by omega);clear ho2 hb2 hr2 hg2 hW2 FW HCL))
          have r0:(((W2.setCell ⟨W1.heap.size,0,none⟩ (.int .i64 tk)).setCell ⟨W1.heap.size,1,none⟩ (.string tx)).setCell ⟨W1.heap.size,2,none⟩ (.int .i64 0)).heap[g]?=some (.cells #[.int .i64 0,.int .i64 0] 28 (0,0)):=(heap_setCell_other _ _ _ _ hgn).trans ((heap_setCell_other _ _ _ _ hgn).trans ((heap_setCell_other _ _ _ _ hgn).trans RG2.out));have r1:((((W2.setCell ⟨W1.heap.size,0,none⟩ (.int .i64 tk)).setCell ⟨W1.heap.size,1,none⟩ (.string tx)).setCell ⟨W1.heap.size,2,none⟩ (.int .i64 0)).setCell ⟨g,0,none⟩ (.int .i64 er)).heap[g]?=_:=heap_setCell_same _ _ _ _ _ _ r0;have r2:(((((W2.setCell ⟨W1.heap.size,0,none⟩ (.int .i64 tk)).setCell ⟨W1.heap.size,1,none⟩ (.string tx)).setCell ⟨W1.heap.size,2,none⟩ (.int .i64 0)).setCell ⟨g,0,none⟩ (.int .i64 er)).setCell ⟨g,1,none⟩ (.int .i64 p)).heap[g]?=some (.cells #[.int .i64 er,.int .i64 p] 28 (0,0)):=heap_setCell_same _ _ _ _ _ _ r1;refine bodyPost_ret (v:=.tuple #[.slice none 0 0,.agg #[.int .i64 er,.int .i64 p]]) (zbc Tryz.results8 _ _ g 28 _ (0,0) _ _ rfl rfl r2 Tryz.underlying28 rfl (by kernel_rfl)) rfl ?_;rw[HGW.out];refine⟨⟨.slice none 0 0,by rw[HE.out],by rw[HE.out];exact zbv _ _⟩,(((((B0.out.trans (HB2.out.mono (by omega))).setCell (p:=⟨W1.heap.size,0,none⟩) (Nat.le_of_lt hgl) _).setCell (p:=⟨W1.heap.size,1,none⟩) (Nat.le_of_lt hgl) _).setCell (p:=⟨W1.heap.size,2,none⟩) (Nat.le_of_lt hgl) _).setCell (p:=⟨g,0,none⟩) (Nat.le_refl _) _).setCell (p:=⟨g,1,none⟩) (Nat.le_refl _) _⟩
         ·go_wp2_with (first
           | (go_at_call 21;refine(zcy _ _).mono ?_;rintro e W1 ⟨rfl,hW1⟩;subst hW1;rw[HBL.out])
           | (go_at_call 23;refine(HCL.out _).mono ?_;rintro e W2 ⟨rfl,hW2⟩;obtain⟨ho2,hb2,hr2,hg2,hgl,hnk⟩:=FW.out W2 hW2;have HO2:Hid (OwnT (g+1) W2 (.slice sp ts.length cap) ts):=ho2;have HB2:Hid (Below (g+1) W0 W2):=hb2;have RT2:Hid (W2.heap[W1.heap.size]?=some (.cells #[.int .i64 5,.string ⟨#[]⟩,.int .i64 0] 38 (0,0))):=hr2;have RG2:Hid (W2.heap[g]?=some (.cells #[.int .i64 0,.int .i64 0] 28 (0,0))):=hg2;have q0:W2.cell? ⟨g,0,none⟩=some (.int .i64 0):=(cell_of_row _ _ 0 _ _ _ hg2).trans rfl;have q1:W2.cell? ⟨g,1,none⟩=some (.int .i64 0):=(cell_of_row _ _ 1 _ _ _ hg2).trans rfl;have qz:∀ j,W2.frozen? ⟨g,j,none⟩=false:=(fun j=>frozen_of_row _ _ _ _ _ hg2);have c0:W2.cell? ⟨W1.heap.size,0,none⟩=some (.int .i64 5):=(cell_of_row _ _ 0 _ _ _ hr2).trans rfl;have c1:W2.cell? ⟨W1.heap.size,1,none⟩=some (.string ⟨#[]⟩):=(cell_of_row _ _ 1 _ _ _ hr2).trans rfl;have c2:W2.cell? ⟨W1.heap.size,2,none⟩=some (.int .i64 0):=(cell_of_row _ _ 2 _ _ _ hr2).trans rfl;have cz:∀ j,W2.frozen? ⟨W1.heap.size,j,none⟩=false:=(fun j=>frozen_of_row _ _ _ _ _ hr2);have hgn:¬ g=W1.heap.size:=(by omega);have hgn':¬ W1.heap.size=g:=(by omega);clear ho2 hb2 hr2 hg2 hW2 FW HCL))
          have r0:(((W2.setCell ⟨W1.heap.size,0,none⟩ (.int .i64 tk)).setCell ⟨W1.heap.size,1,none⟩ (.string tx)).setCell ⟨W1.heap.size,2,none⟩ (.int .i64 0)).heap[g]?=some (.cells #[.int .i64 0,.int .i64 0] 28 (0,0)):=(heap_setCell_other _ _ _ _ hgn).trans ((heap_setCell_other _ _ _ _ hgn).trans ((heap_setCell_other _ _ _ _ hgn).trans RG2.out));have r1:((((W2.setCell ⟨W1.heap.size,0,none⟩ (.int .i64 tk)).setCell ⟨W1.heap.size,1,none⟩ (.string tx)).setCell ⟨W1.heap.size,2,none⟩ (.int .i64 0)).setCell ⟨g,0,none⟩ (.int .i64 er)).heap[g]?=_:=heap_setCell_same _ _ _ _ _ _ r0;have r2:(((((W2.setCell ⟨W1.heap.size,0,none⟩ (.int .i64 tk)).setCell ⟨W1.heap.size,1,none⟩ (.string tx)).setCell ⟨W1.heap.size,2,none⟩ (.int .i64 0)).setCell ⟨g,0,none⟩ (.int .i64 er)).setCell ⟨g,1,none⟩ (.int .i64 p)).heap[g]?=some (.cells #[.int .i64 er,.int .i64 p] 28 (0,0)):=heap_setCell_same _ _ _ _ _ _ r1;refine bodyPost_ret (v:=.tuple #[.slice none 0 0,.agg #[.int .i64 er,.int .i64 p]]) (zbc Tryz.results8 _ _ g 28 _ (0,0) _ _ rfl rfl r2 Tryz.underlying28 rfl (by kernel_rfl)) rfl ?_;rw[HGW.out];refine⟨⟨.slice none 0 0,by rw[HE.out],by rw[HE.out];exact zbv _ _⟩,(((((B0.out.trans (HB2.out.mono (by omega))).setCell (p:=⟨W1.heap.size,0,none⟩) (Nat.le_of_lt hgl) _).setCell (p:=⟨W1.heap.size,1,none⟩) (Nat.le_of_lt hgl) _).setCell (p:=⟨W1.heap.size,2,none⟩) (Nat.le_of_lt hgl) _).setCell (p:=⟨g,0,none⟩) (Nat.le_refl _) _).setCell (p:=⟨g,1,none⟩) (Nat.le_refl _) _⟩
       ·have HX:Hid (AtL L O (p+comN (L.drop p)) ts):=HAT.out.note (by rw[HSL.out];exact hlt) hnt;rw[hnt] at hni;have hni2:=hni.symm;rw[Bool.and_eq_true] at hni2;have hn1:decide ((p:Int)+1<s.size)=true:=by have:=of_decide_eq_true hni2.1;simp;omega
        have hn1':(p:Int)+1<s.size:=by simpa using hn1
        have hn2:((s.extract p (p+2)).toList == [47,47])=true:=hni2.2;have hn3:(p:Int)+2<=s.size:=by omega
        clear hni hni2 HAT hnt k1 k2 h10
        go_wp2_with (go_at_call 21;refine(zcy _ _).mono ?_;rintro e W1 ⟨rfl,hW1⟩;subst hW1;rw[HBL.out])
        go_loopw [5] (fun i wr'=>∃ q:Nat,i=.int .i64 q∧p<=q∧q<=s.size∧wr'=W1∧∀ t d,t<q - p->(L.drop p)[t]?=some d->(d != 10)=true) (fun i _=>s.size - (intOf i).toNat)
        case atStart=>exact⟨p,rfl,Nat.le_refl _,by omega,rfl,fun t d ht=>by omega⟩
        case round=>
         obtain⟨q,rfl,hpq,hqs,rfl,hall⟩:=hrel;have HA:=hid hall;clear hall
         by_cases hlq:q<s.size
         ·have d1:decide ((q:Int)<s.size)=true:=by simp;omega
          have hBq:=zcq hlq;rw[HL.out] at hBq;obtain⟨e,HE⟩:∃ e,Hid (s[q]'hlq=e):=⟨_,rfl⟩;rw[HE.out] at hBq;have HBQ:Hid ((L.drop p)[q - p]?=some e):=by show _=_;rw[List.getElem?_drop,show p+(q - p)=q by omega];exact hBq
          clear hBq
          by_cases e10:e.toNat=10
          ·have e10':(((s[q]'hlq).toNat:Int) != 10)=false:=by rw[HE.out];simp;omega
           have e10'':(((s[q]'hlq).toNat:Int) == 10)=true:=by rw[HE.out,beq_iff_eq];omega
           have HJ:Hid (AtL L O q ts):=by
            have h1:comN (L.drop p)=q - p:=zg0 HA.out HBQ.out (by simp;exact UInt8.toNat.inj e10);have h2:=HX.out;rw[h1,show p+(q - p)=q by omega] at h2;exact h2
           have hpq':p<q:=by
            by_cases h:p=q
            ·exfalso
             subst h;rw[HE.out] at HC;have:=HC.out;subst this;rw[HE.out,e10] at h10';simp at h10'
            ·omega
           clear HX HA e10 HBQ
           go_wp2
           exact⟨⟨q,ts,rfl,hts,HO.out,HB.out,HJ.out⟩,by simp[intOf];omega⟩
          ·have e10':(((s[q]'hlq).toNat:Int) != 10)=true:=by rw[HE.out];simp;omega
           have e10'':(((s[q]'hlq).toNat:Int) == 10)=false:=by rw[HE.out,beq_eq_false_iff_ne];omega
           have HA2:Hid (∀ t d,t<q+1 - p->(L.drop p)[t]?=some d->(d != 10)=true):=fun t d ht hd=>by
            by_cases h:t=q - p
            ·rw[h,HBQ.out] at hd;injection hd with hd;rw[<-hd];simp;intro h;rw[h] at e10;exact e10 rfl
            ·exact HA.out t d (by omega) hd
           clear HX HA e10 HBQ
           go_wp2
           exact⟨⟨q+1,by go_num,by omega,by omega,trivial,HA2.out⟩,by simp[intOf];omega⟩
         ·have d1:decide ((q:Int)<s.size)=false:=by simp;omega
          have HJ:Hid (AtL L O q ts):=by
           have hl:(L.drop p).length=q - p:=by rw[List.length_drop,HSL.out];omega
           have h1:comN (L.drop p)=(L.drop p).length:=zfi fun t d ht hd=>HA.out t d (by omega) hd;have h2:=HX.out;rw[h1,hl,show p+(q - p)=q by omega] at h2;exact h2
          clear HX HA
          go_wp2
          exact⟨⟨q,ts,rfl,hts,HO.out,HB.out,HJ.out⟩,by simp[intOf];omega⟩
end Go.Proofs.YtmclgbkijeidaaaGreatDoor
