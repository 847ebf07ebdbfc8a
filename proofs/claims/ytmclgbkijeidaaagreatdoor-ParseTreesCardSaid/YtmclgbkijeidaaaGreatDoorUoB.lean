import Derived.Test.YtmclgbkijeidaaaGreatDoorUoA
import Derived.Test.YtmclgbkijeidaaaGreatDoorUoShelf
import Derived.WalkMore
import Derived.ScopeJumps
import Derived.Lib.SlFresh
namespace Go.Proofs.YtmclgbkijeidaaaGreatDoor
set_option maxRecDepth 100000
set_option maxHeartbeats 4000000
open Go.RowKit
def runN (p:UInt8->Bool) (L:List UInt8):Nat:=(L.takeWhile p).length
theorem zgl (p:UInt8->Bool) (L:List UInt8):runN p L<=L.length:=(List.takeWhile_sublist p).length_le
theorem zoa (p:UInt8->Bool):runN p []=0:=rfl
theorem zc5 (p:UInt8->Bool)(c:UInt8) (L:List UInt8):runN p (c::L)=if p c then runN p L+1 else 0:=by
 unfold runN;rw[List.takeWhile_cons]
 split <;> simp
theorem zm3 {p:UInt8->Bool}:∀ {L:List UInt8}{t:Nat}{c:UInt8},(∀ j d,j<t->L[j]?=some d->p d=true)->L[t]?=some c->p c=false->runN p L=t
 | [],t,c,_,h,_=>by simp at h
 | a::L,0,c,_,h,hp=>by
  have h':a=c:=by simpa using h
  rw[zc5,h',hp];rfl
 | a::L,t+1,c,hz,h,hp=>by
  rw[zc5,hz 0 a (by omega) rfl,if_pos rfl,zm3 (fun j d y hd=>hz (j+1) d (Nat.succ_lt_succ y) (by simpa using hd)) (by simpa using h) hp]
theorem zka {p:UInt8->Bool}:∀ {L:List UInt8},(∀ j d,j<L.length->L[j]?=some d->p d=true)->runN p L=L.length
 | [],_=>rfl
 | a::L,hz=>by
  rw[zc5,hz 0 a (by simp) rfl,if_pos rfl,zka (fun j d hj hd=>hz (j+1) d (by simp;omega) (by simpa using hd)),List.length_cons]
def inC (zs:List Int) (c:UInt8):Bool:=zs.contains (clsI c.toNat)
theorem zfe (c:UInt8):IntKind.i32.wrap (c.toNat:Int)=c.toNat:=by
 have:=c.toNat_lt;rw[show IntKind.i32.wrap (c.toNat:Int)=((c.toNat:Int)+2147483648) % 4294967296 - 2147483648 by simp[IntKind.wrap,IntKind.bits,IntKind.signed];omega];omega
theorem zm4 (sp:Option Addr)(cap:Nat) (L:List UInt8)(bz oz cz:Nat)(zs:List Int)(w:World)(h:BA w sp L)(hl:L.length<=1000000)(hzl:zs.length<=1000)(hz:∀ j,j<zs.length->w.cell? ⟨bz,oz+j,none⟩=some (.int .i64 (zs.getD j 0))) :
  Calls Tryz.prog 92 #[.slice sp L.length cap,.slice (some ⟨bz,oz,none⟩) zs.length cz] w fun e w'=>e=.returned (.int .i64 (runN (inC zs) L))∧w'=w:=by
 have N:=J h;have V:=J hz;clear h hz
 go_enter Tryz.func92,Tryz.ntmps92
 go_wp2
 go_loopw [9] (fun i wr=>∃ t:Nat,t<=L.length∧i=.int .i64 t∧wr=w∧∀ j d,j<t->L[j]?=some d->inC zs d=true) (fun i _=>L.length - (intOf i).toNat)
 case atStart=>exact⟨0,Yk _,rfl,rfl,fun j d I=>by omega⟩
 case round=>
  obtain⟨t,Y,rfl,rfl,F⟩:=hrel;have A:=J F;clear F
  by_cases hlt:t<L.length
  ·have hd:decide ((t:Int)<L.length)=true:=by simp;omega
   obtain⟨b,o,rfl,M⟩:=N.out (by omega);obtain⟨c,C⟩:∃ c,L[t]?=some c:=⟨_,Yh hlt⟩;have h0:=M t c C;have K:=J C;have Z:=zfe c;clear M C
   go_wp2_with (first
    | (go_at_call 61;refine(zbx _ _).mono ?_;rintro e W1 ⟨rfl,D⟩;subst D)
    | (go_at_call 123;refine(Tryz.slices_Contains_int bz oz zs.length cz zs _ _ (Ya _) (by omega) V.out).mono ?_;rintro e W1 ⟨rfl,D⟩;subst D;rw[List.take_length]))
   ·rename_i hx
    have E:inC zs c=false:=by simpa[inC] using hx
    go_ret
    exact⟨zdh (by rw[zm3 A.out K.out E]),rfl⟩
   ·rename_i hx
    have E:inC zs c=true:=by simpa[inC] using hx
    refine⟨⟨t+1,by omega,by go_num,trivial,fun j d I y=>?_⟩,by simp[intOf];omega⟩
    by_cases hjt:j<t
    ·exact A j d hjt y
    ·obtain rfl:j=t:=by omega
     rw[K.out] at y;injection y with y;rw[<-y];exact E
  ·have hd:decide ((t:Int)<L.length)=false:=by simp;omega
   have U:Hid (runN (inC zs) L=L.length):=zka fun j d I X=>A.out j d (by omega) X
   go_wp2
   go_ret
   exact⟨zdh (by rw[U.out]),rfl⟩
def decF (acc:Nat):List UInt8->Option Nat
 | []=>some acc
 | c::r=>if clsI c.toNat=4∧acc * 10+(c.toNat - 48)<=9223372036854775807 then decF (acc * 10+(c.toNat - 48)) r else none
def decO (L:List UInt8):Option Nat:=if L=[]∨(1<L.length∧L.head?=some 48) then none else decF 0 L
theorem zyn {L:List UInt8}:∀ {acc n:Nat},acc<=9223372036854775807->decF acc L=some n->n<=9223372036854775807:=by
 induction L with
 | nil=>intro acc n h y;simp[decF] at y;omega
 | cons c r ih=>
  intro acc n h y;rw[decF] at y
  split at y
  ·rename_i h'
   exact ih h'.2 y
  ·cases y
theorem cls4 {c:Nat}:clsI (c:Int)=4 ↔ 48<=c∧c<=57:=by
 unfold clsI
 constructor
 ·intro h
  repeat' split at h
  all_goals first|(cases h;done) | omega
 ·intro h;rw[if_neg (by omega),if_neg (by omega),if_neg (by omega),if_pos (by omega)]
def decV (o:Option Nat):Value:=.tuple #[.int .i64 (o.getD 0:Nat),.bool o.isSome]
theorem zre {L:List UInt8}(h:L=[]):decO L=none:=by unfold decO;rw[if_pos (.inl h)]
theorem zji {L:List UInt8}(h:1<L.length)(h':L.head?=some 48):decO L=none:=by unfold decO;rw[if_pos (.inr ⟨h,h'⟩)]
theorem zxf {L:List UInt8}(h0:¬ L=[])(h:¬ (1<L.length∧L.head?=some 48)):decO L=decF 0 L:=by unfold decO;rw[if_neg (by intro y;rcases y with y|y;exact h0 y;exact h y)]
theorem zd5 {acc pos:Nat}{L:List UInt8}{c:UInt8}(hc:L[pos]?=some c):decF acc (L.drop pos)=if clsI c.toNat=4∧acc * 10+(c.toNat - 48)<=9223372036854775807 then decF (acc * 10+(c.toNat - 48)) (L.drop (pos+1)) else none:=by
 obtain⟨y,A⟩:=List.getElem?_eq_some_iff.1 hc;rw[List.drop_eq_getElem_cons y,A,decF]
theorem zeb {s:ByteArray}{pos:Nat}(hp:pos<s.size):s.data.toList[pos]?=some (s[pos]'hp):=by
 rw[Yh (by simpa using hp)];rfl
theorem wrap64 {x:Int}(h0:-9223372036854775808<=x)(h1:x<=9223372036854775807):IntKind.i64.wrap x=x:=by
 rw[show IntKind.i64.wrap x=(x+9223372036854775808) % 18446744073709551616 - 9223372036854775808 by simp[IntKind.wrap,IntKind.bits,IntKind.signed];omega];omega
theorem wrap32 {x:Int}(h0:-2147483648<=x)(h1:x<=2147483647):IntKind.i32.wrap x=x:=by
 rw[show IntKind.i32.wrap x=(x+2147483648) % 4294967296 - 2147483648 by simp[IntKind.wrap,IntKind.bits,IntKind.signed];omega];omega
theorem zob {c:Int}(h:128<=c):clsI c=0:=by
 unfold clsI
 repeat' rw[if_neg (by omega)]
theorem zc0 {o:Option Nat}(h:o=none):Ending.returned (.tuple #[.int .i64 0,.bool false])=.returned (decV o):=by rw[h];rfl
theorem zh1 {o:Option Nat}{n:Nat}(h:o=some n):Ending.returned (.tuple #[.int .i64 n,.bool true])=.returned (decV o):=by rw[h];rfl
theorem zif (s:ByteArray)(w:World):Calls Tryz.prog 93 #[.string s] w fun e w'=>e=.returned (decV (decO s.data.toList))∧Below w.heap.size w w':=by
 have N:s.toList=s.data.toList:=ByteArray.toList_eq s;have Y:s.size=s.data.toList.length:=by simp
 by_cases h0:s.data.toList=[]
 ·have e0:s.toList.isEmpty=true:=by rw[N,h0];rfl
  have e1:s.toList=[]:=by rw[N,h0]
  have HN:Hid (decO s.data.toList=none):=zre h0;clear h0 N Y
  go_enter Tryz.func93,Tryz.ntmps93
  go_wp2
  go_ret2
  exact⟨zc0 HN.out,Yb _ _⟩
 have M:0<s.size:=by
  rw[Y];exact List.length_pos_iff.2 h0
 have b0:=zeb M;have e0:s.toList.isEmpty=false:=by rw[N];cases h:s.data.toList with|nil=>exact absurd h h0|cons a l=>rfl
 have ab:s.data.toList.head?=some (s[0]'M):=by rw[<-b0];cases s.data.toList <;> rfl
 by_cases hn:1<s.size∧(s[0]'M).toNat=48
 ·have HN:Hid (decO s.data.toList=none):=zji (by omega) (by rw[ab,show s[0]'M=48 from UInt8.toNat.inj hn.2]);have av:((s.size:Int) > 1):=by omega
  have ao:=hn.2;clear N Y ab b0 h0 hn
  go_enter Tryz.func93,Tryz.ntmps93
  go_wp2
  go_ret2
  exact⟨zc0 HN.out,Yb _ _⟩
 have K:Hid (decO s.data.toList=decF 0 s.data.toList):=zxf h0 (by
  rintro⟨Z,U⟩;rw[ab] at U;injection U with U;exact hn ⟨by omega,by rw[U];rfl⟩)
 have HS:=J Y;have af:¬ (1<s.size)∨¬ ((s[0]'M).toNat=48):=by
  by_cases Z:1<s.size
  ·exact .inr fun U=>hn ⟨Z,U⟩
  ·exact .inl Z
 clear N Y ab b0 h0 hn
 go_enter Tryz.func93,Tryz.ntmps93
 by_cases Z:1<s.size
 ·have ao:¬ (s[0]'M).toNat=48:=by
   rcases af with h|h
   ·exact absurd Z h
   ·exact h
  clear af
  go_wp2
  generalize (s[0]'M).toNat=z0;have HW:Hid (decF 0 (s.data.toList.drop 0)=decF 0 s.data.toList):=rfl
  go_loopw [4] (fun n wr=>∃ pos y:Nat,pos<=s.size∧y<=9223372036854775807∧n=.int .i64 y∧wr=w.iter s pos∧decF y (s.data.toList.drop pos)=decF 0 s.data.toList) (fun _ w'=>s.size - w'.iterPos w.heap.size)
  case atStart=>exact⟨0,0,Yk _,by omega,rfl,rfl,HW.out⟩
  case round=>
   obtain⟨pos,y,ar,an,rfl,rfl,aa⟩:=hrel;have E:=J aa;clear aa
   by_cases hp:pos<s.size
   ·have X:∀ C,(Instr.next (.pointer (some ⟨w.heap.size,0,none⟩)) true C).run Tryz.prog (w.iter s pos)=_:=fun C=>run_next_any w s pos C hp;have I:Hid (s.data.toList[pos]?=some (s[pos]'hp)):=zeb hp
    by_cases ha:(s[pos]'hp).toNat<128
    ·have V:=decode_ascii s pos hp ha;have au:IntKind.i32.wrap (((s[pos]'hp).toNat:Int) - 48)=((s[pos]'hp).toNat:Int) - 48:=wrap32 (by omega) (by omega);have am:IntKind.i64.wrap (((s[pos]'hp).toNat:Int) - 48)=((s[pos]'hp).toNat:Int) - 48:=wrap64 (by omega) (by omega);rw[V] at X;clear V
     by_cases A:clsI ((s[pos]'hp).toNat:Int)=4
     ·obtain⟨g1,g2⟩:=cls4.1 A;have aq:IntKind.i64.wrap (9223372036854775807 - (((s[pos]'hp).toNat:Int) - 48))=9223372036854775807 - (((s[pos]'hp).toNat:Int) - 48):=wrap64 (by omega) (by omega);have hq:(9223372036854775807 - (((s[pos]'hp).toNat:Int) - 48)).tdiv 10=(9223372036854775807 - (((s[pos]'hp).toNat:Int) - 48)) / 10:=Int.tdiv_eq_ediv_of_nonneg (by omega);have ai:IntKind.i64.wrap ((9223372036854775807 - (((s[pos]'hp).toNat:Int) - 48)) / 10)=(9223372036854775807 - (((s[pos]'hp).toNat:Int) - 48)) / 10:=wrap64 (by omega) (by omega)
      by_cases hf:y * 10+((s[pos]'hp).toNat - 48)<=9223372036854775807
      ·have ac:Hid (decF (y * 10+((s[pos]'hp).toNat - 48)) (s.data.toList.drop (pos+1))=decF 0 s.data.toList):=by
        have:=E.out;rw[zd5 I.out,if_pos ⟨A,hf⟩] at this;exact this
       have ap:¬ ((y:Int) > (9223372036854775807 - (((s[pos]'hp).toNat:Int) - 48)) / 10):=by omega
       have al:IntKind.i64.wrap ((y:Int) * 10)=(y:Int) * 10:=wrap64 (by omega) (by omega);have ak:IntKind.i64.wrap ((y:Int) * 10+(((s[pos]'hp).toNat:Int) - 48))=(y:Int) * 10+(((s[pos]'hp).toNat:Int) - 48):=wrap64 (by omega) (by omega)
       go_wp2_with (go_at_call 61;refine(zbx _ _).mono ?_;rintro e W1 ⟨rfl,D⟩;subst D;rw[A])
       go_roundw
       case rel=>exact⟨pos+1,y * 10+((s[pos]'hp).toNat - 48),by omega,hf,by congr 1;omega,rfl,ac.out⟩
       case measure=>simp;omega
      ·have F:Hid (decO s.data.toList=none):=by
        have:=E.out;rw[zd5 I.out,if_neg (fun h=>hf h.2)] at this;rw[K.out,<-this];exact rfl
       have aj:(y:Int) > (9223372036854775807 - (((s[pos]'hp).toNat:Int) - 48)) / 10:=by omega
       clear hf
       go_wp2_with (go_at_call 61;refine(zbx _ _).mono ?_;rintro e W1 ⟨rfl,D⟩;subst D;rw[A])
       go_ret2
       exact⟨zc0 F.out,(Yb _ _).alloc (Ya _) _⟩
     ·have F:Hid (decO s.data.toList=none):=by
       have:=E.out;rw[zd5 I.out,if_neg (fun h=>A h.1)] at this;rw[K.out,<-this];exact rfl
      go_wp2_with (go_at_call 61;refine(zbx _ _).mono ?_;rintro e W1 ⟨rfl,D⟩;subst D)
      go_ret2
      exact⟨zc0 F.out,(Yb _ _).alloc (Ya _) _⟩
    ·have ae:=(decode_high s pos hp (by omega)).1;have ag:clsI ((Utf8.decode s pos).1:Int)=0:=zob (by omega);have A:¬ clsI ((s[pos]'hp).toNat:Int)=4:=by
      rw[cls4];omega
     have F:Hid (decO s.data.toList=none):=by
      have:=E.out;rw[zd5 I.out,if_neg (fun h=>A h.1)] at this;rw[K.out,<-this];exact rfl
     clear A ae
     go_wp2_with (go_at_call 61;refine(zbx _ _).mono ?_;rintro e W1 ⟨rfl,D⟩;subst D;rw[ag])
     go_ret2
     exact⟨zc0 F.out,(Yb _ _).alloc (Ya _) _⟩
   ·have X:∀ C,(Instr.next (.pointer (some ⟨w.heap.size,0,none⟩)) true C).run Tryz.prog (w.iter s pos)=_:=fun C=>run_next_end w s pos C hp;have ah:Hid (decO s.data.toList=some y):=by
     have:=E.out;rw[List.drop_eq_nil_of_le (by have:=HS.out;omega),decF] at this;rw[K.out,<-this];exact rfl
    go_wp2
    go_ret2
    exact⟨zh1 ah.out,(Yb _ _).alloc (Ya _) _⟩
 ·clear af
  go_wp2
  have HW:Hid (decF 0 (s.data.toList.drop 0)=decF 0 s.data.toList):=rfl
  go_loopw [4] (fun n wr=>∃ pos y:Nat,pos<=s.size∧y<=9223372036854775807∧n=.int .i64 y∧wr=w.iter s pos∧decF y (s.data.toList.drop pos)=decF 0 s.data.toList) (fun _ w'=>s.size - w'.iterPos w.heap.size)
  case atStart=>exact⟨0,0,Yk _,by omega,rfl,rfl,HW.out⟩
  case round=>
   obtain⟨pos,y,ar,an,rfl,rfl,aa⟩:=hrel;have E:=J aa;clear aa
   by_cases hp:pos<s.size
   ·have X:∀ C,(Instr.next (.pointer (some ⟨w.heap.size,0,none⟩)) true C).run Tryz.prog (w.iter s pos)=_:=fun C=>run_next_any w s pos C hp;have I:Hid (s.data.toList[pos]?=some (s[pos]'hp)):=zeb hp
    by_cases ha:(s[pos]'hp).toNat<128
    ·have V:=decode_ascii s pos hp ha;have au:IntKind.i32.wrap (((s[pos]'hp).toNat:Int) - 48)=((s[pos]'hp).toNat:Int) - 48:=wrap32 (by omega) (by omega);have am:IntKind.i64.wrap (((s[pos]'hp).toNat:Int) - 48)=((s[pos]'hp).toNat:Int) - 48:=wrap64 (by omega) (by omega);rw[V] at X;clear V
     by_cases A:clsI ((s[pos]'hp).toNat:Int)=4
     ·obtain⟨g1,g2⟩:=cls4.1 A;have aq:IntKind.i64.wrap (9223372036854775807 - (((s[pos]'hp).toNat:Int) - 48))=9223372036854775807 - (((s[pos]'hp).toNat:Int) - 48):=wrap64 (by omega) (by omega);have hq:(9223372036854775807 - (((s[pos]'hp).toNat:Int) - 48)).tdiv 10=(9223372036854775807 - (((s[pos]'hp).toNat:Int) - 48)) / 10:=Int.tdiv_eq_ediv_of_nonneg (by omega);have ai:IntKind.i64.wrap ((9223372036854775807 - (((s[pos]'hp).toNat:Int) - 48)) / 10)=(9223372036854775807 - (((s[pos]'hp).toNat:Int) - 48)) / 10:=wrap64 (by omega) (by omega)
      by_cases hf:y * 10+((s[pos]'hp).toNat - 48)<=9223372036854775807
      ·have ac:Hid (decF (y * 10+((s[pos]'hp).toNat - 48)) (s.data.toList.drop (pos+1))=decF 0 s.data.toList):=by
        have:=E.out;rw[zd5 I.out,if_pos ⟨A,hf⟩] at this;exact this
       have ap:¬ ((y:Int) > (9223372036854775807 - (((s[pos]'hp).toNat:Int) - 48)) / 10):=by omega
       have al:IntKind.i64.wrap ((y:Int) * 10)=(y:Int) * 10:=wrap64 (by omega) (by omega);have ak:IntKind.i64.wrap ((y:Int) * 10+(((s[pos]'hp).toNat:Int) - 48))=(y:Int) * 10+(((s[pos]'hp).toNat:Int) - 48):=wrap64 (by omega) (by omega)
       go_wp2_with (go_at_call 61;refine(zbx _ _).mono ?_;rintro e W1 ⟨rfl,D⟩;subst D;rw[A])
       go_roundw
       case rel=>exact⟨pos+1,y * 10+((s[pos]'hp).toNat - 48),by omega,hf,by congr 1;omega,rfl,ac.out⟩
       case measure=>simp;omega
      ·have F:Hid (decO s.data.toList=none):=by
        have:=E.out;rw[zd5 I.out,if_neg (fun h=>hf h.2)] at this;rw[K.out,<-this];exact rfl
       have aj:(y:Int) > (9223372036854775807 - (((s[pos]'hp).toNat:Int) - 48)) / 10:=by omega
       clear hf
       go_wp2_with (go_at_call 61;refine(zbx _ _).mono ?_;rintro e W1 ⟨rfl,D⟩;subst D;rw[A])
       go_ret2
       exact⟨zc0 F.out,(Yb _ _).alloc (Ya _) _⟩
     ·have F:Hid (decO s.data.toList=none):=by
       have:=E.out;rw[zd5 I.out,if_neg (fun h=>A h.1)] at this;rw[K.out,<-this];exact rfl
      go_wp2_with (go_at_call 61;refine(zbx _ _).mono ?_;rintro e W1 ⟨rfl,D⟩;subst D)
      go_ret2
      exact⟨zc0 F.out,(Yb _ _).alloc (Ya _) _⟩
    ·have ae:=(decode_high s pos hp (by omega)).1;have ag:clsI ((Utf8.decode s pos).1:Int)=0:=zob (by omega);have A:¬ clsI ((s[pos]'hp).toNat:Int)=4:=by
      rw[cls4];omega
     have F:Hid (decO s.data.toList=none):=by
      have:=E.out;rw[zd5 I.out,if_neg (fun h=>A h.1)] at this;rw[K.out,<-this];exact rfl
     clear A ae
     go_wp2_with (go_at_call 61;refine(zbx _ _).mono ?_;rintro e W1 ⟨rfl,D⟩;subst D;rw[ag])
     go_ret2
     exact⟨zc0 F.out,(Yb _ _).alloc (Ya _) _⟩
   ·have X:∀ C,(Instr.next (.pointer (some ⟨w.heap.size,0,none⟩)) true C).run Tryz.prog (w.iter s pos)=_:=fun C=>run_next_end w s pos C hp;have ah:Hid (decO s.data.toList=some y):=by
     have:=E.out;rw[List.drop_eq_nil_of_le (by have:=HS.out;omega),decF] at this;rw[K.out,<-this];exact rfl
    go_wp2
    go_ret2
    exact⟨zh1 ah.out,(Yb _ _).alloc (Ya _) _⟩
def pairU (c:UInt8):Option UInt8:=if c.toNat=34∨c.toNat=92 then some c else if c.toNat=110 then some 10 else none
theorem zf7 (c:UInt8)(r:List UInt8):pairI (c::r)=match pairU c with|none=>0|some x=>(x.toNat:Int):=by
 show(if c.toNat=34∨c.toNat=92 then(c.toNat:Int) else if c.toNat=110 then 10 else 0)=_;unfold pairU
 by_cases h1:c.toNat=34∨c.toNat=92
 ·rw[if_pos h1,if_pos h1]
 ·rw[if_neg h1,if_neg h1]
  by_cases h2:c.toNat=110
  ·rw[if_pos h2,if_pos h2];rfl
  ·rw[if_neg h2,if_neg h2]
theorem zln {c x:UInt8}(h:pairU c=some x):x.toNat≠0:=by
 unfold pairU at h
 split at h
 ·injection h with h;subst h;omega
 ·split at h
  ·injection h with h;subst h;decide
  ·cases h
def unqA (acc:List UInt8) (i:Nat):List UInt8->Option (List UInt8 × Nat)
 | []=>none
 | c::r=>if c.toNat=34 then some (acc,i+1) else if c.toNat=92 then(match r with | []=>none | d::r'=>match pairU d with | none=>none | some x=>unqA (acc++[x]) (i+2) r') else if plnB c.toNat then unqA (acc++[c]) (i+1) r else none
theorem zcb (acc:List UInt8)(i:Nat)(c:UInt8)(r:List UInt8):unqA acc i (c::r)=if c.toNat=34 then some (acc,i+1) else if c.toNat=92 then(match r with | []=>none|d::r'=>match pairU d with|none=>none|some x=>unqA (acc++[x]) (i+2) r') else if plnB c.toNat then unqA (acc++[c]) (i+1) r else none:=by
 rw[unqA.eq_def]
def unqO:List UInt8->Option (List UInt8 × Nat)
 | []=>none
 | c::r=>if c.toNat=34 then unqA [] 1 r else none
theorem zdu {L:List UInt8}{i:Nat}{c:UInt8}(h:L[i]?=some c):L.drop i=c::L.drop (i+1):=by
 obtain⟨y,A⟩:=List.getElem?_eq_some_iff.1 h;rw[List.drop_eq_getElem_cons y,A]
theorem zkb {acc:List UInt8}{i:Nat}{L:List UInt8}{c:UInt8}(h:L[i]?=some c)(h1:c.toNat=34):unqA acc i (L.drop i)=some (acc,i+1):=by
 rw[zdu h,zcb,if_pos h1]
theorem zkc {acc:List UInt8}{i:Nat}{L:List UInt8}{c d x:UInt8}(h:L[i]?=some c)(h1:c.toNat=92)(hd:L[i+1]?=some d)(hx:pairU d=some x):unqA acc i (L.drop i)=unqA (acc++[x]) (i+2) (L.drop (i+2)):=by
 rw[zdu h,zdu hd,zcb,if_neg (by omega),if_pos h1];simp only[hx]
theorem zh2 {acc:List UInt8}{i:Nat}{L:List UInt8}{c:UInt8}(h:L[i]?=some c)(h1:c.toNat=92)(hd:pairI (L.drop (i+1))=0):unqA acc i (L.drop i)=none:=by
 rw[zdu h,zcb,if_neg (by omega),if_pos h1]
 cases hr:L.drop (i+1) with
 | nil=>rfl
 | cons d r=>
  rw[hr,zf7] at hd
  cases hp:pairU d with
  | none=>simp only[hp]
  | some x=>
   rw[hp] at hd;have:=zln hp;simp only at hd;omega
theorem zhn {acc:List UInt8}{i:Nat}{L:List UInt8}{c:UInt8}(h:L[i]?=some c)(h1:c.toNat≠34)(h2:c.toNat≠92)(h3:plnB c.toNat=true):unqA acc i (L.drop i)=unqA (acc++[c]) (i+1) (L.drop (i+1)):=by
 rw[zdu h,zcb,if_neg h1,if_neg h2,if_pos h3]
theorem zkd {acc:List UInt8}{i:Nat}{L:List UInt8}{c:UInt8}(h:L[i]?=some c)(h1:c.toNat≠34)(h2:c.toNat≠92)(h3:plnB c.toNat=false):unqA acc i (L.drop i)=none:=by
 rw[zdu h,zcb,if_neg h1,if_neg h2,if_neg (by rw[h3];decide)]
theorem BA.below' {w w':World}{sp:Option Addr}{L:List UInt8}{B:Nat}(h:BA w sp L)(hb:Below B w w')(hB:B=w.heap.size:=by rfl):BA w' sp L:=h.below (hB ▸ hb)
theorem BA.drop {w:World}{b o:Nat}{L:List UInt8}(h:BA w (some ⟨b,o,none⟩) L)(k:Nat):BA w (some ⟨b,o+k,none⟩) (L.drop k):=fun hl=>by
 obtain⟨b',o',e,hc⟩:=h (by rw[List.length_drop] at hl;omega);injection e with e;injection e with e1 e2;subst e1 e2;refine⟨b,o+k,rfl,fun i c hi=>?_⟩;rw[List.getElem?_drop] at hi;rw[Nat.add_assoc];exact hc (k+i) c hi
theorem BA.none_left {w:World}{sp:Option Addr}{L:List UInt8}{k:Nat}(h:L.length<=k):BA w sp (L.drop k):=by
 rw[List.drop_eq_nil_of_le h];exact BA.nil _ _
theorem BA.cut {w:World}{b o cap:Nat}{L:List UInt8}(h:BA w (some ⟨b,o,none⟩) L)(k:Nat)(hc:L.length<=cap):BA w (if cap=k then some ⟨b,o,none⟩ else some ⟨b,o+k,none⟩) (L.drop k):=by
 split
 ·exact BA.none_left (by omega)
 ·exact h.drop k
theorem zlo {L:List UInt8}{k:Nat}(h:pairI (L.drop k)≠0):∃ d x,L[k]?=some d∧pairU d=some x∧pairI (L.drop k)=x.toNat:=by
 cases hk:L[k]? with
 | none=>
  rw[List.drop_eq_nil_of_le (by simpa using hk)] at h;exact absurd rfl h
 | some d=>
  rw[zdu hk,zf7] at h
  cases hp:pairU d with
  | none=>rw[hp] at h;exact absurd rfl h
  | some x=>exact⟨d,x,rfl,hp,by rw[zdu hk,zf7,hp]⟩
theorem zfy {B:Nat}{w wr:World}{v:Value}{acc:List UInt8}(c:UInt8)(ho:OwnB B wr v acc)(hb:Below B w wr)(hB:B<=wr.heap.size)(hl:acc.length<=900000) :
  ∃ v' w',(Builtin.append_ #[71,71] 71 #[v,.slice (some ⟨wr.heap.size,0,none⟩) 1 1]).run Tryz.prog (wr.alloc (.cells #[.int .u8 c.toNat] 5))=.ok v' w'∧OwnB B w' v' (acc++[c])∧Below B w w':=by
 have E:Below wr.heap.size wr (wr.alloc (.cells #[.int .u8 c.toNat] 5)):=(Yb _ _).alloc (Ya _) _;have y:=ho.below E;obtain⟨v',w',D,A,C,-⟩:=zdn elB (ys:=[c]) (sp:=some ⟨wr.heap.size,0,none⟩) (cap:=1) 71 y (fun h=>by cases h) (zar (x:=c) (Yd wr _)) (by simp;omega) (by simp;omega);exact⟨v',w',D,A,OwnG.grown y (Ya _) (by simp;omega) (hb.alloc hB _) C⟩
def UnqP (B:Nat) (w:World) (o:Option (List UInt8 × Nat)) (e:Ending):Prop:=match o with
 | none=>e=.returned (.tuple #[.slice none 0 0,.int .i64 0])
 | some (v,n)=>∃ u,e=.returned (.tuple #[u,.int .i64 n])∧OwnB B w u v
theorem zgm (sp:Option Addr)(cap:Nat) (L:List UInt8)(w:World)(h:BA w sp L)(hl:L.length<=100000)(hcap:L.length<=cap) :
  Calls Tryz.prog 94 #[.slice sp L.length cap] w fun e w'=>UnqP w.heap.size w' (unqO L) e∧Below w.heap.size w w':=by
 have N:=J h;clear h
 go_enter Tryz.func94,Tryz.ntmps94
 go_wp2
 refine wp_scope_jumps 0 (fun a' w'=>unqO L=none∧Below w.heap.size w w'∧∃ u0 u1 u2 u3 u4 u5 u6 u7 u8 u9 aA aM aU ac ay aH aB aw aD ak aW aR aT aX ae an aI aO ax az aJ aK aP aY ai aQ aC ar aE ao av ap aF au ag af aZ aj aG aL al:Value,a'={ tmps:=#[u0,u1,u2,u3,u4,u5,u6,u7,u8,u9,aA,aM,aU,ac,ay,aH,aB,aw,aD,ak,aW,aR,aT,aX,ae,an,aI,aO,ax,az,aJ,aK,aP,aY,ai,aQ,aC,ar,aE,ao,av,ap,aF,au,ag,af,aZ,aj,aG,aL,al],defers:=[] }) (fun _ _=>0) rfl ?_ ?_
 rotate_left
 ·rintro a' w' ⟨hn,hb,u0,u1,u2,u3,u4,u5,u6,u7,u8,u9,aA,aM,aU,ac,ay,aH,aB,aw,aD,ak,aW,aR,aT,aX,ae,an,aI,aO,ax,az,aJ,aK,aP,aY,ai,aQ,aC,ar,aE,ao,av,ap,aF,au,ag,af,aZ,aj,aG,aL,al,rfl⟩;have y:=J hn;clear hn
  go_wp2
  simp only[Exit.jump]
  go_ret2
  refine⟨?_,hb⟩;rw[y.out];exact rfl
 by_cases hnil:L=[]
 ·subst hnil;have y:Hid (unqO []=none):=rfl
  go_wp2
  go_step3
  exact⟨rfl,y.out,Yb _ _,_,_,_,_,_,_,_,_,_,_,_,_,_,_,_,_,_,_,_,_,_,_,_,_,_,_,_,_,_,_,_,_,_,_,_,_,_,_,_,_,_,_,_,_,_,_,_,_,_,_,_,rfl⟩
 have V:0<L.length:=List.length_pos_iff.2 hnil;obtain⟨b,o,rfl,hc⟩:=N.out V;obtain⟨c0,aa⟩:∃ c,L[0]?=some c:=⟨_,Yh V⟩;have k0:w.cell? ⟨b,o,none⟩=some (.int .u8 c0.toNat):=hc 0 c0 aa;have a5:(((L.length:Nat):Int) == 0)=false:=by rw[beq_eq_false_iff_ne];omega
 have ba:(0:Int)<(L.length:Nat):=by omega
 have I:Hid (unqO L=if c0.toNat=34 then unqA [] 1 (L.drop 1) else none):=by
  have e:=zdu aa;rw[List.drop_zero] at e;rw[e];exact rfl
 have HC:=J hc;clear hc aa hnil
 by_cases hq:c0.toNat=34
 ·have HG:Hid (unqA [] 1 (L.drop 1)=unqO L):=by rw[I.out,if_pos hq];exact rfl
  have aV:(c0.toNat:Int)=34:=by omega
  clear hq I;rw[aV] at k0
  go_wp2
  go_loopw [2,4] (fun v i wr=>∃ (t:Nat) (D:List UInt8),1<=t∧t<=L.length∧i=.int .i64 t∧OwnB w.heap.size wr v D∧Below w.heap.size w wr∧D.length<=t∧unqA D t (L.drop t)=unqO L) (fun _ i _=>L.length - (intOf i).toNat)
  case atStart=>exact⟨1,[],Ya _,V,rfl,zcz _ _,Yb _ _,Yk _,HG.out⟩
  case round=>
   clear HG k0;obtain⟨t,D,a7,a4,rfl,ah,am,a9,aN⟩:=hrel;have HO:=J ah;have A:=J am;have y:=J aN;clear ah am aN
   by_cases hlt:t<L.length
   ·have hd:decide ((t:Int)<L.length)=true:=by simp;omega
    obtain⟨c,K⟩:∃ c,L[t]?=some c:=⟨_,Yh hlt⟩;have h0:wr.cell? ⟨b,o+t,none⟩=some (.int .u8 c.toNat):=(A.out.cell (p:=⟨b,o+t,none⟩) (block_lt_of_cell (HC t c K))).trans (HC t c K);have F:=J K;clear K
    by_cases h34:(c.toNat:Int)=34
    ·have C:Hid (unqO L=some (D,t+1)):=by rw[<-y.out,zkb F.out (by omega)];exact rfl
     go_wp2
     simp only[Exit.jump]
     go_ret2
     refine⟨?_,A.out⟩;rw[C.out];exact⟨_,by congr 4,HO.out⟩
    ·by_cases h92:(c.toNat:Int)=92
     ·have a1:(L.drop (t+1)).length=L.length - (t+1):=List.length_drop;have HP:Hid (∀ X:Option Addr,BA wr X (L.drop (t+1))->Calls Tryz.prog 124 #[.slice X (L.length - (t+1)) (cap - (t+1))] wr fun e w'=>e=.returned (.int .u8 (pairI (L.drop (t+1))))∧w'=wr):=fun X hX=>by
       have:=zpq X (cap - (t+1)) (L.drop (t+1)) wr hX (by omega);rw[a1] at this;exact this
      have a2:Hid (BA wr (if cap=t+1 then some ⟨b,o,none⟩ else some ⟨b,o+(t+1),none⟩) (L.drop (t+1))):=BA.cut (N.out.below' A) (t+1) hcap
      by_cases hp0:pairI (L.drop (t+1))=0
      ·have C:Hid (unqO L=none):=by rw[<-y.out,zh2 F.out (by omega) hp0];exact rfl
       go_wp2_with (go_at_call 124;refine(HP _ a2).mono ?_;rintro e W1 ⟨rfl,E⟩;subst E;rw[hp0])
       all_goals go_step3
       all_goals exact⟨rfl,C.out,A.out,_,_,_,_,_,_,_,_,_,_,_,_,_,_,_,_,_,_,_,_,_,_,_,_,_,_,_,_,_,_,_,_,_,_,_,_,_,_,_,_,_,_,_,_,_,_,_,_,_,_,_,rfl⟩
      ·obtain⟨d,x,ab,U,aq⟩:=zlo hp0;have a8:=zln U;have bb:((x.toNat:Int) == 0)=false:=by rw[beq_eq_false_iff_ne];omega
       have C:Hid (unqA (D++[x]) (t+2) (L.drop (t+2))=unqO L):=by rw[<-y.out,zkc F.out (by omega) ab U];exact rfl
       have a6:t+1<L.length:=(List.getElem?_eq_some_iff.1 ab).1;have bc:¬ cap=t+1:=by omega
       have a3:Hid (BA wr (some ⟨b,o+(t+1),none⟩) (L.drop (t+1))):=BA.drop (N.out.below' A) (t+1);have a0:=J aq;clear hp0 ab U aq;obtain⟨v',w',Z,M,Y⟩:=zfy x HO A A.out.size (by omega)
       go_wp2_with (first
        | (go_at_call 124;refine(HP _ a3).mono ?_;rintro e W1 ⟨rfl,E⟩;subst E;rw[a0.out])
        | (at_builtin;refine za8 (.tmp 47) (.tmp 49) 71 (by rfl) (by rfl) (by rfl) (by rfl) Z ?_))
       exact⟨⟨t+2,D++[x],by omega,by omega,by go_num,M,Y,by rw[List.length_append,List.length_singleton];omega,C.out⟩,by simp[intOf];omega⟩
     ·have hw:=zfe c
      cases hpl:plnB c.toNat
      ·have C:Hid (unqO L=none):=by rw[<-y.out,zkd F.out (by omega) (by omega) hpl];exact rfl
       go_wp2_with (go_at_call 125;refine(zfx _ _).mono ?_;rintro e W1 ⟨rfl,E⟩;subst E;rw[hpl])
       go_step3
       exact⟨rfl,C.out,A.out,_,_,_,_,_,_,_,_,_,_,_,_,_,_,_,_,_,_,_,_,_,_,_,_,_,_,_,_,_,_,_,_,_,_,_,_,_,_,_,_,_,_,_,_,_,_,_,_,_,_,_,rfl⟩
      ·have C:Hid (unqA (D++[c]) (t+1) (L.drop (t+1))=unqO L):=by rw[<-y.out,zhn F.out (by omega) (by omega) hpl];exact rfl
       obtain⟨v',w',Z,M,Y⟩:=zfy c HO A A.out.size (by omega)
       go_wp2_with (first
        | (go_at_call 125;refine(zfx _ _).mono ?_;rintro e W1 ⟨rfl,E⟩;subst E;rw[hpl])
        | (at_builtin;refine za8 (.tmp 47) (.tmp 49) 71 (by rfl) (by rfl) (by rfl) (by rfl) Z ?_))
       exact⟨⟨t+1,D++[c],by omega,by omega,by go_num,M,Y,by rw[List.length_append,List.length_singleton];omega,C.out⟩,by simp[intOf];omega⟩
   ·have hd:decide ((t:Int)<L.length)=false:=by simp;omega
    have C:Hid (unqO L=none):=by rw[<-y.out,List.drop_eq_nil_of_le (by omega)];exact rfl
    go_wp2
    go_step3
    go_wp2
    simp only[Exit.jump]
    go_ret2
    refine⟨?_,A.out⟩;rw[C.out];exact rfl
 ·have y:Hid (unqO L=none):=by rw[I.out,if_neg hq];exact rfl
  have aV:¬ (c0.toNat:Int)=34:=by omega
  clear hq I
  go_wp2
  go_step3
  exact⟨rfl,y.out,Yb _ _,_,_,_,_,_,_,_,_,_,_,_,_,_,_,_,_,_,_,_,_,_,_,_,_,_,_,_,_,_,_,_,_,_,_,_,_,_,_,_,_,_,_,_,_,_,_,_,_,_,_,_,rfl⟩
theorem BA.bytesIn {w:World}{sp:Option Addr}{L:List UInt8}(h:BA w sp L):Lib.BytesIn w sp L.length (Lib.numsL L):=fun hl=>by
 obtain⟨b,o,e,hc⟩:=h hl;refine⟨b,o,e,fun i hi=>?_⟩;have hx:L[i]?=some (L[i]'hi):=Yh hi;rw[hc i _ hx];simp[Lib.numsL,hi]
def strU (L:List UInt8):ByteArray:=⟨L.toArray⟩
theorem zdv (L:List UInt8):(strU L).toList=L:=by rw[ByteArray.toList_eq];rfl
theorem zgy (L:List UInt8):(strU L).data.toList=L:=rfl
theorem zig (L:List UInt8):(strU L).size=L.length:=by simp[strU,ByteArray.size]
theorem zyo (s:ByteArray):strU s.data.toList=s:=rfl
theorem zgz {w:World}{sp:Option Addr}{L:List UInt8}(h:BA w sp L)(cap:Nat):(convert 71 9 (.slice sp L.length cap)).run Tryz.prog w=.ok (.string (strU L)) w:=by
 have:=Lib.BytesIn.convert (P:=Tryz.prog) h.bytesIn (by simp[Lib.numsL]) cap 71 5 9 Tryz.underlying71 Tryz.underlying5 Tryz.underlying9;rw[this];have e:strOfNums (Lib.numsL L)=strU L:=by
  have:=Lib.strOfNums_toList (Lib.numsL L);rw[Lib.bytesOf_numsL,ByteArray.toList_eq] at this;exact congrArg strU this
 rw[e]
theorem BA.take {w:World}{sp:Option Addr}{L:List UInt8}(h:BA w sp L)(k:Nat):BA w sp (L.take k):=fun hl=>by
 obtain⟨b,o,e,hc⟩:=h (by rw[List.length_take] at hl;omega);exact⟨b,o,e,fun i c hi=>hc i c (by
  rw[List.getElem?_take] at hi
  split at hi
  ·exact hi
  ·cases hi)⟩
def wordR (L:List UInt8):Nat × Int:=if runN (inC [3,4]) L > 24 then(0,3) else(runN (inC [3,4]) L,0)
def numR (L:List UInt8):Nat × Int:=if (decO (L.take (runN (inC [4]) L))).isSome=false∨0<runN (inC [3]) (L.drop (runN (inC [4]) L)) then(0,201) else(runN (inC [4]) L,0)
def quoR (L:List UInt8):Nat × Int:=match unqO L with|none=>(0,200) | some (_,n)=>(n,0)
def pairV (p:Nat × Int):Value:=.tuple #[.int .i64 p.1,.int .i64 p.2]
theorem za3 {p:Nat × Int}{n:Nat}{e:Int}(h:p=(n,e)):Ending.returned (.tuple #[.int .i64 n,.int .i64 e])=.returned (pairV p):=by rw[h];rfl
theorem zho (w:World)(zs:List Int)(t:TypeId):∀ j,j<zs.length->(w.alloc (.cells (zs.map (Value.int .i64)).toArray t)).cell? ⟨w.heap.size,0+j,none⟩=some (.int .i64 (zs.getD j 0)):=fun j hj=>by
 rw[Yc _ _ _ _ _ _ (Yd w _),Nat.zero_add];simp[hj]
theorem zvl (sp:Option Addr)(cap:Nat) (L:List UInt8)(w:World)(h:BA w sp L)(hl:L.length<=100000) :
  Calls Tryz.prog 62 #[.slice sp L.length cap] w fun e w'=>e=.returned (pairV (wordR L))∧Below w.heap.size w w':=by
 have A:Below w.heap.size w (w.alloc (.cells #[.int .i64 3,.int .i64 4] 3)):=(Yb _ _).alloc (Ya _) _;have C:Hid (Calls Tryz.prog 92 #[.slice sp L.length cap,.slice (some ⟨w.heap.size,0,none⟩) 2 2] (w.alloc (.cells #[.int .i64 3,.int .i64 4] 3)) fun e w'=>e=.returned (.int .i64 (runN (inC [3,4]) L))∧w'=(w.alloc (.cells #[.int .i64 3,.int .i64 4] 3))):=zm4 sp cap L w.heap.size 0 2 [3,4] _ (h.below A) (by omega) (by simp) (zho w [3,4] _);have D:Hid (Below w.heap.size w (w.alloc (.cells #[.int .i64 3,.int .i64 4] 3))):=A;have F:=zgl (inC [3,4]) L;clear h A
 by_cases h24:24<runN (inC [3,4]) L
 ·have y:Hid (wordR L=(0,3)):=by unfold wordR;rw[if_pos h24];exact rfl
  have E:((runN (inC [3,4]) L:Nat):Int) > 24:=by omega
  go_enter Tryz.func62,Tryz.ntmps62
  go_wp2_with (go_at_call 92;refine C.out.mono ?_;rintro e W1 ⟨rfl,rfl⟩)
  go_ret2
  exact⟨za3 y.out,D.out⟩
 ·have y:Hid (wordR L=(runN (inC [3,4]) L,0)):=by unfold wordR;rw[if_neg h24];exact rfl
  have E:¬ ((runN (inC [3,4]) L:Nat):Int) > 24:=by omega
  go_enter Tryz.func62,Tryz.ntmps62
  go_wp2_with (go_at_call 92;refine C.out.mono ?_;rintro e W1 ⟨rfl,rfl⟩)
  go_ret2
  exact⟨za3 y.out,D.out⟩
theorem zg0:∀ (k:Nat){L:List UInt8}{acc v:List UInt8}{i n:Nat},L.length<=k->unqA acc i L=some (v,n)->i<n∧n<=i+L.length
 | k,[],acc,v,i,n,_,h=>by cases h
 | 0,c::r,acc,v,i,n,hk,_=>by simp at hk
 | k+1,c::r,acc,v,i,n,hk,h=>by
  rw[List.length_cons] at hk;rw[zcb] at h;rw[List.length_cons]
  split at h
  ·simp only[Option.some.injEq,Prod.mk.injEq] at h;omega
  ·split at h
   ·cases r with
    | nil=>cases h
    | cons d r'=>
     simp only at h
     cases hp:pairU d with
     | none=>rw[hp] at h;cases h
     | some x=>
      rw[hp] at h;rw[List.length_cons] at hk ⊢;have:=zg0 k (by omega) h;omega
   ·split at h
    ·have:=zg0 k (by omega) h;omega
    ·cases h
theorem zg1 {L v:List UInt8}{n:Nat}(h:unqO L=some (v,n)):1<n∧n<=L.length:=by
 cases L with
 | nil=>cases h
 | cons c r=>
  rw[unqO] at h
  split at h
  ·have:=zg0 _ (Ya _) h;rw[List.length_cons];omega
  ·cases h
theorem zps (sp:Option Addr)(cap:Nat) (L:List UInt8)(w:World)(h:BA w sp L)(hl:L.length<=100000)(hcap:L.length<=cap) :
  Calls Tryz.prog 64 #[.slice sp L.length cap] w fun e w'=>e=.returned (pairV (quoR L))∧Below w.heap.size w w':=by
 have E:=J h;clear h
 go_enter Tryz.func64,Tryz.ntmps64
 cases hq:unqO L with
 | none=>
  have C:Hid (quoR L=(0,200)):=by unfold quoR;rw[hq];exact rfl
  have A:=J hq;clear hq
  go_wp2_with (go_at_call 94;refine(zgm sp cap L _ E hl hcap).mono ?_;rintro e W1 ⟨y,D⟩;rw[A.out] at y;unfold UnqP at y;subst y)
  go_ret2
  exact⟨za3 C.out,D⟩
 | some p=>
  obtain⟨v,n⟩:=p;have I:=zg1 hq;have C:Hid (quoR L=(n,0)):=by unfold quoR;rw[hq];exact rfl
  have A:=J hq;have F:((n:Int) == 0)=false:=by rw[beq_eq_false_iff_ne];omega
  clear hq
  go_wp2_with (go_at_call 94;refine(zgm sp cap L _ E hl hcap).mono ?_;rintro e W1 ⟨y,D⟩;rw[A.out] at y;obtain⟨u,rfl,-⟩:=y)
  go_ret2
  exact⟨za3 C.out,D⟩
def sig2 (s:List UInt8):Bool:=s == [58,61] || s == [61,61] || s == [33,61] || s == [60,61] || s == [62,61] || s == [38,38] || s == [124,124]
def sig1 (c:UInt8):Bool:=c == 40 || c == 41 || c == 123 || c == 125 || c == 91 || c == 93 || c == 44 || c == 46 || c == 58 || c == 61 || c == 43 || c == 45 || c == 42 || c == 47 || c == 37 || c == 60 || c == 62 || c == 33
def sigR (L:List UInt8):Nat × Int:=if sig2 (L.take 2) then(2,0) else match L with | []=>(0,200) | c::_=>if sig1 c then(1,0) else(0,200)
theorem zcf (c:UInt8):sig1 c=true ↔ c.toNat=40∨c.toNat=41∨c.toNat=123∨c.toNat=125∨c.toNat=91∨c.toNat=93∨c.toNat=44∨c.toNat=46∨c.toNat=58∨c.toNat=61∨c.toNat=43∨c.toNat=45∨c.toNat=42∨c.toNat=47∨c.toNat=37∨c.toNat=60∨c.toNat=62∨c.toNat=33:=by
 simp only[sig1,Bool.or_eq_true,beq_iff_eq,<-UInt8.toNat_inj];simp only[or_assoc];exact Iff.rfl
theorem zvm (sp:Option Addr)(cap:Nat)(c:UInt8)(r:List UInt8)(w:World)(h:BA w sp (c::r))(hl:(c::r).length<=100000)(hcap:(c::r).length<=cap) :
  Calls Tryz.prog 67 #[.slice sp (c::r).length cap] w fun e w'=>e=.returned (pairV (sigR (c::r)))∧w'=w:=by
 obtain⟨b,o,rfl,I⟩:=h (by simp);have Y:w.cell? ⟨b,o,none⟩=some (.int .u8 c.toNat):=I 0 c rfl;have K:=zgz (h.take 2) cap;have F:(min (((c::r).length:Nat):Int) 2).toNat=((c::r).take 2).length:=by rw[List.length_take];omega
 rw[<-F] at K;have ab:(0:Int)<((c::r).length:Nat):=by rw[List.length_cons];omega
 obtain⟨D,e0,E⟩:∃ D,strU ((c::r).take 2)=D∧D.toList=(c::r).take 2:=⟨_,rfl,zdv _⟩;rw[e0] at K;have C:Hid (sigR (c::r)=if sig2 D.toList then(2,0) else if sig1 c then(1,0) else(0,200)):=by rw[E];exact rfl
 have ah:0<=(min (((c::r).length:Nat):Int) 2):=by omega
 have aa:(min (((c::r).length:Nat):Int) 2)<=cap:=by omega
 clear e0 E I h F;generalize (c::r).length=n at *
 go_enter Tryz.func67,Tryz.ntmps67
 cases a0:(D.toList == [58,61])
 rotate_left
 ·have y:Hid (sigR (c::r)=(2,0)):=by rw[C.out,if_pos (by simp only[sig2,a0,Bool.true_or])];exact rfl
  clear C
  go_wp2
  go_ret2
  exact⟨za3 y.out,rfl⟩
 cases a1:(D.toList == [61,61])
 rotate_left
 ·have y:Hid (sigR (c::r)=(2,0)):=by rw[C.out,if_pos (by simp only[sig2,a0,a1,Bool.or_true,Bool.true_or])];exact rfl
  clear C
  go_wp2
  go_ret2
  exact⟨za3 y.out,rfl⟩
 cases a2:(D.toList == [33,61])
 rotate_left
 ·have y:Hid (sigR (c::r)=(2,0)):=by rw[C.out,if_pos (by simp only[sig2,a0,a1,a2,Bool.or_true,Bool.true_or])];exact rfl
  clear C
  go_wp2
  go_ret2
  exact⟨za3 y.out,rfl⟩
 cases a3:(D.toList == [60,61])
 rotate_left
 ·have y:Hid (sigR (c::r)=(2,0)):=by rw[C.out,if_pos (by simp only[sig2,a0,a1,a2,a3,Bool.or_true,Bool.true_or])];exact rfl
  clear C
  go_wp2
  go_ret2
  exact⟨za3 y.out,rfl⟩
 cases a4:(D.toList == [62,61])
 rotate_left
 ·have y:Hid (sigR (c::r)=(2,0)):=by rw[C.out,if_pos (by simp only[sig2,a0,a1,a2,a3,a4,Bool.or_true,Bool.true_or])];exact rfl
  clear C
  go_wp2
  go_ret2
  exact⟨za3 y.out,rfl⟩
 cases a5:(D.toList == [38,38])
 rotate_left
 ·have y:Hid (sigR (c::r)=(2,0)):=by rw[C.out,if_pos (by simp only[sig2,a0,a1,a2,a3,a4,a5,Bool.or_true,Bool.true_or])];exact rfl
  clear C
  go_wp2
  go_ret2
  exact⟨za3 y.out,rfl⟩
 cases a6:(D.toList == [124,124])
 rotate_left
 ·have y:Hid (sigR (c::r)=(2,0)):=by rw[C.out,if_pos (by simp only[sig2,a0,a1,a2,a3,a4,a5,a6,Bool.or_true])];exact rfl
  clear C
  go_wp2
  go_ret2
  exact⟨za3 y.out,rfl⟩
 have A:Hid (sigR (c::r)=if sig1 c then(1,0) else(0,200)):=by rw[C.out,if_neg (by simp only[sig2,a0,a1,a2,a3,a4,a5,a6,Bool.or_false];decide)];exact rfl
 clear C
 cases c0:((c.toNat:Int) == 40)
 rotate_left
 ·have y:Hid (sigR (c::r)=(1,0)):=by rw[A.out,if_pos ((zcf c).2 (by have:=beq_iff_eq.1 c0;omega))];exact rfl
  clear A
  go_wp2
  go_ret2
  exact⟨za3 y.out,rfl⟩
 cases c1:((c.toNat:Int) == 41)
 rotate_left
 ·have y:Hid (sigR (c::r)=(1,0)):=by rw[A.out,if_pos ((zcf c).2 (by have:=beq_iff_eq.1 c1;omega))];exact rfl
  clear A
  go_wp2
  go_ret2
  exact⟨za3 y.out,rfl⟩
 cases c2:((c.toNat:Int) == 123)
 rotate_left
 ·have y:Hid (sigR (c::r)=(1,0)):=by rw[A.out,if_pos ((zcf c).2 (by have:=beq_iff_eq.1 c2;omega))];exact rfl
  clear A
  go_wp2
  go_ret2
  exact⟨za3 y.out,rfl⟩
 cases c3:((c.toNat:Int) == 125)
 rotate_left
 ·have y:Hid (sigR (c::r)=(1,0)):=by rw[A.out,if_pos ((zcf c).2 (by have:=beq_iff_eq.1 c3;omega))];exact rfl
  clear A
  go_wp2
  go_ret2
  exact⟨za3 y.out,rfl⟩
 cases c4:((c.toNat:Int) == 91)
 rotate_left
 ·have y:Hid (sigR (c::r)=(1,0)):=by rw[A.out,if_pos ((zcf c).2 (by have:=beq_iff_eq.1 c4;omega))];exact rfl
  clear A
  go_wp2
  go_ret2
  exact⟨za3 y.out,rfl⟩
 cases c5:((c.toNat:Int) == 93)
 rotate_left
 ·have y:Hid (sigR (c::r)=(1,0)):=by rw[A.out,if_pos ((zcf c).2 (by have:=beq_iff_eq.1 c5;omega))];exact rfl
  clear A
  go_wp2
  go_ret2
  exact⟨za3 y.out,rfl⟩
 cases c6:((c.toNat:Int) == 44)
 rotate_left
 ·have y:Hid (sigR (c::r)=(1,0)):=by rw[A.out,if_pos ((zcf c).2 (by have:=beq_iff_eq.1 c6;omega))];exact rfl
  clear A
  go_wp2
  go_ret2
  exact⟨za3 y.out,rfl⟩
 cases c7:((c.toNat:Int) == 46)
 rotate_left
 ·have y:Hid (sigR (c::r)=(1,0)):=by rw[A.out,if_pos ((zcf c).2 (by have:=beq_iff_eq.1 c7;omega))];exact rfl
  clear A
  go_wp2
  go_ret2
  exact⟨za3 y.out,rfl⟩
 cases c8:((c.toNat:Int) == 58)
 rotate_left
 ·have y:Hid (sigR (c::r)=(1,0)):=by rw[A.out,if_pos ((zcf c).2 (by have:=beq_iff_eq.1 c8;omega))];exact rfl
  clear A
  go_wp2
  go_ret2
  exact⟨za3 y.out,rfl⟩
 cases c9:((c.toNat:Int) == 61)
 rotate_left
 ·have y:Hid (sigR (c::r)=(1,0)):=by rw[A.out,if_pos ((zcf c).2 (by have:=beq_iff_eq.1 c9;omega))];exact rfl
  clear A
  go_wp2
  go_ret2
  exact⟨za3 y.out,rfl⟩
 cases c10:((c.toNat:Int) == 43)
 rotate_left
 ·have y:Hid (sigR (c::r)=(1,0)):=by rw[A.out,if_pos ((zcf c).2 (by have:=beq_iff_eq.1 c10;omega))];exact rfl
  clear A
  go_wp2
  go_ret2
  exact⟨za3 y.out,rfl⟩
 cases c11:((c.toNat:Int) == 45)
 rotate_left
 ·have y:Hid (sigR (c::r)=(1,0)):=by rw[A.out,if_pos ((zcf c).2 (by have:=beq_iff_eq.1 c11;omega))];exact rfl
  clear A
  go_wp2
  go_ret2
  exact⟨za3 y.out,rfl⟩
 cases c12:((c.toNat:Int) == 42)
 rotate_left
 ·have y:Hid (sigR (c::r)=(1,0)):=by rw[A.out,if_pos ((zcf c).2 (by have:=beq_iff_eq.1 c12;omega))];exact rfl
  clear A
  go_wp2
  go_ret2
  exact⟨za3 y.out,rfl⟩
 cases c13:((c.toNat:Int) == 47)
 rotate_left
 ·have y:Hid (sigR (c::r)=(1,0)):=by rw[A.out,if_pos ((zcf c).2 (by have:=beq_iff_eq.1 c13;omega))];exact rfl
  clear A
  go_wp2
  go_ret2
  exact⟨za3 y.out,rfl⟩
 cases c14:((c.toNat:Int) == 37)
 rotate_left
 ·have y:Hid (sigR (c::r)=(1,0)):=by rw[A.out,if_pos ((zcf c).2 (by have:=beq_iff_eq.1 c14;omega))];exact rfl
  clear A
  go_wp2
  go_ret2
  exact⟨za3 y.out,rfl⟩
 cases c15:((c.toNat:Int) == 60)
 rotate_left
 ·have y:Hid (sigR (c::r)=(1,0)):=by rw[A.out,if_pos ((zcf c).2 (by have:=beq_iff_eq.1 c15;omega))];exact rfl
  clear A
  go_wp2
  go_ret2
  exact⟨za3 y.out,rfl⟩
 cases c16:((c.toNat:Int) == 62)
 rotate_left
 ·have y:Hid (sigR (c::r)=(1,0)):=by rw[A.out,if_pos ((zcf c).2 (by have:=beq_iff_eq.1 c16;omega))];exact rfl
  clear A
  go_wp2
  go_ret2
  exact⟨za3 y.out,rfl⟩
 cases c17:((c.toNat:Int) == 33)
 rotate_left
 ·have y:Hid (sigR (c::r)=(1,0)):=by rw[A.out,if_pos ((zcf c).2 (by have:=beq_iff_eq.1 c17;omega))];exact rfl
  clear A
  go_wp2
  go_ret2
  exact⟨za3 y.out,rfl⟩
 have y:Hid (sigR (c::r)=(0,200)):=by
  rw[A.out,if_neg (by
   rw[zcf];have d0:=beq_eq_false_iff_ne.1 c0;have d1:=beq_eq_false_iff_ne.1 c1;have V:=beq_eq_false_iff_ne.1 c2;have N:=beq_eq_false_iff_ne.1 c3;have d4:=beq_eq_false_iff_ne.1 c4;have d5:=beq_eq_false_iff_ne.1 c5;have d6:=beq_eq_false_iff_ne.1 c6;have d7:=beq_eq_false_iff_ne.1 c7;have d8:=beq_eq_false_iff_ne.1 c8;have U:=beq_eq_false_iff_ne.1 c9;have Z:=beq_eq_false_iff_ne.1 c10;have ae:=beq_eq_false_iff_ne.1 c11;have X:=beq_eq_false_iff_ne.1 c12;have ag:=beq_eq_false_iff_ne.1 c13;have ai:=beq_eq_false_iff_ne.1 c14;have af:=beq_eq_false_iff_ne.1 c15;have ac:=beq_eq_false_iff_ne.1 c16;have M:=beq_eq_false_iff_ne.1 c17;omega)]
  exact rfl
 clear A
 go_wp2
 go_ret2
 exact⟨za3 y.out,rfl⟩
end Go.Proofs.YtmclgbkijeidaaaGreatDoor
