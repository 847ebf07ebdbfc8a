import Derived.Test.YtmclgbkijeidaaaGreatDoorUnA
import Derived.Test.YtmclgbkijeidaaaGreatDoorUnShelf
import Derived.WalkMore
import Derived.ScopeJumps
import Derived.Lib.SlFresh
import Derived.Lib.Builder
import Derived.Lib.OthersKept
import Derived.Lib.AppendStr
import Derived.Laws.Externs
namespace Go.Proofs.YtmclgbkijeidaaaGreatDoor
set_option maxRecDepth 100000
set_option maxHeartbeats 4000000
open Go.RowKit
def runN (p:UInt8->Bool) (L:List UInt8):Nat:=(L.takeWhile p).length
theorem zeb (p:UInt8->Bool) (L:List UInt8):runN p L<=L.length:=(List.takeWhile_sublist p).length_le
theorem zkn (p:UInt8->Bool):runN p []=0:=rfl
theorem zcd (p:UInt8->Bool)(c:UInt8) (L:List UInt8):runN p (c::L)=if p c then runN p L+1 else 0:=by
 unfold runN;rw[List.takeWhile_cons]
 split <;> simp
theorem zg0 {p:UInt8->Bool}:∀ {L:List UInt8}{t:Nat}{c:UInt8},(∀ j d,j<t->L[j]?=some d->p d=true)->L[t]?=some c->p c=false->runN p L=t
 | [],t,c,_,h,_=>by simp at h
 | a::L,0,c,_,h,hp=>by
  have h':a=c:=by simpa using h
  rw[zcd,h',hp];rfl
 | a::L,t+1,c,hz,h,hp=>by
  rw[zcd,hz 0 a (by omega) rfl,if_pos rfl,zg0 (fun j d hj hd=>hz (j+1) d (Nat.succ_lt_succ hj) (by simpa using hd)) (by simpa using h) hp]
theorem zfi {p:UInt8->Bool}:∀ {L:List UInt8},(∀ j d,j<L.length->L[j]?=some d->p d=true)->runN p L=L.length
 | [],_=>rfl
 | a::L,hz=>by
  rw[zcd,hz 0 a (by simp) rfl,if_pos rfl,zfi (fun j d hj hd=>hz (j+1) d (by simp;omega) (by simpa using hd)),List.length_cons]
def inC (zs:List Int) (c:UInt8):Bool:=zs.contains (clsI c.toNat)
theorem ze9 (c:UInt8):IntKind.i32.wrap (c.toNat:Int)=c.toNat:=by
 have:=c.toNat_lt;rw[show IntKind.i32.wrap (c.toNat:Int)=((c.toNat:Int)+2147483648) % 4294967296 - 2147483648 by simp[IntKind.wrap,IntKind.bits,IntKind.signed];omega];omega
theorem zj5 (sp:Option Addr)(cap:Nat) (L:List UInt8)(bz oz cz:Nat)(zs:List Int)(w:World)(h:BA w sp L)(hl:L.length<=1000000)(hzl:zs.length<=1000)(hz:∀ j,j<zs.length->w.cell? ⟨bz,oz+j,none⟩=some (.int .i64 (zs.getD j 0))) :
  Calls Tryz.prog 92 #[.slice sp L.length cap,.slice (some ⟨bz,oz,none⟩) zs.length cz] w fun e w'=>e=.returned (.int .i64 (runN (inC zs) L))∧w'=w:=by
 have HL:=hid h;have HZ:=hid hz;clear h hz
 go_enter Tryz.func92,Tryz.ntmps92
 go_wp2
 go_loopw [9] (fun i wr=>∃ t:Nat,t<=L.length∧i=.int .i64 t∧wr=w∧∀ j d,j<t->L[j]?=some d->inC zs d=true) (fun i _=>L.length - (intOf i).toNat)
 case atStart=>exact⟨0,Nat.zero_le _,rfl,rfl,fun j d hj=>by omega⟩
 case round=>
  obtain⟨t,ht,rfl,rfl,hall⟩:=hrel;have HA:=hid hall;clear hall
  by_cases hlt:t<L.length
  ·have hd:decide ((t:Int)<L.length)=true:=by simp;omega
   obtain⟨b,o,rfl,hc⟩:=HL.out (by omega);obtain⟨c,hcc⟩:∃ c,L[t]?=some c:=⟨_,List.getElem?_eq_getElem hlt⟩;have h0:=hc t c hcc;have HC:=hid hcc;have hw:=ze9 c;clear hc hcc
   go_wp2_with (first
    | (go_at_call 61;refine(zbo _ _).mono ?_;rintro e W1 ⟨rfl,hW1⟩;subst hW1)
    | (go_at_call 123;refine(Tryz.slices_Contains_int bz oz zs.length cz zs _ _ (Nat.le_refl _) (by omega) HZ.out).mono ?_;rintro e W1 ⟨rfl,hW1⟩;subst hW1;rw[List.take_length]))
   ·rename_i hx
    have hx':inC zs c=false:=by simpa[inC] using hx
    go_ret
    exact⟨zce (by rw[zg0 HA.out HC.out hx']),rfl⟩
   ·rename_i hx
    have hx':inC zs c=true:=by simpa[inC] using hx
    refine⟨⟨t+1,by omega,by go_num,trivial,fun j d hj hjd=>?_⟩,by simp[intOf];omega⟩
    by_cases hjt:j<t
    ·exact HA.out j d hjt hjd
    ·obtain rfl:j=t:=by omega
     rw[HC.out] at hjd;injection hjd with hjd;rw[<-hjd];exact hx'
  ·have hd:decide ((t:Int)<L.length)=false:=by simp;omega
   have HYES:Hid (runN (inC zs) L=L.length):=zfi fun j d hj hdd=>HA.out j d (by omega) hdd
   go_wp2
   go_ret
   exact⟨zce (by rw[HYES.out]),rfl⟩
def decF (acc:Nat):List UInt8->Option Nat
 | []=>some acc
 | c::r=>if clsI c.toNat=4∧acc * 10+(c.toNat - 48)<=9223372036854775807 then decF (acc * 10+(c.toNat - 48)) r else none
def decO (L:List UInt8):Option Nat:=if L=[]∨(1<L.length∧L.head?=some 48) then none else decF 0 L
theorem cls4 {c:Nat}:clsI (c:Int)=4 ↔ 48<=c∧c<=57:=by
 unfold clsI
 constructor
 ·intro h
  repeat' split at h
  all_goals first|(cases h;done) | omega
 ·intro h;rw[if_neg (by omega),if_neg (by omega),if_neg (by omega),if_pos (by omega)]
def decV (o:Option Nat):Value:=.tuple #[.int .i64 (o.getD 0:Nat),.bool o.isSome]
theorem zmo {L:List UInt8}(h:L=[]):decO L=none:=by unfold decO;rw[if_pos (.inl h)]
theorem zho {L:List UInt8}(h:1<L.length)(h':L.head?=some 48):decO L=none:=by unfold decO;rw[if_pos (.inr ⟨h,h'⟩)]
theorem zp3 {L:List UInt8}(h0:¬ L=[])(h:¬ (1<L.length∧L.head?=some 48)):decO L=decF 0 L:=by unfold decO;rw[if_neg (by intro hh;rcases hh with hh|hh;exact h0 hh;exact h hh)]
theorem zdc {acc pos:Nat}{L:List UInt8}{c:UInt8}(hc:L[pos]?=some c):decF acc (L.drop pos)=if clsI c.toNat=4∧acc * 10+(c.toNat - 48)<=9223372036854775807 then decF (acc * 10+(c.toNat - 48)) (L.drop (pos+1)) else none:=by
 obtain⟨hlt,he⟩:=List.getElem?_eq_some_iff.1 hc;rw[List.drop_eq_getElem_cons hlt,he,decF]
theorem zcq {s:ByteArray}{pos:Nat}(hp:pos<s.size):s.data.toList[pos]?=some (s[pos]'hp):=by
 rw[List.getElem?_eq_getElem (by simpa using hp)];rfl
theorem wrap64 {x:Int}(h0:-9223372036854775808<=x)(h1:x<=9223372036854775807):IntKind.i64.wrap x=x:=by
 rw[show IntKind.i64.wrap x=(x+9223372036854775808) % 18446744073709551616 - 9223372036854775808 by simp[IntKind.wrap,IntKind.bits,IntKind.signed];omega];omega
theorem wrap32 {x:Int}(h0:-2147483648<=x)(h1:x<=2147483647):IntKind.i32.wrap x=x:=by
 rw[show IntKind.i32.wrap x=(x+2147483648) % 4294967296 - 2147483648 by simp[IntKind.wrap,IntKind.bits,IntKind.signed];omega];omega
theorem zko {c:Int}(h:128<=c):clsI c=0:=by
 unfold clsI
 repeat' rw[if_neg (by omega)]
theorem zci {o:Option Nat}(h:o=none):Ending.returned (.tuple #[.int .i64 0,.bool false])=.returned (decV o):=by rw[h];rfl
theorem zgg {o:Option Nat}{n:Nat}(h:o=some n):Ending.returned (.tuple #[.int .i64 n,.bool true])=.returned (decV o):=by rw[h];rfl
theorem zg1 (s:ByteArray)(w:World):Calls Tryz.prog 93 #[.string s] w fun e w'=>e=.returned (decV (decO s.data.toList))∧Below w.heap.size w w':=by
 have hT:s.toList=s.data.toList:=ByteArray.toList_eq s;have hsz:s.size=s.data.toList.length:=by simp
 by_cases h0:s.data.toList=[]
 ·have e0:s.toList.isEmpty=true:=by rw[hT,h0];rfl
  have e1:s.toList=[]:=by rw[hT,h0]
  have HN:Hid (decO s.data.toList=none):=zmo h0;clear h0 hT hsz
  go_enter Tryz.func93,Tryz.ntmps93
  go_wp2
  go_ret2
  exact⟨zci HN.out,Below.refl _ _⟩
 have hpos:0<s.size:=by
  rw[hsz];exact List.length_pos_iff.2 h0
 have b0:=zcq hpos;have e0:s.toList.isEmpty=false:=by rw[hT];cases h:s.data.toList with|nil=>exact absurd h h0|cons a l=>rfl
 have hhead:s.data.toList.head?=some (s[0]'hpos):=by rw[<-b0];cases s.data.toList <;> rfl
 by_cases hn:1<s.size∧(s[0]'hpos).toNat=48
 ·have HN:Hid (decO s.data.toList=none):=zho (by omega) (by rw[hhead,show s[0]'hpos=48 from UInt8.toNat.inj hn.2]);have hn1:((s.size:Int) > 1):=by omega
  have hn2:=hn.2;clear hT hsz hhead b0 h0 hn
  go_enter Tryz.func93,Tryz.ntmps93
  go_wp2
  go_ret2
  exact⟨zci HN.out,Below.refl _ _⟩
 have HGO:Hid (decO s.data.toList=decF 0 s.data.toList):=zp3 h0 (by
  rintro⟨h1,h2⟩;rw[hhead] at h2;injection h2 with h2;exact hn ⟨by omega,by rw[h2];rfl⟩)
 have HS:=hid hsz;have hn':¬ (1<s.size)∨¬ ((s[0]'hpos).toNat=48):=by
  by_cases h1:1<s.size
  ·exact .inr fun h2=>hn ⟨h1,h2⟩
  ·exact .inl h1
 clear hT hsz hhead b0 h0 hn
 go_enter Tryz.func93,Tryz.ntmps93
 by_cases h1:1<s.size
 ·have hn2:¬ (s[0]'hpos).toNat=48:=by
   rcases hn' with h|h
   ·exact absurd h1 h
   ·exact h
  clear hn'
  go_wp2
  generalize (s[0]'hpos).toNat=z0;have HW:Hid (decF 0 (s.data.toList.drop 0)=decF 0 s.data.toList):=rfl
  go_loopw [4] (fun n wr=>∃ pos acc:Nat,pos<=s.size∧acc<=9223372036854775807∧n=.int .i64 acc∧wr=w.iter s pos∧decF acc (s.data.toList.drop pos)=decF 0 s.data.toList) (fun _ w'=>s.size - w'.iterPos w.heap.size)
  case atStart=>exact⟨0,0,Nat.zero_le _,by omega,rfl,rfl,HW.out⟩
  case round=>
   obtain⟨pos,acc,hps,hacc,rfl,rfl,hdec⟩:=hrel;have HD:=hid hdec;clear hdec
   by_cases hp:pos<s.size
   ·have hnx:∀ ty,(Instr.next (.pointer (some ⟨w.heap.size,0,none⟩)) true ty).run Tryz.prog (w.iter s pos)=_:=fun ty=>run_next_any w s pos ty hp;have HB:Hid (s.data.toList[pos]?=some (s[pos]'hp)):=zcq hp
    by_cases ha:(s[pos]'hp).toNat<128
    ·have hdc:=decode_ascii s pos hp ha;have hw1:IntKind.i32.wrap (((s[pos]'hp).toNat:Int) - 48)=((s[pos]'hp).toNat:Int) - 48:=wrap32 (by omega) (by omega);have hw2:IntKind.i64.wrap (((s[pos]'hp).toNat:Int) - 48)=((s[pos]'hp).toNat:Int) - 48:=wrap64 (by omega) (by omega);rw[hdc] at hnx;clear hdc
     by_cases h4:clsI ((s[pos]'hp).toNat:Int)=4
     ·obtain⟨g1,g2⟩:=cls4.1 h4;have hw3:IntKind.i64.wrap (9223372036854775807 - (((s[pos]'hp).toNat:Int) - 48))=9223372036854775807 - (((s[pos]'hp).toNat:Int) - 48):=wrap64 (by omega) (by omega);have hq:(9223372036854775807 - (((s[pos]'hp).toNat:Int) - 48)).tdiv 10=(9223372036854775807 - (((s[pos]'hp).toNat:Int) - 48)) / 10:=Int.tdiv_eq_ediv_of_nonneg (by omega);have hw4:IntKind.i64.wrap ((9223372036854775807 - (((s[pos]'hp).toNat:Int) - 48)) / 10)=(9223372036854775807 - (((s[pos]'hp).toNat:Int) - 48)) / 10:=wrap64 (by omega) (by omega)
      by_cases hf:acc * 10+((s[pos]'hp).toNat - 48)<=9223372036854775807
      ·have HNX:Hid (decF (acc * 10+((s[pos]'hp).toNat - 48)) (s.data.toList.drop (pos+1))=decF 0 s.data.toList):=by
        have:=HD.out;rw[zdc HB.out,if_pos ⟨h4,hf⟩] at this;exact this
       have hle:¬ ((acc:Int) > (9223372036854775807 - (((s[pos]'hp).toNat:Int) - 48)) / 10):=by omega
       have hw5:IntKind.i64.wrap ((acc:Int) * 10)=(acc:Int) * 10:=wrap64 (by omega) (by omega);have hw6:IntKind.i64.wrap ((acc:Int) * 10+(((s[pos]'hp).toNat:Int) - 48))=(acc:Int) * 10+(((s[pos]'hp).toNat:Int) - 48):=wrap64 (by omega) (by omega)
       go_wp2_with (go_at_call 61;refine(zbo _ _).mono ?_;rintro e W1 ⟨rfl,hW1⟩;subst hW1;rw[h4])
       go_roundw
       case rel=>exact⟨pos+1,acc * 10+((s[pos]'hp).toNat - 48),by omega,hf,by congr 1;omega,rfl,HNX.out⟩
       case measure=>simp;omega
      ·have HNO:Hid (decO s.data.toList=none):=by
        have:=HD.out;rw[zdc HB.out,if_neg (fun h=>hf h.2)] at this;rw[HGO.out,<-this];exact rfl
       have hgt:(acc:Int) > (9223372036854775807 - (((s[pos]'hp).toNat:Int) - 48)) / 10:=by omega
       clear hf
       go_wp2_with (go_at_call 61;refine(zbo _ _).mono ?_;rintro e W1 ⟨rfl,hW1⟩;subst hW1;rw[h4])
       go_ret2
       exact⟨zci HNO.out,(Below.refl _ _).alloc (Nat.le_refl _) _⟩
     ·have HNO:Hid (decO s.data.toList=none):=by
       have:=HD.out;rw[zdc HB.out,if_neg (fun h=>h4 h.1)] at this;rw[HGO.out,<-this];exact rfl
      go_wp2_with (go_at_call 61;refine(zbo _ _).mono ?_;rintro e W1 ⟨rfl,hW1⟩;subst hW1)
      go_ret2
      exact⟨zci HNO.out,(Below.refl _ _).alloc (Nat.le_refl _) _⟩
    ·have hdh:=(decode_high s pos hp (by omega)).1;have hc0:clsI ((Utf8.decode s pos).1:Int)=0:=zko (by omega);have h4:¬ clsI ((s[pos]'hp).toNat:Int)=4:=by
      rw[cls4];omega
     have HNO:Hid (decO s.data.toList=none):=by
      have:=HD.out;rw[zdc HB.out,if_neg (fun h=>h4 h.1)] at this;rw[HGO.out,<-this];exact rfl
     clear h4 hdh
     go_wp2_with (go_at_call 61;refine(zbo _ _).mono ?_;rintro e W1 ⟨rfl,hW1⟩;subst hW1;rw[hc0])
     go_ret2
     exact⟨zci HNO.out,(Below.refl _ _).alloc (Nat.le_refl _) _⟩
   ·have hnx:∀ ty,(Instr.next (.pointer (some ⟨w.heap.size,0,none⟩)) true ty).run Tryz.prog (w.iter s pos)=_:=fun ty=>run_next_end w s pos ty hp;have HYES:Hid (decO s.data.toList=some acc):=by
     have:=HD.out;rw[List.drop_eq_nil_of_le (by have:=HS.out;omega),decF] at this;rw[HGO.out,<-this];exact rfl
    go_wp2
    go_ret2
    exact⟨zgg HYES.out,(Below.refl _ _).alloc (Nat.le_refl _) _⟩
 ·clear hn'
  go_wp2
  have HW:Hid (decF 0 (s.data.toList.drop 0)=decF 0 s.data.toList):=rfl
  go_loopw [4] (fun n wr=>∃ pos acc:Nat,pos<=s.size∧acc<=9223372036854775807∧n=.int .i64 acc∧wr=w.iter s pos∧decF acc (s.data.toList.drop pos)=decF 0 s.data.toList) (fun _ w'=>s.size - w'.iterPos w.heap.size)
  case atStart=>exact⟨0,0,Nat.zero_le _,by omega,rfl,rfl,HW.out⟩
  case round=>
   obtain⟨pos,acc,hps,hacc,rfl,rfl,hdec⟩:=hrel;have HD:=hid hdec;clear hdec
   by_cases hp:pos<s.size
   ·have hnx:∀ ty,(Instr.next (.pointer (some ⟨w.heap.size,0,none⟩)) true ty).run Tryz.prog (w.iter s pos)=_:=fun ty=>run_next_any w s pos ty hp;have HB:Hid (s.data.toList[pos]?=some (s[pos]'hp)):=zcq hp
    by_cases ha:(s[pos]'hp).toNat<128
    ·have hdc:=decode_ascii s pos hp ha;have hw1:IntKind.i32.wrap (((s[pos]'hp).toNat:Int) - 48)=((s[pos]'hp).toNat:Int) - 48:=wrap32 (by omega) (by omega);have hw2:IntKind.i64.wrap (((s[pos]'hp).toNat:Int) - 48)=((s[pos]'hp).toNat:Int) - 48:=wrap64 (by omega) (by omega);rw[hdc] at hnx;clear hdc
     by_cases h4:clsI ((s[pos]'hp).toNat:Int)=4
     ·obtain⟨g1,g2⟩:=cls4.1 h4;have hw3:IntKind.i64.wrap (9223372036854775807 - (((s[pos]'hp).toNat:Int) - 48))=9223372036854775807 - (((s[pos]'hp).toNat:Int) - 48):=wrap64 (by omega) (by omega);have hq:(9223372036854775807 - (((s[pos]'hp).toNat:Int) - 48)).tdiv 10=(9223372036854775807 - (((s[pos]'hp).toNat:Int) - 48)) / 10:=Int.tdiv_eq_ediv_of_nonneg (by omega);have hw4:IntKind.i64.wrap ((9223372036854775807 - (((s[pos]'hp).toNat:Int) - 48)) / 10)=(9223372036854775807 - (((s[pos]'hp).toNat:Int) - 48)) / 10:=wrap64 (by omega) (by omega)
      by_cases hf:acc * 10+((s[pos]'hp).toNat - 48)<=9223372036854775807
      ·have HNX:Hid (decF (acc * 10+((s[pos]'hp).toNat - 48)) (s.data.toList.drop (pos+1))=decF 0 s.data.toList):=by
        have:=HD.out;rw[zdc HB.out,if_pos ⟨h4,hf⟩] at this;exact this
       have hle:¬ ((acc:Int) > (9223372036854775807 - (((s[pos]'hp).toNat:Int) - 48)) / 10):=by omega
       have hw5:IntKind.i64.wrap ((acc:Int) * 10)=(acc:Int) * 10:=wrap64 (by omega) (by omega);have hw6:IntKind.i64.wrap ((acc:Int) * 10+(((s[pos]'hp).toNat:Int) - 48))=(acc:Int) * 10+(((s[pos]'hp).toNat:Int) - 48):=wrap64 (by omega) (by omega)
       go_wp2_with (go_at_call 61;refine(zbo _ _).mono ?_;rintro e W1 ⟨rfl,hW1⟩;subst hW1;rw[h4])
       go_roundw
       case rel=>exact⟨pos+1,acc * 10+((s[pos]'hp).toNat - 48),by omega,hf,by congr 1;omega,rfl,HNX.out⟩
       case measure=>simp;omega
      ·have HNO:Hid (decO s.data.toList=none):=by
        have:=HD.out;rw[zdc HB.out,if_neg (fun h=>hf h.2)] at this;rw[HGO.out,<-this];exact rfl
       have hgt:(acc:Int) > (9223372036854775807 - (((s[pos]'hp).toNat:Int) - 48)) / 10:=by omega
       clear hf
       go_wp2_with (go_at_call 61;refine(zbo _ _).mono ?_;rintro e W1 ⟨rfl,hW1⟩;subst hW1;rw[h4])
       go_ret2
       exact⟨zci HNO.out,(Below.refl _ _).alloc (Nat.le_refl _) _⟩
     ·have HNO:Hid (decO s.data.toList=none):=by
       have:=HD.out;rw[zdc HB.out,if_neg (fun h=>h4 h.1)] at this;rw[HGO.out,<-this];exact rfl
      go_wp2_with (go_at_call 61;refine(zbo _ _).mono ?_;rintro e W1 ⟨rfl,hW1⟩;subst hW1)
      go_ret2
      exact⟨zci HNO.out,(Below.refl _ _).alloc (Nat.le_refl _) _⟩
    ·have hdh:=(decode_high s pos hp (by omega)).1;have hc0:clsI ((Utf8.decode s pos).1:Int)=0:=zko (by omega);have h4:¬ clsI ((s[pos]'hp).toNat:Int)=4:=by
      rw[cls4];omega
     have HNO:Hid (decO s.data.toList=none):=by
      have:=HD.out;rw[zdc HB.out,if_neg (fun h=>h4 h.1)] at this;rw[HGO.out,<-this];exact rfl
     clear h4 hdh
     go_wp2_with (go_at_call 61;refine(zbo _ _).mono ?_;rintro e W1 ⟨rfl,hW1⟩;subst hW1;rw[hc0])
     go_ret2
     exact⟨zci HNO.out,(Below.refl _ _).alloc (Nat.le_refl _) _⟩
   ·have hnx:∀ ty,(Instr.next (.pointer (some ⟨w.heap.size,0,none⟩)) true ty).run Tryz.prog (w.iter s pos)=_:=fun ty=>run_next_end w s pos ty hp;have HYES:Hid (decO s.data.toList=some acc):=by
     have:=HD.out;rw[List.drop_eq_nil_of_le (by have:=HS.out;omega),decF] at this;rw[HGO.out,<-this];exact rfl
    go_wp2
    go_ret2
    exact⟨zgg HYES.out,(Below.refl _ _).alloc (Nat.le_refl _) _⟩
def pairU (c:UInt8):Option UInt8:=if c.toNat=34∨c.toNat=92 then some c else if c.toNat=110 then some 10 else none
theorem zev (c:UInt8)(r:List UInt8):pairI (c::r)=match pairU c with|none=>0|some x=>(x.toNat:Int):=by
 show(if c.toNat=34∨c.toNat=92 then(c.toNat:Int) else if c.toNat=110 then 10 else 0)=_;unfold pairU
 by_cases h1:c.toNat=34∨c.toNat=92
 ·rw[if_pos h1,if_pos h1]
 ·rw[if_neg h1,if_neg h1]
  by_cases h2:c.toNat=110
  ·rw[if_pos h2,if_pos h2];rfl
  ·rw[if_neg h2,if_neg h2]
theorem zi5 {c x:UInt8}(h:pairU c=some x):x.toNat≠0:=by
 unfold pairU at h
 split at h
 ·injection h with h;subst h;omega
 ·split at h
  ·injection h with h;subst h;decide
  ·cases h
def unqA (acc:List UInt8) (i:Nat):List UInt8->Option (List UInt8 × Nat)
 | []=>none
 | c::r=>if c.toNat=34 then some (acc,i+1) else if c.toNat=92 then(match r with | []=>none | d::r'=>match pairU d with | none=>none | some x=>unqA (acc++[x]) (i+2) r') else if plnB c.toNat then unqA (acc++[c]) (i+1) r else none
theorem zcr (acc:List UInt8)(i:Nat)(c:UInt8)(r:List UInt8):unqA acc i (c::r)=if c.toNat=34 then some (acc,i+1) else if c.toNat=92 then(match r with | []=>none|d::r'=>match pairU d with|none=>none|some x=>unqA (acc++[x]) (i+2) r') else if plnB c.toNat then unqA (acc++[c]) (i+1) r else none:=by
 rw[unqA.eq_def]
def unqO:List UInt8->Option (List UInt8 × Nat)
 | []=>none
 | c::r=>if c.toNat=34 then unqA [] 1 r else none
theorem zc5 {L:List UInt8}{i:Nat}{c:UInt8}(h:L[i]?=some c):L.drop i=c::L.drop (i+1):=by
 obtain⟨hlt,he⟩:=List.getElem?_eq_some_iff.1 h;rw[List.drop_eq_getElem_cons hlt,he]
theorem zia {acc:List UInt8}{i:Nat}{L:List UInt8}{c:UInt8}(h:L[i]?=some c)(h1:c.toNat=34):unqA acc i (L.drop i)=some (acc,i+1):=by
 rw[zc5 h,zcr,if_pos h1]
theorem zib {acc:List UInt8}{i:Nat}{L:List UInt8}{c d x:UInt8}(h:L[i]?=some c)(h1:c.toNat=92)(hd:L[i+1]?=some d)(hx:pairU d=some x):unqA acc i (L.drop i)=unqA (acc++[x]) (i+2) (L.drop (i+2)):=by
 rw[zc5 h,zc5 hd,zcr,if_neg (by omega),if_pos h1];simp only[hx]
theorem zgh {acc:List UInt8}{i:Nat}{L:List UInt8}{c:UInt8}(h:L[i]?=some c)(h1:c.toNat=92)(hd:pairI (L.drop (i+1))=0):unqA acc i (L.drop i)=none:=by
 rw[zc5 h,zcr,if_neg (by omega),if_pos h1]
 cases hr:L.drop (i+1) with
 | nil=>rfl
 | cons d r=>
  rw[hr,zev] at hd
  cases hp:pairU d with
  | none=>simp only[hp]
  | some x=>
   rw[hp] at hd;have:=zi5 hp;simp only at hd;omega
theorem zf4 {acc:List UInt8}{i:Nat}{L:List UInt8}{c:UInt8}(h:L[i]?=some c)(h1:c.toNat≠34)(h2:c.toNat≠92)(h3:plnB c.toNat=true):unqA acc i (L.drop i)=unqA (acc++[c]) (i+1) (L.drop (i+1)):=by
 rw[zc5 h,zcr,if_neg h1,if_neg h2,if_pos h3]
theorem zic {acc:List UInt8}{i:Nat}{L:List UInt8}{c:UInt8}(h:L[i]?=some c)(h1:c.toNat≠34)(h2:c.toNat≠92)(h3:plnB c.toNat=false):unqA acc i (L.drop i)=none:=by
 rw[zc5 h,zcr,if_neg h1,if_neg h2,if_neg (by rw[h3];decide)]
theorem BA.below' {w w':World}{sp:Option Addr}{L:List UInt8}{B:Nat}(h:BA w sp L)(hb:Below B w w')(hB:B=w.heap.size:=by rfl):BA w' sp L:=h.below (hB ▸ hb)
theorem BA.drop {w:World}{b o:Nat}{L:List UInt8}(h:BA w (some ⟨b,o,none⟩) L)(k:Nat):BA w (some ⟨b,o+k,none⟩) (L.drop k):=fun hl=>by
 obtain⟨b',o',e,hc⟩:=h (by rw[List.length_drop] at hl;omega);injection e with e;injection e with e1 e2;subst e1 e2;refine⟨b,o+k,rfl,fun i c hi=>?_⟩;rw[List.getElem?_drop] at hi;rw[Nat.add_assoc];exact hc (k+i) c hi
theorem BA.none_left {w:World}{sp:Option Addr}{L:List UInt8}{k:Nat}(h:L.length<=k):BA w sp (L.drop k):=by
 rw[List.drop_eq_nil_of_le h];exact BA.nil _ _
theorem BA.cut {w:World}{b o cap:Nat}{L:List UInt8}(h:BA w (some ⟨b,o,none⟩) L)(k:Nat)(hc:L.length<=cap):BA w (if cap=k then some ⟨b,o,none⟩ else some ⟨b,o+k,none⟩) (L.drop k):=by
 split
 ·exact BA.none_left (by omega)
 ·exact h.drop k
theorem zi6 {L:List UInt8}{k:Nat}(h:pairI (L.drop k)≠0):∃ d x,L[k]?=some d∧pairU d=some x∧pairI (L.drop k)=x.toNat:=by
 cases hk:L[k]? with
 | none=>
  rw[List.drop_eq_nil_of_le (by simpa using hk)] at h;exact absurd rfl h
 | some d=>
  rw[zc5 hk,zev] at h
  cases hp:pairU d with
  | none=>rw[hp] at h;exact absurd rfl h
  | some x=>exact⟨d,x,rfl,hp,by rw[zc5 hk,zev,hp]⟩
theorem zen {B:Nat}{w wr:World}{v:Value}{acc:List UInt8}(c:UInt8)(ho:OwnB B wr v acc)(hb:Below B w wr)(hB:B<=wr.heap.size)(hl:acc.length<=900000) :
  ∃ v' w',(Builtin.append_ #[71,71] 71 #[v,.slice (some ⟨wr.heap.size,0,none⟩) 1 1]).run Tryz.prog (wr.alloc (.cells #[.int .u8 c.toNat] 5))=.ok v' w'∧OwnB B w' v' (acc++[c])∧Below B w w':=by
 have ba:Below wr.heap.size wr (wr.alloc (.cells #[.int .u8 c.toNat] 5)):=(Below.refl _ _).alloc (Nat.le_refl _) _;have ho':=ho.below ba;obtain⟨v',w',hr,q1,q2,-⟩:=zdi elB (ys:=[c]) (sp:=some ⟨wr.heap.size,0,none⟩) (cap:=1) 71 ho' (fun h=>by cases h) (zau (x:=c) (heap_alloc_new wr _)) (by simp;omega) (by simp;omega);exact⟨v',w',hr,q1,OwnG.grown ho' (Nat.le_refl _) (by simp;omega) (hb.alloc hB _) q2⟩
def UnqP (B:Nat) (w:World) (o:Option (List UInt8 × Nat)) (e:Ending):Prop:=match o with
 | none=>e=.returned (.tuple #[.slice none 0 0,.int .i64 0])
 | some (v,n)=>∃ u,e=.returned (.tuple #[u,.int .i64 n])∧OwnB B w u v
theorem zfa (sp:Option Addr)(cap:Nat) (L:List UInt8)(w:World)(h:BA w sp L)(hl:L.length<=100000)(hcap:L.length<=cap) :
  Calls Tryz.prog 94 #[.slice sp L.length cap] w fun e w'=>UnqP w.heap.size w' (unqO L) e∧Below w.heap.size w w':=by
 have HL:=hid h;clear h
 go_enter Tryz.func94,Tryz.ntmps94
 go_wp2
 refine wp_scope_jumps 0 (fun a' w'=>unqO L=none∧Below w.heap.size w w'∧∃ u0 u1 u2 u3 u4 u5 u6 u7 u8 u9 u10 u11 u12 u13 u14 u15 u16 u17 u18 u19 u20 u21 u22 u23 u24 u25 u26 u27 u28 u29 u30 u31 u32 u33 u34 u35 u36 u37 u38 u39 u40 u41 u42 u43 u44 u45 u46 u47 u48 u49 u50:Value,a'={ tmps:=#[u0,u1,u2,u3,u4,u5,u6,u7,u8,u9,u10,u11,u12,u13,u14,u15,u16,u17,u18,u19,u20,u21,u22,u23,u24,u25,u26,u27,u28,u29,u30,u31,u32,u33,u34,u35,u36,u37,u38,u39,u40,u41,u42,u43,u44,u45,u46,u47,u48,u49,u50],defers:=[] }) (fun _ _=>0) rfl ?_ ?_
 rotate_left
 ·rintro a' w' ⟨hn,hb,u0,u1,u2,u3,u4,u5,u6,u7,u8,u9,u10,u11,u12,u13,u14,u15,u16,u17,u18,u19,u20,u21,u22,u23,u24,u25,u26,u27,u28,u29,u30,u31,u32,u33,u34,u35,u36,u37,u38,u39,u40,u41,u42,u43,u44,u45,u46,u47,u48,u49,u50,rfl⟩;have HN:=hid hn;clear hn
  go_wp2
  simp only[Exit.jump]
  go_ret2
  refine⟨?_,hb⟩;rw[HN.out];exact rfl
 by_cases hnil:L=[]
 ·subst hnil;have HN:Hid (unqO []=none):=rfl
  go_wp2
  go_step3
  exact⟨rfl,HN.out,Below.refl _ _,_,_,_,_,_,_,_,_,_,_,_,_,_,_,_,_,_,_,_,_,_,_,_,_,_,_,_,_,_,_,_,_,_,_,_,_,_,_,_,_,_,_,_,_,_,_,_,_,_,_,_,rfl⟩
 have hpos:0<L.length:=List.length_pos_iff.2 hnil;obtain⟨b,o,rfl,hc⟩:=HL.out hpos;obtain⟨c0,hc0⟩:∃ c,L[0]?=some c:=⟨_,List.getElem?_eq_getElem hpos⟩;have k0:w.cell? ⟨b,o,none⟩=some (.int .u8 c0.toNat):=hc 0 c0 hc0;have hln:(((L.length:Nat):Int) == 0)=false:=by rw[beq_eq_false_iff_ne];omega
 have hlt0:(0:Int)<(L.length:Nat):=by omega
 have HU:Hid (unqO L=if c0.toNat=34 then unqA [] 1 (L.drop 1) else none):=by
  have e:=zc5 hc0;rw[List.drop_zero] at e;rw[e];exact rfl
 have HC:=hid hc;clear hc hc0 hnil
 by_cases hq:c0.toNat=34
 ·have HG:Hid (unqA [] 1 (L.drop 1)=unqO L):=by rw[HU.out,if_pos hq];exact rfl
  have hq':(c0.toNat:Int)=34:=by omega
  clear hq HU;rw[hq'] at k0
  go_wp2
  go_loopw [2,4] (fun v i wr=>∃ (t:Nat) (acc:List UInt8),1<=t∧t<=L.length∧i=.int .i64 t∧OwnB w.heap.size wr v acc∧Below w.heap.size w wr∧acc.length<=t∧unqA acc t (L.drop t)=unqO L) (fun _ i _=>L.length - (intOf i).toNat)
  case atStart=>exact⟨1,[],Nat.le_refl _,hpos,rfl,zbv _ _,Below.refl _ _,Nat.zero_le _,HG.out⟩
  case round=>
   clear HG k0;obtain⟨t,acc,ht1,htl,rfl,hown,hbel,hal,hun⟩:=hrel;have HO:=hid hown;have HB:=hid hbel;have HN:=hid hun;clear hown hbel hun
   by_cases hlt:t<L.length
   ·have hd:decide ((t:Int)<L.length)=true:=by simp;omega
    obtain⟨c,hcc⟩:∃ c,L[t]?=some c:=⟨_,List.getElem?_eq_getElem hlt⟩;have h0:wr.cell? ⟨b,o+t,none⟩=some (.int .u8 c.toNat):=(HB.out.cell (p:=⟨b,o+t,none⟩) (block_lt_of_cell (HC.out t c hcc))).trans (HC.out t c hcc);have HCC:=hid hcc;clear hcc
    by_cases h34:(c.toNat:Int)=34
    ·have HE:Hid (unqO L=some (acc,t+1)):=by rw[<-HN.out,zia HCC.out (by omega)];exact rfl
     go_wp2
     simp only[Exit.jump]
     go_ret2
     refine⟨?_,HB.out⟩;rw[HE.out];exact⟨_,by congr 4,HO.out⟩
    ·by_cases h92:(c.toNat:Int)=92
     ·have hdl:(L.drop (t+1)).length=L.length - (t+1):=List.length_drop;have HP:Hid (∀ X:Option Addr,BA wr X (L.drop (t+1))->Calls Tryz.prog 124 #[.slice X (L.length - (t+1)) (cap - (t+1))] wr fun e w'=>e=.returned (.int .u8 (pairI (L.drop (t+1))))∧w'=wr):=fun X hX=>by
       have:=zlm X (cap - (t+1)) (L.drop (t+1)) wr hX (by omega);rw[hdl] at this;exact this
      have HD1:Hid (BA wr (if cap=t+1 then some ⟨b,o,none⟩ else some ⟨b,o+(t+1),none⟩) (L.drop (t+1))):=BA.cut (HL.out.below' HB.out) (t+1) hcap
      by_cases hp0:pairI (L.drop (t+1))=0
      ·have HE:Hid (unqO L=none):=by rw[<-HN.out,zgh HCC.out (by omega) hp0];exact rfl
       go_wp2_with (go_at_call 124;refine(HP.out _ HD1.out).mono ?_;rintro e W1 ⟨rfl,hW1⟩;subst hW1;rw[hp0])
       all_goals go_step3
       all_goals exact⟨rfl,HE.out,HB.out,_,_,_,_,_,_,_,_,_,_,_,_,_,_,_,_,_,_,_,_,_,_,_,_,_,_,_,_,_,_,_,_,_,_,_,_,_,_,_,_,_,_,_,_,_,_,_,_,_,_,_,rfl⟩
      ·obtain⟨d,x,hdd,hxx,hpx⟩:=zi6 hp0;have hx0:=zi5 hxx;have hx0':((x.toNat:Int) == 0)=false:=by rw[beq_eq_false_iff_ne];omega
       have HE:Hid (unqA (acc++[x]) (t+2) (L.drop (t+2))=unqO L):=by rw[<-HN.out,zib HCC.out (by omega) hdd hxx];exact rfl
       have hlt2:t+1<L.length:=(List.getElem?_eq_some_iff.1 hdd).1;have hne:¬ cap=t+1:=by omega
       have HD2:Hid (BA wr (some ⟨b,o+(t+1),none⟩) (L.drop (t+1))):=BA.drop (HL.out.below' HB.out) (t+1);have HPX:=hid hpx;clear hp0 hdd hxx hpx;obtain⟨v',w',hr,ho',hb'⟩:=zen x HO.out HB.out HB.out.size (by omega)
       go_wp2_with (first
        | (go_at_call 124;refine(HP.out _ HD2.out).mono ?_;rintro e W1 ⟨rfl,hW1⟩;subst hW1;rw[HPX.out])
        | (at_builtin;refine zaz (.tmp 47) (.tmp 49) 71 (by rfl) (by rfl) (by rfl) (by rfl) hr ?_))
       exact⟨⟨t+2,acc++[x],by omega,by omega,by go_num,ho',hb',by rw[List.length_append,List.length_singleton];omega,HE.out⟩,by simp[intOf];omega⟩
     ·have hw:=ze9 c
      cases hpl:plnB c.toNat
      ·have HE:Hid (unqO L=none):=by rw[<-HN.out,zic HCC.out (by omega) (by omega) hpl];exact rfl
       go_wp2_with (go_at_call 125;refine(zi4 _ _).mono ?_;rintro e W1 ⟨rfl,hW1⟩;subst hW1;rw[hpl])
       go_step3
       exact⟨rfl,HE.out,HB.out,_,_,_,_,_,_,_,_,_,_,_,_,_,_,_,_,_,_,_,_,_,_,_,_,_,_,_,_,_,_,_,_,_,_,_,_,_,_,_,_,_,_,_,_,_,_,_,_,_,_,_,rfl⟩
      ·have HE:Hid (unqA (acc++[c]) (t+1) (L.drop (t+1))=unqO L):=by rw[<-HN.out,zf4 HCC.out (by omega) (by omega) hpl];exact rfl
       obtain⟨v',w',hr,ho',hb'⟩:=zen c HO.out HB.out HB.out.size (by omega)
       go_wp2_with (first
        | (go_at_call 125;refine(zi4 _ _).mono ?_;rintro e W1 ⟨rfl,hW1⟩;subst hW1;rw[hpl])
        | (at_builtin;refine zaz (.tmp 47) (.tmp 49) 71 (by rfl) (by rfl) (by rfl) (by rfl) hr ?_))
       exact⟨⟨t+1,acc++[c],by omega,by omega,by go_num,ho',hb',by rw[List.length_append,List.length_singleton];omega,HE.out⟩,by simp[intOf];omega⟩
   ·have hd:decide ((t:Int)<L.length)=false:=by simp;omega
    have HE:Hid (unqO L=none):=by rw[<-HN.out,List.drop_eq_nil_of_le (by omega)];exact rfl
    go_wp2
    go_step3
    go_wp2
    simp only[Exit.jump]
    go_ret2
    refine⟨?_,HB.out⟩;rw[HE.out];exact rfl
 ·have HN:Hid (unqO L=none):=by rw[HU.out,if_neg hq];exact rfl
  have hq':¬ (c0.toNat:Int)=34:=by omega
  clear hq HU
  go_wp2
  go_step3
  exact⟨rfl,HN.out,Below.refl _ _,_,_,_,_,_,_,_,_,_,_,_,_,_,_,_,_,_,_,_,_,_,_,_,_,_,_,_,_,_,_,_,_,_,_,_,_,_,_,_,_,_,_,_,_,_,_,_,_,_,_,_,rfl⟩
theorem BA.bytesIn {w:World}{sp:Option Addr}{L:List UInt8}(h:BA w sp L):Lib.BytesIn w sp L.length (Lib.numsL L):=fun hl=>by
 obtain⟨b,o,e,hc⟩:=h hl;refine⟨b,o,e,fun i hi=>?_⟩;have hx:L[i]?=some (L[i]'hi):=List.getElem?_eq_getElem hi;rw[hc i _ hx];simp[Lib.numsL,hi]
def strU (L:List UInt8):ByteArray:=⟨L.toArray⟩
theorem zc6 (L:List UInt8):(strU L).toList=L:=by rw[ByteArray.toList_eq];rfl
theorem zd6 (L:List UInt8):(strU L).data.toList=L:=rfl
theorem zi7 (L:List UInt8):(strU L).size=L.length:=by simp[strU,ByteArray.size]
theorem zmp (s:ByteArray):strU s.data.toList=s:=rfl
theorem zfj {w:World}{sp:Option Addr}{L:List UInt8}(h:BA w sp L)(cap:Nat):(convert 71 9 (.slice sp L.length cap)).run Tryz.prog w=.ok (.string (strU L)) w:=by
 have:=Lib.BytesIn.convert (P:=Tryz.prog) h.bytesIn (by simp[Lib.numsL]) cap 71 5 9 Tryz.underlying71 Tryz.underlying5 Tryz.underlying9;rw[this];have e:strOfNums (Lib.numsL L)=strU L:=by
  have:=Lib.strOfNums_toList (Lib.numsL L);rw[Lib.bytesOf_numsL,ByteArray.toList_eq] at this;exact congrArg strU this
 rw[e]
theorem BA.take {w:World}{sp:Option Addr}{L:List UInt8}(h:BA w sp L)(k:Nat):BA w sp (L.take k):=fun hl=>by
 obtain⟨b,o,e,hc⟩:=h (by rw[List.length_take] at hl;omega);exact⟨b,o,e,fun i c hi=>hc i c (by
  rw[List.getElem?_take] at hi
  split at hi
  ·exact hi
  ·cases hi)⟩
def wordR (L:List UInt8):Nat × Int:=if runN (inC [3,4]) L > 24 then(0,3) else(runN (inC [3,4]) L,0)
def numR (L:List UInt8):Nat × Int:=if (decO (L.take (runN (inC [4]) L))).isSome=false∨0<runN (inC [3]) (L.drop (runN (inC [4]) L)) then(0,201) else(runN (inC [4]) L,0)
def quoR (L:List UInt8):Nat × Int:=match unqO L with|none=>(0,200) | some (_,n)=>(n,0)
def pairV (p:Nat × Int):Value:=.tuple #[.int .i64 p.1,.int .i64 p.2]
theorem za0 {p:Nat × Int}{n:Nat}{e:Int}(h:p=(n,e)):Ending.returned (.tuple #[.int .i64 n,.int .i64 e])=.returned (pairV p):=by rw[h];rfl
theorem zf5 (w:World)(zs:List Int)(t:TypeId):∀ j,j<zs.length->(w.alloc (.cells (zs.map (Value.int .i64)).toArray t)).cell? ⟨w.heap.size,0+j,none⟩=some (.int .i64 (zs.getD j 0)):=fun j hj=>by
 rw[cell_of_row _ _ _ _ _ _ (heap_alloc_new w _),Nat.zero_add];simp[hj]
theorem zoy (sp:Option Addr)(cap:Nat) (L:List UInt8)(w:World)(h:BA w sp L)(hl:L.length<=100000) :
  Calls Tryz.prog 62 #[.slice sp L.length cap] w fun e w'=>e=.returned (pairV (wordR L))∧Below w.heap.size w w':=by
 have b1:Below w.heap.size w (w.alloc (.cells #[.int .i64 3,.int .i64 4] 3)):=(Below.refl _ _).alloc (Nat.le_refl _) _;have HR:Hid (Calls Tryz.prog 92 #[.slice sp L.length cap,.slice (some ⟨w.heap.size,0,none⟩) 2 2] (w.alloc (.cells #[.int .i64 3,.int .i64 4] 3)) fun e w'=>e=.returned (.int .i64 (runN (inC [3,4]) L))∧w'=(w.alloc (.cells #[.int .i64 3,.int .i64 4] 3))):=zj5 sp cap L w.heap.size 0 2 [3,4] _ (h.below b1) (by omega) (by simp) (zf5 w [3,4] _);have HB:Hid (Below w.heap.size w (w.alloc (.cells #[.int .i64 3,.int .i64 4] 3))):=b1;have hle:=zeb (inC [3,4]) L;clear h b1
 by_cases h24:24<runN (inC [3,4]) L
 ·have HE:Hid (wordR L=(0,3)):=by unfold wordR;rw[if_pos h24];exact rfl
  have hgt:((runN (inC [3,4]) L:Nat):Int) > 24:=by omega
  go_enter Tryz.func62,Tryz.ntmps62
  go_wp2_with (go_at_call 92;refine HR.out.mono ?_;rintro e W1 ⟨rfl,rfl⟩)
  go_ret2
  exact⟨za0 HE.out,HB.out⟩
 ·have HE:Hid (wordR L=(runN (inC [3,4]) L,0)):=by unfold wordR;rw[if_neg h24];exact rfl
  have hgt:¬ ((runN (inC [3,4]) L:Nat):Int) > 24:=by omega
  go_enter Tryz.func62,Tryz.ntmps62
  go_wp2_with (go_at_call 92;refine HR.out.mono ?_;rintro e W1 ⟨rfl,rfl⟩)
  go_ret2
  exact⟨za0 HE.out,HB.out⟩
theorem zfk:∀ (k:Nat){L:List UInt8}{acc v:List UInt8}{i n:Nat},L.length<=k->unqA acc i L=some (v,n)->i<n∧n<=i+L.length
 | k,[],acc,v,i,n,_,h=>by cases h
 | 0,c::r,acc,v,i,n,hk,_=>by simp at hk
 | k+1,c::r,acc,v,i,n,hk,h=>by
  rw[List.length_cons] at hk;rw[zcr] at h;rw[List.length_cons]
  split at h
  ·simp only[Option.some.injEq,Prod.mk.injEq] at h;omega
  ·split at h
   ·cases r with
    | nil=>cases h
    | cons d r'=>
     simp only at h
     cases hp:pairU d with
     | none=>rw[hp] at h;cases h
     | some x=>
      rw[hp] at h;rw[List.length_cons] at hk ⊢;have:=zfk k (by omega) h;omega
   ·split at h
    ·have:=zfk k (by omega) h;omega
    ·cases h
theorem zeo {L v:List UInt8}{n:Nat}(h:unqO L=some (v,n)):1<n∧n<=L.length:=by
 cases L with
 | nil=>cases h
 | cons c r=>
  rw[unqO] at h
  split at h
  ·have:=zfk _ (Nat.le_refl _) h;rw[List.length_cons];omega
  ·cases h
theorem zlo (sp:Option Addr)(cap:Nat) (L:List UInt8)(w:World)(h:BA w sp L)(hl:L.length<=100000)(hcap:L.length<=cap) :
  Calls Tryz.prog 64 #[.slice sp L.length cap] w fun e w'=>e=.returned (pairV (quoR L))∧Below w.heap.size w w':=by
 have HL:=hid h;clear h
 go_enter Tryz.func64,Tryz.ntmps64
 cases hq:unqO L with
 | none=>
  have HE:Hid (quoR L=(0,200)):=by unfold quoR;rw[hq];exact rfl
  have HQ:=hid hq;clear hq
  go_wp2_with (go_at_call 94;refine(zfa sp cap L _ HL.out hl hcap).mono ?_;rintro e W1 ⟨he,hb⟩;rw[HQ.out] at he;unfold UnqP at he;subst he)
  go_ret2
  exact⟨za0 HE.out,hb⟩
 | some p=>
  obtain⟨v,n⟩:=p;have hn:=zeo hq;have HE:Hid (quoR L=(n,0)):=by unfold quoR;rw[hq];exact rfl
  have HQ:=hid hq;have hn0:((n:Int) == 0)=false:=by rw[beq_eq_false_iff_ne];omega
  clear hq
  go_wp2_with (go_at_call 94;refine(zfa sp cap L _ HL.out hl hcap).mono ?_;rintro e W1 ⟨he,hb⟩;rw[HQ.out] at he;obtain⟨u,rfl,-⟩:=he)
  go_ret2
  exact⟨za0 HE.out,hb⟩
def sig2 (s:List UInt8):Bool:=s == [58,61] || s == [61,61] || s == [33,61] || s == [60,61] || s == [62,61] || s == [38,38] || s == [124,124]
def sig1 (c:UInt8):Bool:=c == 40 || c == 41 || c == 123 || c == 125 || c == 91 || c == 93 || c == 44 || c == 46 || c == 58 || c == 61 || c == 43 || c == 45 || c == 42 || c == 47 || c == 37 || c == 60 || c == 62 || c == 33
def sigR (L:List UInt8):Nat × Int:=if sig2 (L.take 2) then(2,0) else match L with | []=>(0,200) | c::_=>if sig1 c then(1,0) else(0,200)
theorem zkp (c:UInt8)(k:UInt8):((c.toNat:Int) == (k.toNat:Int))=(c == k):=by
 rw[Bool.eq_iff_iff,beq_iff_eq,beq_iff_eq,Int.ofNat_inj];exact⟨fun h=>UInt8.toNat.inj h,fun h=>by rw[h]⟩
theorem zb1 (c:UInt8):sig1 c=true ↔ c.toNat=40∨c.toNat=41∨c.toNat=123∨c.toNat=125∨c.toNat=91∨c.toNat=93∨c.toNat=44∨c.toNat=46∨c.toNat=58∨c.toNat=61∨c.toNat=43∨c.toNat=45∨c.toNat=42∨c.toNat=47∨c.toNat=37∨c.toNat=60∨c.toNat=62∨c.toNat=33:=by
 simp only[sig1,Bool.or_eq_true,beq_iff_eq,<-UInt8.toNat_inj];simp only[or_assoc];exact Iff.rfl
theorem zoz (sp:Option Addr)(cap:Nat)(c:UInt8)(r:List UInt8)(w:World)(h:BA w sp (c::r))(hl:(c::r).length<=100000)(hcap:(c::r).length<=cap) :
  Calls Tryz.prog 67 #[.slice sp (c::r).length cap] w fun e w'=>e=.returned (pairV (sigR (c::r)))∧w'=w:=by
 obtain⟨b,o,rfl,hc⟩:=h (by simp);have k0:w.cell? ⟨b,o,none⟩=some (.int .u8 c.toNat):=hc 0 c rfl;have hcv:=zfj (h.take 2) cap;have hmin:(min (((c::r).length:Nat):Int) 2).toNat=((c::r).take 2).length:=by rw[List.length_take];omega
 rw[<-hmin] at hcv;have hl0:(0:Int)<((c::r).length:Nat):=by rw[List.length_cons];omega
 obtain⟨s0,e0,e1⟩:∃ s0,strU ((c::r).take 2)=s0∧s0.toList=(c::r).take 2:=⟨_,rfl,zc6 _⟩;rw[e0] at hcv;have HE:Hid (sigR (c::r)=if sig2 s0.toList then(2,0) else if sig1 c then(1,0) else(0,200)):=by rw[e1];exact rfl
 have hm0:0<=(min (((c::r).length:Nat):Int) 2):=by omega
 have hm1:(min (((c::r).length:Nat):Int) 2)<=cap:=by omega
 clear e0 e1 hc h hmin;generalize (c::r).length=n at *
 go_enter Tryz.func67,Tryz.ntmps67
 cases a0:(s0.toList == [58,61])
 rotate_left
 ·have HX:Hid (sigR (c::r)=(2,0)):=by rw[HE.out,if_pos (by simp only[sig2,a0,Bool.true_or])];exact rfl
  clear HE
  go_wp2
  go_ret2
  exact⟨za0 HX.out,rfl⟩
 cases a1:(s0.toList == [61,61])
 rotate_left
 ·have HX:Hid (sigR (c::r)=(2,0)):=by rw[HE.out,if_pos (by simp only[sig2,a0,a1,Bool.or_true,Bool.true_or])];exact rfl
  clear HE
  go_wp2
  go_ret2
  exact⟨za0 HX.out,rfl⟩
 cases a2:(s0.toList == [33,61])
 rotate_left
 ·have HX:Hid (sigR (c::r)=(2,0)):=by rw[HE.out,if_pos (by simp only[sig2,a0,a1,a2,Bool.or_true,Bool.true_or])];exact rfl
  clear HE
  go_wp2
  go_ret2
  exact⟨za0 HX.out,rfl⟩
 cases a3:(s0.toList == [60,61])
 rotate_left
 ·have HX:Hid (sigR (c::r)=(2,0)):=by rw[HE.out,if_pos (by simp only[sig2,a0,a1,a2,a3,Bool.or_true,Bool.true_or])];exact rfl
  clear HE
  go_wp2
  go_ret2
  exact⟨za0 HX.out,rfl⟩
 cases a4:(s0.toList == [62,61])
 rotate_left
 ·have HX:Hid (sigR (c::r)=(2,0)):=by rw[HE.out,if_pos (by simp only[sig2,a0,a1,a2,a3,a4,Bool.or_true,Bool.true_or])];exact rfl
  clear HE
  go_wp2
  go_ret2
  exact⟨za0 HX.out,rfl⟩
 cases a5:(s0.toList == [38,38])
 rotate_left
 ·have HX:Hid (sigR (c::r)=(2,0)):=by rw[HE.out,if_pos (by simp only[sig2,a0,a1,a2,a3,a4,a5,Bool.or_true,Bool.true_or])];exact rfl
  clear HE
  go_wp2
  go_ret2
  exact⟨za0 HX.out,rfl⟩
 cases a6:(s0.toList == [124,124])
 rotate_left
 ·have HX:Hid (sigR (c::r)=(2,0)):=by rw[HE.out,if_pos (by simp only[sig2,a0,a1,a2,a3,a4,a5,a6,Bool.or_true])];exact rfl
  clear HE
  go_wp2
  go_ret2
  exact⟨za0 HX.out,rfl⟩
 have HF:Hid (sigR (c::r)=if sig1 c then(1,0) else(0,200)):=by rw[HE.out,if_neg (by simp only[sig2,a0,a1,a2,a3,a4,a5,a6,Bool.or_false];decide)];exact rfl
 clear HE
 cases c0:((c.toNat:Int) == 40)
 rotate_left
 ·have HX:Hid (sigR (c::r)=(1,0)):=by rw[HF.out,if_pos ((zb1 c).2 (by have:=beq_iff_eq.1 c0;omega))];exact rfl
  clear HF
  go_wp2
  go_ret2
  exact⟨za0 HX.out,rfl⟩
 cases c1:((c.toNat:Int) == 41)
 rotate_left
 ·have HX:Hid (sigR (c::r)=(1,0)):=by rw[HF.out,if_pos ((zb1 c).2 (by have:=beq_iff_eq.1 c1;omega))];exact rfl
  clear HF
  go_wp2
  go_ret2
  exact⟨za0 HX.out,rfl⟩
 cases c2:((c.toNat:Int) == 123)
 rotate_left
 ·have HX:Hid (sigR (c::r)=(1,0)):=by rw[HF.out,if_pos ((zb1 c).2 (by have:=beq_iff_eq.1 c2;omega))];exact rfl
  clear HF
  go_wp2
  go_ret2
  exact⟨za0 HX.out,rfl⟩
 cases c3:((c.toNat:Int) == 125)
 rotate_left
 ·have HX:Hid (sigR (c::r)=(1,0)):=by rw[HF.out,if_pos ((zb1 c).2 (by have:=beq_iff_eq.1 c3;omega))];exact rfl
  clear HF
  go_wp2
  go_ret2
  exact⟨za0 HX.out,rfl⟩
 cases c4:((c.toNat:Int) == 91)
 rotate_left
 ·have HX:Hid (sigR (c::r)=(1,0)):=by rw[HF.out,if_pos ((zb1 c).2 (by have:=beq_iff_eq.1 c4;omega))];exact rfl
  clear HF
  go_wp2
  go_ret2
  exact⟨za0 HX.out,rfl⟩
 cases c5:((c.toNat:Int) == 93)
 rotate_left
 ·have HX:Hid (sigR (c::r)=(1,0)):=by rw[HF.out,if_pos ((zb1 c).2 (by have:=beq_iff_eq.1 c5;omega))];exact rfl
  clear HF
  go_wp2
  go_ret2
  exact⟨za0 HX.out,rfl⟩
 cases c6:((c.toNat:Int) == 44)
 rotate_left
 ·have HX:Hid (sigR (c::r)=(1,0)):=by rw[HF.out,if_pos ((zb1 c).2 (by have:=beq_iff_eq.1 c6;omega))];exact rfl
  clear HF
  go_wp2
  go_ret2
  exact⟨za0 HX.out,rfl⟩
 cases c7:((c.toNat:Int) == 46)
 rotate_left
 ·have HX:Hid (sigR (c::r)=(1,0)):=by rw[HF.out,if_pos ((zb1 c).2 (by have:=beq_iff_eq.1 c7;omega))];exact rfl
  clear HF
  go_wp2
  go_ret2
  exact⟨za0 HX.out,rfl⟩
 cases c8:((c.toNat:Int) == 58)
 rotate_left
 ·have HX:Hid (sigR (c::r)=(1,0)):=by rw[HF.out,if_pos ((zb1 c).2 (by have:=beq_iff_eq.1 c8;omega))];exact rfl
  clear HF
  go_wp2
  go_ret2
  exact⟨za0 HX.out,rfl⟩
 cases c9:((c.toNat:Int) == 61)
 rotate_left
 ·have HX:Hid (sigR (c::r)=(1,0)):=by rw[HF.out,if_pos ((zb1 c).2 (by have:=beq_iff_eq.1 c9;omega))];exact rfl
  clear HF
  go_wp2
  go_ret2
  exact⟨za0 HX.out,rfl⟩
 cases c10:((c.toNat:Int) == 43)
 rotate_left
 ·have HX:Hid (sigR (c::r)=(1,0)):=by rw[HF.out,if_pos ((zb1 c).2 (by have:=beq_iff_eq.1 c10;omega))];exact rfl
  clear HF
  go_wp2
  go_ret2
  exact⟨za0 HX.out,rfl⟩
 cases c11:((c.toNat:Int) == 45)
 rotate_left
 ·have HX:Hid (sigR (c::r)=(1,0)):=by rw[HF.out,if_pos ((zb1 c).2 (by have:=beq_iff_eq.1 c11;omega))];exact rfl
  clear HF
  go_wp2
  go_ret2
  exact⟨za0 HX.out,rfl⟩
 cases c12:((c.toNat:Int) == 42)
 rotate_left
 ·have HX:Hid (sigR (c::r)=(1,0)):=by rw[HF.out,if_pos ((zb1 c).2 (by have:=beq_iff_eq.1 c12;omega))];exact rfl
  clear HF
  go_wp2
  go_ret2
  exact⟨za0 HX.out,rfl⟩
 cases c13:((c.toNat:Int) == 47)
 rotate_left
 ·have HX:Hid (sigR (c::r)=(1,0)):=by rw[HF.out,if_pos ((zb1 c).2 (by have:=beq_iff_eq.1 c13;omega))];exact rfl
  clear HF
  go_wp2
  go_ret2
  exact⟨za0 HX.out,rfl⟩
 cases c14:((c.toNat:Int) == 37)
 rotate_left
 ·have HX:Hid (sigR (c::r)=(1,0)):=by rw[HF.out,if_pos ((zb1 c).2 (by have:=beq_iff_eq.1 c14;omega))];exact rfl
  clear HF
  go_wp2
  go_ret2
  exact⟨za0 HX.out,rfl⟩
 cases c15:((c.toNat:Int) == 60)
 rotate_left
 ·have HX:Hid (sigR (c::r)=(1,0)):=by rw[HF.out,if_pos ((zb1 c).2 (by have:=beq_iff_eq.1 c15;omega))];exact rfl
  clear HF
  go_wp2
  go_ret2
  exact⟨za0 HX.out,rfl⟩
 cases c16:((c.toNat:Int) == 62)
 rotate_left
 ·have HX:Hid (sigR (c::r)=(1,0)):=by rw[HF.out,if_pos ((zb1 c).2 (by have:=beq_iff_eq.1 c16;omega))];exact rfl
  clear HF
  go_wp2
  go_ret2
  exact⟨za0 HX.out,rfl⟩
 cases c17:((c.toNat:Int) == 33)
 rotate_left
 ·have HX:Hid (sigR (c::r)=(1,0)):=by rw[HF.out,if_pos ((zb1 c).2 (by have:=beq_iff_eq.1 c17;omega))];exact rfl
  clear HF
  go_wp2
  go_ret2
  exact⟨za0 HX.out,rfl⟩
 have HX:Hid (sigR (c::r)=(0,200)):=by
  rw[HF.out,if_neg (by
   rw[zb1];have d0:=beq_eq_false_iff_ne.1 c0;have d1:=beq_eq_false_iff_ne.1 c1;have d2:=beq_eq_false_iff_ne.1 c2;have d3:=beq_eq_false_iff_ne.1 c3;have d4:=beq_eq_false_iff_ne.1 c4;have d5:=beq_eq_false_iff_ne.1 c5;have d6:=beq_eq_false_iff_ne.1 c6;have d7:=beq_eq_false_iff_ne.1 c7;have d8:=beq_eq_false_iff_ne.1 c8;have d9:=beq_eq_false_iff_ne.1 c9;have d10:=beq_eq_false_iff_ne.1 c10;have d11:=beq_eq_false_iff_ne.1 c11;have d12:=beq_eq_false_iff_ne.1 c12;have d13:=beq_eq_false_iff_ne.1 c13;have d14:=beq_eq_false_iff_ne.1 c14;have d15:=beq_eq_false_iff_ne.1 c15;have d16:=beq_eq_false_iff_ne.1 c16;have d17:=beq_eq_false_iff_ne.1 c17;omega)]
  exact rfl
 clear HF
 go_wp2
 go_ret2
 exact⟨za0 HX.out,rfl⟩
def quoB (c:UInt8):Option (List UInt8):=if c.toNat=34∨c.toNat=92 then some [92,c] else if c.toNat=10 then some [92,110] else if plnB c.toNat then some [c] else none
def quoG (acc:List UInt8):List UInt8->Option (List UInt8)
 | []=>some (acc++[34])
 | c::r=>match quoB c with | none=>none | some x=>quoG (acc++x) r
def strV (o:Option (List UInt8)) (e:Int):Value:=match o with|none=>.tuple #[.string ⟨#[]⟩,.int .i64 e] | some x=>.tuple #[.string (strU x),.int .i64 0]
def comN (L:List UInt8):Nat:=runN (fun c=>c != 10) L
theorem zo0 (L:List UInt8)(c:UInt8):Lib.indexByte L c=if runN (fun d=>d != c) L<L.length then(runN (fun d=>d != c) L:Int) else -1:=by
 induction L with
 | nil=>rfl
 | cons a r ih=>
  rw[Lib.indexByte,zcd,List.length_cons]
  by_cases h:a=c
  ·subst h;simp
  ·have h1:(a == c)=false:=by simpa using h
   have h2:(a != c)=true:=by simpa using h
   by_cases hlt:runN (fun d=>d != c) r<r.length
   ·have h3:((runN (fun d=>d != c) r:Int) == -1)=false:=by rw[beq_eq_false_iff_ne];omega
    simp[h1,h2,ih,hlt,h3]
   ·simp[h1,h2,ih,hlt]
theorem zj6 (sp:Option Addr)(cap:Nat) (L:List UInt8)(w:World)(h:BA w sp L)(hpos:0<L.length) :
  Calls Tryz.prog 66 #[.slice sp L.length cap] w fun e w'=>e=.returned (.int .i64 (comN L))∧w'=w:=by
 obtain⟨b,o,rfl,hc⟩:=h hpos;have HI:Hid (Calls Tryz.prog 96 #[.slice (some ⟨b,o,none⟩) L.length cap,.int .u8 10] w fun e w'=>e=.returned (.int .i64 (if runN (fun d=>d != 10) L<L.length then(runN (fun d=>d != 10) L:Int) else -1))∧w'=w):=by
  have:=Tryz.bytes_IndexByte_at ⟨b,o,none⟩ L.length cap (Lib.numsL L) 10 w (by simp[Lib.numsL]) (fun i hi=>by
   rw[Addr.add_mid,hc i _ (List.getElem?_eq_getElem hi)];simp[Lib.numsL,hi])
  rw[Lib.bytesOf_numsL,zo0] at this;exact this
 have hle:=zeb (fun c=>c != 10) L;clear hc h
 go_enter Tryz.func66,Tryz.ntmps66
 by_cases hlt:runN (fun d=>d != 10) L<L.length
 ·have hn:¬ ((runN (fun d=>d != 10) L:Int)<0):=by omega
  have HX:Hid (comN L=runN (fun d=>d != 10) L):=rfl
  go_wp2_with (go_at_call 96;refine HI.out.mono ?_;rintro e W1 ⟨rfl,hW1⟩;subst hW1;rw[if_pos hlt])
  go_ret
  exact⟨zce (by rw[HX.out]),rfl⟩
 ·have HX:Hid (comN L=L.length):=by
   have:comN L=runN (fun d=>d != 10) L:=rfl;rw[this];show runN (fun d=>d != 10) L=L.length;omega
  go_wp2_with (go_at_call 96;refine HI.out.mono ?_;rintro e W1 ⟨rfl,hW1⟩;subst hW1;rw[if_neg hlt])
  go_ret
  exact⟨zce (by rw[HX.out]),rfl⟩
theorem zo1 {L M:List UInt8}{n q k:Nat}(h:numR L=if (decO M).isSome=false∨0<k then(0,201) else(n,0))(hd:decO M=some q):numR L=if 0<k then(0,201) else(n,0):=by
 rw[h,hd];simp
theorem zlp (sp:Option Addr)(cap:Nat) (L:List UInt8)(w:World)(h:BA w sp L)(hpos:0<L.length)(hl:L.length<=100000)(hcap:L.length<=cap) :
  Calls Tryz.prog 63 #[.slice sp L.length cap] w fun e w'=>e=.returned (pairV (numR L))∧Below w.heap.size w w':=by
 obtain⟨b,o,rfl,hc⟩:=h hpos;have HL:=hid h;clear h hc;obtain⟨n,HN⟩:∃ n,Hid (runN (inC [4]) L=n):=⟨_,rfl⟩;have hnl:n<=L.length:=by rw[<-HN.out];exact zeb _ _
 have HE:Hid (numR L=if (decO (L.take n)).isSome=false∨0<runN (inC [3]) (L.drop n) then(0,201) else(n,0)):=by unfold numR;rw[HN.out];exact rfl
 have HR:Hid (Calls Tryz.prog 92 #[.slice (some ⟨b,o,none⟩) L.length cap,.slice (some ⟨w.heap.size,0,none⟩) 1 1] (w.alloc (.cells #[.int .i64 4] 3)) fun e w'=>e=.returned (.int .i64 n)∧Below w.heap.size w w'):=by
  have b1:Below w.heap.size w (w.alloc (.cells #[.int .i64 4] 3)):=(Below.refl _ _).alloc (Nat.le_refl _) _;have:=zj5 _ cap L w.heap.size 0 1 [4] _ (HL.out.below b1) (by omega) (by simp) (zf5 w [4] 3);rw[HN.out] at this;exact this.mono fun e w' ⟨h1,h2⟩=>⟨h1,h2 ▸ b1⟩
 go_enter Tryz.func63,Tryz.ntmps63
 go_wp2_with fail
 refine HR.out.mono ?_;rintro e W1 ⟨rfl,b1⟩;have htl:(L.take n).length=n:=by rw[List.length_take];omega
 have hcv:=zfj ((HL.out.below' b1).take n) cap;rw[htl] at hcv;have hnc:(n:Int)<=cap:=by omega
 go_wp2_with fail
 refine(zg1 (strU (L.take n)) W1).mono ?_;rintro e W2 ⟨rfl,b2⟩;rw[zd6];have bw2:Below w.heap.size w W2:=b1.trans (b2.mono b1.size);clear hcv htl HR
 cases hdo:decO (L.take n) with
 | none=>
  have HX:Hid (numR L=(0,201)):=by rw[HE.out,hdo];exact rfl
  clear HE hdo;unfold decV
  go_wp2
  go_ret2
  exact⟨za0 HX.out,bw2⟩
 | some q=>
  have HX:Hid (numR L=if 0<runN (inC [3]) (L.drop n) then(0,201) else(n,0)):=zo1 HE.out hdo;clear HE hdo;have b3:Below w.heap.size w (W2.alloc (.cells #[.int .i64 3] 3)):=bw2.alloc bw2.size _;have HR2:Hid (Calls Tryz.prog 92 #[.slice (if cap=n then some ⟨b,o,none⟩ else some ⟨b,o+n,none⟩) (L.length - n) (cap - n),.slice (some ⟨W2.heap.size,0,none⟩) 1 1] (W2.alloc (.cells #[.int .i64 3] 3)) fun e w'=>e=.returned (.int .i64 (runN (inC [3]) (L.drop n)))∧w'=(W2.alloc (.cells #[.int .i64 3] 3))):=by
   have:=zj5 _ (cap - n) (L.drop n) W2.heap.size 0 1 [3] _ (BA.cut (HL.out.below' b3) n hcap) (by rw[List.length_drop];omega) (by simp) (zf5 W2 [3] 3);rw[List.length_drop] at this;exact this
  unfold decV
  by_cases hr:0<runN (inC [3]) (L.drop n)
  ·have hr':((runN (inC [3]) (L.drop n):Nat):Int) > 0:=by omega
   have HY:Hid (numR L=(0,201)):=by rw[HX.out,if_pos hr];exact rfl
   clear HX
   go_wp2_with (go_at_call 92;refine HR2.out.mono ?_;rintro e W3 ⟨rfl,rfl⟩)
   all_goals go_ret2
   all_goals exact⟨za0 HY.out,b3⟩
  ·have hr':¬ ((runN (inC [3]) (L.drop n):Nat):Int) > 0:=by omega
   have HY:Hid (numR L=(n,0)):=by rw[HX.out,if_neg hr];exact rfl
   clear HX
   go_wp2_with (go_at_call 92;refine HR2.out.mono ?_;rintro e W3 ⟨rfl,rfl⟩)
   all_goals go_ret2
   all_goals exact⟨za0 HY.out,b3⟩
end Go.Proofs.YtmclgbkijeidaaaGreatDoor
