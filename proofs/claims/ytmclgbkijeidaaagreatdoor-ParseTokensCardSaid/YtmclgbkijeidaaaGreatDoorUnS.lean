import Derived.Test.YtmclgbkijeidaaaGreatDoorUnR
import Derived.Test.YtmclgbkijeidaaaGreatDoorUnD
namespace Go.Proofs.YtmclgbkijeidaaaGreatDoor
set_option maxRecDepth 100000
set_option maxHeartbeats 4000000
open Go.RowKit
def dgS (a:Nat) (c:UInt8):Nat:=a * 10+(c.toNat - 48)
def valF (acc:Nat) (L:List UInt8):Nat:=L.foldl dgS acc
theorem zld (acc:Nat):valF acc []=acc:=rfl
theorem zfz (acc:Nat)(c:UInt8)(r:List UInt8):valF acc (c::r)=valF (acc * 10+(c.toNat - 48)) r:=by
 unfold valF;rw[List.foldl_cons,dgS]
theorem zob (L:List UInt8):∀ acc:Nat,acc * 10 ^ L.length<=valF acc L:=by
 induction L with
 | nil=>intro acc;rw[zld,List.length_nil,Nat.pow_zero,Nat.mul_one];exact Nat.le_refl _
 | cons c r ih=>
  intro acc;have h:=ih (acc * 10+(c.toNat - 48));rw[zfz,List.length_cons,Nat.pow_succ];refine Nat.le_trans ?_ h;rw[Nat.mul_comm (10 ^ r.length) 10,<-Nat.mul_assoc];exact Nat.mul_le_mul_right _ (by omega)
theorem zq4 (L:List UInt8)(acc:Nat):acc<=valF acc L:=by
 refine Nat.le_trans ?_ (zob L acc);exact Nat.le_mul_of_pos_right _ (Nat.pow_pos (by decide))
theorem zi0:∀ (L:List UInt8)(acc:Nat),(∀ c ∈ L,inC [4] c=true)->acc<=9223372036854775807->decF acc L=if valF acc L<=9223372036854775807 then some (valF acc L) else none
 | [],acc,_,h=>by rw[decF,zld,if_pos h]
 | c::r,acc,hc,h=>by
  have h4:clsI c.toNat=4:=by have:=hc c (by simp);simpa[inC] using this
  rw[decF,zfz]
  by_cases hf:acc * 10+(c.toNat - 48)<=9223372036854775807
  ·rw[if_pos ⟨h4,hf⟩];exact zi0 r _ (fun d hd=>hc d (by simp[hd])) hf
  ·rw[if_neg (fun h=>hf h.2),if_neg];have:=zq4 r (acc * 10+(c.toNat - 48));omega
theorem zle:∀ (L:List UInt8)(acc:Nat),(∃ c ∈ L,inC [4] c=false)->decF acc L=none
 | [],acc,h=>by obtain⟨c,hc,-⟩:=h;simp at hc
 | c::r,acc,h=>by
  rw[decF]
  split
  ·rename_i hh
   refine zle r _ ?_;obtain⟨d,hd,hq⟩:=h;rcases List.mem_cons.1 hd with rfl|hd
   ·have:inC [4] d=true:=by simp[inC,hh.1]
    rw[this] at hq
    cases hq
   ·exact⟨d,hd,hq⟩
  ·rfl
theorem zhe {p:UInt8->Bool}{L:List UInt8}(h:runN p L=L.length):∀ c ∈ L,p c=true:=by
 induction L with
 | nil=>intro c hc;simp at hc
 | cons a r ih=>
  rw[zcd,List.length_cons] at h;intro c hc
  cases hp:p a with
  | false=>rw[hp] at h;simp at h
  | true=>
   rw[hp,if_pos rfl] at h;rcases List.mem_cons.1 hc with rfl|hc
   ·exact hp
   ·exact ih (by omega) c hc
theorem zoc {p:UInt8->Bool}{L:List UInt8}(h:¬ runN p L=L.length):∃ c ∈ L,p c=false:=by
 induction L with
 | nil=>exact absurd rfl h
 | cons a r ih=>
  cases hp:p a with
  | false=>exact⟨a,by simp,hp⟩
  | true=>
   rw[zcd,hp,if_pos rfl,List.length_cons] at h;obtain⟨c,hc,hq⟩:=ih (by omega);exact⟨c,by simp[hc],hq⟩
theorem zh6 {L:List UInt8}(h:¬ runN (inC [4]) L=L.length):decO L=none:=by
 unfold decO
 split
 ·rfl
 ·exact zle L 0 (zoc h)
theorem zpq {L:List UInt8}(h:19<L.length):decO L=none:=by
 by_cases hd:runN (inC [4]) L=L.length
 ·unfold decO
  split
  ·rfl
  ·rename_i hn
   cases L with
   | nil=>simp at h
   | cons c r=>
    have hc:=zhe hd;rw[List.length_cons] at h;have h48:¬ c.toNat=48:=fun e=>hn (.inr ⟨by rw[List.length_cons];omega,by rw[List.head?_cons,show c=48 from UInt8.toNat.inj e]⟩);have h4:clsI c.toNat=4:=by have:=hc c (by simp);simpa[inC] using this
    have:=cls4.1 h4;rw[zi0 _ _ hc (by omega),if_neg];have h1:=zob r (0 * 10+(c.toNat - 48));have h2:10 ^ 19<=10 ^ r.length:=Nat.pow_le_pow_right (by decide) (by omega);have h3:1 * 10 ^ r.length<=(0 * 10+(c.toNat - 48)) * 10 ^ r.length:=Nat.mul_le_mul_right _ (by omega);rw[zfz];have h5:(10:Nat) ^ 19=10000000000000000000:=by decide
    omega
 ·exact zh6 hd
theorem zjv {L:List UInt8}{i acc:Nat}{c:UInt8}(h:L[i]?=some c):valF acc (L.drop i)=valF (acc * 10+(c.toNat - 48)) (L.drop (i+1)):=by
 rw[zc5 h,zfz]
theorem wrapU {x:Int}(h0:0<=x)(h1:x<18446744073709551616):IntKind.u64.wrap x=x:=by
 rw[show IntKind.u64.wrap x=x % 18446744073709551616 by simp[IntKind.wrap,IntKind.bits,IntKind.signed]];omega
theorem zjw {t:Nat}(h:t<19):10 ^ (t+1)<=10000000000000000000:=by
 have h1:10 ^ (t+1)<=10 ^ 19:=Nat.pow_le_pow_right (by decide) (by omega);have h2:(10:Nat) ^ 19=10000000000000000000:=by decide
 omega
theorem zet (s:ByteArray)(w:World)(hs:s.size<=100000):Calls Tryz.prog 40 #[.string s] w fun e w'=>e=.returned (decV (decO s.data.toList))∧w'=w:=by
 have HS:Hid (s.size=s.data.toList.length):=by show s.size=s.data.toList.length;simp
 have HT:Hid (s.toList=s.data.toList):=ByteArray.toList_eq s;have hle:=zeb (inC [4]) s.data.toList
 by_cases h0:s.data.toList=[]
 ·have e0:s.toList.isEmpty=true:=by rw[HT.out,h0];rfl
  have HN:Hid (decO s.data.toList=none):=zmo h0;clear h0
  go_enter Tryz.func40,Tryz.ntmps40
  go_wp2
  go_ret2
  exact⟨zci HN.out,rfl⟩
 have hpos:0<s.size:=by rw[HS.out];exact List.length_pos_iff.2 h0
 have e0:s.toList.isEmpty=false:=by rw[HT.out];cases h:s.data.toList with|nil=>exact absurd h h0|cons a l=>rfl
 by_cases hd:runN (inC [4]) s.data.toList=s.data.toList.length
 ·have hd':(((runN (inC [4]) s.data.toList:Nat):Int) != s.size)=false:=by rw[bne_eq_false_iff_eq,hd,HS.out]
  by_cases hl:19<s.size
  ·have HN:Hid (decO s.data.toList=none):=zpq (by rw[<-HS.out];exact hl);have hl':(s.size:Int) > 19:=by omega
   clear h0 hd
   go_enter Tryz.func40,Tryz.ntmps40
   go_wp2_with (go_at_call 39;refine(zbs s _ hs).mono ?_;rintro e W1 ⟨rfl,hW1⟩;rw[hW1];clear hW1)
   go_ret2
   exact⟨zci HN.out,rfl⟩
  ·have hl':¬ (s.size:Int) > 19:=by omega
   have b0:=zcq hpos;have hhead:s.data.toList.head?=some (s[0]'hpos):=by rw[<-b0];cases s.data.toList <;> rfl
   by_cases hn:1<s.size∧(s[0]'hpos).toNat=48
   ·have HN:Hid (decO s.data.toList=none):=zho (by have:=HS.out;omega) (by rw[hhead,show s[0]'hpos=48 from UInt8.toNat.inj hn.2]);have hn1:(s.size:Int) > 1:=by omega
    have hn2:=hn.2;clear h0 hd b0 hhead hn
    go_enter Tryz.func40,Tryz.ntmps40
    go_wp2_with (go_at_call 39;refine(zbs s _ hs).mono ?_;rintro e W1 ⟨rfl,hW1⟩;rw[hW1];clear hW1)
    go_ret2
    exact⟨zci HN.out,rfl⟩
   ·have HV:Hid (decO s.data.toList=if valF 0 s.data.toList<=9223372036854775807 then some (valF 0 s.data.toList) else none):=by
     rw[zp3 h0 (by
      rintro⟨h1,h2⟩;rw[hhead] at h2;injection h2 with h2;exact hn ⟨by have:=HS.out;omega,by rw[h2];rfl⟩),zi0 _ _ (zhe hd) (by omega)]
     exact rfl
    have HDG:Hid (∀ c ∈ s.data.toList,inC [4] c=true):=zhe hd;have hn':¬ (1<s.size)∨¬ ((s[0]'hpos).toNat=48):=by
     by_cases h1:1<s.size
     ·exact .inr fun h2=>hn ⟨h1,h2⟩
     ·exact .inl h1
    clear h0 hd b0 hhead hn
    go_enter Tryz.func40,Tryz.ntmps40
    by_cases h1:1<s.size
    ·have hn2:¬ (s[0]'hpos).toNat=48:=by
      rcases hn' with h|h
      ·exact absurd h1 h
      ·exact h
     have hn3:(((s[0]'hpos).toNat:Int) == 48)=false:=by rw[beq_eq_false_iff_ne];omega
     clear hn'
     go_wp2_with (go_at_call 39;refine(zbs s _ hs).mono ?_;rintro e W1 ⟨rfl,hW1⟩;rw[hW1];clear hW1)
     generalize (s[0]'hpos).toNat=z0;have HW:Hid (valF 0 (s.data.toList.drop 0)=valF 0 s.data.toList):=rfl
     go_loopw [4,32] (fun n i wr=>∃ t v:Nat,t<=s.size∧i=.int .i64 t∧n=.int .u64 v∧wr=w∧v<10 ^ t∧valF v (s.data.toList.drop t)=valF 0 s.data.toList) (fun _ i _=>s.size - (intOf i).toNat)
     case atStart=>exact⟨0,0,Nat.zero_le _,rfl,rfl,rfl,by decide,HW.out⟩
     case round=>
      clear HW;obtain⟨t,v,ht,rfl,rfl,rfl,hv,hval⟩:=hrel;have HV0:=hid hv;have HVL:=hid hval;clear hv hval
      by_cases hlt:t<s.size
      ·have hdl:decide ((t:Int)<s.size)=true:=decide_eq_true (by omega);have hB:=zcq hlt;have hc:=HDG.out _ (List.mem_of_getElem? hB);have h4:clsI ((s[t]'hlt).toNat:Int)=4:=by simpa[inC] using hc
       obtain⟨g1,g2⟩:=cls4.1 h4;have hpb:=zjw (t:=t) (by omega);have hp1:10 ^ (t+1)=10 ^ t * 10:=Nat.pow_succ 10 t;have hvb:v * 10+9<10 ^ (t+1):=by have:=HV0.out;omega
       have HNB:Hid (v * 10+((s[t]'hlt).toNat - 48)<10 ^ (t+1)):=by show v * 10+((s[t]'hlt).toNat - 48)<10 ^ (t+1);omega
       have HNL:Hid (valF (v * 10+((s[t]'hlt).toNat - 48)) (s.data.toList.drop (t+1))=valF 0 s.data.toList):=by rw[<-HVL.out,zjv hB];exact rfl
       have hw1:IntKind.u64.wrap (10 * (v:Int))=10 * (v:Int):=wrapU (by omega) (by omega);have hw2:IntKind.u8.wrap (((s[t]'hlt).toNat:Int) - 48)=((s[t]'hlt).toNat:Int) - 48:=by
        rw[show ∀ x:Int,IntKind.u8.wrap x=x % 256 from fun x=>by simp[IntKind.wrap,IntKind.bits,IntKind.signed]];omega
       have hw3:IntKind.u64.wrap (((s[t]'hlt).toNat:Int) - 48)=((s[t]'hlt).toNat:Int) - 48:=wrapU (by omega) (by omega);have hw4:IntKind.u64.wrap (10 * (v:Int)+(((s[t]'hlt).toNat:Int) - 48))=10 * (v:Int)+(((s[t]'hlt).toNat:Int) - 48):=wrapU (by omega) (by omega);clear hpb hp1 hvb h4 hc hB
       go_wp2
       refine⟨⟨t+1,v * 10+((s[t]'hlt).toNat - 48),by omega,by go_num,?_,trivial,HNB.out,HNL.out⟩,by simp[intOf];omega⟩
       congr 1
       omega
      ·have hdl:decide ((t:Int)<s.size)=false:=decide_eq_false (by omega);have HVV:Hid (valF 0 s.data.toList=v):=by rw[<-HVL.out,List.drop_eq_nil_of_le (by have:=HS.out;omega)];exact rfl
       by_cases hmx:v<=9223372036854775807
       ·have HX:Hid (decO s.data.toList=some v):=by rw[HV.out,HVV.out,if_pos hmx];exact rfl
        have hmx':¬ (v:Int) > 9223372036854775807:=by omega
        have hw5:IntKind.i64.wrap (v:Int)=v:=wrap64 (by omega) (by omega)
        go_wp2
        go_ret2
        exact⟨zgg HX.out,rfl⟩
       ·have HX:Hid (decO s.data.toList=none):=by rw[HV.out,HVV.out,if_neg hmx];exact rfl
        have hmx':(v:Int) > 9223372036854775807:=by omega
        go_wp2
        go_ret2
        exact⟨zci HX.out,rfl⟩
    ·clear hn'
     go_wp2_with (go_at_call 39;refine(zbs s _ hs).mono ?_;rintro e W1 ⟨rfl,hW1⟩;rw[hW1];clear hW1)
     have HW:Hid (valF 0 (s.data.toList.drop 0)=valF 0 s.data.toList):=rfl
     go_loopw [4,32] (fun n i wr=>∃ t v:Nat,t<=s.size∧i=.int .i64 t∧n=.int .u64 v∧wr=w∧v<10 ^ t∧valF v (s.data.toList.drop t)=valF 0 s.data.toList) (fun _ i _=>s.size - (intOf i).toNat)
     case atStart=>exact⟨0,0,Nat.zero_le _,rfl,rfl,rfl,by decide,HW.out⟩
     case round=>
      clear HW;obtain⟨t,v,ht,rfl,rfl,rfl,hv,hval⟩:=hrel;have HV0:=hid hv;have HVL:=hid hval;clear hv hval
      by_cases hlt:t<s.size
      ·have hdl:decide ((t:Int)<s.size)=true:=decide_eq_true (by omega);have hB:=zcq hlt;have hc:=HDG.out _ (List.mem_of_getElem? hB);have h4:clsI ((s[t]'hlt).toNat:Int)=4:=by simpa[inC] using hc
       obtain⟨g1,g2⟩:=cls4.1 h4;have hpb:=zjw (t:=t) (by omega);have hp1:10 ^ (t+1)=10 ^ t * 10:=Nat.pow_succ 10 t;have hvb:v * 10+9<10 ^ (t+1):=by have:=HV0.out;omega
       have HNB:Hid (v * 10+((s[t]'hlt).toNat - 48)<10 ^ (t+1)):=by show v * 10+((s[t]'hlt).toNat - 48)<10 ^ (t+1);omega
       have HNL:Hid (valF (v * 10+((s[t]'hlt).toNat - 48)) (s.data.toList.drop (t+1))=valF 0 s.data.toList):=by rw[<-HVL.out,zjv hB];exact rfl
       have hw1:IntKind.u64.wrap (10 * (v:Int))=10 * (v:Int):=wrapU (by omega) (by omega);have hw2:IntKind.u8.wrap (((s[t]'hlt).toNat:Int) - 48)=((s[t]'hlt).toNat:Int) - 48:=by
        rw[show ∀ x:Int,IntKind.u8.wrap x=x % 256 from fun x=>by simp[IntKind.wrap,IntKind.bits,IntKind.signed]];omega
       have hw3:IntKind.u64.wrap (((s[t]'hlt).toNat:Int) - 48)=((s[t]'hlt).toNat:Int) - 48:=wrapU (by omega) (by omega);have hw4:IntKind.u64.wrap (10 * (v:Int)+(((s[t]'hlt).toNat:Int) - 48))=10 * (v:Int)+(((s[t]'hlt).toNat:Int) - 48):=wrapU (by omega) (by omega);clear hpb hp1 hvb h4 hc hB
       go_wp2
       refine⟨⟨t+1,v * 10+((s[t]'hlt).toNat - 48),by omega,by go_num,?_,trivial,HNB.out,HNL.out⟩,by simp[intOf];omega⟩
       congr 1
       omega
      ·have hdl:decide ((t:Int)<s.size)=false:=decide_eq_false (by omega);have HVV:Hid (valF 0 s.data.toList=v):=by rw[<-HVL.out,List.drop_eq_nil_of_le (by have:=HS.out;omega)];exact rfl
       by_cases hmx:v<=9223372036854775807
       ·have HX:Hid (decO s.data.toList=some v):=by rw[HV.out,HVV.out,if_pos hmx];exact rfl
        have hmx':¬ (v:Int) > 9223372036854775807:=by omega
        have hw5:IntKind.i64.wrap (v:Int)=v:=wrap64 (by omega) (by omega)
        go_wp2
        go_ret2
        exact⟨zgg HX.out,rfl⟩
       ·have HX:Hid (decO s.data.toList=none):=by rw[HV.out,HVV.out,if_neg hmx];exact rfl
        have hmx':(v:Int) > 9223372036854775807:=by omega
        go_wp2
        go_ret2
        exact⟨zci HX.out,rfl⟩
 ·have hd':(((runN (inC [4]) s.data.toList:Nat):Int) != s.size)=true:=by rw[bne_iff_ne];have:=HS.out;omega
  have HN:Hid (decO s.data.toList=none):=zh6 hd;clear h0 hd
  go_enter Tryz.func40,Tryz.ntmps40
  go_wp2_with (go_at_call 39;refine(zbs s _ hs).mono ?_;rintro e W1 ⟨rfl,hW1⟩;rw[hW1];clear hW1)
  go_ret2
  exact⟨zci HN.out,rfl⟩
def quN (L:List UInt8):Nat:=match unqO L with|none=>0|some (_,n)=>n
theorem zod {c:UInt8}(h1:¬ c.toNat=34)(h2:¬ c.toNat=92)(h3:¬ c.toNat=110):pairU c=none:=by
 unfold pairU;rw[if_neg (by omega),if_neg h3]
theorem zpr {c:UInt8}(h:c.toNat=34∨c.toNat=92∨c.toNat=110):∃ x,pairU c=some x:=by
 unfold pairU
 by_cases h1:c.toNat=34∨c.toNat=92
 ·rw[if_pos h1];exact⟨_,rfl⟩
 ·rw[if_neg h1,if_pos (by omega)];exact⟨_,rfl⟩
theorem zcv (s:ByteArray)(w:World)(hs:s.size<=100000):Calls Tryz.prog 42 #[.string s] w fun e w'=>e=.returned (.int .i64 (quN s.data.toList))∧w'=w:=by
 have HS:Hid (s.size=s.data.toList.length):=by show s.size=s.data.toList.length;simp
 have HT:Hid (s.toList=s.data.toList):=ByteArray.toList_eq s
 by_cases h0:s.data.toList=[]
 ·have e0:s.toList.isEmpty=true:=by rw[HT.out,h0];rfl
  have HN:Hid (quN s.data.toList=0):=by rw[h0];exact rfl
  clear h0
  go_enter Tryz.func42,Tryz.ntmps42
  go_wp2
  go_ret
  exact⟨zce (by rw[HN.out];rfl),rfl⟩
 have hpos:0<s.size:=by rw[HS.out];exact List.length_pos_iff.2 h0
 have e0:s.toList.isEmpty=false:=by rw[HT.out];cases h:s.data.toList with|nil=>exact absurd h h0|cons a l=>rfl
 have b0:=zcq hpos;have HU:Hid (unqO s.data.toList=if (s[0]'hpos).toNat=34 then unqA [] 1 (s.data.toList.drop 1) else none):=by
  have e:=zc5 b0;rw[List.drop_zero] at e;rw[e];exact rfl
 clear h0 b0
 by_cases hq:(s[0]'hpos).toNat=34
 ·have HG:Hid (unqA [] 1 (s.data.toList.drop 1)=unqO s.data.toList):=by rw[HU.out,if_pos hq];exact rfl
  have hq':(((s[0]'hpos).toNat:Int) != 34)=false:=by rw[bne_eq_false_iff_eq];omega
  clear HU hq
  go_enter Tryz.func42,Tryz.ntmps42
  go_wp2
  generalize (s[0]'hpos).toNat=z0
  go_loopw [3] (fun i wr=>∃ (t:Nat) (acc:List UInt8),1<=t∧t<=s.size∧i=.int .i64 t∧wr=w∧unqA acc t (s.data.toList.drop t)=unqO s.data.toList) (fun i _=>s.size - (intOf i).toNat)
  case atStart=>exact⟨1,[],Nat.le_refl _,hpos,rfl,rfl,HG.out⟩
  case round=>
   clear HG;obtain⟨t,acc,ht1,ht,rfl,rfl,hun⟩:=hrel;have HN:=hid hun;clear hun
   by_cases hlt:t<s.size
   ·have hd:decide ((t:Int)<s.size)=true:=decide_eq_true (by omega);have hge:¬ (t:Int) ≥ s.size:=by omega
    have hB:=zcq hlt;obtain⟨c,HC⟩:∃ c,Hid (s[t]'hlt=c):=⟨_,rfl⟩;rw[HC.out] at hB;have HB:=hid hB;clear hB
    by_cases h34:c.toNat=34
    ·have HE:Hid (quN s.data.toList=t+1):=by unfold quN;rw[<-HN.out,zia HB.out h34];exact rfl
     have a34:(((s[t]'hlt).toNat:Int) != 34)=false:=by rw[HC.out,bne_eq_false_iff_eq];omega
     go_wp2
     go_ret
     exact⟨zce (by rw[HE.out];rfl),rfl⟩
    ·have a34:(((s[t]'hlt).toNat:Int) != 34)=true:=by rw[HC.out,bne_iff_ne];omega
     by_cases h92:c.toNat=92
     ·have a32:¬ ((s[t]'hlt).toNat:Int)<32:=by rw[HC.out];omega
      have a126:¬ ((s[t]'hlt).toNat:Int) > 126:=by rw[HC.out];omega
      have a92:(((s[t]'hlt).toNat:Int) == 92)=true:=by rw[HC.out,beq_iff_eq];omega
      by_cases hl2:t+1<s.size
      ·have hB2:=zcq hl2;obtain⟨d,HD⟩:∃ d,Hid (s[t+1]'hl2=d):=⟨_,rfl⟩;rw[HD.out] at hB2;have HB2:=hid hB2;clear hB2;have hne:(((t:Int)+1) == (s.size:Int))=false:=by rw[beq_eq_false_iff_ne];omega
       by_cases hp:d.toNat=34∨d.toNat=92∨d.toNat=110
       ·obtain⟨x,hx⟩:=zpr hp;have HE:Hid (unqA (acc++[x]) (t+2) (s.data.toList.drop (t+2))=unqO s.data.toList):=by rw[<-HN.out,zib HB.out h92 HB2.out hx];exact rfl
        clear hx;have REL:Hid (∃ (t':Nat) (acc:List UInt8),1<=t'∧t'<=s.size∧Value.int .i64 ((t:Int)+1+1)=.int .i64 t'∧True∧unqA acc t' (s.data.toList.drop t')=unqO s.data.toList):=⟨t+2,acc++[x],by omega,by omega,by go_num,trivial,HE.out⟩;rcases hp with hp|hp|hp
        ·have p1:(((s[t+1]'hl2).toNat:Int) != 34)=false:=by rw[HD.out,bne_eq_false_iff_eq];omega
         clear hp
         go_wp2
         exact⟨REL.out,by simp[intOf];omega⟩
        ·have p1:(((s[t+1]'hl2).toNat:Int) != 34)=true:=by rw[HD.out,bne_iff_ne];omega
         have p2:(((s[t+1]'hl2).toNat:Int) != 92)=false:=by rw[HD.out,bne_eq_false_iff_eq];omega
         clear hp
         go_wp2
         exact⟨REL.out,by simp[intOf];omega⟩
        ·have p1:(((s[t+1]'hl2).toNat:Int) != 34)=true:=by rw[HD.out,bne_iff_ne];omega
         have p2:(((s[t+1]'hl2).toNat:Int) != 92)=true:=by rw[HD.out,bne_iff_ne];omega
         have p3:(((s[t+1]'hl2).toNat:Int) != 110)=false:=by rw[HD.out,bne_eq_false_iff_eq];omega
         clear hp
         go_wp2
         exact⟨REL.out,by simp[intOf];omega⟩
       ·have p1:(((s[t+1]'hl2).toNat:Int) != 34)=true:=by rw[HD.out,bne_iff_ne];omega
        have p2:(((s[t+1]'hl2).toNat:Int) != 92)=true:=by rw[HD.out,bne_iff_ne];omega
        have p3:(((s[t+1]'hl2).toNat:Int) != 110)=true:=by rw[HD.out,bne_iff_ne];omega
        have HE:Hid (quN s.data.toList=0):=by
         unfold quN;rw[<-HN.out,zgh HB.out h92 (by rw[zc5 HB2.out,zev,zod (by omega) (by omega) (by omega)])];exact rfl
        clear hp
        go_wp2
        go_ret
        exact⟨zce (by rw[HE.out];rfl),rfl⟩
      ·have hne:(((t:Int)+1) == (s.size:Int))=true:=by rw[beq_iff_eq];omega
       have HE:Hid (quN s.data.toList=0):=by
        unfold quN;rw[<-HN.out,zgh HB.out h92 (by rw[List.drop_eq_nil_of_le (by have:=HS.out;omega)];rfl)];exact rfl
       go_wp2
       go_ret
       exact⟨zce (by rw[HE.out];rfl),rfl⟩
     ·have a92:(((s[t]'hlt).toNat:Int) == 92)=false:=by rw[HC.out,beq_eq_false_iff_ne];omega
      cases hpl:plnB c.toNat
      ·have HE:Hid (quN s.data.toList=0):=by unfold quN;rw[<-HN.out,zic HB.out h34 h92 hpl];exact rfl
       by_cases h32:c.toNat<32
       ·have a32:((s[t]'hlt).toNat:Int)<32:=by rw[HC.out];omega
        go_wp2
        go_ret
        exact⟨zce (by rw[HE.out];rfl),rfl⟩
       ·have a32:¬ ((s[t]'hlt).toNat:Int)<32:=by rw[HC.out];omega
        have a126:((s[t]'hlt).toNat:Int) > 126:=by
         rw[HC.out];simp[plnB] at hpl;omega
        go_wp2
        go_ret
        exact⟨zce (by rw[HE.out];rfl),rfl⟩
      ·have hpl':32<=(c.toNat:Int)∧(c.toNat:Int)<=126:=by simpa[plnB] using hpl
       have a32:¬ ((s[t]'hlt).toNat:Int)<32:=by rw[HC.out];omega
       have a126:¬ ((s[t]'hlt).toNat:Int) > 126:=by rw[HC.out];omega
       have HE:Hid (unqA (acc++[c]) (t+1) (s.data.toList.drop (t+1))=unqO s.data.toList):=by rw[<-HN.out,zf4 HB.out h34 h92 hpl];exact rfl
       have REL:Hid (∃ (t':Nat) (acc:List UInt8),1<=t'∧t'<=s.size∧Value.int .i64 ((t:Int)+1)=.int .i64 t'∧True∧unqA acc t' (s.data.toList.drop t')=unqO s.data.toList):=⟨t+1,acc++[c],by omega,by omega,by go_num,trivial,HE.out⟩;clear hpl hpl'
       go_wp2
       exact⟨REL.out,by simp[intOf];omega⟩
   ·have hd:decide ((t:Int)<s.size)=false:=decide_eq_false (by omega);have hge:(t:Int) ≥ s.size:=by omega
    have HE:Hid (quN s.data.toList=0):=by unfold quN;rw[<-HN.out,List.drop_eq_nil_of_le (by have:=HS.out;omega)];exact rfl
    go_wp2
    go_ret
    exact⟨zce (by rw[HE.out];rfl),rfl⟩
 ·have HN:Hid (quN s.data.toList=0):=by unfold quN;rw[HU.out,if_neg hq];exact rfl
  have hq':(((s[0]'hpos).toNat:Int) != 34)=true:=by rw[bne_iff_ne];omega
  clear HU hq
  go_enter Tryz.func42,Tryz.ntmps42
  go_wp2
  go_ret
  exact⟨zce (by rw[HN.out];rfl),rfl⟩
theorem zme (t:Tok)(w:World)(hs:t.text.size<=100000):Calls Tryz.prog 127 #[.agg t.cells] w fun e w'=>e=.returned (decV (numO t))∧Below w.heap.size w w':=by
 unfold Tok.cells
 cases hk:(t.kind == 2)
 ·have hk':(t.kind != 2)=true:=by rw[bne,hk];rfl
  have HN:Hid (numO t=none):=by unfold numO;rw[if_neg (by simpa using hk)];exact rfl
  clear hk
  go_enter Tryz.func127,Tryz.ntmps127
  go_wp2
  go_ret2
  exact⟨zci HN.out,(Below.refl _ _).alloc (Nat.le_refl _) _⟩
 ·have hk':(t.kind != 2)=false:=by rw[bne,hk];rfl
  have HN:Hid (numO t=decO t.text.data.toList):=by unfold numO;rw[if_pos (by simpa using hk)];exact rfl
  clear hk
  go_enter Tryz.func127,Tryz.ntmps127
  go_wp2_with fail
  refine(zet t.text _ hs).mono ?_;rintro e W1 ⟨rfl,hW1⟩;rw[hW1];unfold decV
  go_wp2
  go_ret2
  refine⟨?_,(Below.refl _ _).alloc (Nat.le_refl _) _⟩;rw[HN.out];exact rfl
theorem zd1 {B:Nat}(w:World)(n:Nat):Below B w (w.drewN n):=⟨rfl,rfl,rfl,Nat.le_refl _,fun _ _=>rfl⟩
def strB (o:Option (List UInt8)):Value:=match o with|none=>.tuple #[.string ⟨#[]⟩,.bool false] | some x=>.tuple #[.string (strU x),.bool true]
theorem zq5 {L:List UInt8}(h:L≠[]):(quN L=L.length ↔ ∃ v,unqO L=some (v,L.length)):=by
 unfold quN
 cases hu:unqO L with
 | none=>
  constructor
  ·intro h1;exact absurd (List.eq_nil_of_length_eq_zero h1.symm) h
  ·rintro⟨v,hv⟩;cases hv
 | some p=>
  obtain⟨v,n⟩:=p
  constructor
  ·intro h1;exact⟨v,by rw[<-h1]⟩
  ·rintro⟨v',hv⟩;injection hv with hv;injection hv with h1 h2
theorem zps (s:ByteArray)(h2:2<=s.size):∃ x:ByteArray,s.extract 1 (s.size - 1)=x∧x.size=s.size - 2∧∀ (i:Nat)(h:i<x.size),s.data.toList[i+1]?=some (x[i]'h):=by
 refine⟨_,rfl,?_,fun i h=>?_⟩
 ·rw[ByteArray.size_extract];omega
 ·rw[ByteArray.size_extract] at h;have h1:i+1<s.size:=by omega
  rw[zcq h1,ByteArray.getElem_extract];simp[Nat.add_comm]
theorem zjx (c:UInt8)(r:List UInt8):unqO (c::r)=if c.toNat=34 then unqA [] 1 r else none:=rfl
theorem zq6 {L v:List UInt8}{n:Nat}(h:unqO L=some (v,n)):unqA [] 1 (L.drop 1)=some (v,n):=by
 cases L with
 | nil=>cases h
 | cons c r=>
  rw[zjx] at h
  by_cases hc:c.toNat=34
  ·rw[if_pos hc] at h;exact h
  ·rw[if_neg hc] at h;cases h
theorem zoe {acc v L:List UInt8}{i n:Nat}(h:unqA acc i (L.drop i)=some (v,n))(hi:i+1=L.length):acc=v:=by
 obtain⟨c,hc⟩:∃ c,L[i]?=some c:=⟨_,List.getElem?_eq_getElem (by omega)⟩;rw[zc5 hc,List.drop_eq_nil_of_le (by omega),zcr] at h
 by_cases h1:c.toNat=34
 ·rw[if_pos h1] at h;injection h with h;injection h with h _
 ·rw[if_neg h1] at h
  by_cases h2:c.toNat=92
  ·rw[if_pos h2] at h;cases h
  ·rw[if_neg h2] at h
   by_cases h3:plnB c.toNat=true
   ·rw[if_pos h3] at h;cases h
   ·rw[if_neg h3] at h;cases h
theorem zpt {d y:UInt8}(h:pairU d=some y)(hd:d.toNat=110):y=10:=by
 unfold pairU at h;rw[if_neg (by omega),if_pos hd] at h;injection h with h;exact h.symm
theorem zof {d y:UInt8}(h:pairU d=some y)(hd:¬ d.toNat=110):y=d:=by
 unfold pairU at h
 by_cases h1:d.toNat=34∨d.toNat=92
 ·rw[if_pos h1] at h;injection h with h;exact h.symm
 ·rw[if_neg h1,if_neg hd] at h;cases h
theorem zog {t:Tok}(h:t.kind=3):valO t=match unqO t.text.data.toList with|some (v,n)=>if n=t.text.size then some v else none|none=>none:=by
 unfold valO;rw[if_pos h];rfl
theorem zjy (t:Tok)(w:World)(hs:t.text.size<=100000):Calls Tryz.prog 48 #[.agg t.cells] w fun e w'=>e=.returned (strB (valO t))∧Below w.heap.size w w':=by
 unfold Tok.cells;have HS:Hid (t.text.size=t.text.data.toList.length):=by show t.text.size=t.text.data.toList.length;simp
 have HT:Hid (t.text.toList=t.text.data.toList):=ByteArray.toList_eq t.text;have hcr:∀ n,(w.alloc (.cells #[.int .i64 t.kind,.string t.text,.int .i64 t.pos] 38)).drewN n=(w.drewN n).alloc (.cells #[.int .i64 t.kind,.string t.text,.int .i64 t.pos] 38):=fun n=>rfl;have hbD:Below w.heap.size w (w.alloc (.cells #[.int .i64 t.kind,.string t.text,.int .i64 t.pos] 38)):=(Below.refl _ _).alloc (Nat.le_refl _) _;have hrD:=heap_alloc_new w (.cells #[.int .i64 t.kind,.string t.text,.int .i64 t.pos] 38)
 go_enter Tryz.func48,Tryz.ntmps48
 go_wp2
 refine zdd (fun W=>W.heap[w.heap.size]?=some (.cells #[.int .i64 t.kind,.string t.text,.int .i64 t.pos] 38 (0,0))∧Below w.heap.size w W) ⟨hrD,hbD⟩ ?_;rintro W0 ⟨hr0,b0⟩;clear hrD hbD hcr;have c0:W0.cell? ⟨w.heap.size,0,none⟩=some (.int .i64 t.kind):=(cell_of_row _ _ 0 _ _ _ hr0).trans rfl;have c1:W0.cell? ⟨w.heap.size,1,none⟩=some (.string t.text):=(cell_of_row _ _ 1 _ _ _ hr0).trans rfl;clear hr0
 cases hk:(t.kind == 3)
 ·have hk':(t.kind != 3)=true:=by rw[bne,hk];rfl
  have HX:Hid (valO t=none):=by unfold valO;rw[if_neg (by simpa using hk)];exact rfl
  clear hk
  go_quiet ((go_at_call 42;refine Calls.quiet_of_same (zcv _ _ hs)))
  go_wp2
  go_ret2
  refine⟨?_,b0.trans (zd1 _ _)⟩;rw[HX.out];exact rfl
 have hk':(t.kind != 3)=false:=by rw[bne,hk];rfl
 have HVK:Hid (valO t=match unqO t.text.data.toList with|some (v,n)=>if n=t.text.size then some v else none|none=>none):=by
  exact zog (by simpa using hk)
 clear hk
 by_cases h0:t.text.data.toList=[]
 ·have e0:t.text.toList.isEmpty=true:=by rw[HT.out,h0];rfl
  have HX:Hid (valO t=none):=by rw[HVK.out,h0];exact rfl
  clear h0
  go_quiet ((go_at_call 42;refine Calls.quiet_of_same (zcv _ _ hs)))
  go_wp2
  go_ret2
  refine⟨?_,b0.trans (zd1 _ _)⟩;rw[HX.out];exact rfl
 have e0:t.text.toList.isEmpty=false:=by rw[HT.out];cases h:t.text.data.toList with|nil=>exact absurd h h0|cons a l=>rfl
 by_cases hq:quN t.text.data.toList=t.text.data.toList.length
 ·have hq':(((quN t.text.data.toList:Nat):Int) != t.text.size)=false:=by rw[bne_eq_false_iff_eq];have:=HS.out;omega
  obtain⟨v,hv⟩:=(zq5 h0).1 hq;have HX:Hid (valO t=some v):=by rw[HVK.out,hv];exact if_pos HS.out.symm
  have HUV:=hid hv;have hsz:=zeo hv;clear h0 hq hv HVK
  go_quiet ((go_at_call 42;refine Calls.quiet_of_same (zcv _ _ hs)))
  have hsz2:2<=t.text.size:=by have:=HS.out;omega
  obtain⟨x,hx,hxs,hxa⟩:=zps t.text hsz2;have HXS:=hid hxs;have HXA:=hid hxa;have hxb:x.size<=100000:=by omega
  clear hxa hxs;have hw1:IntKind.i64.wrap ((t.text.size:Int) - 1)=(t.text.size:Int) - 1:=wrap64 (by omega) (by omega);have hto:((t.text.size:Int) - 1).toNat=t.text.size - 1:=by omega
  have hx':t.text.extract 1 ((t.text.size:Int) - 1).toNat=x:=by rw[hto];exact hx
  have b1:=b0.trans (zd1 (B:=w.heap.size) W0 nq);have c1':(W0.drewN nq).cell? ⟨w.heap.size,1,none⟩=some (.string t.text):=c1;generalize W0.drewN nq=W1 at b1 c1' ⊢;clear b0 c0 c1
  go_wp2
  clear hx' hto hw1 hx c1';have HB1:Hid (Below w.heap.size w W1):=b1;clear b1;have HG:Hid (unqA [] 1 (t.text.data.toList.drop 1)=some (v,t.text.data.toList.length)):=zq6 HUV.out
  go_loopw [4,6] (fun u i wr=>∃ (k:Nat) (acc:List UInt8),k<=x.size∧i=.int .i64 k∧OwnB w.heap.size wr u acc∧Below w.heap.size w wr∧acc.length<=k∧unqA acc (k+1) (t.text.data.toList.drop (k+1))=some (v,t.text.data.toList.length)) (fun _ i _=>x.size - (intOf i).toNat)
  case atStart=>exact⟨0,[],Nat.zero_le _,rfl,zbv _ _,HB1.out,Nat.zero_le _,HG.out⟩
  case round=>
   clear HG HB1;obtain⟨k,acc,hkx,rfl,hown,hbel,hal,hun⟩:=hrel;have HO:=hid hown;have HB:=hid hbel;have HN:=hid hun;clear hown hbel hun
   by_cases hlt:k<x.size
   ·have hd:decide ((k:Int)<x.size)=true:=decide_eq_true (by omega);have hB:=HXA.out k hlt;obtain⟨c,HC⟩:∃ c,Hid (x[k]'hlt=c):=⟨_,rfl⟩;rw[HC.out] at hB;have HBY:=hid hB;clear hB;have h34:¬ c.toNat=34:=fun h=>by
     have:=HN.out;rw[zia HBY.out h] at this;injection this with this;injection this with _ this;have:=HS.out;have:=HXS.out;omega
    by_cases h92:c.toNat=92
    ·have a92:(((x[k]'hlt).toNat:Int) == 92)=true:=by rw[HC.out,beq_iff_eq];omega
     have hp0:pairI (t.text.data.toList.drop (k+1+1))≠0:=fun h=>by
      have:=HN.out;rw[zgh HBY.out h92 h] at this
      cases this
     obtain⟨d,y,hd1,hd2,-⟩:=zi6 hp0;have HE:Hid (unqA (acc++[y]) (k+1+2) (t.text.data.toList.drop (k+1+2))=some (v,t.text.data.toList.length)):=by rw[<-zib HBY.out h92 hd1 hd2];exact HN.out
     have hszE:=zfk _ (Nat.le_refl _) HE.out;have hl2:k+1<x.size:=by have:=HS.out;have:=HXS.out;omega
     have hB2:=HXA.out (k+1) hl2;rw[hd1] at hB2;injection hB2 with hB2;have HD:Hid (x[k+1]'hl2=d):=hB2.symm;clear hB2 hszE hp0 hd1;have REL:∀ (v':Value) (w':World),OwnB w.heap.size w' v' (acc++[y])->Below w.heap.size w w'->Hid (∃ (k':Nat) (acc:List UInt8),k'<=x.size∧Value.int .i64 ((k:Int)+1+1)=.int .i64 k'∧OwnB w.heap.size w' v' acc∧Below w.heap.size w w'∧acc.length<=k'∧unqA acc (k'+1) (t.text.data.toList.drop (k'+1))=some (v,t.text.data.toList.length)):=fun v' w' ho' hb'=>⟨k+2,acc++[y],by omega,by go_num,ho',hb',by rw[List.length_append,List.length_singleton];omega,HE.out⟩
     by_cases h110:d.toNat=110
     ·have p1:(((x[k+1]'hl2).toNat:Int) == 110)=true:=by rw[HD.out,beq_iff_eq];omega
      have hy:=zpt hd2 h110;subst hy;obtain⟨v',w',hr,ho',hb'⟩:=zen 10 HO.out HB.out HB.out.size (by omega);have RR:=REL v' w' ho' hb';clear REL ho' hb' hd2
      go_wp2_with (at_builtin;refine zaz (.tmp 50) (.tmp 52) 71 (by rfl) (by rfl) (by rfl) (by rfl) hr ?_)
      exact⟨RR.out,by simp[intOf];omega⟩
     ·have p1:(((x[k+1]'hl2).toNat:Int) == 110)=false:=by rw[HD.out,beq_eq_false_iff_ne];omega
      have hy:=zof hd2 h110;subst hy;obtain⟨v',w',hr,ho',hb'⟩:=zen y HO.out HB.out HB.out.size (by omega);have RR:=REL v' w' ho' hb';rw[<-HD.out] at hr;clear REL ho' hb' hd2
      go_wp2_with (at_builtin;refine zaz (.tmp 50) (.tmp 52) 71 (by rfl) (by rfl) (by rfl) (by rfl) hr ?_)
      exact⟨RR.out,by simp[intOf];omega⟩
    ·have a92:(((x[k]'hlt).toNat:Int) == 92)=false:=by rw[HC.out,beq_eq_false_iff_ne];omega
     cases hpl:plnB c.toNat
     ·have:=HN.out;rw[zic HBY.out h34 h92 hpl] at this
      cases this
     ·have HE:Hid (unqA (acc++[c]) (k+1+1) (t.text.data.toList.drop (k+1+1))=some (v,t.text.data.toList.length)):=by rw[<-zf4 HBY.out h34 h92 hpl];exact HN.out
      obtain⟨v',w',hr,ho',hb'⟩:=zen c HO.out HB.out HB.out.size (by omega);have RR:Hid (∃ (k':Nat) (acc:List UInt8),k'<=x.size∧Value.int .i64 ((k:Int)+1)=.int .i64 k'∧OwnB w.heap.size w' v' acc∧Below w.heap.size w w'∧acc.length<=k'∧unqA acc (k'+1) (t.text.data.toList.drop (k'+1))=some (v,t.text.data.toList.length)):=⟨k+1,acc++[c],by omega,by go_num,ho',hb',by rw[List.length_append,List.length_singleton];omega,HE.out⟩;rw[<-HC.out] at hr;clear ho' hb' hpl
      go_wp2_with (at_builtin;refine zaz (.tmp 50) (.tmp 52) 71 (by rfl) (by rfl) (by rfl) (by rfl) hr ?_)
      exact⟨RR.out,by simp[intOf];omega⟩
   ·have hd:decide ((k:Int)<x.size)=false:=decide_eq_false (by omega);obtain⟨su,cu,rfl,hRu,-,-,-⟩:=OwnG.rows elB HO.out;have hcv:=zfj (BA.of_rows hRu) cu;have HVA:Hid (acc=v):=zoe HN.out (by have:=HS.out;have:=HXS.out;omega);clear hRu
    go_wp2
    go_ret2
    refine⟨?_,HB.out⟩;rw[HX.out,HVA.out];exact rfl
 ·have hq':(((quN t.text.data.toList:Nat):Int) != t.text.size)=true:=by rw[bne_iff_ne];have:=HS.out;omega
  have HX:Hid (valO t=none):=by
   rw[HVK.out]
   cases hu:unqO t.text.data.toList with
   | none=>exact rfl
   | some p=>
    obtain⟨v,n⟩:=p;show(if _=_ then _ else _)=_;exact if_neg (fun hn=>hq (by unfold quN;rw[hu];show n=_;rw[hn,HS.out]))
  clear h0 hq HVK
  go_quiet ((go_at_call 42;refine Calls.quiet_of_same (zcv _ _ hs)))
  go_wp2
  go_ret2
  refine⟨?_,b0.trans (zd1 _ _)⟩;rw[HX.out];exact rfl
theorem zq7 (t:Tok):decV (numO t)=.tuple #[.int .i64 (numT t),.bool (numO t).isSome]:=by
 unfold decV numT
 cases numO t <;> rfl
theorem zoh (t:Tok):strB (valO t)=.tuple #[.string (valT t),.bool (valO t).isSome]:=by
 unfold strB valT
 cases valO t <;> rfl
section
variable {T:Nat}{w W0 W W':World}{g:Nat}{st:Option Addr}{cap:Nat}{ts:List Tok}{s s':Qs}
theorem zbk (hR:QdS T w g st cap ts s):Calls Tryz.prog 97 #[.pointer (some ⟨g,0,none⟩)] w (QoP T w g st cap ts (litD ts s)):=by
 have HF:=hid (zb9 hR);have hfe:=hR.few;have hle:=hR.le;clear hR;obtain⟨r,hX⟩:∃ r,litD ts s=r:=⟨_,rfl⟩;rw[hX];unfold litD at hX
 dsimp only[tak] at hX
 have HX:=hid hX;clear hX
 go_enter Tryz.func97,Tryz.ntmps97
 go_wp2_with fail
 refine zaf (fun W=>Fr T w W W g st cap ts s) HF.out ?_;intro W0 hF;clear HF;have HF:=hid hF;clear hF;refine(zbe HF.out.hR).mono ?_;rintro e W1 ⟨rfl,b1⟩;obtain⟨t1,ht⟩:∃ t,nxQ ts s.p=t:=⟨_,rfl⟩;rw[ht];have HNX1:=hid ht;have HZ1:=hid (ht ▸ HF.out.hR.sz)
 try rw[ht] at HX
 have HF3:=hid (HF.out.low b1);clear ht b1 HF;obtain⟨W4,hst4,b4,f4,l4⟩:=zdg HF3.out t1;have Ht4t:=hid l4;have HF6:=hid (f4);clear b4 f4 l4 HF3;obtain⟨c7a,c7b,c7c⟩:=Ht4t.out.cells;obtain⟨kb8,hkb8⟩:∃ b,(t1.kind == 2)=b:=⟨_,rfl⟩;rw[hkb8] at HX
 cases kb8
 ·skip
  replace HX:=hid (if_f HX.out (fun h=>by cases h))
  obtain⟨c9a,c9b,c9c⟩:=Ht4t.out.cells;obtain⟨kb10,hkb10⟩:∃ b,(t1.kind == 3)=b:=⟨_,rfl⟩;rw[hkb10] at HX
  cases kb10
  ·skip
   replace HX:=hid (if_f HX.out (fun h=>by cases h))
   go_wp2_with fail
   clear hst4 c7a c7b c7c hkb8 c9a c9b c9c hkb10;refine(zar ⟨#[116,114,117,101]⟩ HF6.out.hR).mono ?_;rintro e W11 ⟨rfl,b11⟩;obtain⟨i11,hi⟩:∃ b,isQ ts s.p ⟨#[116,114,117,101]⟩=b:=⟨_,rfl⟩;rw[hi]
   try rw[hi] at HX
   have Ht12t:=hid (Ht4t.out.low b11);have HF13:=hid (HF6.out.low b11);clear hi b11 HF6 Ht4t
   cases i11
   ·skip
    replace HX:=hid (if_f HX.out (fun h=>by cases h))
    go_wp2_with fail
    refine(zag ⟨#[102,97,108,115,101]⟩ HF13.out.hR).mono ?_;rintro e W14 ⟨rfl,g14,r14⟩;obtain⟨t14,ht⟩:∃ t,takT ts ⟨#[102,97,108,115,101]⟩ s=t:=⟨_,rfl⟩;obtain⟨s14,hs⟩:∃ s2,takS ts ⟨#[102,97,108,115,101]⟩ s=s2:=⟨_,rfl⟩;rw[show takT ts ⟨#[102,97,108,115,101]⟩ ⟨s.p,s.bad⟩=t14 from ht];have q14:QdS T W14 g st cap ts s14:=hs ▸ r14;have HT14:Hid (LtQ s s14):=hid (hs ▸ zal _ _)
    try rw[ht] at HX
    try rw[hs] at HX
    have HF16:=hid (HF13.out.call g14 q14);clear ht hs r14 q14 g14 HF13
    go_wp2_with fail
    refine(zat 22 t14 ⟨#[102,97,108,115,101]⟩ W14).mono ?_;rintro e W17 ⟨rfl,b17⟩;have HF19:=hid (HF16.out.low b17);clear b17 HF16
    go_wp2_with fail
    refine(zd5 HF19.out 22 t14 ⟨#[102,97,108,115,101]⟩).mono ?_;rintro e W20 ⟨rfl,b20,f20⟩;have HF22:=hid (f20);clear b20 f20 HF19;obtain⟨W23,hst23,hr23,hp23⟩:=za5 HF22.out (v:=(⟨22,⟨#[102,97,108,115,101]⟩,0,t14.pos,t14.pos,(behI ts s14.p),t14.pos,[]⟩:Qv)) (zdk _ _ _ _ _ _ _);have HP:=hid hp23;have HRR:=hid hr23;clear hp23 hr23
    go_wp2
    have hx:=HX.out;exact zan Tryz.results97 rfl HRR.out (hx ▸ HP.out)
   ·skip
    replace HX:=hid (if_t HX.out rfl)
    go_wp2_with fail
    refine(zag ⟨#[116,114,117,101]⟩ HF13.out.hR).mono ?_;rintro e W24 ⟨rfl,g24,r24⟩;obtain⟨t24,ht⟩:∃ t,takT ts ⟨#[116,114,117,101]⟩ s=t:=⟨_,rfl⟩;obtain⟨s24,hs⟩:∃ s2,takS ts ⟨#[116,114,117,101]⟩ s=s2:=⟨_,rfl⟩;rw[show takT ts ⟨#[116,114,117,101]⟩ ⟨s.p,s.bad⟩=t24 from ht];have q24:QdS T W24 g st cap ts s24:=hs ▸ r24;have HT24:Hid (LtQ s s24):=hid (hs ▸ zal _ _)
    try rw[ht] at HX
    try rw[hs] at HX
    have HF26:=hid (HF13.out.call g24 q24);clear ht hs r24 q24 g24 HF13
    go_wp2_with fail
    refine(zat 22 t24 ⟨#[116,114,117,101]⟩ W24).mono ?_;rintro e W27 ⟨rfl,b27⟩;have HF29:=hid (HF26.out.low b27);clear b27 HF26
    go_wp2_with fail
    refine(zd5 HF29.out 22 t24 ⟨#[116,114,117,101]⟩).mono ?_;rintro e W30 ⟨rfl,b30,f30⟩;have HF32:=hid (f30);clear b30 f30 HF29;obtain⟨W33,hst33,hr33,hp33⟩:=za5 HF32.out (v:=(⟨22,⟨#[116,114,117,101]⟩,0,t24.pos,t24.pos,(behI ts s24.p),t24.pos,[]⟩:Qv)) (zdk _ _ _ _ _ _ _);have HP:=hid hp33;have HRR:=hid hr33;clear hp33 hr33
    go_wp2
    have hx:=HX.out;exact zan Tryz.results97 rfl HRR.out (hx ▸ HP.out)
  ·skip
   replace HX:=hid (if_t HX.out rfl)
   go_wp2_with fail
   clear hst4 c7a c7b c7c hkb8 c9a c9b c9c hkb10;refine(zag ⟨#[116,101,120,116]⟩ HF6.out.hR).mono ?_;rintro e W34 ⟨rfl,g34,r34⟩;obtain⟨t34,ht⟩:∃ t,takT ts ⟨#[116,101,120,116]⟩ s=t:=⟨_,rfl⟩;obtain⟨s34,hs⟩:∃ s2,takS ts ⟨#[116,101,120,116]⟩ s=s2:=⟨_,rfl⟩;rw[show takT ts ⟨#[116,101,120,116]⟩ ⟨s.p,s.bad⟩=t34 from ht];have q34:QdS T W34 g st cap ts s34:=hs ▸ r34;have HT34:Hid (LtQ s s34):=hid (hs ▸ zal _ _)
   try rw[ht] at HX
   try rw[hs] at HX
   have Ht35t:=hid (Ht4t.out.call HF6.out.gB g34);have HF36:=hid (HF6.out.call g34 q34);clear ht hs r34 q34 g34 HF6 Ht4t;obtain⟨c37a,c37b,c37c⟩:=Ht35t.out.cells
   go_wp2_with fail
   clear c37a c37b c37c;refine(zjy t1 W34 HZ1.out).mono ?_;rintro e W38 ⟨rfl,b38⟩;rw[zoh];have Ht39t:=hid (Ht35t.out.low b38);have HF40:=hid (HF36.out.low b38);clear b38 HF36 Ht35t;obtain⟨c41a,c41b,c41c⟩:=Ht39t.out.cells
   go_wp2_with fail
   clear c41a c41b c41c;refine(zat 21 t1 (valT t1) W38).mono ?_;rintro e W42 ⟨rfl,b42⟩;have Ht43t:=hid (Ht39t.out.low b42);have HF44:=hid (HF40.out.low b42);clear b42 HF40 Ht39t
   go_wp2_with fail
   refine(zd5 HF44.out 21 t1 (valT t1)).mono ?_;rintro e W45 ⟨rfl,b45,f45⟩;have HF47:=hid (f45);clear b45 f45 HF44;obtain⟨W48,hst48,hr48,hp48⟩:=za5 HF47.out (v:=(⟨21,(valT t1),0,t1.pos,t1.pos,(behI ts s34.p),t1.pos,[]⟩:Qv)) (zdk _ _ _ _ _ _ _);have HP:=hid hp48;have HRR:=hid hr48;clear hp48 hr48
   go_wp2
   have hx:=HX.out;exact zan Tryz.results97 rfl HRR.out (hx ▸ HP.out)
 ·skip
  replace HX:=hid (if_t HX.out rfl)
  go_wp2_with fail
  clear hst4 c7a c7b c7c hkb8;refine(zag ⟨#[110,117,109,98,101,114]⟩ HF6.out.hR).mono ?_;rintro e W49 ⟨rfl,g49,r49⟩;obtain⟨t49,ht⟩:∃ t,takT ts ⟨#[110,117,109,98,101,114]⟩ s=t:=⟨_,rfl⟩;obtain⟨s49,hs⟩:∃ s2,takS ts ⟨#[110,117,109,98,101,114]⟩ s=s2:=⟨_,rfl⟩;rw[show takT ts ⟨#[110,117,109,98,101,114]⟩ ⟨s.p,s.bad⟩=t49 from ht];have q49:QdS T W49 g st cap ts s49:=hs ▸ r49;have HT49:Hid (LtQ s s49):=hid (hs ▸ zal _ _)
  try rw[ht] at HX
  try rw[hs] at HX
  have Ht50t:=hid (Ht4t.out.call HF6.out.gB g49);have HF51:=hid (HF6.out.call g49 q49);clear ht hs r49 q49 g49 HF6 Ht4t;obtain⟨c52a,c52b,c52c⟩:=Ht50t.out.cells
  go_wp2_with fail
  clear c52a c52b c52c;refine(zat 20 t1 ⟨#[]⟩ W49).mono ?_;rintro e W53 ⟨rfl,b53⟩;have Ht54t:=hid (Ht50t.out.low b53);have HF55:=hid (HF51.out.low b53);clear b53 HF51 Ht50t;obtain⟨W56,hst56,b56,f56,l56⟩:=zgc HF55.out (begE 20 t1 ⟨#[]⟩);have Ht57t:=hid (Ht54t.out.low b56);have Hq56p:Hid (Tq W0 W56 W53.heap.size (⟨20,⟨#[]⟩,0,t1.pos,t1.pos,0,t1.pos,none,0,0⟩:Qe)):=hid l56;have HF58:=hid (f56);clear b56 f56 l56 HF55 Ht54t;obtain⟨c59a,c59b,c59c⟩:=Ht57t.out.cells
  go_wp2_with fail
  clear hst56 c59a c59b c59c;refine(zme t1 W56 HZ1.out).mono ?_;rintro e W60 ⟨rfl,b60⟩;rw[zq7];have Ht61t:=hid (Ht57t.out.low b60);have Hq61p:=hid (Hq56p.out.low b60);have HF62:=hid (HF58.out.low b60);clear b60 HF58 Ht57t Hq56p;obtain⟨r63a,r63b,r63c,r63d,r63e,r63f,r63g,r63h,r63i,r63z⟩:=row9 Hq61p.out.row;obtain⟨W64,hw64,b64,o64,r64⟩:∃ W2,(W60.setCell ⟨W53.heap.size,2,none⟩ (.int .i64 (numT t1)))=W2∧Below (W53.heap.size) W60 W2∧(∀ j,j≠W53.heap.size->j<W60.heap.size->W2.heap[j]?=W60.heap[j]?)∧W2.heap[W53.heap.size]?=some (.cells (⟨20,⟨#[]⟩,(numT t1),t1.pos,t1.pos,0,t1.pos,none,0,0⟩:Qe).cells 63 (0,0)) :=
   ⟨_,rfl,((Below.refl _ _).setCell (p:=⟨W53.heap.size,2,none⟩) (Nat.le_refl _) _),fun j hj _=>(heap_setCell_other _ _ _ _ hj).trans (rfl),heap_setCell_same _ _ 2 _ _ _ (Hq61p.out.row)⟩
  have Ht64t:Hid (Tl W0 W64 W1.heap.size t1):=hid ⟨Ht61t.out.hB,(o64 _ (zge Ht61t.out Hq61p.out.row) (zaa Ht61t.out.row)).trans Ht61t.out.row⟩;have Hq64p:Hid (Tq W0 W64 W53.heap.size (⟨20,⟨#[]⟩,(numT t1),t1.pos,t1.pos,0,t1.pos,none,0,0⟩:Qe)):=hid ⟨Hq61p.out.hB,r64⟩;have HF65:=hid (HF62.out.on (b64.mono Hq61p.out.hB));clear b64 o64 r64 HF62 Hq61p Ht61t;obtain⟨r66a,r66b,r66c,r66d,r66e,r66f,r66g,r66h,r66i,r66z⟩:=row9 Hq64p.out.row;have Hp67p:=hid (Hq64p.out.qk (z:=w.heap.size) (zaa HF65.out.hZ));clear Hq64p;obtain⟨r68a,r68b,r68c,r68d,r68e,r68f,r68g,r68h,r68i,r68z⟩:=row9 Hp67p.out.row
  go_wp2_with fail
  clear r63a r63b r63c r63d r63e r63f r63g r63h r63i r63z hw64 r66a r66b r66c r66d r66e r66f r66g r66h r66i r66z r68a r68b r68c r68d r68e r68f r68g r68h r68i r68z;obtain⟨sp69,ln69,cp69,hv69,hd69⟩:=za7 HF65.out Hp67p.out;injection hv69 with u1 u2 u3;subst u1 u2 u3;refine hd69.mono ?_;rintro e W69 ⟨e69,rfl,b69,f69,q69⟩;have HV69:=hid q69;have HF71:=hid (f69);clear hd69 b69 f69 q69 HF65 Hp67p;obtain⟨W72,hst72,hr72,hp72⟩:=za5 HF71.out (v:=(⟨20,⟨#[]⟩,(numT t1),t1.pos,t1.pos,behI ts s49.p,t1.pos,[]⟩:Qv)) ⟨HV69.out.is.keep (fun j hj=>⟨hj.1,hj.2.1⟩) fun _ _=>rfl,HV69.out.bg⟩;have HP:=hid hp72;have HRR:=hid hr72;clear hp72 hr72
  go_wp2
  have hx:=HX.out;exact zan Tryz.results97 rfl HRR.out (hx ▸ HP.out)
theorem zkg (hR:QdS T w g st cap ts s):Calls Tryz.prog 69 #[.pointer (some ⟨g,0,none⟩)] w (QoP T w g st cap ts (valD ts s)):=by
 have HF:=hid (zb9 hR);have hfe:=hR.few;have hle:=hR.le;clear hR;obtain⟨r,hX⟩:∃ r,valD ts s=r:=⟨_,rfl⟩;rw[hX];unfold valD at hX
 dsimp only[tak] at hX
 have HX:=hid hX;clear hX
 go_enter Tryz.func69,Tryz.ntmps69
 go_wp2_with fail
 refine zaf (fun W=>Fr T w W W g st cap ts s) HF.out ?_;intro W0 hF;clear HF;have HF:=hid hF;clear hF;refine(zar ⟨#[45]⟩ HF.out.hR).mono ?_;rintro e W1 ⟨rfl,b1⟩;obtain⟨i1,hi⟩:∃ b,isQ ts s.p ⟨#[45]⟩=b:=⟨_,rfl⟩;rw[hi]
 try rw[hi] at HX
 have HF3:=hid (HF.out.low b1);clear hi b1 HF
 cases i1
 ·skip
  replace HX:=hid (if_f HX.out (fun h=>by cases h))
  go_wp2_with fail
  refine(zbk HF3.out.hR).mono ?_;rintro e W4 ⟨e4,rfl,q4,g4,r4⟩;obtain⟨⟨v4,s4⟩,hk4⟩:∃ r,litD ts s=r:=⟨_,rfl⟩;rw[hk4] at HX q4 r4
  try dsimp only at HX
  have HV4:=hid q4;have hs4:=g4.size;have HF6:=hid (HF3.out.call g4 r4);have hl4:=HF3.out.size;clear hk4 q4 g4 r4 HF3;obtain⟨W7,hst7,hr7,hp7⟩:=za5 HF6.out (v:=v4) ⟨HV4.out.is.keep (fun j hj=>⟨by omega,hj.2⟩) fun _ _=>rfl,HV4.out.bg⟩;have HP:=hid hp7;have HRR:=hid hr7;clear hp7 hr7
  go_wp2
  have hx:=HX.out;exact zan Tryz.results69 rfl HRR.out (hx ▸ HP.out)
 ·skip
  replace HX:=hid (if_t HX.out rfl)
  go_wp2_with fail
  refine(zag ⟨#[45]⟩ HF3.out.hR).mono ?_;rintro e W8 ⟨rfl,g8,r8⟩;obtain⟨t8,ht⟩:∃ t,takT ts ⟨#[45]⟩ s=t:=⟨_,rfl⟩;obtain⟨s8,hs⟩:∃ s2,takS ts ⟨#[45]⟩ s=s2:=⟨_,rfl⟩;rw[show takT ts ⟨#[45]⟩ ⟨s.p,s.bad⟩=t8 from ht];have q8:QdS T W8 g st cap ts s8:=hs ▸ r8;have HT8:Hid (LtQ s s8):=hid (hs ▸ zal _ _)
  try rw[ht] at HX
  try rw[hs] at HX
  have HF10:=hid (HF3.out.call g8 q8);clear ht hs r8 q8 g8 HF3
  go_wp2_with fail
  refine(zat 26 t8 ⟨#[45]⟩ W8).mono ?_;rintro e W11 ⟨rfl,b11⟩;have HF13:=hid (HF10.out.low b11);clear b11 HF10;obtain⟨W14,hst14,b14,f14,l14⟩:=zc2 (z:=w.heap.size) HF13.out (zaa HF13.out.hZ) 26 t8 ⟨#[45]⟩;have Hp14p:=hid l14;have hn14:=b14.size;have HF16:=hid (f14);clear b14 f14 l14 HF13
  go_wp2_with fail
  clear hst14;refine(zbe HF16.out.hR).mono ?_;rintro e W17 ⟨rfl,b17⟩;obtain⟨t17,ht⟩:∃ t,nxQ ts s8.p=t:=⟨_,rfl⟩;rw[ht];have HNX17:=hid ht;have HZ17:=hid (ht ▸ HF16.out.hR.sz)
  try rw[ht] at HX
  have Hp18p:=hid (Hp14p.out.below b17);have HF19:=hid (HF16.out.low b17);clear ht b17 HF16 Hp14p;have hfd:∀ (a b c:Value) (W:World),(Instr.field 38 (.agg #[a,b,c]) 0).run Tryz.prog W=.ok a W:=fun _ _ _ _=>rfl
  try unfold Tok.cells
  obtain⟨kb,hkb⟩:∃ b,(t17.kind != 2)=b:=⟨_,rfl⟩;have hk2:(!(t17.kind == 2))=kb:=hkb;rw[hkb] at HX
  cases kb
  ·skip
   rw[show wrQ false s8=s8 from rfl] at HX
   go_wp2_with fail
   clear hkb hk2 hfd;refine(zbk HF19.out.hR).mono ?_;rintro e W21 ⟨e21,rfl,q21,g21,r21⟩;obtain⟨⟨v21,s21⟩,hk21⟩:∃ r,litD ts s8=r:=⟨_,rfl⟩;rw[hk21] at HX q21 r21
   try dsimp only at HX
   have HV21:=hid q21;have hb21p:=Hp18p.out.lt;have Hp22p:=hid (Hp18p.out.grow HF19.out.gB g21);have hs21:=g21.size;have HF23:=hid (HF19.out.call g21 r21);have hl21:=HF19.out.size;clear hk21 q21 g21 r21 HF19 Hp18p;obtain⟨c24,f24,W24,hw24,g24,q24,b24,o24⟩:=zdy HF23.out Hp22p.out (v:=v21) (e:=e21) (S:=(fun j=>W17.heap.size<=j∧j<W21.heap.size)) HV21.out (fun j hj=>by have:=Hp22p.out.lt;have:=HF23.out.s0;exact⟨by omega,hj.2,by omega,by omega⟩);have Hp24p:=hid q24;have HF25:=hid (g24);obtain⟨e0,e1,e2,e3,e4,e5,e6,e7,e8,e9⟩:=e21
   dsimp only[Qe.cells,paQ] at c24 f24 hw24
   try unfold Qe.cells paQ
   clear HV21 g24 q24 b24 o24 HF23 Hp22p;obtain⟨r26a,r26b,r26c,r26d,r26e,r26f,r26g,r26h,r26i,r26z⟩:=row9 Hp24p.out.row
   go_wp2_with fail
   clear c24 f24 hw24 r26a r26b r26c r26d r26e r26f r26g r26h r26i r26z;obtain⟨sp27,ln27,cp27,hv27,hd27⟩:=za7 HF25.out Hp24p.out;injection hv27 with u1 u2 u3;subst u1 u2 u3;refine hd27.mono ?_;rintro e W27 ⟨e27,rfl,b27,f27,q27⟩;have HV27:=hid q27;have HF29:=hid (f27);clear hd27 b27 f27 q27 HF25 Hp24p;obtain⟨W30,hst30,hr30,hp30⟩:=za5 HF29.out (v:=(⟨26,⟨#[45]⟩,0,t8.pos,t8.pos,behI ts s21.p,t8.pos,[v21.pt]⟩:Qv)) ⟨HV27.out.is.keep (fun j hj=>⟨hj.1,hj.2.1⟩) fun _ _=>rfl,HV27.out.bg⟩;have HP:=hid hp30;have HRR:=hid hr30;clear hp30 hr30
   go_wp2
   have hx:=HX.out;exact zan Tryz.results69 rfl HRR.out (hx ▸ HP.out)
  ·skip
   obtain⟨W31,hw31,g31,r31⟩:∃ W2,W17.setCell ⟨g,2,none⟩ (.bool true)=W2∧W17.grownBy W2 (some g)∧QdS T W2 g st cap ts (wrQ true s8):=⟨_,rfl,zin W17 g,HF19.out.hR.wrong⟩;have wc31:=HF19.out.hR.c2;have wz31:=HF19.out.hR.z 2;obtain⟨s31,hs31⟩:∃ s2,wrQ true s8=s2:=⟨_,rfl⟩;rw[hs31] at HX r31;have Hp32p:=hid (Hp18p.out.grow HF19.out.gB g31);have HF33:=hid (HF19.out.call g31 r31);clear hs31 g31 r31 HF19 Hp18p
   go_wp2_with fail
   clear hkb hk2 hfd hw31 wc31 wz31;refine(zbk HF33.out.hR).mono ?_;rintro e W34 ⟨e34,rfl,q34,g34,r34⟩;obtain⟨⟨v34,s34⟩,hk34⟩:∃ r,litD ts s31=r:=⟨_,rfl⟩;rw[hk34] at HX q34 r34
   try dsimp only at HX
   have HV34:=hid q34;have hb34p:=Hp32p.out.lt;have Hp35p:=hid (Hp32p.out.grow HF33.out.gB g34);have hs34:=g34.size;have HF36:=hid (HF33.out.call g34 r34);have hl34:=HF33.out.size;clear hk34 q34 g34 r34 HF33 Hp32p;obtain⟨c37,f37,W37,hw37,g37,q37,b37,o37⟩:=zdy HF36.out Hp35p.out (v:=v34) (e:=e34) (S:=(fun j=>W31.heap.size<=j∧j<W34.heap.size)) HV34.out (fun j hj=>by have:=Hp35p.out.lt;have:=HF36.out.s0;exact⟨by omega,hj.2,by omega,by omega⟩);have Hp37p:=hid q37;have HF38:=hid (g37);obtain⟨e0,e1,e2,e3,e4,e5,e6,e7,e8,e9⟩:=e34
   dsimp only[Qe.cells,paQ] at c37 f37 hw37
   try unfold Qe.cells paQ
   clear HV34 g37 q37 b37 o37 HF36 Hp35p;obtain⟨r39a,r39b,r39c,r39d,r39e,r39f,r39g,r39h,r39i,r39z⟩:=row9 Hp37p.out.row
   go_wp2_with fail
   clear c37 f37 hw37 r39a r39b r39c r39d r39e r39f r39g r39h r39i r39z;obtain⟨sp40,ln40,cp40,hv40,hd40⟩:=za7 HF38.out Hp37p.out;injection hv40 with u1 u2 u3;subst u1 u2 u3;refine hd40.mono ?_;rintro e W40 ⟨e40,rfl,b40,f40,q40⟩;have HV40:=hid q40;have HF42:=hid (f40);clear hd40 b40 f40 q40 HF38 Hp37p;obtain⟨W43,hst43,hr43,hp43⟩:=za5 HF42.out (v:=(⟨26,⟨#[45]⟩,0,t8.pos,t8.pos,behI ts s34.p,t8.pos,[v34.pt]⟩:Qv)) ⟨HV40.out.is.keep (fun j hj=>⟨hj.1,hj.2.1⟩) fun _ _=>rfl,HV40.out.bg⟩;have HP:=hid hp43;have HRR:=hid hr43;clear hp43 hr43
   go_wp2
   have hx:=HX.out;exact zan Tryz.results69 rfl HRR.out (hx ▸ HP.out)
end
end Go.Proofs.YtmclgbkijeidaaaGreatDoor
