import Derived.Test.YtabiangdmibocaaGreatDoorUnU
import Derived.Test.YtabiangdmibocaaGreatDoorUnV
import Derived.Test.YtabiangdmibocaaGreatDoorUnT
import Derived.Lib.ItoaLen
import Derived.Test.YtabiangdmibocaaGreatDoorUnQ
import Derived.Test.YtabiangdmibocaaGreatDoorUnN
namespace Go.Proofs.YtabiangdmibocaaGreatDoor
set_option maxRecDepth 100000
open Go.RowKit
mutual
def shP:Pt->Prop | .mk k _ _ _ _ _ l=>ndK k<=l.length∧shL l
def shL:List Pt->Prop | []=>True|t::r=>shP t∧shL r
end
theorem zuk:∀ {l:List Pt},shL l ↔ ∀ u ∈ l,shP u
 | []=>by simp[shL]
 | t::r=>by simp[shL,zuk (l:=r)]
theorem zct {k n a f t:Int}{x:ByteArray}{l:List Pt}(h:ndK k<=l.length)(hl:∀ u ∈ l,shP u):shP (.mk k x n a f t l):=by
 rw[shP];exact⟨h,zuk.2 hl⟩
theorem zgg {e:Pt}(h:Ex e):shP e:=by
 induction h with
 | int _ _=>exact zct (by decide) (by simp)
 | text _ _=>exact zct (by decide) (by simp)
 | bool _=>exact zct (by decide) (by simp)
 | name _ _=>exact zct (by decide) (by simp)
 | dot _ _ _ ih=>exact zct (by simp[ndK]) (zcr ih)
 | call _ _ ih ihl=>exact zct (by simp[ndK]) fun u hu=>(List.mem_cons.1 hu).elim (fun e=>by rw[e];exact ih) (ihl u)
 | una _ _ ih=>exact zct (by simp[ndK]) (zcr ih)
 | bin _ _ _ ihu ihv=>exact zct (by simp[ndK]) (zdz ihu ihv)
theorem zxh {e:Pt}(h:Ty e):shP e:=by
 cases h with
 | basic _=>exact zct (by decide) (by simp)
 | named _ _=>exact zct (by decide) (by simp)
 | far _ _ _=>exact zct (by simp[ndK]) (zcr (zct (by decide) (by simp)))
theorem z50 {e:Pt}(h:Vc e):shP e:=by
 cases h with
 | va h=>
  cases h with
  | int h1 h2=>exact zgg (.int h1 h2)
  | text h1 h2=>exact zgg (.text h1 h2)
  | bool h1=>exact zgg (.bool h1)
 | neg h1 h2=>exact zgg (.una (.inl rfl) (.int h1 h2))
theorem z1v {e:Pt}(h:St e):shP e:=by
 induction h with
 | block _ ih=>exact zct (by simp[ndK]) ih
 | loop hc _ ih=>exact zct (by simp[ndK]) (zdz (zgg hc) (zct (by simp[ndK]) ih))
 | if1 hc _ ih=>exact zct (by simp[ndK]) (zdz (zgg hc) (zct (by simp[ndK]) ih))
 | if2 hc _ _ ih ih'=>
  refine zct (by simp[ndK]) fun u hu=>?_;simp only[List.mem_cons,List.not_mem_nil,or_false] at hu;rcases hu with rfl|rfl|rfl
  ·exact zgg hc
  ·exact zct (by simp[ndK]) ih
  ·exact zct (by simp[ndK]) ih'
 | if3 hc _ _ _ ih ih'=>
  refine zct (by simp[ndK]) fun u hu=>?_;simp only[List.mem_cons,List.not_mem_nil,or_false] at hu;rcases hu with rfl|rfl|rfl
  ·exact zgg hc
  ·exact zct (by simp[ndK]) ih
  ·exact ih'
 | var1 _ hv=>exact zct (by simp[ndK]) (zcr (zxh hv))
 | var2 _ hv he=>exact zct (by simp[ndK]) (zdz (zxh hv) (zgg he))
 | res0=>exact zct (by simp[ndK]) (by simp)
 | res1 he=>exact zct (by simp[ndK]) (zcr (zgg he))
 | short _ _ he=>exact zct (by simp[ndK]) (zcr (zgg he))
 | assign he hu=>exact zct (by simp[ndK]) (zdz (zgg he) (zgg hu))
 | expr he=>exact zct (by simp[ndK]) (zcr (zgg he))
theorem z4j {k:Int}(hk:k=6∨k=9){u:Pt}(h:Pm k u):shP u:=by
 obtain⟨x,v,a,f,t,rfl,-,-,hv⟩:=h;exact zct (by rcases hk with rfl|rfl <;> simp[ndK]) (zcr (zxh hv))
theorem z52 {e:Pt}(h:Dc e):shP e:=by
 cases h with
 | con _ hv=>exact zct (by simp[ndK]) (zcr (z50 hv))
 | var1 h1 h2=>exact z1v (.var1 h1 h2)
 | var2 h1 h2 h3=>exact z1v (.var2 h1 h2 h3)
 | str _ hl=>exact zct (by simp[ndK]) fun u hu=>z4j (.inl rfl) (hl u hu)
 | fn _ _ h1 h2 h3 h4=>
  refine zct (by simp[ndK]) fun u hu=>?_;simp only[List.mem_append,List.mem_singleton] at hu;rcases hu with((hu|hu) | hu) | rfl
  ·rcases h1 with rfl|⟨y,z,a,f,t,a',f',t',rfl,-,-⟩
   ·simp at hu
   ·obtain rfl:=List.mem_singleton.1 hu;exact zct (by simp[ndK]) (zcr (zct (by simp[ndK]) (by simp)))
  ·exact z4j (.inr rfl) (h2 u hu)
  ·rcases h3 with rfl|⟨v,rfl,hv⟩
   ·simp at hu
   ·obtain rfl:=List.mem_singleton.1 hu;exact zxh hv
  ·obtain⟨a,f,t,l,rfl,hl⟩:=h4;exact z1v (.block hl)
theorem z54 {t:Pt}(h:FiT t):shP t:=by
 obtain⟨x,a,f,e,is,ds,rfl,-,hi,hd⟩:=h;refine zct (by simp[ndK]) fun u hu=>?_;rcases List.mem_append.1 hu with hu|hu
 ·obtain⟨y,a,f,t,rfl,-⟩:=hi u hu;exact zct (by simp[ndK]) (by simp)
 ·exact z52 (hd u hu)
mutual
theorem z4k:∀ t:Pt,shP t->GdP t->arP t
 | .mk k x n a f t l,h,ho=>by
  rw[shP] at h;rw[GdP] at ho;rw[arP];exact⟨h.1,⟨by have:=ho.1;omega,ho.2.1.1,ho.2.1.2⟩,zy7 l h.2 ho.2.2⟩
theorem zy7:∀ l:List Pt,shL l->GdL l->arL l
 | [],_,_=>by rw[arL];trivial
 | t::r,h,ho=>by
  rw[shL] at h;rw[GdL] at ho;rw[arL];exact⟨z4k t h.1 ho.1,zy7 r h.2 ho.2⟩
end
def lnS (os:List (List Pe)):Nat:=(os.map fun o=>(rn o).length+5025).sum
theorem zna:lnS []=0:=rfl
theorem zdb (o:List Pe)(os:List (List Pe)):lnS (o::os)=(rn o).length+5025+lnS os:=by simp[lnS]
theorem zks (os:List (List Pe))(n:Nat):lnS (os.take n)+lnS (os.drop n)=lnS os:=by
 induction os generalizing n with
 | nil=>simp[lnS]
 | cons a b ih=>
  cases n with
  | zero=>simp[lnS]
  | succ n=>
   have:=ih n;rw[List.take_succ_cons,List.drop_succ_cons,zdb,zdb];omega
theorem zo7 {s:List Pe}(hs:(rn s).length<=6)(os:List (List Pe)):(rn (pBeh s os)).length<=lnS os:=by
 induction os with
 | nil=>simp[pBeh,rn]
 | cons a b ih=>
  have e:pBeh s (a::b)=s++a++pBeh s b:=by simp[pBeh]
  rw[e,zac,zac,zdb,List.length_append,List.length_append];omega
theorem zlz {s:List Pe}(hs:(rn s).length<=6)(os:List (List Pe)):(rn (pPar s os)).length<=lnS os:=by
 cases os with
 | nil=>simp[pPar,rn]
 | cons a b=>
  have e:pPar s (a::b)=a++pBeh s b:=by simp[pPar,pBeh]
  have:=zo7 hs b;rw[e,zac,zdb,List.length_append];omega
theorem zul (os:List (List Pe)):(rn (pBrk os)).length<=2+lnS os:=by
 have:=zlz (s:=[sg [44],sp]) (by decide) os;have h1:(rn [sg [40]]).length=1:=rfl;have h2:(rn [sg [41]]).length=1:=rfl;unfold pBrk;rw[zac,zac,List.length_append,List.length_append];omega
theorem z4l {d:Nat}(hd:d<=5000)(os:List (List Pe)):(rn (pLin d os)).length<=lnS os:=by
 induction os with
 | nil=>simp[pLin,rn]
 | cons a b ih=>
  have e:pLin d (a::b)=tb d++a++[.e]++pLin d b:=by simp[pLin]
  have h1:(rn [Pe.e]).length=1:=rfl;have h2:=zdk d;rw[e,zac,zac,zac,zdb,List.length_append,List.length_append,List.length_append];omega
theorem zy8 {d:Nat}(hd:d+1<=5000)(os:List (List Pe)):(rn (pBra d os)).length<=5003+lnS os:=by
 have:=z4l hd os;have h1:(rn [sg [123],fe]).length=2:=rfl;have h2:(rn [sg [125]]).length=1:=rfl;have h3:=zdk d;unfold pBra;rw[zac,zac,zac,List.length_append,List.length_append,List.length_append];omega
theorem zy9 (os:List (List Pe)):(rn (pOne os)).length<=lnS os:=by
 cases os with
 | nil=>simp[pOne,rn]
 | cons a b=>rw[zdb];show(rn a).length<=_;omega
theorem zl0 (k:Int)(x:ByteArray)(hs:List (Int × ByteArray))(os:List (List Pe))(i:Nat)(n:Nat)(h:∀ o,os[i]?=some o->(rn o).length+2<=n):(rn (pOpe k x hs os i)).length<=n:=by
 unfold pOpe
 split
 ·rename_i h' o e1 e2
  have:=h o e2
  split
  ·have e:rn (pBrk [o])=[40]++rn o++[41]:=by unfold pBrk;rw[zac,zac];simp[pPar];rfl
   rw[e];simp;omega
  ·omega
 ·simp[rn]
theorem z1w (k:Int)(x:ByteArray)(hs:List (Int × ByteArray))(os:List (List Pe)):(rn (pOpe k x hs os 0)).length+(rn (pOpe k x hs os 1)).length<=lnS os∧(rn (pOpe k x hs os 0)).length+lnS (os.drop 1)<=lnS os:=by
 cases os with
 | nil=>
  have h0:=zl0 k x hs [] 0 0 (by simp);have h1:=zl0 k x hs [] 1 0 (by simp);rw[List.drop_nil,zna];omega
 | cons a r=>
  have h0:=zl0 k x hs (a::r) 0 ((rn a).length+2) (by simp)
  cases r with
  | nil=>
   have h1:=zl0 k x hs [a] 1 0 (by simp);rw[zdb,List.drop_succ_cons,List.drop_nil,zna];omega
  | cons b r=>
   have h1:=zl0 k x hs (a::b::r) 1 ((rn b).length+2) (by simp);rw[zdb,zdb,List.drop_succ_cons,List.drop_zero,zdb];omega
theorem zza {d:Nat}(hd:d<=5000):∀ (b:Bool)(hs:List (Int × ByteArray))(os:List (List Pe)),(rn (pFiK d b hs os)).length<=lnS os
 | _,[],os=>by simp[pFiK,rn]
 | _,_::_,[]=>by simp[pFiK,rn]
 | b,h::hs,o::os=>by
  have ih:=zza hd false hs os;have h1:(rn [Pe.e]).length=1:=rfl;have h2:=zdk d;have h3:(rn (if b || h.1 != 2 then[fe] else[])).length<=1:=by split <;> decide
  rw[pFiK,zac,zac,zac,zac,zdb];simp only[List.length_append];omega
theorem zzb {x:ByteArray}(hx:x.size<=100000):(quoT x).data.toList.length<=200002:=by
 unfold quoT
 split
 ·rename_i q hq
  have:=(ztx hq).2.1;have e:x.data.toList.length=x.size:=by simp
  rw[zds];omega
 ·simp
theorem rn_t (y:Tok):(rn [.t y]).length=y.text.data.toList.length:=by simp[rn,Pe.bs]
theorem z4m (x:ByteArray)(hs:List (Int × ByteArray))(os:List (List Pe)):(rn (pFun x hs os)).length<=20+x.data.toList.length+lnS os:=by
 have a1:=zul (os.take (cutN 8 hs));have a2:=zks os (cutN 8 hs);have a3:=zul ((os.drop (cutN 8 hs)).take (cutN 9 (hs.drop (cutN 8 hs))));have a4:=zks (os.drop (cutN 8 hs)) (cutN 9 (hs.drop (cutN 8 hs)));have a5:=zo7 (s:=[sp]) (by decide) ((os.drop (cutN 8 hs)).drop (cutN 9 (hs.drop (cutN 8 hs))));have h1:(rn [wd [102,117,110,99],sp]).length=5:=rfl;have h2:(rn [sp]).length=1:=rfl;have h3:=rn_t (tkW 1 x);have h4:(tkW 1 x).text.data.toList.length=x.data.toList.length:=rfl;unfold pFun;rw[zac,zac,zac,zac];simp only[List.length_append]
 split
 ·rw[zac,List.length_append];omega
 ·rw[zcv,List.length_nil];omega
theorem z4n (k:Int)(x:ByteArray)(n:Int)(hx:x.size<=100000)(hn:-9223372036854775808<=n∧n<=9223372036854775807)(hs:List (Int × ByteArray))(os:List (List Pe)):(rn (prX k x n hs os)).length<=300000+lnS os:=by
 obtain⟨h1,h2⟩:=z1w k x hs os;have h3:=zul (os.drop 1);have e1:x.data.toList.length=x.size:=by simp
 have h4:(rn [.t (tkW 1 x)]).length=x.size:=by rw[rn_t];exact e1
 have h5:(rn [.t (tkW 4 x)]).length=x.size:=by rw[rn_t];exact e1
 have h6:(rn [.t (nuT n)]).length<=21:=by rw[rn_t];show(Lib.itoa n).toArray.toList.length<=21;simpa using Lib.itoa_length_le n hn.1 hn.2
 have h7:(rn [.t (tkW 3 (quoT x))]).length<=200002:=by rw[rn_t];exact zzb hx
 have h8:(rn [sg [46],.t (tkW 1 x)]).length=1+x.size:=by rw[zaf,List.length_append,h4];rfl
 have h9:(rn [sp,.t (tkW 4 x),sp]).length=2+x.size:=by
  rw[show[sp,.t (tkW 4 x),sp]=[sp]++[.t (tkW 4 x)]++[sp] from rfl,zac,zac,List.length_append,List.length_append,h5];show 1+x.size+1=_;omega
 unfold prX
 repeat' split
 all_goals (try simp only[zac,List.length_append])
 all_goals (try rw[zcv])
 all_goals (try simp only[List.length_nil])
 all_goals omega
theorem z4o {d:Nat}(hd:d+1<=5000)(k:Int)(x:ByteArray)(n:Int)(hx:x.size<=100000)(hn:-9223372036854775808<=n∧n<=9223372036854775807)(hs:List (Int × ByteArray))(os:List (List Pe)):(rn (prS d k x n hs os)).length<=300000+lnS os:=by
 have h1:=z4n k x n hx hn hs os;have h2:=zy8 hd os;have h3:=zlz (s:=[sp]) (by decide) (os.take 2);have h4:=zo7 (s:=[sp,wd [101,108,115,101],sp]) (by decide) (os.drop 2);have h5:=zks os 2;have h6:=zlz (s:=[sp]) (by decide) os;have h7:=zo7 (s:=[sp]) (by decide) os;have h8:=zy9 os;have h9:=zlz (s:=[sp,sg [61],sp]) (by decide) os;have e1:x.data.toList.length=x.size:=by simp
 have g4:(rn [.t (tkW 1 x)]).length=x.size:=by rw[rn_t];exact e1
 have g5:(rn [.t (tkW 1 x),sp,sg [58,61],sp]).length=x.size+4:=by
  rw[show[.t (tkW 1 x),sp,sg [58,61],sp]=[.t (tkW 1 x)]++[sp,sg [58,61],sp] from rfl,zac,List.length_append,g4];rfl
 have g6:(rn [wd [105,102],sp]).length=3:=rfl;have g7:(rn [wd [102,111,114],sp]).length=4:=rfl;have g8:(rn [wd [114,101,116,117,114,110]]).length=6:=rfl;unfold prS
 repeat' split
 all_goals (try simp only[zac,List.length_append])
 all_goals omega
theorem z4p {d:Nat}(hd:d+1<=5000)(k:Int)(x:ByteArray)(n:Int)(hx:x.size<=100000)(hn:-9223372036854775808<=n∧n<=9223372036854775807)(hs:List (Int × ByteArray))(os:List (List Pe)):(rn (prK d k x n hs os)).length<=300100+lnS os:=by
 have h1:=z4o hd k x n hx hn hs os;have h2:=zy8 hd os;have h3:=zza (d:=d) (by omega) true hs os;have h4:=zy9 os;have h5:=zlz (s:=[sp,sg [61],sp]) (by decide) os;have h6:=z4m x hs os;have e1:x.data.toList.length=x.size:=by simp
 have g4:(rn [.t (tkW 1 x)]).length=x.size:=by rw[rn_t];exact e1
 have g5:∀ a b:List Pe,(rn (a++.t (tkW 1 x)::b)).length=(rn a).length+x.size+(rn b).length:=fun a b=>by
  rw[show a++.t (tkW 1 x)::b=a++[.t (tkW 1 x)]++b by simp,zac,zac,List.length_append,List.length_append,g4]
 have k1:(rn [wd [112,97,99,107,97,103,101],sp,.t (tkW 1 x),.e]).length=8+x.size+1:=g5 [wd [112,97,99,107,97,103,101],sp] [.e];have k2:(rn [wd [105,109,112,111,114,116],sp,.t (tkW 3 (quoT x))]).length<=200020:=by
  rw[show[wd [105,109,112,111,114,116],sp,.t (tkW 3 (quoT x))]=[wd [105,109,112,111,114,116],sp]++[.t (tkW 3 (quoT x))] from rfl,zac,List.length_append,rn_t];have:(tkW 3 (quoT x)).text.data.toList.length<=200002:=zzb hx;have:(rn [wd [105,109,112,111,114,116],sp]).length=7:=rfl;omega
 have k3:(rn [wd [99,111,110,115,116],sp,.t (tkW 1 x),sp,sg [61],sp]).length=6+x.size+3:=g5 [wd [99,111,110,115,116],sp] [sp,sg [61],sp];have k4:(rn [wd [118,97,114],sp,.t (tkW 1 x),sp]).length=4+x.size+1:=g5 [wd [118,97,114],sp] [sp];have k5:(rn [wd [116,121,112,101],sp,.t (tkW 1 x),sp,wd [115,116,114,117,99,116],sp]).length=5+x.size+8:=g5 [wd [116,121,112,101],sp] [sp,wd [115,116,114,117,99,116],sp];have k6:(rn [.t (tkW 1 x),sp]).length=0+x.size+1:=g5 [] [sp];have k7:(rn [sg [46],.t (tkW 1 x)]).length=1+x.size+0:=g5 [sg [46]] [];unfold prK
 repeat' split
 all_goals (try simp only[zac,List.length_append])
 all_goals omega
mutual
theorem zxi:∀ (t:Pt)(d:Nat),arP t->d+cntP t<=4999->(rn (prP d t)).length+5025<=320000 * cntP t
 | .mk k x n a f t l,d,h,hd=>by
  rw[arP] at h;rw[cntP] at hd ⊢;have hk:kdD k d<=d+1:=by unfold kdD;split <;> omega
  have h1:=z4p (d:=d) (by omega) k x n h.2.1.1 h.2.1.2 (l.map hdP) (prM (kdD k d) l);have h2:=zzc l (kdD k d) h.2.2 (by omega);rw[prP];omega
theorem zzc:∀ (l:List Pt)(d:Nat),arL l->d+cntL l<=4999->lnS (prM d l)<=320000 * cntL l
 | [],d,_,_=>by rw[prM,zna];omega
 | t::r,d,h,hd=>by
  rw[arL] at h;rw[cntL] at hd ⊢;have h1:=zxi t d h.1 (by omega);have h2:=zzc r d h.2 (by omega);rw[prM,zdb];omega
end
mutual
theorem zxj:∀ (t t':Pt),smP t t'->hdP t=hdP t'
 | .mk k x n a f e l,.mk k' x' n' a' f' e' l',h=>by
  unfold smP at h;rw[hdP,hdP,h.1,h.2.1]
end
theorem zl1:∀ (l l':List Pt),smL l l'->l.map hdP=l'.map hdP
 | [],[],_=>rfl
 | [],_::_,h=>by unfold smL smP.go at h;exact h.elim
 | _::_,[],h=>by unfold smL smP.go at h;exact h.elim
 | t::r,t'::r',h=>by
  unfold smL smP.go at h;rw[List.map_cons,List.map_cons,zxj t t' h.1,zl1 r r' h.2]
mutual
theorem zl2:∀ (t t':Pt)(d:Nat),smP t t'->prP d t=prP d t'
 | .mk k x n a f e l,.mk k' x' n' a' f' e' l',d,h=>by
  unfold smP at h;obtain⟨rfl,rfl,rfl,h4⟩:=h;rw[prP,prP,zl1 l l' h4,zzd l l' _ h4]
theorem zzd:∀ (l l':List Pt)(d:Nat),smL l l'->prM d l=prM d l'
 | [],[],_,_=>rfl
 | [],_::_,_,h=>by unfold smL smP.go at h;exact h.elim
 | _::_,[],_,h=>by unfold smL smP.go at h;exact h.elim
 | t::r,t'::r',d,h=>by
  unfold smL smP.go at h;rw[prM,prM,zl2 t t' d h.1,zzd r r' d h.2]
end
mutual
theorem zxk:∀ (t t':Pt),smP t t'->wrP t=wrP t'
 | .mk k x n a f e l,.mk k' x' n' a' f' e' l',h=>by
  unfold smP at h;obtain⟨rfl,rfl,rfl,h4⟩:=h;rw[wrP,wrP,zl1 l l' h4,zze l l' h4]
theorem zze:∀ (l l':List Pt),smL l l'->wrM l=wrM l'
 | [],[],_=>rfl
 | [],_::_,h=>by unfold smL smP.go at h;exact h.elim
 | _::_,[],h=>by unfold smL smP.go at h;exact h.elim
 | t::r,t'::r',h=>by
  unfold smL smP.go at h;rw[wrM,wrM,zxk t t' h.1,zze r r' h.2]
end
structure TrP (t:Pt):Prop where
 f:FiT t
 o:okP t
 n:(layP 0 t).length<=2048
 d:dpF (fun _=>0) 0 0 (layP 0 t)<=24
theorem zum {s:List UInt8}{t:Pt}(h:txtO s=.inr t):TrP t:=by
 obtain⟨ts,q,h1,h2,h3,h4,h5⟩:=z1s h;obtain⟨hf,ho⟩:=zou (zxa h2) h3;exact⟨hf,ho,h4,h5⟩
theorem TrP.ar {t:Pt}(h:TrP t):arP t:=z4k t (z54 h.f) (z1b t h.o)
theorem TrP.len {t:Pt}(h:TrP t):(rn (prP 0 t)).length<=1000000000000∧cntP t<=2048:=by
 have h1:=h.n;rw[zbt] at h1;have:=zxi t 0 h.ar (by omega);omega
theorem TrP.ne {t:Pt}(h:TrP t):rn (prP 0 t)≠[]:=by
 obtain⟨x,a,f,e,is,ds,rfl,-⟩:=h.f;have e1:prP 0 (.mk 1 x 0 a f e (is++ds))=wd [112,97,99,107,97,103,101]::sp::.t (tkW 1 x)::.e::pFiK 0 true ((is++ds).map hdP) ((is++ds).map (prP 0)):=by
  rw[prP,zca];simp[prK,kdD]
 rw[e1,zaf];exact fun h=>by cases h
def prnO (t:Pt):List UInt8 × Int:=if 1024<(wrP t).length then([],3) else if 4096<(rn (prP 0 t)).length then([],3) else(rn (prP 0 t),0)
def fmO (s:List UInt8):List UInt8 × Int × Int:=match txtO s with | .inl p=>([],p.1,p.2) | .inr t=>((prnO t).1,(prnO t).2,0)
def fdB (s:List UInt8):Bool:=((fmO s).2.1 == 0) && ((fmO s).1 == s)
theorem z4q {t t':Pt}(h:smP t t'):prnO t=prnO t':=by
 unfold prnO;rw[zl2 t t' 0 h,zxk t t' h]
def ndD (k:Int):Nat:=if k=14∨k=15∨k=18∨k=27 then 2 else if k=3∨k=4∨k=6∨k=8∨k=9∨k=12∨k=17∨k=19∨k=24∨k=25∨k=26 then 1 else 0
def kdE (k:Int) (d:Nat):Nat:=if k=13∨k=5 then d+1 else if k=1∨k=12∨(24<=k∧k<=27) then 0 else d
def wiD (k:Int) (x:ByteArray) (h:Int × ByteArray) (o:List UInt8) (i:Nat):List UInt8:=if nedD k x h i then[40]++o++[41] else o
def wiL (k:Int) (x:ByteArray) (hs:List (Int × ByteArray)) (os:List (List UInt8)) (i:Nat):List UInt8:=wiD k x (hs.getD i (0,⟨#[]⟩)) (os.getD i []) i
def coD:List (List UInt8)->List UInt8 | []=>[] | o::r=>o++(r.map ([44,32]++·)).flatten
def liD (d:Nat) (os:List (List UInt8)):List UInt8:=(os.map fun o=>List.replicate d 9++o++[10]).flatten
def stE (a:List UInt8 × List UInt8 × List UInt8) (h:Int × ByteArray) (o:List UInt8):List UInt8 × List UInt8 × List UInt8 :=
 if h.1=8 then(a.1++[40]++o++[41,32],a.2.1,a.2.2)
 else if h.1=9 then(a.1,(if a.2.1=[] then[] else a.2.1++[44,32])++o,a.2.2)
 else(a.1,a.2.1,a.2.2++[32]++o)
def foE (a:List UInt8 × List UInt8 × List UInt8):List (Int × ByteArray)->List (List UInt8)->List UInt8 × List UInt8 × List UInt8
 | h::hs,o::os=>foE (stE a h o) hs os
 | _,_=>a
def fuD (x:ByteArray) (hs:List (Int × ByteArray)) (os:List (List UInt8)):List UInt8 :=
 (foE ([102,117,110,99,32],[],[]) hs os).1++x.data.toList++[40]++(foE ([102,117,110,99,32],[],[]) hs os).2.1++[41]++(foE ([102,117,110,99,32],[],[]) hs os).2.2
def fiE:Bool->List (Int × ByteArray)->List (List UInt8)->List UInt8
 | was,h::hs,o::os=>(if h.1≠2∨was=false then[10] else[])++(o++[10])++fiE (h.1 == 2) hs os
 | _,_,_=>[]
def dtK (d:Nat) (k:Int) (x:ByteArray) (n:Int) (hs:List (Int × ByteArray)) (os:List (List UInt8)):List UInt8 :=
 if k=20 then Lib.itoa n else if k=21 then(quoT x).data.toList
 else if k=12∨k=24 then wiL k x hs os 0++[46]++x.data.toList
 else if k=25 then wiL k x hs os 0++[40]++coD (os.drop 1)++[41]
 else if k=26 then x.data.toList++wiL k x hs os 0
 else if k=27 then wiL k x hs os 0++[32]++x.data.toList++[32]++wiL k x hs os 1
 else if k=13 then[123,10]++liD (d+1) os++List.replicate d 9++[125]
 else if k=5 then[116,121,112,101,32]++x.data.toList++[32,115,116,114,117,99,116,32,123,10]++liD (d+1) os++List.replicate d 9++[125]
 else if k=6∨k=8∨k=9 then x.data.toList++[32]++os.getD 0 []
 else if k=3 then[99,111,110,115,116,32]++x.data.toList++[32,61,32]++os.getD 0 []
 else if k=4 then if 1<os.length then[118,97,114,32]++x.data.toList++[32]++os.getD 0 []++[32,61,32]++os.getD 1 [] else[118,97,114,32]++x.data.toList++[32]++os.getD 0 []
 else if k=7 then fuD x hs os
 else if k=14 then if 2<os.length then[105,102,32]++os.getD 0 []++[32]++os.getD 1 []++[32,101,108,115,101,32]++os.getD 2 [] else[105,102,32]++os.getD 0 []++[32]++os.getD 1 []
 else if k=15 then[102,111,114,32]++os.getD 0 []++[32]++os.getD 1 []
 else if k=16 then if 0<os.length then[114,101,116,117,114,110,32]++os.getD 0 [] else[114,101,116,117,114,110]
 else if k=17 then x.data.toList++[32,58,61,32]++os.getD 0 []
 else if k=18 then os.getD 0 []++[32,61,32]++os.getD 1 []
 else if k=19 then os.getD 0 []
 else if k=2 then[105,109,112,111,114,116,32]++(quoT x).data.toList
 else if k=1 then[112,97,99,107,97,103,101,32]++x.data.toList++[10]++fiE false hs os
 else x.data.toList
mutual
def dtP (d:Nat):Pt->List UInt8 | .mk k x n _ _ _ l=>dtK d k x n (l.map hdP) (dtM (kdE k d) l)
def dtM (d:Nat):List Pt->List (List UInt8) | []=>[] | t::r=>dtP d t::dtM d r
end
theorem zun (d:Nat):∀ l:List Pt,dtM d l=l.map (dtP d)
 | []=>by rw[dtM];rfl
 | t::r=>by rw[dtM,zun d r];rfl
theorem zc1 (d:Nat)(k n a f e:Int)(x:ByteArray)(l:List Pt):dtP d (.mk k x n a f e l)=dtK d k x n (l.map hdP) (l.map (dtP (kdE k d))):=by rw[dtP,zun]
mutual
theorem z1x:∀ (t t':Pt)(d:Nat),smP t t'->dtP d t=dtP d t'
 | .mk k x n a f e l,.mk k' x' n' a' f' e' l',d,h=>by
  unfold smP at h;obtain⟨rfl,rfl,rfl,h4⟩:=h;rw[dtP,dtP,zl1 l l' h4,zzf l l' _ h4]
theorem zzf:∀ (l l':List Pt)(d:Nat),smL l l'->dtM d l=dtM d l'
 | [],[],_,_=>rfl
 | [],_::_,_,h=>by unfold smL smP.go at h;exact h.elim
 | _::_,[],_,h=>by unfold smL smP.go at h;exact h.elim
 | t::r,t'::r',d,h=>by
  unfold smL smP.go at h;rw[dtM,dtM,z1x t t' d h.1,zzf r r' d h.2]
end
def Dq (u:Pt):Prop:=∀ d,dtP d u=rn (prP d u)
theorem zl3 {k:Int}{x:ByteArray}{d i:Nat}{u:Pt}(h:Dq u)(hd:∀ d,prP d u=prP 0 u)(hn:nedD k x (hdP u) i=nedQ k x (hdP u) i):wiD k x (hdP u) (dtP 0 u) i=rn (opeI k x d u i):=by
 unfold wiD opeI;rw[hn,h 0,hd d]
 split
 ·simp[pBrk,pPar,zac,zaf,zcv,sg,Pe.bs,sgT,tkW,strU]
 ·rfl
theorem z4r {d:Nat}{l:List Pt}(h:∀ u ∈ l,Dq u)(hd:∀ u ∈ l,prP d u=prP 0 u):coD (l.map (dtP 0))=rn (pPar [sg [44],sp] (l.map (prP d))):=by
 cases l with
 | nil=>simp[coD,pPar,zcv]
 | cons u r=>
  rw[List.map_cons,List.map_cons,coD,pPar,zac,h u (by simp) 0,hd u (by simp)]
  congr 1
  have h':∀ v ∈ r,Dq v:=fun v hv=>h v (by simp[hv]);have hd':∀ v ∈ r,prP d v=prP 0 v:=fun v hv=>hd v (by simp[hv]);clear h hd
  induction r with
  | nil=>simp[zcv]
  | cons v r ih=>
   simp only[List.map_cons,List.flatten_cons,zac];rw[ih (fun w hw=>h' w (by simp[hw])) (fun w hw=>hd' w (by simp[hw])),h' v (by simp) 0,hd' v (by simp)];simp[zaf,zcv,sg,sp,Pe.bs,sgT,tkW,strU]
theorem zzg (d:Nat):rn (tb d)=List.replicate d 9:=by
 unfold tb
 induction d with
 | zero=>rfl
 | succ d ih=>rw[List.replicate_succ,List.replicate_succ,zaf,ih];rfl
theorem z4s {d:Nat}{l:List Pt}(h:∀ u ∈ l,Dq u):liD d (l.map (dtP d))=rn (pLin d (l.map (prP d))):=by
 induction l with
 | nil=>simp[liD,pLin,zcv]
 | cons u r ih=>
  have:=ih fun v hv=>h v (by simp[hv]);unfold liD pLin at this ⊢;simp only[List.map_cons,List.flatten_cons,zac];rw[this,h u (by simp) d];rw[zzg];simp[zaf,zcv,Pe.bs]
theorem zuo {d:Nat}{l:List Pt}(h:∀ u ∈ l,Dq u):[123,10]++liD (d+1) (l.map (dtP (d+1)))++List.replicate d 9++[125]=rn (pBra d (l.map (prP (d+1)))):=by
 unfold pBra;rw[zac,zac,zac,<-z4s h,zzg];simp[zaf,zcv,sg,fe,Pe.bs,sgT,tkW,strU]
theorem zep {e:Pt}(h:Ex e):Dq e:=by
 induction h with
 | int _ _=>intro d;rw[zc1,zyw];simp[dtK,zaf,zcv,Pe.bs,nuT,tkW]
 | text _ _=>intro d;rw[zc1,zt1];simp[dtK,zaf,zcv,Pe.bs,tkW]
 | bool _=>intro d;rw[zc1,zkp];simp[dtK,zaf,zcv,Pe.bs,tkW]
 | name _ _=>intro d;rw[zc1,zgt];simp[dtK,zaf,zcv,Pe.bs,tkW]
 | @dot x a f t e _ _ he ih=>
  intro d;rw[zc1,zo0,zac,<-zl3 (d:=d) ih (ex_d he) (zo3 (.inl rfl))];simp[dtK,kdE,wiL,zaf,zcv,Pe.bs,sg,sgT,tkW,strU]
 | @call a f t e l he hl ih il=>
  intro d;rw[zc1,zkq,zac,<-zl3 (d:=d) ih (ex_d he) (zo3 (.inr rfl)),pBrk,zac,zac,<-z4r il fun u hu=>ex_d (hl u hu) d];simp[dtK,kdE,wiL,zaf,zcv,Pe.bs,sg,sgT,tkW,strU]
 | @una x a f t e _ he ih=>
  intro d;rw[zc1,zo1,zaf,<-zl3 (d:=d) ih (ex_d he) z1j];simp[dtK,kdE,wiL,Pe.bs,tkW]
 | @bin x a f t u v hx hu hv ihu ihv=>
  intro d;have row:∀ {e:Pt},Ex e->(hdP e).1=27->0<=rowI (hdP e).2:=fun {e} h h1=>by
   cases h <;> first|(simp[hdP] at h1;done) | assumption
  rw[zc1,zo2,zac,<-zl3 (d:=d) ihu (ex_d hu) (zt3 hx (row hu) (by decide)),zaf,zaf,zaf,<-zl3 (d:=d) ihv (ex_d hv) (zt3 hx (row hv) (by decide))];simp[dtK,kdE,wiL,Pe.bs,sp,tkW]
theorem zl4 {e:Pt}(h:Ty e):Dq e:=by
 cases h with
 | basic _=>intro d;rw[zc1,zyx];simp[dtK,zaf,zcv,Pe.bs,tkW]
 | named _ _=>intro d;rw[zc1,zfc];simp[dtK,zaf,zcv,Pe.bs,tkW]
 | @far x y a f t a' f' t' _ h2 h3=>
  intro d;rw[zc1,zlx];have h:=zep (.name (a:=a') (f:=f') (t:=t') h2 h3) 0;rw[zgt] at h;simp[dtK,kdE,wiL,wiD,nedD,h,zaf,zcv,Pe.bs,sg,sgT,tkW,strU]
theorem zgu {a f t:Int}{l:List Pt}(h:∀ u ∈ l,Dq u):Dq (.mk 13 ⟨#[]⟩ 0 a f t l):=fun d=>by rw[zc1,z30,<-zuo h];simp[dtK,kdE]
theorem zo8 {e:Pt}(h:St e):Dq e:=by
 induction h with
 | block _ ih=>exact zgu ih
 | loop hc _ ih=>
  intro d;rw[zc1,z1d,zaf,zaf,zac,zaf,<-zep hc d,<-zgu ih d];simp[dtK,kdE,Pe.bs,sp,wd,wdT,tkW,strU]
 | if1 hc _ ih=>
  intro d;rw[zc1,z31,zaf,zaf,zac,zaf,<-zep hc d,<-zgu ih d];simp[dtK,kdE,Pe.bs,sp,wd,wdT,tkW,strU]
 | if2 hc _ _ ih ih'=>
  intro d;rw[zc1,zyy,zaf,zaf,zac,zaf,zac,zaf,zaf,zaf,<-zep hc d,<-zgu ih d,<-zgu ih' d];simp[dtK,kdE,Pe.bs,sp,wd,wdT,tkW,strU]
 | if3 hc _ _ _ ih ih'=>
  intro d;rw[zc1,zyy,zaf,zaf,zac,zaf,zac,zaf,zaf,zaf,<-zep hc d,<-zgu ih d,<-ih' d];simp[dtK,kdE,Pe.bs,sp,wd,wdT,tkW,strU]
 | var1 _ hv=>
  intro d;rw[zc1,z1e,zaf,zaf,zaf,zaf,<-zl4 hv d];simp[dtK,kdE,Pe.bs,sp,wd,wdT,tkW,strU]
 | var2 _ hv he=>
  intro d;rw[zc1,z1f,zaf,zaf,zaf,zaf,zac,zaf,zaf,zaf,<-zl4 hv d,<-zep he d];simp[dtK,kdE,Pe.bs,sp,wd,wdT,sg,sgT,tkW,strU]
 | res0=>intro d;rw[zc1,z1g];simp[dtK,zaf,zcv,Pe.bs,wd,wdT,tkW,strU]
 | res1 he=>
  intro d;rw[zc1,z1h,zaf,zaf,<-zep he d];simp[dtK,kdE,Pe.bs,sp,wd,wdT,tkW,strU]
 | short _ _ he=>
  intro d;rw[zc1,zxb,zaf,zaf,zaf,zaf,<-zep he d];simp[dtK,kdE,Pe.bs,sp,sg,sgT,tkW,strU]
 | assign he hu=>
  intro d;rw[zc1,zt2,zac,zaf,zaf,zaf,<-zep he d,<-zep hu d];simp[dtK,kdE,Pe.bs,sp,sg,sgT,tkW,strU]
 | expr he=>
  intro d;rw[zc1,z1i,<-zep he d];simp[dtK,kdE]
theorem zup {k:Int}(hk:k=6∨k=9){u:Pt}(h:Pm k u):Dq u:=by
 obtain⟨y,v,a,f,t,rfl,-,-,hv⟩:=h;intro d;rw[zc1,z1c (by omega),zaf,zaf,<-zl4 hv d];rcases hk with rfl|rfl <;> simp[dtK,kdE,Pe.bs,sp,tkW]
theorem zzh {rs:List Pt}(h:ReL rs):∀ u ∈ rs,Dq u:=by
 rcases h with rfl|⟨y,z,a,f,t,a',f',t',rfl,-,-⟩
 ·simp
 ·intro u hu d;obtain rfl:=List.mem_singleton.1 hu;rw[zc1,z1c (by omega),zaf,zaf,zfc,List.map_cons,List.map_nil,List.map_cons,List.map_nil,zc1];simp[dtK,zaf,zcv,Pe.bs,sp,tkW]
theorem zzi {d:Nat}:∀ (l:List Pt)(a:List UInt8 × List UInt8 × List UInt8),(∀ u ∈ l,Dq u)->foE a (l.map hdP) (l.map (dtP d))=l.foldl (stD d) a
 | [],a,_=>rfl
 | u::r,a,h=>by
  rw[List.map_cons,List.map_cons,foE,List.foldl_cons,zzi r _ fun v hv=>h v (by simp[hv])]
  congr 1
  unfold stE stD;rw[h u (by simp) d]
theorem zzj {e:Pt}(h:Dc e):Dq e:=by
 cases h with
 | con _ hv=>
  intro d;rw[zc1,z32,zaf,zaf,zaf,zaf,zaf,zaf,<-zep (z38 hv) d];simp[dtK,kdE,Pe.bs,sp,wd,wdT,sg,sgT,tkW,strU]
 | var1 h1 h2=>exact zo8 (.var1 h1 h2)
 | var2 h1 h2 h3=>exact zo8 (.var2 h1 h2 h3)
 | str _ hl=>
  intro d;rw[zc1,z33,zaf,zaf,zaf,zaf,zaf,zaf,<-zuo fun u hu=>zup (.inl rfl) (hl u hu)];simp[dtK,kdE,Pe.bs,sp,wd,wdT,tkW,strU]
 | @fn a f t x rs ps ys b h0 h0' h1 h2 h3 h4=>
  intro d;have hall:∀ u ∈ rs++ps++ys++[b],Dq u:=fun u hu=>by
   simp only[List.mem_append,List.mem_singleton] at hu;rcases hu with((hu|hu) | hu) | rfl
   ·exact zzh h1 u hu
   ·exact zup (.inr rfl) (h2 u hu)
   ·rcases h3 with rfl|⟨w,rfl,hw⟩
    ·simp at hu
    ·obtain rfl:=List.mem_singleton.1 hu;exact zl4 hw
   ·exact zo8 (z39 h4)
  rw[zc1,<-z1l h1 h2 h3 h4];have hk:kdE 7 d=d:=by simp[kdE]
  have e:dtK d 7 x 0 ((rs++ps++ys++[b]).map hdP) ((rs++ps++ys++[b]).map (dtP (kdE 7 d)))=fuD x ((rs++ps++ys++[b]).map hdP) ((rs++ps++ys++[b]).map (dtP d)):=by rw[hk];simp[dtK]
  rw[e,fuD,zzi _ _ hall]
theorem zuq:∀ (l:List Pt)(was:Bool),(∀ u ∈ l,Dq u)->fiE was (l.map hdP) (l.map (dtP 0))=fiD was l
 | [],_,_=>rfl
 | u::r,was,h=>by
  rw[List.map_cons,List.map_cons,fiE,fiD,zuq r _ fun v hv=>h v (by simp[hv]),h u (by simp) 0]
theorem zzk {u:Pt}(h:Im u):Dq u:=by
 obtain⟨y,a,f,t,rfl,-⟩:=h;intro d;rw[zc1,prP,zca];simp[dtK,prK,zaf,zcv,Pe.bs,sp,wd,wdT,tkW,strU]
theorem zo9 {t:Pt}(h:FiT t):dtP 0 t=rn (prP 0 t):=by
 obtain⟨x,a,f,e,is,ds,rfl,-,hi,hd⟩:=h;have hall:∀ u ∈ is++ds,Dq u:=fun u hu=>by
  rcases List.mem_append.1 hu with hu|hu
  ·exact zzk (hi u hu)
  ·exact zzj (hd u hu)
 have hid:∀ u ∈ is,(hdP u).1=2:=fun u hu=>by obtain⟨y,a,f,t,rfl,-⟩:=hi u hu;rfl
 have hdd:∀ u ∈ ds,(hdP u).1≠2:=fun u hu=>by
  have:=hd u hu
  cases this <;> simp[hdP]
 have e1:prP 0 (.mk 1 x 0 a f e (is++ds))=wd [112,97,99,107,97,103,101]::sp::.t (tkW 1 x)::.e::pFiK 0 true ((is++ds).map hdP) ((is++ds).map (prP 0)):=by
  rw[prP,zca];simp[prK,kdD]
 have e2:dtP 0 (.mk 1 x 0 a f e (is++ds))=[112,97,99,107,97,103,101,32]++x.data.toList++[10]++fiE false ((is++ds).map hdP) ((is++ds).map (dtP 0)):=by
  rw[zc1];have:kdE 1 0=0:=by simp[kdE]
  rw[this];simp[dtK]
 rw[e1,e2,zuq _ _ hall,z36 is ds hid hdd];simp[zaf,Pe.bs,sp,wd,wdT,tkW,strU]
theorem z4t {u:Pt}(h:Gr u):dtP 0 u=rn (prP 0 u):=by
 cases h with
 | file h=>exact zo9 h
 | imp h=>exact zzk h 0
 | decl h=>exact zzj h 0
 | pm hk h=>exact zup hk h 0
 | @recv y z a f t a' f' t' h1 h2=>exact zzh (rs:=[.mk 8 y 0 a f t [.mk 11 z 0 a' f' t' []]]) (.inr ⟨y,z,a,f,t,a',f',t',rfl,h1,h2⟩) _ (by simp) 0
 | named h=>rw[zc1,zfc];simp[dtK,zaf,zcv,Pe.bs,tkW]
 | ty h=>exact zl4 h 0
 | st h=>exact zo8 h 0
 | ex h=>exact zep h 0
mutual
def arE:Pt->Prop | .mk k x n _ _ _ l=>(ndD k<=l.length∧x.size<=100000∧0<=n∧n<=9223372036854775807)∧arEL l
def arEL:List Pt->Prop | []=>True|t::r=>(arE t∧(hdP t).1≠1)∧arEL r
end
theorem zpa:∀ {l:List Pt},arEL l ↔ ∀ u ∈ l,arE u∧(hdP u).1≠1
 | []=>by simp[arEL]
 | t::r=>by simp[arEL,zpa (l:=r)]
theorem z55 {k n a f e:Int}{x:ByteArray}{l:List Pt}(h:Gr (.mk k x n a f e l)):ndD k<=l.length:=by
 generalize ht:Pt.mk k x n a f e l=t at h
 cases h with
 | file h=>obtain⟨y,a',f',e',is,ds,e1,-⟩:=h;rw[<-ht] at e1;injection e1 with e1 _ _ _ _ _ e2;subst e1 e2;simp[ndD]
 | imp h=>obtain⟨y,a',f',e',e1,-⟩:=h;rw[<-ht] at e1;injection e1 with e1 _ _ _ _ _ e2;subst e1 e2;simp[ndD]
 | decl h=>subst ht;cases h <;> simp[ndD]
 | pm hk h=>
  obtain⟨y,w,a',f',e',e1,-⟩:=h;rw[<-ht] at e1;injection e1 with e1 _ _ _ _ _ e2;subst e1 e2;rcases hk with rfl|rfl <;> simp[ndD]
 | recv h1 h2=>injection ht with e1 _ _ _ _ _ e2;subst e1 e2;simp[ndD]
 | named h=>injection ht with e1 _ _ _ _ _ e2;subst e1 e2;simp[ndD]
 | ty h=>subst ht;cases h <;> simp[ndD]
 | st h=>subst ht;cases h <;> simp[ndD]
 | ex h=>subst ht;cases h <;> simp[ndD]
mutual
theorem zur:∀ (t:Pt),Gr t->okP t->arE t
 | .mk k x n a f e l,h,ho=>by
  rw[okP] at ho;rw[arE];exact⟨⟨z55 h,by have:=ho.1.s;omega,ho.1.r⟩,zus l (fun v hv=>⟨(zm8 h hv).g,(zm8 h hv).n⟩) ho.2⟩
theorem zus:∀ (l:List Pt),(∀ v ∈ l,Gr v∧(hdP v).1≠1)->okL l->arEL l
 | [],_,_=>by rw[arEL];trivial
 | t::r,h,ho=>by
  rw[okL] at ho;rw[arEL];exact⟨⟨zur t (h t (by simp)).1 ho.1,(h t (by simp)).2⟩,zus r (fun v hv=>h v (by simp[hv])) ho.2⟩
end
mutual
theorem zut:∀ (t t':Pt),smP t t'->arE t'->arE t
 | .mk k x n a f e l,.mk k' x' n' a' f' e' l',h,h'=>by
  unfold smP at h;obtain⟨rfl,rfl,rfl,h4⟩:=h;rw[arE] at h' ⊢;refine⟨⟨?_,h'.1.2⟩,zuu l l' h4 h'.2⟩;have:=congrArg List.length (zl1 l l' h4);rw[List.length_map,List.length_map] at this;rw[this];exact h'.1.1
theorem zuu:∀ (l l':List Pt),smL l l'->arEL l'->arEL l
 | [],[],_,_=>by rw[arEL];trivial
 | [],_::_,h,_=>by unfold smL smP.go at h;exact h.elim
 | _::_,[],h,_=>by unfold smL smP.go at h;exact h.elim
 | t::r,t'::r',h,h'=>by
  unfold smL smP.go at h;rw[arEL] at h' ⊢;exact⟨⟨zut t t' h.1 h'.1.1,by rw[zxj t t' h.1];exact h'.1.2⟩,zuu r r' h.2 h'.2⟩
end
theorem z1y {u t:Pt}(h:Sub u t):arE t->arE u:=by
 induction h with
 | self=>exact id
 | kid hv _ ih=>
  intro ha;rw[arE] at ha;exact ih (zpa.1 ha.2 _ hv).1
set_option maxHeartbeats 4000000
structure Dn (w0:World) (bn on:Nat) (L:List Nd) (i:Nat) (k:Int) (x:ByteArray) (n:Int) (l:List Pt) (sk:Option Addr) (kc:Nat) (a f e:Int):Prop where
 hi:i<L.length
 c:∀ W,Below w0.heap.size w0 W->W.cell? ⟨bn,on+i * 7,none⟩=some (.int .i64 k)∧W.cell? ⟨bn,on+i * 7+1,none⟩=some (.string x)∧W.cell? ⟨bn,on+i * 7+2,none⟩=some (.int .i64 n)∧W.cell? ⟨bn,on+i * 7+3,none⟩=some (.slice sk l.length kc)∧W.cell? ⟨bn,on+i * 7+4,none⟩=some (.int .i64 a)∧W.cell? ⟨bn,on+i * 7+5,none⟩=some (.int .i64 f)∧W.cell? ⟨bn,on+i * 7+6,none⟩=some (.int .i64 e)
 s:l.length<=100000∧l.length<=kc∧kc<=maxLen∧(sk=none->kc=0)
 kid:∀ j t,l[j]?=some t->∃ b o kj,sk=some ⟨b,o,none⟩∧Emb L kj t∧kj<L.length∧∀ W,Below w0.heap.size w0 W->W.cell? ⟨b,o+j,none⟩=some (.int .i64 kj)
theorem zft {w0:World}{sn:Option Addr}{cn:Nat}{L:List Nd}(hE:EnW w0 (.slice sn L.length cn) L):∀ {i:Nat}{k n a f e:Int}{x:ByteArray}{l:List Pt},Emb L i (.mk k x n a f e l)->∃ bn on sk kc,sn=some ⟨bn,on,none⟩∧Dn w0 bn on L i k x n l sk kc a f e:=by
 intro i k n a f e x l he;have hL:L[i]?=some ⟨k,x,n,kidI (i+1) l,a,f,e⟩:=by
  have:=he 0 _ (by rw[layP];rfl);simpa using this
 have hiL:i<L.length:=(List.getElem?_eq_some_iff.1 hL).1;obtain⟨sn',cn',N,S,hnv,hN,hR⟩:=hE.x;injection hnv with e1 _ e2;subst e1 e2;obtain⟨m,hm⟩:∃ m,N[i]?=some m:=⟨_,List.getElem?_eq_getElem (by have:=hR.1;omega)⟩;obtain⟨h1,h2,h3,h4,-⟩:=hR.2 i m _ hm hL;obtain⟨bn,on,hsn,-⟩:=hN (by have:=hR.1;omega);subst hsn;have hk2:m.kn=l.length:=by rw[h2];exact zcm _ l
 refine⟨bn,on,m.ks,m.kc,rfl,hiL,fun W hb=>?_,⟨?_,?_,h4.2.2,fun e=>(h4.1 e).2⟩,fun j t ht=>?_⟩
 ·have:=zai (hN.below hb) hm;rw[h1.1,h1.2.1,h1.2.2.1,h1.2.2.2.1,h1.2.2.2.2.1,h1.2.2.2.2.2,hk2] at this;exact this
 ·have h6:=zbt (Pt.mk k x n a f e l) i;have h7:=hE.l;have hc:=zgo l;have h8:(layP i (Pt.mk k x n a f e l)).length<=L.length:=by
   have h9:=he ((layP i (Pt.mk k x n a f e l)).length - 1);have h10:0<(layP i (Pt.mk k x n a f e l)).length:=by rw[h6,cntP];omega
   have:=h9 _ (List.getElem?_eq_getElem (by omega));have:=(List.getElem?_eq_some_iff.1 this).1;omega
  rw[h6,cntP] at h8;omega
 ·have:=h4.2.1;omega
 ·have hj:j<l.length:=(List.getElem?_eq_some_iff.1 ht).1;obtain⟨kj,hkj⟩:∃ kj,(kidI (i+1) l)[j]?=some kj:=⟨_,List.getElem?_eq_getElem (by rw[zcm];exact hj)⟩;obtain⟨b,o,hs,-⟩:=h3 (by rw[zcm];omega);have hem:Emb L kj t:=zf9 l (i+1) (fun j d hd=>by
   have:=he (1+j) d (by rw[layP,show 1+j=j+1 by omega,List.getElem?_cons_succ];exact hd);rw[<-Nat.add_assoc] at this;exact this) j kj t hkj ht
  refine⟨b,o,kj,hs,hem,?_,fun W hb=>?_⟩
  ·obtain⟨d,hd,-⟩:=hem.hd;exact(List.getElem?_eq_some_iff.1 hd).1
  ·have h5:=h3.below hb;rw[hs] at h5;have:=za9 h5 j (by rw[List.length_map,zcm];exact hj);rw[List.getD_eq_getElem?_getD,List.getElem?_map,hkj] at this;simpa using this
def DtC (w0:World) (sn:Option Addr) (cn:Nat) (L:List Nd) (t:Pt):Prop:=∀ (d i:Nat) (W:World),Emb L i t->Below w0.heap.size w0 W->d+cntP t<=100000->(dtP d t).length<=1000000000000 ->
 Calls Tryz.prog 28 #[.agg #[.slice sn L.length cn],.int .i64 i,.int .i64 d] W fun e w'=>e=.returned (.string (strU (dtP d t)))∧Below W.heap.size W w'
theorem zgh (a b:List UInt8):strU a++strU b=strU (a++b):=by
 unfold strU;apply ByteArray.ext;simp
theorem zb9 (W:World) (A B:Array Value)(ta tb:TypeId):((W.alloc (.cells A ta)).alloc (.cells B tb)).heap[W.heap.size]?=some (.cells A ta (0,0))∧((W.alloc (.cells A ta)).alloc (.cells B tb)).heap[W.heap.size+1]?=some (.cells B tb (0,0))∧Below W.heap.size W ((W.alloc (.cells A ta)).alloc (.cells B tb)):=by
 have h:=heap_alloc_new (W.alloc (.cells A ta)) (.cells B tb);rw[World.size_alloc] at h;exact⟨(((Below.refl (W.alloc (.cells A ta)).heap.size _).alloc (Nat.le_refl _) _).block _ (by simp)).trans (heap_alloc_new W _),h,((Below.refl _ _).alloc (Nat.le_refl _) _).alloc (by simp) _⟩
theorem zan (a b:List UInt8):strU (a++b)=strU a++strU b:=(zgh a b).symm
theorem zaw (x:ByteArray):strU x.data.toList=x:=by
 unfold strU;apply ByteArray.ext;simp
theorem zgv (d:Nat)(w:World)(hd:d<=1000000):Calls Tryz.prog 55 #[.int .i64 d] w fun e w'=>e=.returned (.string (strU (List.replicate d 9)))∧w'=w:=by
 go_enter Tryz.func55,Tryz.ntmps55
 go_wp2
 go_loopw [3,5] (fun s i wr=>∃ q:Nat,q<=d∧i=.int .i64 q∧s=.string (strU (List.replicate q 9))∧wr=w) (fun _ i _=>d - (intOf i).toNat)
 case atStart=>exact⟨0,Nat.zero_le _,rfl,rfl,rfl⟩
 case round=>
  obtain⟨q,hq,rfl,rfl,rfl⟩:=hrel
  by_cases hlt:q<d
  ·have hd1:decide ((q:Int)<(d:Int))=true:=by simp;omega
   have RR:Hid ((∃ q':Nat,q'<=d∧Value.int .i64 ((q:Int)+1)=.int .i64 q'∧Value.string (strU (List.replicate q 9)++⟨#[9]⟩)=.string (strU (List.replicate q' 9))∧True)∧d - (intOf (.int .i64 ((q:Int)+1))).toNat<d - (intOf (.int .i64 (q:Int))).toNat):=by
    refine⟨⟨q+1,by omega,by go_num,?_,trivial⟩,by simp[intOf];omega⟩;rw[show(⟨#[9]⟩:ByteArray)=strU [9] from rfl,zgh,List.replicate_succ']
   have hsz:(strU (List.replicate q 9)).size<=1000000:=by rw[zad,List.length_replicate];omega
   generalize strU (List.replicate q 9)=S at *
   go_wp2
   exact RR.out
  ·have hd1:decide ((q:Int)<(d:Int))=false:=by simp;omega
   obtain rfl:q=d:=by omega
   go_wp2
   go_ret
   exact⟨rfl,rfl⟩
theorem zih (x:ByteArray)(w:World):Calls Tryz.prog 88 #[.string x] w fun e w'=>e=.returned (.int .i64 (rowD x))∧w'=w:=by
 have HX:Hid (rowD x=if x.toList == [124,124] then 1 else if x.toList == [38,38] then 2 else if (x.toList == [43]) || (x.toList == [45]) then 4
  else if (x.toList == [42]) || (x.toList == [47]) || (x.toList == [37]) then 5 else 3):=by
  show _=_;unfold rowD;rw[ByteArray.toList_eq]
 cases a1:(x.toList == [124,124])
 rotate_left
 focus (
  rw[a1] at HX
  go_enter Tryz.func88,Tryz.ntmps88
  go_wp2
  go_ret
  exact⟨by rw[HX.out];rfl,rfl⟩)
 cases a2:(x.toList == [38,38])
 rotate_left
 focus (
  rw[a1,a2] at HX
  go_enter Tryz.func88,Tryz.ntmps88
  go_wp2
  go_ret
  exact⟨by rw[HX.out];rfl,rfl⟩)
 cases a3:(x.toList == [43])
 rotate_left
 focus (
  rw[a1,a2,a3] at HX
  go_enter Tryz.func88,Tryz.ntmps88
  go_wp2
  go_ret
  exact⟨by rw[HX.out];rfl,rfl⟩)
 cases a4:(x.toList == [45])
 rotate_left
 focus (
  rw[a1,a2,a3,a4] at HX
  go_enter Tryz.func88,Tryz.ntmps88
  go_wp2
  go_ret
  exact⟨by rw[HX.out];rfl,rfl⟩)
 cases a5:(x.toList == [42])
 rotate_left
 focus (
  rw[a1,a2,a3,a4,a5] at HX
  go_enter Tryz.func88,Tryz.ntmps88
  go_wp2
  go_ret
  exact⟨by rw[HX.out];rfl,rfl⟩)
 cases a6:(x.toList == [47])
 rotate_left
 focus (
  rw[a1,a2,a3,a4,a5,a6] at HX
  go_enter Tryz.func88,Tryz.ntmps88
  go_wp2
  go_ret
  exact⟨by rw[HX.out];rfl,rfl⟩)
 cases a7:(x.toList == [37])
 rotate_left
 focus (
  rw[a1,a2,a3,a4,a5,a6,a7] at HX
  go_enter Tryz.func88,Tryz.ntmps88
  go_wp2
  go_ret
  exact⟨by rw[HX.out];rfl,rfl⟩)
 rw[a1,a2,a3,a4,a5,a6,a7] at HX
 go_enter Tryz.func88,Tryz.ntmps88
 go_wp2
 go_ret
 exact⟨by rw[HX.out];rfl,rfl⟩
end Go.Proofs.YtabiangdmibocaaGreatDoor
