import Derived.Test.YtabiangdmibocaaGreatDoorUnN
import Derived.Test.YtabiangdmibocaaGreatDoorUnC
namespace Go.Proofs.YtabiangdmibocaaGreatDoor
set_option maxRecDepth 100000
set_option maxHeartbeats 4000000
open Go.RowKit
def Emb (L:List Nd) (i:Nat) (t:Pt):Prop:=∀ j d,(layP i t)[j]?=some d->L[i+j]?=some d
def NodC (w0:World) (g:Nat) (nv:Value) (L:List Nd) (t:Pt):Prop:=∀ (i:Nat) (w:World) (v:Value) (out:List Tok),Emb L i t->Wr w0 g nv w v out->out.length+12 * cntP t<=900000 ->
 Calls Tryz.prog 113 #[.pointer (some ⟨g,0,none⟩),.int .i64 i] w fun e w'=>e=.returned (.tuple #[])∧Wp w0 g nv w v (out++wrP t) w'
structure KsA (w0:World) (g:Nat) (nv:Value) (L:List Nd) (sk:Option Addr) (ks:List Nat) (ts:List Pt):Prop where
 r:RowsAt w0 1 intC sk ks
 l:ks.length=ts.length
 e:∀ (j:Nat) k t,ks[j]?=some k->ts[j]?=some t->Emb L k t
 n:∀ t ∈ ts,NodC w0 g nv L t
 s:ks.length<=100000
theorem zhz (k:Int):∀ hs:List (Int × ByteArray),cutN k hs<=hs.length
 | []=>Nat.le_refl _
 | h::r=>by
  rw[cutN];have:=zhz k r
  split <;> simp <;> omega
theorem zmo (os:List (List Tok)):(wBrk os).length<=2+(os.map (fun o=>o.length+1)).sum:=by
 cases os with
 | nil=>simp[wBrk,wPar]
 | cons o r=>
  have h:((r.map (sgT [44]::·)).flatten).length=(r.map (fun o=>o.length+1)).sum:=by
   induction r with
   | nil=>rfl
   | cons a b ih=>simp[ih];omega
  simp only[wBrk,wPar,List.length_append,List.length_cons,List.length_nil,h,List.map_cons,List.sum_cons];omega
theorem zmp (s:List UInt8)(os:List (List Tok)):(wPar s os).length<=(os.map (fun o=>o.length+1)).sum:=by
 cases os with
 | nil=>simp[wPar]
 | cons o r=>
  have h:((r.map (sgT s::·)).flatten).length=(r.map (fun o=>o.length+1)).sum:=by
   induction r with
   | nil=>rfl
   | cons a b ih=>simp[ih];omega
  simp only[wPar,List.length_append,h,List.map_cons,List.sum_cons];omega
theorem zkb (os:List (List Tok)):(wEnd os).length=(os.map (fun o=>o.length+1)).sum:=by
 unfold wEnd
 induction os with
 | nil=>rfl
 | cons a b ih=>simp at ih ⊢;omega
theorem zf8 (os:List (List Tok)):os.flatten.length<=(os.map (fun o=>o.length+1)).sum:=by
 induction os with
 | nil=>simp
 | cons a b ih=>simp only[List.flatten_cons,List.length_append,List.map_cons,List.sum_cons];omega
theorem zkc (os:List (List Tok))(n:Nat):((os.take n).map (fun o=>o.length+1)).sum+((os.drop n).map (fun o=>o.length+1)).sum=(os.map (fun o=>o.length+1)).sum:=by
 induction os generalizing n with
 | nil=>simp
 | cons a b ih=>
  cases n with
  | zero=>simp
  | succ n=>
   have:=ih n;simp only[List.take_succ_cons,List.drop_succ_cons,List.map_cons,List.sum_cons];omega
theorem zh0 (os:List (List Tok)):(os.map (fun o=>o.length+1)).sum<=(os.map (fun o=>o.length+3)).sum:=by
 induction os with
 | nil=>simp
 | cons a b ih=>simp only[List.map_cons,List.sum_cons];omega
theorem zi3 (k:Int)(x:ByteArray)(hs:List (Int × ByteArray))(os:List (List Tok))(i:Nat)(n:Nat)(h:∀ o,os[i]?=some o->o.length+2<=n):(wOpe k x hs os i).length<=n:=by
 unfold wOpe
 split
 ·rename_i h' o e1 e2
  have:=h o e2
  split
  ·simp[wBrk,wPar];omega
  ·omega
 ·simp
theorem z0b (k:Int)(x:ByteArray)(hs:List (Int × ByteArray))(os:List (List Tok)):(wOpe k x hs os 0).length+(wOpe k x hs os 1).length<=(os.map (fun o=>o.length+3)).sum∧(wOpe k x hs os 0).length+((os.drop 1).map (fun o=>o.length+1)).sum<=(os.map (fun o=>o.length+3)).sum:=by
 cases os with
 | nil=>
  have h0:=zi3 k x hs [] 0 0 (by simp);have h1:=zi3 k x hs [] 1 0 (by simp);simp only[List.map_nil,List.sum_nil,List.drop_nil];omega
 | cons a r=>
  have h0:=zi3 k x hs (a::r) 0 (a.length+2) (by simp);have h3:=zh0 r
  cases r with
  | nil=>
   have h1:=zi3 k x hs [a] 1 0 (by simp);simp only[List.map_cons,List.map_nil,List.sum_cons,List.sum_nil,List.drop_succ_cons,List.drop_nil];omega
  | cons b r=>
   have h1:=zi3 k x hs (a::b::r) 1 (b.length+2) (by simp);simp only[List.map_cons,List.sum_cons,List.drop_succ_cons,List.drop_zero] at h3 ⊢;omega
theorem z0c (k:Int)(x:ByteArray)(n:Int)(hs:List (Int × ByteArray))(os:List (List Tok)):(wrX k x n hs os).length<=7+(os.map (fun o=>o.length+3)).sum:=by
 obtain⟨h1,h2⟩:=z0b k x hs os;have h3:=zmo (os.drop 1);unfold wrX
 repeat' split
 all_goals (try simp only[List.length_append,List.length_cons,List.length_nil])
 all_goals omega
theorem z0d (k:Int)(x:ByteArray)(n:Int)(hs:List (Int × ByteArray))(os:List (List Tok)):(wrS k x n hs os).length<=7+(os.map (fun o=>o.length+3)).sum:=by
 have h1:=z0c k x n hs os;have h2:=zh0 os;have h3:=zkb os;have h4:=zf8 os;have h5:=zmp [61] os;have h6:(wIf os).length<=1+(os.map (fun o=>o.length+1)).sum:=by
  have a1:=zf8 (os.take 2);have a2:=zf8 (os.drop 2);have a3:=zkc os 2;unfold wIf
  split <;> simp only[List.length_append,List.length_cons,List.length_nil] <;> omega
 unfold wrS
 repeat' split
 all_goals (try simp only[wBra,List.length_append,List.length_cons,List.length_nil])
 all_goals omega
theorem z0e (k:Int)(x:ByteArray)(n:Int)(hs:List (Int × ByteArray))(os:List (List Tok)):(wrK k x n hs os).length<=7+(os.map (fun o=>o.length+3)).sum:=by
 have h1:=z0d k x n hs os;have h2:=zh0 os;have h3:=zkb os;have h4:=zf8 os;have h5:=zmp [61] os;have h6:(wFun x hs os).length<=6+(os.map (fun o=>o.length+1)).sum:=by
  have a1:=zmo (os.take (cutN 8 hs));have a2:=zkc os (cutN 8 hs);have a3:=zmo ((os.drop (cutN 8 hs)).take (cutN 9 (hs.drop (cutN 8 hs))));have a4:=zkc (os.drop (cutN 8 hs)) (cutN 9 (hs.drop (cutN 8 hs)));have a5:=zf8 ((os.drop (cutN 8 hs)).drop (cutN 9 (hs.drop (cutN 8 hs))));unfold wFun
  split <;> simp only[List.length_append,List.length_cons,List.length_nil] <;> omega
 unfold wrK
 repeat' split
 all_goals (try simp only[wBra,List.length_append,List.length_cons,List.length_nil])
 all_goals omega
mutual
theorem zi4:∀ t:Pt,(wrP t).length+5<=12 * cntP t
 | .mk k x n a f t l=>by
  have h1:=z0e k x n (l.map hdP) (wrM l);have h2:=zsb l;rw[wrP,cntP];omega
theorem zsb:∀ l:List Pt,((wrM l).map (fun o=>o.length+3)).sum<=12 * cntL l
 | []=>by simp[wrM]
 | t::r=>by
  have h1:=zi4 t;have h2:=zsb r;rw[wrM,cntL,List.map_cons,List.sum_cons];omega
end
theorem zda:∀ (l:List Pt)(q:Nat),cntL (l.take q)+cntL (l.drop q)=cntL l
 | [],q=>by simp[cntL]
 | t::r,0=>by simp[cntL]
 | t::r,q+1=>by
  have:=zda r q;rw[List.take_succ_cons,List.drop_succ_cons,cntL,cntL];omega
theorem zbq:∀ l:List Pt,(l.map wrP).flatten.length+5 * l.length<=12 * cntL l
 | []=>by simp[cntL]
 | t::r=>by
  have h1:=zi4 t;have h2:=zbq r;rw[List.map_cons,List.flatten_cons,List.length_append,cntL,List.length_cons];omega
theorem zdy {w0 w:World}{g:Nat}{nv v:Value}{out:List Tok}{L:List Nd}(sk:Option Addr)(ck:Nat)(ks:List Nat)(ts:List Pt)(hk:KsA w0 g nv L sk ks ts)(h:Wr w0 g nv w v out)(hl:out.length+12 * cntL ts<=900000) :
  Calls Tryz.prog 150 #[.pointer (some ⟨g,0,none⟩),.slice sk ks.length ck] w fun e w'=>e=.returned (.tuple #[])∧Wp w0 g nv w v (out++(ts.map wrP).flatten) w':=by
 have HW:=hid h;have HK:=hid hk;have hks:=hk.s;clear h hk
 go_enter Tryz.func150,Tryz.ntmps150
 go_wp2
 go_loopw [8] (fun i wr=>∃ q:Nat,q<=ks.length∧i=.int .i64 q∧Wp w0 g nv w v (out++((ts.take q).map wrP).flatten) wr) (fun i _=>ks.length - (intOf i).toNat)
 case atStart=>exact⟨0,Nat.zero_le _,rfl,by simpa using Wp.start HW.out⟩
 case round=>
  obtain⟨q,hq,rfl,v1,h1,o1,q1⟩:=hrel;have hlk:=HK.out.l
  by_cases hlt:q<ks.length
  ·have hd:decide ((q:Int)<ks.length)=true:=by simp;omega
   obtain⟨k,hk⟩:∃ k,ks[q]?=some k:=⟨_,List.getElem?_eq_getElem hlt⟩;obtain⟨t,ht⟩:∃ t,ts[q]?=some t:=⟨_,List.getElem?_eq_getElem (by omega)⟩;have hrk:=h1.env HK.out.r;obtain⟨b,o,rfl,-⟩:=hrk (by omega);have kc:=za9 hrk q (by simpa using hlt);rw[List.getD_eq_getElem?_getD,List.getElem?_map,hk] at kc;simp only[Option.map_some,Option.getD_some] at kc;have htk:ts.take (q+1)=ts.take q++[t]:=by rw[List.take_add_one,ht];rfl
   have hbud:(out++((ts.take q).map wrP).flatten).length+12 * cntP t<=900000:=by
    have a1:=zbq (ts.take q);have a2:=zda ts (q+1);rw[htk,zc8,zc9] at a2;rw[List.length_append];omega
   have HC:=HK.out.n t (List.mem_of_getElem? ht) k wr v1 _ (HK.out.e q k t hk ht) h1 hbud;have HTK:Hid _:=htk;have HO:Hid _:=o1;have HQ:Hid _:=q1;clear h1 o1 q1 hk ht hrk htk hbud hlk
   go_wp2_with fail
   refine HC.mono ?_;rintro e W ⟨rfl,hp⟩;have HN:Hid (Wp w0 g nv w v (out++((ts.take (q+1)).map wrP).flatten) W):=by
    refine Wp.trans HO.out HQ.out ?_;rw[HTK.out,List.map_append,List.flatten_append,<-List.append_assoc];simpa using hp
   clear hp HC
   go_wp2
   exact⟨⟨q+1,by omega,by go_num,HN.out⟩,by simp[intOf];omega⟩
  ·have hd:decide ((q:Int)<ks.length)=false:=by simp;omega
   have HP:Hid (Wp w0 g nv w v (out++(ts.map wrP).flatten) wr):=by
    have hp:Wp w0 g nv w v (out++((ts.take q).map wrP).flatten) wr:=⟨v1,h1,o1,q1⟩;rw[List.take_of_length_le (by omega)] at hp;exact hp
   clear h1 o1 q1
   go_wp2
   go_end0
   exact⟨rfl,HP.out⟩
theorem zwl (os:List (List Tok))(o:List Tok):wEnd (os++[o])=wEnd os++o++[enT]:=by simp[wEnd]
theorem zwm (s:List UInt8)(os:List (List Tok))(o:List Tok):wPar s (os++[o])=wPar s os++(if os.length=0 then o else sgT s::o):=by
 cases os with
 | nil=>simp[wPar]
 | cons a r=>simp[wPar]
theorem z0f (os:List (List Tok))(o:List Tok):wIf (os++[o])=wIf os++(if os.length=2 then wdT [101,108,115,101]::o else o):=by
 match os with
 | []=>simp[wIf]
 | [a]=>simp[wIf]
 | [a,b]=>simp[wIf]
 | a::b::c::r=>simp[wIf]
theorem zmq (l:List Pt):(wEnd (l.map wrP)).length+4 * l.length<=12 * cntL l:=by
 have h:=zbq l;rw[zkb];have e:((l.map wrP).map (fun o=>o.length+1)).sum=(l.map wrP).flatten.length+l.length:=by
  induction l with
  | nil=>rfl
  | cons a r ih=>
   have:=ih (zbq r);simp only[List.map_cons,List.sum_cons,List.flatten_cons,List.length_append,List.length_cons] at this ⊢;omega
 omega
theorem zmr (s:List UInt8)(l:List Pt):(wPar s (l.map wrP)).length+4 * l.length<=12 * cntL l:=by
 have h1:=zmp s (l.map wrP);have h2:=zmq l;rw[zkb] at h2;omega
theorem zli {w0 w:World}{g:Nat}{nv v:Value}{out:List Tok}{L:List Nd}(sk:Option Addr)(ck:Nat)(ks:List Nat)(ts:List Pt)(hk:KsA w0 g nv L sk ks ts)(h:Wr w0 g nv w v out)(hl:out.length+12 * cntL ts<=900000) :
  Calls Tryz.prog 147 #[.pointer (some ⟨g,0,none⟩),.slice sk ks.length ck] w fun e w'=>e=.returned (.tuple #[])∧Wp w0 g nv w v (out++wEnd (ts.map wrP)) w':=by
 have HW:=hid h;have HK:=hid hk;have hks:=hk.s;clear h hk
 go_enter Tryz.func147,Tryz.ntmps147
 go_wp2
 go_loopw [8] (fun i wr=>∃ q:Nat,q<=ks.length∧i=.int .i64 q∧Wp w0 g nv w v (out++wEnd ((ts.take q).map wrP)) wr) (fun i _=>ks.length - (intOf i).toNat)
 case atStart=>exact⟨0,Nat.zero_le _,rfl,by simpa[wEnd] using Wp.start HW.out⟩
 case round=>
  obtain⟨q,hq,rfl,v1,h1,o1,q1⟩:=hrel;have hlk:=HK.out.l
  by_cases hlt:q<ks.length
  ·have hd:decide ((q:Int)<ks.length)=true:=by simp;omega
   obtain⟨k,hk⟩:∃ k,ks[q]?=some k:=⟨_,List.getElem?_eq_getElem hlt⟩;obtain⟨t,ht⟩:∃ t,ts[q]?=some t:=⟨_,List.getElem?_eq_getElem (by omega)⟩;have hrk:=h1.env HK.out.r;obtain⟨b,o,rfl,-⟩:=hrk (by omega);have kc:=za9 hrk q (by simpa using hlt);rw[List.getD_eq_getElem?_getD,List.getElem?_map,hk] at kc;simp only[Option.map_some,Option.getD_some] at kc;have htk:ts.take (q+1)=ts.take q++[t]:=by rw[List.take_add_one,ht];rfl
   have hbud:(out++wEnd ((ts.take q).map wrP)).length+12 * cntP t<=900000:=by
    have a1:=zmq (ts.take q);have a2:=zda ts (q+1);rw[htk,zc8,zc9] at a2;rw[List.length_append];omega
   have hbud2:(out++wEnd ((ts.take q).map wrP)++wrP t).length+1<=900000:=by
    have:=zi4 t;rw[List.length_append];omega
   have HC:=HK.out.n t (List.mem_of_getElem? ht) k wr v1 _ (HK.out.e q k t hk ht) h1 hbud;have HTK:Hid _:=htk;have HO:Hid _:=o1;have HQ:Hid _:=q1;clear h1 o1 q1 hk ht hrk htk hbud hlk
   go_wp2_with fail
   refine HC.mono ?_;rintro e W ⟨rfl,v2,h2,o2,q2⟩;have HD:=zoh h2 hbud2;have HO2:Hid _:=o2;have HQ2:Hid _:=q2;clear h2 o2 q2 HC
   go_wp2_with fail
   refine HD.mono ?_;rintro e W3 ⟨rfl,hp⟩;have HN:Hid (Wp w0 g nv w v (out++wEnd ((ts.take (q+1)).map wrP)) W3):=by
    refine Wp.trans HO.out HQ.out (Wp.trans HO2.out HQ2.out ?_);rw[HTK.out,List.map_append,show[t].map wrP=[wrP t] from rfl,zwl,<-List.append_assoc,<-List.append_assoc];exact hp
   clear hp HD
   go_wp2
   exact⟨⟨q+1,by omega,by go_num,HN.out⟩,by simp[intOf];omega⟩
  ·have hd:decide ((q:Int)<ks.length)=false:=by simp;omega
   have HP:Hid (Wp w0 g nv w v (out++wEnd (ts.map wrP)) wr):=by
    have hp:Wp w0 g nv w v (out++wEnd ((ts.take q).map wrP)) wr:=⟨v1,h1,o1,q1⟩;rw[List.take_of_length_le (by omega)] at hp;exact hp
   clear h1 o1 q1
   go_wp2
   go_end0
   exact⟨rfl,HP.out⟩
theorem zgq {w0 w:World}{g:Nat}{nv v:Value}{out:List Tok}{L:List Nd}(s:List UInt8)(sk:Option Addr)(ck:Nat)(ks:List Nat)(ts:List Pt)(hk:KsA w0 g nv L sk ks ts)(h:Wr w0 g nv w v out)(hl:out.length+12 * cntL ts<=900000) :
  Calls Tryz.prog 151 #[.pointer (some ⟨g,0,none⟩),.slice sk ks.length ck,.string (strU s)] w fun e w'=>e=.returned (.tuple #[])∧Wp w0 g nv w v (out++wPar s (ts.map wrP)) w':=by
 have HW:=hid h;have HK:=hid hk;have hks:=hk.s;clear h hk;generalize hsg:strU s=sb;have HSG:=hid hsg;clear hsg
 go_enter Tryz.func151,Tryz.ntmps151
 go_wp2
 go_loopw [10] (fun i wr=>∃ q:Nat,q<=ks.length∧i=.int .i64 q∧Wp w0 g nv w v (out++wPar s ((ts.take q).map wrP)) wr) (fun i _=>ks.length - (intOf i).toNat)
 case atStart=>exact⟨0,Nat.zero_le _,rfl,by simpa[wPar] using Wp.start HW.out⟩
 case round=>
  obtain⟨q,hq,rfl,v1,h1,o1,q1⟩:=hrel;have hlk:=HK.out.l
  by_cases hlt:q<ks.length
  ·have hd:decide ((q:Int)<ks.length)=true:=by simp;omega
   obtain⟨k,hk⟩:∃ k,ks[q]?=some k:=⟨_,List.getElem?_eq_getElem hlt⟩;obtain⟨t,ht⟩:∃ t,ts[q]?=some t:=⟨_,List.getElem?_eq_getElem (by omega)⟩;have hrk:=h1.env HK.out.r;obtain⟨b,o,rfl,-⟩:=hrk (by omega);have kc:=za9 hrk q (by simpa using hlt);rw[List.getD_eq_getElem?_getD,List.getElem?_map,hk] at kc;simp only[Option.map_some,Option.getD_some] at kc;have htk:ts.take (q+1)=ts.take q++[t]:=by rw[List.take_add_one,ht];rfl
   have hlq:((ts.take q).map wrP).length=q:=by rw[List.length_map,List.length_take];omega
   have hbud:(out++wPar s ((ts.take q).map wrP)).length+4 * q+12 * cntP t<=900000:=by
    have a1:=zmr s (ts.take q);have a2:=zda ts (q+1);rw[htk,zc8,zc9] at a2;rw[List.length_take,Nat.min_eq_left (by omega)] at a1;rw[List.length_append];omega
   have HTK:Hid (wPar s ((ts.take (q+1)).map wrP)=wPar s ((ts.take q).map wrP)++(if q=0 then wrP t else sgT s::wrP t)):=by
    show _=_;rw[htk,List.map_append,show[t].map wrP=[wrP t] from rfl,zwm,hlq]
   have HNC:Hid (NodC w0 g nv L t):=HK.out.n t (List.mem_of_getElem? ht);have HEM:Hid (Emb L k t):=HK.out.e q k t hk ht;have HO:Hid _:=o1;have HQ:Hid _:=q1;have hpos:=zdp t
   by_cases hq0:q=0
   ·have HC:=HNC.out k wr v1 _ HEM.out h1 (by omega);have hz:decide (0<q)=false:=by simp;omega
    have HZ:=hid hq0;clear h1 o1 q1 hk ht hrk htk hbud hlk hlq hq0
    go_wp2_with fail
    refine HC.mono ?_;rintro e W ⟨rfl,hp⟩;have HN:Hid (Wp w0 g nv w v (out++wPar s ((ts.take (q+1)).map wrP)) W):=by
     refine Wp.trans HO.out HQ.out ?_;rw[HTK.out,if_pos HZ.out,<-List.append_assoc];exact hp
    clear hp HC
    go_wp2
    exact⟨⟨q+1,by omega,by go_num,HN.out⟩,by simp[intOf];omega⟩
   ·have HC:=zcx sb h1 (by omega);have hz:decide (0<q)=true:=by simp;omega
    have HZ:=hid hq0;have hbud2:(out++wPar s ((ts.take q).map wrP)++[tkW 4 sb]).length+12 * cntP t<=900000:=by
     rw[List.length_append,List.length_singleton];omega
    clear h1 o1 q1 hk ht hrk htk hbud hlk hlq hq0
    go_wp2_with fail
    refine HC.mono ?_;rintro e W ⟨rfl,v2,h2,o2,q2⟩;have HD:=HNC.out k W v2 _ HEM.out h2 hbud2;have HO2:Hid _:=o2;have HQ2:Hid _:=q2;clear h2 o2 q2 HC hbud2
    go_wp2_with fail
    refine HD.mono ?_;rintro e W3 ⟨rfl,hp⟩;have HN:Hid (Wp w0 g nv w v (out++wPar s ((ts.take (q+1)).map wrP)) W3):=by
     refine Wp.trans HO.out HQ.out (Wp.trans HO2.out HQ2.out ?_);rw[HTK.out,if_neg HZ.out,<-List.append_assoc];unfold sgT;rw[HSG.out];simpa using hp
    clear hp HD
    go_wp2
    exact⟨⟨q+1,by omega,by go_num,HN.out⟩,by simp[intOf];omega⟩
  ·have hd:decide ((q:Int)<ks.length)=false:=by simp;omega
   have HP:Hid (Wp w0 g nv w v (out++wPar s (ts.map wrP)) wr):=by
    have hp:Wp w0 g nv w v (out++wPar s ((ts.take q).map wrP)) wr:=⟨v1,h1,o1,q1⟩;rw[List.take_of_length_le (by omega)] at hp;exact hp
   clear h1 o1 q1
   go_wp2
   go_end0
   exact⟨rfl,HP.out⟩
theorem zi5 {w0 w:World}{g:Nat}{nv v:Value}{out:List Tok}{L:List Nd}(sk:Option Addr)(ck:Nat)(ks:List Nat)(ts:List Pt)(hk:KsA w0 g nv L sk ks ts)(h:Wr w0 g nv w v out)(hl:out.length+2+12 * cntL ts<=900000) :
  Calls Tryz.prog 152 #[.pointer (some ⟨g,0,none⟩),.slice sk ks.length ck] w fun e w'=>e=.returned (.tuple #[])∧Wp w0 g nv w v (out++wBra (ts.map wrP)) w':=by
 have HK:=hid hk;have HC:=zcx (strU [123]) h (by omega);clear h hk
 go_enter Tryz.func152,Tryz.ntmps152
 go_wp2_with fail
 refine HC.mono ?_;rintro e W1 ⟨rfl,v1,h1,o1,q1⟩;have HO:Hid _:=o1;have HQ:Hid _:=q1;have HD:=zli sk ck ks ts HK.out h1 (by simp;omega);clear h1 o1 q1 HC
 go_wp2_with fail
 refine HD.mono ?_;rintro e W2 ⟨rfl,v2,h2,o2,q2⟩;have HO2:Hid _:=o2;have HQ2:Hid _:=q2;have hbd:=zmq ts;have HE:=zcx (strU [125]) h2 (by simp;omega);clear h2 o2 q2 HD hbd
 go_wp2_with fail
 refine HE.mono ?_;rintro e W3 ⟨rfl,hp⟩;have HN:Hid (Wp w0 g nv w v (out++wBra (ts.map wrP)) W3):=by
  refine Wp.trans HO.out HQ.out (Wp.trans HO2.out HQ2.out ?_);simpa[wBra,sgT] using hp
 clear hp HE
 go_wp2
 go_end0
 exact⟨rfl,HN.out⟩
theorem zdh {w0 w:World}{g:Nat}{nv v:Value}{out:List Tok}{L:List Nd}(sk:Option Addr)(ck:Nat)(ks:List Nat)(ts:List Pt)(hk:KsA w0 g nv L sk ks ts)(h:Wr w0 g nv w v out)(hl:out.length+2+12 * cntL ts<=900000) :
  Calls Tryz.prog 184 #[.pointer (some ⟨g,0,none⟩),.slice sk ks.length ck] w fun e w'=>e=.returned (.tuple #[])∧Wp w0 g nv w v (out++wBrk (ts.map wrP)) w':=by
 have HK:=hid hk;have HC:=zcx (strU [40]) h (by omega);clear h hk
 go_enter Tryz.func184,Tryz.ntmps184
 go_wp2_with fail
 refine HC.mono ?_;rintro e W1 ⟨rfl,v1,h1,o1,q1⟩;have HO:Hid _:=o1;have HQ:Hid _:=q1;have HD:=zgq [44] sk ck ks ts HK.out h1 (by simp;omega);clear h1 o1 q1 HC
 go_wp2_with fail
 refine HD.mono ?_;rintro e W2 ⟨rfl,v2,h2,o2,q2⟩;have HO2:Hid _:=o2;have HQ2:Hid _:=q2;have hbd:=zmr [44] ts;have HE:=zcx (strU [41]) h2 (by simp;omega);clear h2 o2 q2 HD hbd
 go_wp2_with fail
 refine HE.mono ?_;rintro e W3 ⟨rfl,hp⟩;have HN:Hid (Wp w0 g nv w v (out++wBrk (ts.map wrP)) W3):=by
  refine Wp.trans HO.out HQ.out (Wp.trans HO2.out HQ2.out ?_);simpa[wBrk,sgT] using hp
 clear hp HE
 go_wp2
 go_end0
 exact⟨rfl,HN.out⟩
theorem zp2 (m n:NdM)(i:Nat)(w:World)(hT:Tabl w):Calls Tryz.prog 221 #[.agg m.cells,.agg n.cells,.int .i64 i] w fun e w'=>e=.returned (.bool (nedB m.k m.x (n.k,n.x) i))∧Below w.heap.size w w':=by
 have HT:Hid (∀ W,Below w.heap.size w W->Tabl W):=fun W hb=>zbj hb.block hT;clear hT;unfold NdM.cells
 go_enter Tryz.func221,Tryz.ntmps221
 go_wp2_with fail
 refine zdd (fun W=>W.heap[w.heap.size]?=some (.cells m.cells 59 (0,0))∧W.heap[w.heap.size+1]?=some (.cells n.cells 59 (0,0))∧Below w.heap.size w W) ?_ ?_
 ·have n0:=heap_alloc_new w (.cells m.cells 59);have n1:=heap_alloc_new (w.alloc (.cells m.cells 59)) (.cells n.cells 59);simp only[World.size_alloc] at n1;exact⟨(Below.heap_alloc _ _ _ (by simp)).trans n0,n1,((Below.refl _ _).alloc (Nat.le_refl _) _).alloc (by simp) _⟩
 rintro W0 ⟨r0,r1,hB0⟩;have HR:Hid (∀ W,Below W0.heap.size W0 W->W.cell? ⟨w.heap.size,0,none⟩=some (.int .i64 m.k)∧W.cell? ⟨w.heap.size,1,none⟩=some (.string m.x)∧W.cell? ⟨w.heap.size+1,0,none⟩=some (.int .i64 n.k)∧W.cell? ⟨w.heap.size+1,1,none⟩=some (.string n.x)∧Below w.heap.size w W):=fun W hb=>
  ⟨(cell_of_row _ _ 0 _ _ _ ((hb.block _ (zab r0)).trans r0)).trans rfl,(cell_of_row _ _ 1 _ _ _ ((hb.block _ (zab r0)).trans r0)).trans rfl,(cell_of_row _ _ 0 _ _ _ ((hb.block _ (zab r1)).trans r1)).trans rfl,(cell_of_row _ _ 1 _ _ _ ((hb.block _ (zab r1)).trans r1)).trans rfl,hB0.trans (hb.mono hB0.size)⟩
 clear r0 r1 hB0;obtain⟨c0,c1,d0,d1,-⟩:=HR.out W0 (Below.refl _ _)
 go_quiet (fail)
 obtain⟨-,-,-,-,hBw⟩:=HR.out (W0.drewN nq) (zb1 _ _);have HBw:Hid _:=hBw;clear hBw
 cases b1:(m.k == 26)
 rotate_left
 focus (
  have HX:Hid (nedB m.k m.x (n.k,n.x) i=(n.k == 27)):=by
   show nedB _ _ _ _=_;unfold nedB;rw[if_pos (by simpa using b1)]
  go_wp2
  go_ret
  exact⟨zal HX.out.symm,HBw.out⟩)
 cases b2:(m.k != 27)
 rotate_left
 focus (
  have HX:Hid (nedB m.k m.x (n.k,n.x) i=((n.k == 26) || (n.k == 27))):=by
   show nedB _ _ _ _=_;unfold nedB;rw[if_neg (by simpa using b1),if_pos (by simpa using b2)]
  cases b3:(n.k == 26)
  ·rw[b3] at HX
   go_wp2
   go_ret
   exact⟨zal (by rw[HX.out];rfl),HBw.out⟩
  ·rw[b3] at HX
   go_wp2
   go_ret
   exact⟨zal (by rw[HX.out];rfl),HBw.out⟩)
 have HX:Hid (nedB m.k m.x (n.k,n.x) i=((n.k == 27) && (decide (rowI n.x<rowI m.x) || ((rowI n.x == rowI m.x) && (decide (0<i) || (rowI n.x == 2)))))):=by
  show nedB _ _ _ _=_;unfold nedB;rw[if_neg (by simpa using b1),if_neg (by simpa using b2)]
 go_wp2_with fail
 have hS0:Below W0.heap.size W0 (W0.drewN nq).drew:=(zb1 _ _).drew;clear c0 c1 d0 d1;refine zbc (S:=fun w'=>Below W0.heap.size W0 w') 8 rfl (by kernel_rfl) ?_;refine zah 0 28 (.pointer (some ⟨w.heap.size,1,none⟩)) rfl (by rfl) (by kernel_rfl) (by kernel_rfl) (by kernel_rfl) (fun _ _ _ h=>h) (fun w' hw'=>by obtain⟨e0,e1,e2,e3,-⟩:=HR.out w' hw';first|rfl|(go_simp;done)) hS0 ?_;simp only[sI,sS,sZ];refine zah 1 29 (.string m.x) rfl (by rfl) (by kernel_rfl) (by kernel_rfl) (by kernel_rfl) (fun _ _ _ h=>h) (fun w' hw'=>by obtain⟨e0,e1,e2,e3,-⟩:=HR.out w' hw';first|rfl|(go_simp;done)) hS0 ?_;simp only[sI,sS,sZ];refine zah 3 31 (.pointer (some ⟨w.heap.size+1,1,none⟩)) rfl (by rfl) (by kernel_rfl) (by kernel_rfl) (by kernel_rfl) (fun _ _ _ h=>h) (fun w' hw'=>by obtain⟨e0,e1,e2,e3,-⟩:=HR.out w' hw';first|rfl|(go_simp;done)) hS0 ?_;simp only[sI,sS,sZ];refine zah 4 32 (.string n.x) rfl (by rfl) (by kernel_rfl) (by kernel_rfl) (by kernel_rfl) (fun _ _ _ h=>h) (fun w' hw'=>by obtain⟨e0,e1,e2,e3,-⟩:=HR.out w' hw';first|rfl|(go_simp;done)) hS0 ?_;simp only[sI,sS,sZ];refine zas 2 rfl (by rfl) (by kernel_rfl) ?_
 go_simp
 refine(zml m.x _ (HT.out _ (HR.out _ hS0).2.2.2.2)).mono ?_;rintro e W1 ⟨rfl,b1'⟩;have hS1:Below W0.heap.size W0 W1:=hS0.trans (b1'.mono hS0.size);refine⟨hS1,?_⟩;refine zas 5 rfl (by rfl) (by kernel_rfl) ?_
 go_simp
 refine(zml n.x W1 (HT.out _ (HR.out _ hS1).2.2.2.2)).mono ?_;rintro e W2 ⟨rfl,b2'⟩;have hS2:Below W0.heap.size W0 W2:=hS1.trans (b2'.mono hS1.size);refine⟨hS2,?_⟩;refine zah 6 9 (.int .i64 (rowI m.x)) rfl (by rfl) (by kernel_rfl) (by kernel_rfl) (by kernel_rfl) (fun _ _ _ h=>h) (fun w' hw'=>by obtain⟨e0,e1,e2,e3,-⟩:=HR.out w' hw';first|rfl|(go_simp;done)) hS2 ?_;simp only[sI,sS,sZ];refine zah 7 10 (.int .i64 (rowI n.x)) rfl (by rfl) (by kernel_rfl) (by kernel_rfl) (by kernel_rfl) (fun _ _ _ h=>h) (fun w' hw'=>by obtain⟨e0,e1,e2,e3,-⟩:=HR.out w' hw';first|rfl|(go_simp;done)) hS2 ?_;simp only[sI,sS,sZ];refine wpAnyH_done (by kernel_rfl) ?_ _;have HB2:Hid (Below w.heap.size w W2):=(HR.out _ hS2).2.2.2.2;clear hS0 hS1 hS2 b1' b2' HR HBw HT;generalize rowI m.x=ra at HX ⊢;generalize rowI n.x=rb at HX ⊢
 cases b3:(n.k == 27)
 ·rw[b3] at HX
  go_wp2
  go_ret
  exact⟨zal (by rw[HX.out];rfl),HB2.out⟩
 rw[b3] at HX
 cases b4:decide (rb<ra)
 rotate_left
 focus (
  rw[b4] at HX
  go_wp2
  go_ret
  exact⟨zal (by rw[HX.out];rfl),HB2.out⟩)
 rw[b4] at HX
 cases b5:(rb == ra)
 ·rw[b5] at HX
  go_wp2
  go_ret
  exact⟨zal (by rw[HX.out];rfl),HB2.out⟩
 rw[b5] at HX
 cases b6:decide (0<i)
 rotate_left
 focus (
  rw[b6] at HX
  go_wp2
  go_ret
  exact⟨zal (by rw[HX.out];rfl),HB2.out⟩)
 rw[b6] at HX
 go_wp2
 go_ret
 exact⟨zal (by rw[HX.out];simp),HB2.out⟩
theorem zcf (w:World)(a b c:Nat):((w.drewN a).drewN b).drewN c=w.drewN (a+b+c):=by rw[zcp,zcp,Nat.add_assoc]
structure EnW (w0:World) (nv:Value) (L:List Nd):Prop where
 x:∃ sn cn N S,nv=.slice sn L.length cn∧RowsAt w0 7 NdM.cells sn N∧Rep w0 S N L
 t:Tabl w0
 l:L.length<=100000
theorem Emb.hd {L:List Nd}{i:Nat}{t:Pt}(h:Emb L i t):∃ d,L[i]?=some d∧(d.kind,d.text)=hdP t:=by
 cases t with
 | mk k x n a f t l=>
  refine⟨_,by have:=h 0 _ (by rw[layP];rfl);simpa using this,rfl⟩
theorem zoi {k:Int}{hs:List (Int × ByteArray)}{q:Nat}{h:Int × ByteArray}(hq:hs[q]?=some h)(hk:(h.1 == k)=true):cutN k (hs.drop q)=cutN k (hs.drop (q+1))+1:=by
 have hl:=(List.getElem?_eq_some_iff.1 hq).1;rw[List.drop_eq_getElem_cons hl,show hs[q]=h by have:=List.getElem?_eq_getElem hl;rw[hq] at this;injection this with this;exact this.symm,cutN,if_pos hk]
theorem zsc {k:Int}{hs:List (Int × ByteArray)}{q:Nat}{h:Int × ByteArray}(hq:hs[q]?=some h)(hk:(h.1 == k)=false):cutN k (hs.drop q)=0:=by
 have hl:=(List.getElem?_eq_some_iff.1 hq).1;rw[List.drop_eq_getElem_cons hl,show hs[q]=h by have:=List.getElem?_eq_getElem hl;rw[hq] at this;injection this with this;exact this.symm,cutN,if_neg (by rw[hk];simp)]
theorem zdo {w:World}{b o:Nat}{xs:List Nat}(h:RowsAt w 1 intC (some ⟨b,o,none⟩) xs)(n:Nat):RowsAt w 1 intC (some ⟨b,o+n,none⟩) (xs.drop n):=fun hl=>by
 obtain⟨b',o',e,hc⟩:=h (by rw[List.length_drop] at hl;omega);injection e with e;injection e with e1 e2;subst e1 e2;refine⟨b,o+n,rfl,fun i x hx j u hu=>?_⟩;rw[List.getElem?_drop] at hx;have:=hc (n+i) x hx j u hu;rw[show o+n+i * 1+j=o+(n+i) * 1+j by omega];exact this
theorem zsd {w0 w:World}{g:Nat}{nv v:Value}{out:List Tok}{L:List Nd}(kind:Int)(sk:Option Addr)(ck:Nat)(ks:List Nat)(ts:List Pt)(hE:EnW w0 nv L)(hk:KsA w0 g nv L sk ks ts)(h:Wr w0 g nv w v out)(hc:ks.length<=ck)(hcm:ck<=maxLen)(hz:sk=none->ck=0) :
  Calls Tryz.prog 183 #[.pointer (some ⟨g,0,none⟩),.slice sk ks.length ck,.int .i64 kind] w fun e w'=>(∃ sk2 ck2,e=.returned (.tuple #[.slice sk (cutN kind (ts.map hdP)) ck,.slice sk2 (ks.length - cutN kind (ts.map hdP)) ck2])∧RowsAt w0 1 intC sk2 (ks.drop (cutN kind (ts.map hdP)))∧ks.length - cutN kind (ts.map hdP)<=ck2∧ck2<=maxLen∧(sk2=none->ck2=0))∧∃ n,w'=w.drewN n:=by
 have HW:=hid h;have HK:=hid hk;have HE:=hid hE;have hks:=hk.s;have HLK:Hid (ks.length=ts.length):=hk.l;have hmx:maxLen=9223372036854775807:=rfl;obtain⟨sn,cn,N,S,hnv,hN,hR⟩:=hE.x;have HNL:Hid (N.length=L.length):=hR.1;have hLl:=hE.l;have HN:=hid hN;have HR:=hid hR;have cg:w.cell? ⟨g,0,none⟩=some nv:=(cell_of_row _ _ 0 _ _ _ h.r).trans rfl;subst hnv;clear h hk hE hN hR
 go_enter Tryz.func183,Tryz.ntmps183
 go_wp2_with fail
 go_loopw [8] (fun i wr=>∃ q n:Nat,q<=ks.length∧i=.int .i64 q∧wr=w.drewN n∧cutN kind (ts.map hdP)=q+cutN kind ((ts.map hdP).drop q)) (fun i _=>ks.length - (intOf i).toNat)
 case atStart=>exact⟨0,0,Nat.zero_le _,rfl,rfl,by simp⟩
 case round=>
  obtain⟨q,n,hq,rfl,rfl,hcu⟩:=hrel;have HCU:Hid _:=hcu;clear hcu
  by_cases hlt:q<ks.length
  ·have hd:decide ((q:Int)<ks.length)=true:=by simp;omega
   have hd':decide (q<ks.length)=true:=by simp;omega
   obtain⟨k,hk⟩:∃ k,ks[q]?=some k:=⟨_,List.getElem?_eq_getElem hlt⟩;obtain⟨t,ht⟩:∃ t,ts[q]?=some t:=⟨_,List.getElem?_eq_getElem (by have:=HLK.out;omega)⟩;obtain⟨d,hdL,hde⟩:=(HK.out.e q k t hk ht).hd;have hkL:k<L.length:=(List.getElem?_eq_some_iff.1 hdL).1;obtain⟨m,hm⟩:∃ m,N[k]?=some m:=⟨_,List.getElem?_eq_getElem (by have:=HNL.out;omega)⟩;have hrk:=HW.out.env HK.out.r;have hrn:=HW.out.env HN.out;obtain⟨b,o,rfl,-⟩:=hrk (by omega);obtain⟨bn,on,rfl,-⟩:=hrn (by have:=HNL.out;omega);have kc:=za9 hrk q (by simpa using hlt);rw[List.getD_eq_getElem?_getD,List.getElem?_map,hk] at kc;simp only[Option.map_some,Option.getD_some] at kc;have kn:=(zai hrn hm).1;rw[(HR.out.at hm hdL).1.1] at kn;have hh:(ts.map hdP)[q]?=some (hdP t):=by rw[List.getElem?_map,ht];rfl
   have hdk:d.kind=(hdP t).1:=by rw[<-hde]
   rw[hdk] at kn;have hkk:decide ((k:Int)<L.length)=true:=by simp;omega
   have HH:Hid _:=hh;clear hk ht hdL hde hm hrk hrn hdk hh
   cases c1:((hdP t).1 == kind)
   ·have HN2:Hid (cutN kind (ts.map hdP)=q):=by
     show _=_;rw[HCU.out,zsc HH.out c1];rfl
    have hz1:(q:Int)<=ck:=by omega
    have hz2:(q:Int)<=ks.length:=by omega
    have HRD:Hid (RowsAt w0 1 intC (some ⟨b,o+q,none⟩) (ks.drop q)):=zdo HK.out.r q
    go_wp2
    go_quiet (fail)
    go_wp2
    have hcq:¬ ck=q:=by omega
    have hcq':¬ (ck:Int)=q:=by omega
    go_wp2
    go_quiet (fail)
    go_wp2
    go_ret2
    refine⟨⟨some ⟨b,o+q,none⟩,ck - q,by rw[HN2.out];rfl,by rw[HN2.out];exact HRD.out,by rw[HN2.out];omega,by omega,fun h=>by cases h⟩,?_⟩
    first|exact⟨_,zcp _ _ _⟩ | exact⟨_,zcf _ _ _ _⟩
   ·have HN2:Hid (cutN kind (ts.map hdP)=q+1+cutN kind ((ts.map hdP).drop (q+1))):=by
     show _=_;rw[HCU.out,zoi HH.out c1];omega
    go_wp2
    go_quiet (fail)
    go_wp2
    exact⟨⟨q+1,n+nq,by omega,by go_num,rfl,HN2.out⟩,by simp[intOf];omega⟩
  ·have hd:decide ((q:Int)<ks.length)=false:=by simp;omega
   have hd':decide (q<ks.length)=false:=by simp;omega
   have HN2:Hid (cutN kind (ts.map hdP)=q):=by
    show _=_;rw[HCU.out,List.drop_eq_nil_of_le (by rw[List.length_map];have:=HLK.out;omega)];rfl
   go_wp2
   go_quiet (fail)
   go_wp2
   have hz1:(q:Int)<=ck:=by omega
   have hz2:(q:Int)<=ks.length:=by omega
   have HRK:Hid _:=HK.out.r
   by_cases hk0:ks.length=0
   focus (
    have hq0:q=0:=by omega
    subst hq0;have HRD:Hid (∀ sp,RowsAt w0 1 intC sp (ks.drop (cutN kind (ts.map hdP)))):=fun sp hl=>by rw[List.length_drop] at hl;omega
    cases sk with
    | none=>
     have hck:ck=0:=hz rfl;subst hck
     go_wp2
     go_quiet (fail)
     go_wp2
     go_ret2
     refine⟨⟨none,0,by rw[HN2.out,hk0];rfl,HRD.out _,by rw[HN2.out,hk0];exact Nat.le_refl _,by omega,fun _=>rfl⟩,?_⟩
     first|exact⟨_,zcp _ _ _⟩ | exact⟨_,zcf _ _ _ _⟩
    | some a=>
     have HK0:=hid hk0;clear hk0
     go_wp2
     go_quiet (fail)
     go_wp2
     go_ret2
     refine⟨⟨some a,ck,by rw[HN2.out,HK0.out];rfl,HRD.out _,by rw[HN2.out];omega,by omega,fun h=>by cases h⟩,?_⟩
     first|exact⟨_,zcp _ _ _⟩ | exact⟨_,zcf _ _ _ _⟩)
   obtain⟨b,o,rfl,-⟩:=HRK.out (by omega);have HRD:Hid (RowsAt w0 1 intC (some ⟨b,o+q,none⟩) (ks.drop q)):=zdo HRK.out q
   by_cases hcq:ck=q
   ·subst hcq;have HRE:Hid (RowsAt w0 1 intC (some ⟨b,o,none⟩) (ks.drop ck)):=fun hl=>by rw[List.length_drop] at hl;omega
    have hle:ks.length=ck:=by omega
    have HLE:=hid hle;clear hle
    go_wp2
    go_quiet (fail)
    go_wp2
    go_ret2
    refine⟨⟨some ⟨b,o,none⟩,0,by rw[HN2.out,HLE.out,Nat.sub_self];rfl,by rw[HN2.out];exact HRE.out,by rw[HN2.out,HLE.out];omega,by omega,fun h=>by cases h⟩,?_⟩
    first|exact⟨_,zcp _ _ _⟩ | exact⟨_,zcf _ _ _ _⟩
   ·have hcq':¬ (ck:Int)=q:=by omega
    go_wp2
    go_quiet (fail)
    go_wp2
    go_ret2
    refine⟨⟨some ⟨b,o+q,none⟩,ck - q,by rw[HN2.out];rfl,by rw[HN2.out];exact HRD.out,by rw[HN2.out];omega,by omega,fun h=>by cases h⟩,?_⟩
    first|exact⟨_,zcp _ _ _⟩ | exact⟨_,zcf _ _ _ _⟩
structure NdW (w0:World) (g:Nat) (nv:Value) (L:List Nd) (m:NdM) (k:Int) (x:ByteArray) (n:Int) (ts:List Pt):Prop where
 e:m.k=k∧m.x=x∧m.n=n
 k:∃ ks,m.kn=ks.length∧KsA w0 g nv L m.ks ks ts
 c:m.kn<=m.kc∧m.kc<=maxLen∧(m.ks=none->m.kc=0)
theorem KsA.one {w0:World}{g:Nat}{nv:Value}{L:List Nd}{b o:Nat}{ks:List Nat}{ts:List Pt}(h:KsA w0 g nv L (some ⟨b,o,none⟩) ks ts){i k:Nat}{t:Pt}(hk:ks[i]?=some k)(ht:ts[i]?=some t):KsA w0 g nv L (some ⟨b,o+i,none⟩) [k] [t]:=by
 refine⟨fun _=>?_,rfl,fun j k' t' h1 h2=>?_,fun t' h1=>?_,by simp⟩
 ·obtain⟨b',o',e,hc⟩:=h.r (by have:=(List.getElem?_eq_some_iff.1 hk).1;omega);injection e with e;injection e with e1 e2;subst e1 e2;refine⟨b,o+i,rfl,fun j y hy u val hu=>?_⟩;have hj:j=0:=by have:=(List.getElem?_eq_some_iff.1 hy).1;simp at this;omega
  subst hj;obtain rfl:k=y:=by simpa using hy
  have:=hc i k hk u val hu;rw[show o+i+0 * 1+u=o+i * 1+u by omega];exact this
 ·have hj:j=0:=by have:=(List.getElem?_eq_some_iff.1 h1).1;simp at this;omega
  subst hj;obtain rfl:k=k':=by simpa using h1
  obtain rfl:t=t':=by simpa using h2
  exact h.e i k t hk ht
 ·obtain rfl:t'=t:=by simpa using h1
  exact h.n t' (List.mem_of_getElem? ht)
theorem zd8 {w0 w:World}{g:Nat}{nv v:Value}{out:List Tok}{L:List Nd}{m:NdM}{k:Int}{x:ByteArray}{n:Int}{ts:List Pt}(i:Nat)(hi:i<=1)(hE:EnW w0 nv L)(hm:NdW w0 g nv L m k x n ts)(h:Wr w0 g nv w v out)(hl:∀ t,ts[i]?=some t->out.length+2+12 * cntP t<=900000) :
  Calls Tryz.prog 203 #[.pointer (some ⟨g,0,none⟩),.agg m.cells,.int .i64 i] w fun e w'=>e=.returned (.tuple #[])∧Wp w0 g nv w v (out++wOpe k x (ts.map hdP) (ts.map wrP) i) w':=by
 have HW:=hid h;have HE:=hid hE;have HM:=hid hm;obtain⟨ks,hkn,hK⟩:=hm.k;have HK:=hid hK;have HKN:=hid hkn;have HLK:Hid (ks.length=ts.length):=hK.l;have hmc:=hm.c.1;have hmx:m.kc<=9223372036854775807:=hm.c.2.1;have hks:ks.length<=100000:=hK.s;obtain⟨sn,cn,N,S,hnv,hN,hR⟩:=hE.x;have HN:=hid hN;have HR:=hid hR;have HNV:=hid hnv;have hLl:=hE.l;clear h hE hm hK hkn hnv hN hR
 by_cases hlt:i<ts.length
 ·have hlk:i<m.kn:=by have:=HKN.out;have:=HLK.out;omega
  have hd:decide ((m.kn:Int)<=(i:Int))=false:=by simp;omega
  have hd':decide (m.kn<=i)=false:=by simp;omega
  obtain⟨kk,hk⟩:∃ kk,ks[i]?=some kk:=⟨_,List.getElem?_eq_getElem (by have:=HLK.out;omega)⟩;obtain⟨t,ht⟩:∃ t,ts[i]?=some t:=⟨_,List.getElem?_eq_getElem hlt⟩;obtain⟨b,o,hks1,-⟩:=HK.out.r (by have:=HLK.out;omega);obtain⟨d,hdL,hde⟩:=(HK.out.e i kk t hk ht).hd;have hkL:kk<L.length:=(List.getElem?_eq_some_iff.1 hdL).1;obtain⟨m2,hm2⟩:∃ m2,N[kk]?=some m2:=⟨_,List.getElem?_eq_getElem (by have:=HR.out.1;omega)⟩;have hm2e:=(HR.out.at hm2 hdL).1;have HH:Hid ((m2.k,m2.x)=hdP t):=by show _=_;rw[hm2e.1,hm2e.2.1];exact hde
  have HK1:Hid (KsA w0 g nv L (some ⟨b,o+i,none⟩) [kk] [t]):=KsA.one (by rw[<-hks1];exact HK.out) hk ht;have HOPE:Hid (wOpe k x (ts.map hdP) (ts.map wrP) i=if nedB k x (hdP t) i then wBrk ([t].map wrP) else([t].map wrP).flatten):=by
   show _=_;unfold wOpe;rw[List.getElem?_map,List.getElem?_map,ht];simp
  have HC1:Hid (out.length+2+12 * cntL [t]<=900000):=by show _<=_;rw[zc9];exact hl t ht
  have HM2:Hid _:=hm2;have HKS:=hid hks1;clear hk ht hdL hde hm2 hm2e hks1 hl;rw[show m.cells=#[.int .i64 m.k,.string m.x,.int .i64 m.n,.slice m.ks m.kn m.kc,.int .i64 m.a,.int .i64 m.f,.int .i64 m.t] from rfl,HKS.out]
  go_enter Tryz.func203,Tryz.ntmps203
  go_wp2_with fail
  refine zdd (fun W=>W.heap[w.heap.size]?=some (.cells m.cells 59 (0,0))∧Below w.heap.size w W) ?_ ?_
  ·rw[show m.cells=#[.int .i64 m.k,.string m.x,.int .i64 m.n,.slice m.ks m.kn m.kc,.int .i64 m.a,.int .i64 m.f,.int .i64 m.t] from rfl,HKS.out];exact⟨heap_alloc_new w _,(Below.refl _ _).alloc (Nat.le_refl _) _⟩
  rintro W0 ⟨r0,hB0⟩;obtain⟨bn,on,hsn,hnc⟩:=HN.out (by have:=HR.out.1;omega);have HF:Hid (∀ W,Below W0.heap.size W0 W->W.heap[w.heap.size]?=some (.cells m.cells 59 (0,0))∧W.cell? ⟨g,0,none⟩=some (.slice (some ⟨bn,on,none⟩) L.length cn)∧W.cell? ⟨b,o+i,none⟩=some (.int .i64 kk)∧(∀ j u,m2.cells[j]?=some u->W.cell? ⟨bn,on+kk * 7+j,none⟩=some u)∧Below w.heap.size w W):=fun W hb=>by
   have hBw:Below w.heap.size w W:=hB0.trans (hb.mono hB0.size);have hWr:=HW.out.low hBw;refine⟨(hb.block _ (zab r0)).trans r0,?_,?_,?_,hBw⟩
   ·rw[<-hsn,<-HNV.out];exact(cell_of_row _ _ 0 _ _ _ hWr.r).trans rfl
   ·have:=za9 (hWr.env HK1.out.r) 0 (by simp);simpa using this
   ·obtain⟨b',o',e,hc⟩:=(hWr.env HN.out) (by have:=HR.out.1;omega);rw[hsn] at e;injection e with e;injection e with e1 e2;subst e1 e2;exact fun j u hu=>hc kk m2 HM2.out j u hu
  clear r0 hB0 hnc;have hkk:decide ((kk:Int)<L.length)=true:=by simp;omega
  have hS0:Below W0.heap.size W0 W0.drew:=(Below.refl _ _).drew;refine zbc (S:=fun w'=>Below W0.heap.size W0 w') 12 rfl (by kernel_rfl) ?_;refine zho 0 18 59 (.tmp 4) rfl (by rfl) w.heap.size 59 m.cells (0,0) rfl (by kernel_rfl) (by kernel_rfl) (by kernel_rfl) (fun _ _ _ h=>h) _ (fun w' hw'=>(HF.out w' hw').1) Tryz.underlying59 rfl (by kernel_rfl) hS0 ?_;simp only[sI,sS,sZ];refine zah 1 19 (.pointer (some ⟨g,0,none⟩)) rfl (by rfl) (by kernel_rfl) (by kernel_rfl) (by kernel_rfl) (fun _ _ _ h=>h) (fun w' hw'=>by obtain⟨-,e1,e2,-⟩:=HF.out w' hw';first|rfl|(go_simp;done)) hS0 ?_;simp only[sI,sS,sZ];refine zah 2 20 (.pointer (some ⟨g,0,none⟩)) rfl (by rfl) (by kernel_rfl) (by kernel_rfl) (by kernel_rfl) (fun _ _ _ h=>h) (fun w' hw'=>by obtain⟨-,e1,e2,-⟩:=HF.out w' hw';first|rfl|(go_simp;done)) hS0 ?_;simp only[sI,sS,sZ];refine zah 3 21 (.pointer (some ⟨g,0,none⟩)) rfl (by rfl) (by kernel_rfl) (by kernel_rfl) (by kernel_rfl) (fun _ _ _ h=>h) (fun w' hw'=>by obtain⟨-,e1,e2,-⟩:=HF.out w' hw';first|rfl|(go_simp;done)) hS0 ?_;simp only[sI,sS,sZ];refine zah 4 22 (.slice (some ⟨bn,on,none⟩) L.length cn) rfl (by rfl) (by kernel_rfl) (by kernel_rfl) (by kernel_rfl) (fun _ _ _ h=>h) (fun w' hw'=>by obtain⟨-,e1,e2,-⟩:=HF.out w' hw';first|rfl|(go_simp;done)) hS0 ?_;simp only[sI,sS,sZ];refine zah 5 23 (.slice (some ⟨b,o+i,none⟩) 1 (m.kc - i)) rfl (by rfl) (by kernel_rfl) (by kernel_rfl) (by kernel_rfl) (fun _ _ _ h=>h) (fun w' hw'=>by obtain⟨-,e1,e2,-⟩:=HF.out w' hw';first|rfl|(go_simp;done)) hS0 ?_;simp only[sI,sS,sZ];refine zah 6 24 (.pointer (some ⟨b,o+i,none⟩)) rfl (by rfl) (by kernel_rfl) (by kernel_rfl) (by kernel_rfl) (fun _ _ _ h=>h) (fun w' hw'=>by obtain⟨-,e1,e2,-⟩:=HF.out w' hw';first|rfl|(go_simp;done)) hS0 ?_;simp only[sI,sS,sZ];refine zah 7 25 (.int .i64 kk) rfl (by rfl) (by kernel_rfl) (by kernel_rfl) (by kernel_rfl) (fun _ _ _ h=>h) (fun w' hw'=>by obtain⟨-,e1,e2,-⟩:=HF.out w' hw';first|rfl|(go_simp;done)) hS0 ?_;simp only[sI,sS,sZ];refine zah 8 26 (.pointer (some ⟨bn,on+kk * 7,none⟩)) rfl (by rfl) (by kernel_rfl) (by kernel_rfl) (by kernel_rfl) (fun _ _ _ h=>h) (fun w' hw'=>by obtain⟨-,e1,e2,-⟩:=HF.out w' hw';first|rfl|(go_simp;done)) hS0 ?_
  simp only[sI,sS,sZ];refine zn8 9 27 59 (.tmp 26) rfl bn (on+kk * 7) m2.cells rfl (by kernel_rfl) (by kernel_rfl) (by kernel_rfl) (fun _ _ _ h=>h) _ (fun w' hw'=>(HF.out w' hw').2.2.2.1) Tryz.underlying59 rfl (by kernel_rfl) hS0 ?_;simp only[sI,sS,sZ];refine zah 10 28 (.int .i64 i) rfl (by rfl) (by kernel_rfl) (by kernel_rfl) (by kernel_rfl) (fun _ _ _ h=>h) (fun w' hw'=>by obtain⟨-,e1,e2,-⟩:=HF.out w' hw';first|rfl|(go_simp;done)) hS0 ?_;simp only[sI,sS,sZ];refine zas 11 rfl (by rfl) (by kernel_rfl) ?_
  go_simp
  have hT0:Tabl W0.drew:=zbj (HW.out.low (HF.out _ hS0).2.2.2.2).b.block HE.out.t;refine(zp2 m m2 i W0.drew hT0).mono ?_;rintro e W1 ⟨rfl,b1⟩;have hS1:Below W0.heap.size W0 W1:=hS0.trans (b1.mono hS0.size);refine⟨hS1,?_⟩;refine wpAnyH_done (by kernel_rfl) ?_ _;have HB1:Hid (Below w.heap.size w W1):=(HF.out _ hS1).2.2.2.2;have HW1:=hid (HW.out.low HB1.out);have HX:Hid (nedB m.k m.x (m2.k,m2.x) i=nedB k x (hdP t) i):=by show _=_;rw[HH.out,HM.out.e.1,HM.out.e.2.1]
  clear hS0 hS1 b1 HF hT0
  cases hn:nedB m.k m.x (m2.k,m2.x) i
  ·have HD:=zdy (some ⟨b,o+i,none⟩) (m.kc - i) [kk] [t] HK1.out HW1.out (by have:=HC1.out;omega);have HOP:Hid (wOpe k x (ts.map hdP) (ts.map wrP) i=([t].map wrP).flatten):=by show _=_;rw[HOPE.out,<-HX.out,hn];rfl
   go_wp2_with fail
   refine HD.mono ?_;rintro e W2 ⟨rfl,hp⟩;have HN2:Hid (Wp w0 g nv w v (out++wOpe k x (ts.map hdP) (ts.map wrP) i) W2):=by
    show Wp _ _ _ _ _ _ _;rw[HOP.out];exact Wp.pre HB1.out hp
   clear hp HD
   go_wp2
   go_end0
   exact⟨rfl,HN2.out⟩
  ·have HD:=zdh (some ⟨b,o+i,none⟩) (m.kc - i) [kk] [t] HK1.out HW1.out (by have:=HC1.out;omega);have HOP:Hid (wOpe k x (ts.map hdP) (ts.map wrP) i=wBrk ([t].map wrP)):=by show _=_;rw[HOPE.out,<-HX.out,hn];rfl
   go_wp2_with fail
   refine HD.mono ?_;rintro e W2 ⟨rfl,hp⟩;have HN2:Hid (Wp w0 g nv w v (out++wOpe k x (ts.map hdP) (ts.map wrP) i) W2):=by
    show Wp _ _ _ _ _ _ _;rw[HOP.out];exact Wp.pre HB1.out hp
   clear hp HD
   go_wp2
   go_end0
   exact⟨rfl,HN2.out⟩
 ·have hd:decide ((m.kn:Int)<=(i:Int))=true:=by have:=HKN.out;have:=HLK.out;simp;omega
  have hd':decide (m.kn<=i)=true:=by have:=HKN.out;have:=HLK.out;simp;omega
  have HOPE:Hid (wOpe k x (ts.map hdP) (ts.map wrP) i=[]):=by
   show _=_;unfold wOpe;rw[List.getElem?_map,List.getElem?_eq_none (by omega)];rfl
  unfold NdM.cells
  go_enter Tryz.func203,Tryz.ntmps203
  go_wp2
  (try simp only[Exit.inBlock,Exit.then])
  refine bodyPost_ret (results_none rfl _ _ _) rfl ?_;refine⟨rfl,?_⟩;rw[HOPE.out,List.append_nil];exact Wp.pre ((Below.refl _ _).alloc (Nat.le_refl _) _) (Wp.start (HW.out.low ((Below.refl _ _).alloc (Nat.le_refl _) _)))
theorem z2t (l:List Pt):(wIf (l.map wrP)).length+4 * l.length<=12 * cntL l:=by
 have h:=zbq l;have:(wIf (l.map wrP)).length<=(l.map wrP).flatten.length+l.length:=by
  unfold wIf;rw[List.length_append,List.length_append];have e:(l.map wrP).flatten.length=((l.map wrP).take 2).flatten.length+((l.map wrP).drop 2).flatten.length:=by
   rw[<-List.length_append,<-List.flatten_append,List.take_append_drop]
  rw[e]
  split
  ·rename_i h2
   rw[List.length_map] at h2;simp;omega
  ·simp
 omega
theorem zp3 {w0 w:World}{g:Nat}{nv v:Value}{out:List Tok}{L:List Nd}{m:NdM}{k:Int}{x:ByteArray}{n:Int}{ts:List Pt}(hm:NdW w0 g nv L m k x n ts)(h:Wr w0 g nv w v out)(hl:out.length+2+12 * cntL ts<=900000) :
  Calls Tryz.prog 185 #[.pointer (some ⟨g,0,none⟩),.agg m.cells] w fun e w'=>e=.returned (.tuple #[])∧Wp w0 g nv w v (out++([wdT [105,102]]++wIf (ts.map wrP))) w':=by
 have HW:=hid h;obtain⟨ks,hkn,hK⟩:=hm.k;have HK:=hid hK;have HKN:=hid hkn;have hks:ks.length<=100000:=hK.s;clear h hm hK hkn;rw[show m.cells=#[.int .i64 m.k,.string m.x,.int .i64 m.n,.slice m.ks m.kn m.kc,.int .i64 m.a,.int .i64 m.f,.int .i64 m.t] from rfl,HKN.out]
 go_enter Tryz.func185,Tryz.ntmps185
 go_wp2_with fail
 have hB0:Below w.heap.size w (w.alloc (.cells #[.int .i64 m.k,.string m.x,.int .i64 m.n,.slice m.ks ks.length m.kc,.int .i64 m.a,.int .i64 m.f,.int .i64 m.t] 59)):=(Below.refl _ _).alloc (Nat.le_refl _) _;have hr0:=heap_alloc_new w (.cells #[.int .i64 m.k,.string m.x,.int .i64 m.n,.slice m.ks ks.length m.kc,.int .i64 m.a,.int .i64 m.f,.int .i64 m.t] 59);have hW0:=HW.out.low hB0;have hne:w.heap.size≠g:=by have:=HW.out.lt;omega
 have HC:=zbb [strU [105,102]] hW0 (by simp;omega) (by simp);simp only[World.size_alloc] at HC;refine HC.mono ?_;rintro e W1 ⟨rfl,v1,h1,o1,q1⟩;have r1:=Wp.row hW0 o1 hr0 hne (by decide);have c1:W1.cell? ⟨w.heap.size,3,none⟩=some (.slice m.ks ks.length m.kc):=(cell_of_row _ _ 3 _ _ _ r1).trans rfl;have HS:Hid (Wp w0 g nv w v (out++[wdT [105,102]]) W1):=Wp.pre hB0 ⟨v1,h1,o1,q1⟩;clear hB0 hr0 hW0 hne HC h1 o1 q1 r1
 go_wp2
 go_loopw [12] (fun i wr=>∃ q:Nat,q<=ks.length∧i=.int .i64 q∧Wp w0 g nv w v (out++[wdT [105,102]]++wIf ((ts.take q).map wrP)) wr) (fun i _=>ks.length - (intOf i).toNat)
 case atStart=>exact⟨0,Nat.zero_le _,rfl,by simpa[wIf] using HS.out⟩
 case round=>
  obtain⟨q,hq,rfl,v1,h1,o1,q1⟩:=hrel;have hlk:=HK.out.l
  by_cases hlt:q<ks.length
  ·have hd:decide ((q:Int)<ks.length)=true:=by simp;omega
   obtain⟨k,hk⟩:∃ k,ks[q]?=some k:=⟨_,List.getElem?_eq_getElem hlt⟩;obtain⟨t,ht⟩:∃ t,ts[q]?=some t:=⟨_,List.getElem?_eq_getElem (by omega)⟩;have hrk:=h1.env HK.out.r;obtain⟨b,o,hksm,-⟩:=hrk (by omega);rw[hksm] at hrk;have kc:=za9 hrk q (by simpa using hlt);rw[List.getD_eq_getElem?_getD,List.getElem?_map,hk] at kc;simp only[Option.map_some,Option.getD_some] at kc;have htk:ts.take (q+1)=ts.take q++[t]:=by rw[List.take_add_one,ht];rfl
   have hlq:((ts.take q).map wrP).length=q:=by rw[List.length_map,List.length_take];omega
   have hbud:(out++[wdT [105,102]]++wIf ((ts.take q).map wrP)).length+4 * q+12 * cntP t<=900000:=by
    have a1:=z2t (ts.take q);have a2:=zda ts (q+1);rw[htk,zc8,zc9] at a2;rw[List.length_take,Nat.min_eq_left (by omega)] at a1;rw[List.length_append,List.length_append,List.length_singleton];omega
   have HTK:Hid (wIf ((ts.take (q+1)).map wrP)=wIf ((ts.take q).map wrP)++(if q=2 then wdT [101,108,115,101]::wrP t else wrP t)):=by
    show _=_;rw[htk,List.map_append,show[t].map wrP=[wrP t] from rfl,z0f,hlq]
   have HNC:Hid (NodC w0 g nv L t):=HK.out.n t (List.mem_of_getElem? ht);have HEM:Hid (Emb L k t):=HK.out.e q k t hk ht;have HO:Hid _:=o1;have HQ:Hid _:=q1;have HKM:Hid _:=hksm;have hpos:=zdp t
   by_cases hq0:q=2
   rotate_left
   ·have HC:=HNC.out k wr v1 _ HEM.out h1 (by omega);have hz:((q:Int) == 2)=false:=by simp;omega
    have hz':(q == 2)=false:=by simp;omega
    have HZ:=hid hq0;clear h1 o1 q1 hk ht hrk htk hbud hlk hlq hq0 hksm;rw[HKM.out]
    go_wp2_with fail
    refine HC.mono ?_;rintro e W ⟨rfl,hp⟩;have HN:Hid (Wp w0 g nv w v (out++[wdT [105,102]]++wIf ((ts.take (q+1)).map wrP)) W):=by
     refine Wp.trans HO.out HQ.out ?_;rw[HTK.out,if_neg HZ.out,<-List.append_assoc];exact hp
    clear hp HC
    go_wp2
    exact⟨⟨q+1,by omega,by go_num,HN.out⟩,by simp[intOf];omega⟩
   ·subst hq0;have HC:=zbb [strU [101,108,115,101]] h1 (by simp at hbud ⊢;omega) (by simp);have hbud2:(out++[wdT [105,102]]++wIf ((ts.take 2).map wrP)++[strU [101,108,115,101]].map (tkW 1)).length+12 * cntP t<=900000:=by
     rw[List.length_append,List.length_map,List.length_singleton];omega
    clear h1 o1 q1 hk ht hrk htk hbud hlk hlq hksm;rw[HKM.out]
    go_wp2_with fail
    refine HC.mono ?_;rintro e W ⟨rfl,v2,h2,o2,q2⟩;have HD:=HNC.out k W v2 _ HEM.out h2 hbud2;have HO2:Hid _:=o2;have HQ2:Hid _:=q2;clear h2 o2 q2 HC hbud2
    go_wp2_with fail
    refine HD.mono ?_;rintro e W3 ⟨rfl,hp⟩;have HN:Hid (Wp w0 g nv w v (out++[wdT [105,102]]++wIf ((ts.take (2+1)).map wrP)) W3):=by
     refine Wp.trans HO.out HQ.out (Wp.trans HO2.out HQ2.out ?_);rw[HTK.out,if_pos (by trivial),<-List.append_assoc];unfold wdT at hp ⊢;simpa using hp
    clear hp HD
    go_wp2
    exact⟨⟨2+1,by omega,by go_num,HN.out⟩,by simp[intOf];omega⟩
  ·have hd:decide ((q:Int)<ks.length)=false:=by simp;omega
   have HP:Hid (Wp w0 g nv w v (out++([wdT [105,102]]++wIf (ts.map wrP))) wr):=by
    have hp:Wp w0 g nv w v (out++[wdT [105,102]]++wIf ((ts.take q).map wrP)) wr:=⟨v1,h1,o1,q1⟩;rw[List.take_of_length_le (by omega),List.append_assoc] at hp;exact hp
   clear h1 o1 q1
   go_wp2
   go_end0
   exact⟨rfl,HP.out⟩
end Go.Proofs.YtabiangdmibocaaGreatDoor
