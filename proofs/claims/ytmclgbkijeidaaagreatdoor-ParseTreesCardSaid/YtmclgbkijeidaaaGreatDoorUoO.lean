import Derived.Test.YtmclgbkijeidaaaGreatDoorUoN
import Derived.Test.YtmclgbkijeidaaaGreatDoorUoC
namespace Go.Proofs.YtmclgbkijeidaaaGreatDoor
set_option maxRecDepth 100000
set_option maxHeartbeats 4000000
open Go.RowKit
def Emb (L:List Nd) (i:Nat) (t:Pt):Prop:=∀ j d,(layP i t)[j]?=some d->L[i+j]?=some d
def NodC (w0:World) (g:Nat) (nv:Value) (L:List Nd) (t:Pt):Prop:=∀ (i:Nat) (w:World) (v:Value) (out:List Tok),Emb L i t->Wr w0 g nv w v out->out.length+12 * cntP t<=900000 ->
 Calls Tryz.prog 85 #[.pointer (some ⟨g,0,none⟩),.int .i64 i] w fun e w'=>e=.returned (.tuple #[])∧Wp w0 g nv w v (out++wrP t) w'
structure KsA (w0:World) (g:Nat) (nv:Value) (L:List Nd) (sk:Option Addr) (ks:List Nat) (ts:List Pt):Prop where
 r:RowsAt w0 1 intC sk ks
 l:ks.length=ts.length
 e:∀ (j:Nat) k t,ks[j]?=some k->ts[j]?=some t->Emb L k t
 n:∀ t ∈ ts,NodC w0 g nv L t
 s:ks.length<=100000
theorem zm9 (k:Int):∀ hs:List (Int × ByteArray),cutN k hs<=hs.length
 | []=>Ya _
 | h::r=>by
  rw[cutN];have:=zm9 k r
  split <;> simp <;> omega
theorem zna (os:List (List Tok)):(wBrk os).length<=2+(os.map (fun o=>o.length+1)).sum:=by
 cases os with
 | nil=>simp[wBrk,wPar]
 | cons o r=>
  have h:((r.map (sgT [44]::·)).flatten).length=(r.map (fun o=>o.length+1)).sum:=by
   induction r with
   | nil=>rfl
   | cons a b ih=>simp[ih];omega
  simp only[wBrk,wPar,List.length_append,List.length_cons,List.length_nil,h,List.map_cons,List.sum_cons];omega
theorem znb (s:List UInt8)(os:List (List Tok)):(wPar s os).length<=(os.map (fun o=>o.length+1)).sum:=by
 cases os with
 | nil=>simp[wPar]
 | cons o r=>
  have h:((r.map (sgT s::·)).flatten).length=(r.map (fun o=>o.length+1)).sum:=by
   induction r with
   | nil=>rfl
   | cons a b ih=>simp[ih];omega
  simp only[wPar,List.length_append,h,List.map_cons,List.sum_cons];omega
theorem zk0 (os:List (List Tok)):(wEnd os).length=(os.map (fun o=>o.length+1)).sum:=by
 unfold wEnd
 induction os with
 | nil=>rfl
 | cons a b ih=>simp at ih ⊢;omega
theorem zhd (os:List (List Tok)):os.flatten.length<=(os.map (fun o=>o.length+1)).sum:=by
 induction os with
 | nil=>simp
 | cons a b ih=>simp only[List.flatten_cons,List.length_append,List.map_cons,List.sum_cons];omega
theorem zk1 (os:List (List Tok))(n:Nat):((os.take n).map (fun o=>o.length+1)).sum+((os.drop n).map (fun o=>o.length+1)).sum=(os.map (fun o=>o.length+1)).sum:=by
 induction os generalizing n with
 | nil=>simp
 | cons a b ih=>
  cases n with
  | zero=>simp
  | succ n=>
   have:=ih n;simp only[List.take_succ_cons,List.drop_succ_cons,List.map_cons,List.sum_cons];omega
theorem ziq (os:List (List Tok)):(os.map (fun o=>o.length+1)).sum<=(os.map (fun o=>o.length+3)).sum:=by
 induction os with
 | nil=>simp
 | cons a b ih=>simp only[List.map_cons,List.sum_cons];omega
theorem zjq (k:Int)(x:ByteArray)(hs:List (Int × ByteArray))(os:List (List Tok))(i:Nat)(n:Nat)(h:∀ o,os[i]?=some o->o.length+2<=n):(wOpe k x hs os i).length<=n:=by
 unfold wOpe
 split
 ·rename_i h' o e1 e2
  have:=h o e2
  split
  ·simp[wBrk,wPar];omega
  ·omega
 ·simp
theorem zy2 (k:Int)(x:ByteArray)(hs:List (Int × ByteArray))(os:List (List Tok)):(wOpe k x hs os 0).length+(wOpe k x hs os 1).length<=(os.map (fun o=>o.length+3)).sum∧(wOpe k x hs os 0).length+((os.drop 1).map (fun o=>o.length+1)).sum<=(os.map (fun o=>o.length+3)).sum:=by
 cases os with
 | nil=>
  have A:=zjq k x hs [] 0 0 (by simp);have y:=zjq k x hs [] 1 0 (by simp);simp only[List.map_nil,List.sum_nil,List.drop_nil];omega
 | cons a r=>
  have A:=zjq k x hs (a::r) 0 (a.length+2) (by simp);have C:=ziq r
  cases r with
  | nil=>
   have y:=zjq k x hs [a] 1 0 (by simp);simp only[List.map_cons,List.map_nil,List.sum_cons,List.sum_nil,List.drop_succ_cons,List.drop_nil];omega
  | cons b r=>
   have y:=zjq k x hs (a::b::r) 1 (b.length+2) (by simp);simp only[List.map_cons,List.sum_cons,List.drop_succ_cons,List.drop_zero] at C ⊢;omega
theorem zy3 (k:Int)(x:ByteArray)(n:Int)(hs:List (Int × ByteArray))(os:List (List Tok)):(wrX k x n hs os).length<=7+(os.map (fun o=>o.length+3)).sum:=by
 obtain⟨y,C⟩:=zy2 k x hs os;have A:=zna (os.drop 1);unfold wrX
 repeat' split
 all_goals (try simp only[List.length_append,List.length_cons,List.length_nil])
 all_goals omega
theorem zy4 (k:Int)(x:ByteArray)(n:Int)(hs:List (Int × ByteArray))(os:List (List Tok)):(wrS k x n hs os).length<=7+(os.map (fun o=>o.length+3)).sum:=by
 have I:=zy3 k x n hs os;have M:=ziq os;have K:=zk0 os;have y:=zhd os;have D:=znb [61] os;have C:(wIf os).length<=1+(os.map (fun o=>o.length+1)).sum:=by
  have A:=zhd (os.take 2);have F:=zhd (os.drop 2);have E:=zk1 os 2;unfold wIf
  split <;> simp only[List.length_append,List.length_cons,List.length_nil] <;> omega
 unfold wrS
 repeat' split
 all_goals (try simp only[wBra,List.length_append,List.length_cons,List.length_nil])
 all_goals omega
theorem zy5 (k:Int)(x:ByteArray)(n:Int)(hs:List (Int × ByteArray))(os:List (List Tok)):(wrK k x n hs os).length<=7+(os.map (fun o=>o.length+3)).sum:=by
 have M:=zy4 k x n hs os;have U:=ziq os;have N:=zk0 os;have y:=zhd os;have D:=znb [61] os;have C:(wFun x hs os).length<=6+(os.map (fun o=>o.length+1)).sum:=by
  have A:=zna (os.take (cutN 8 hs));have F:=zk1 os (cutN 8 hs);have E:=zna ((os.drop (cutN 8 hs)).take (cutN 9 (hs.drop (cutN 8 hs))));have K:=zk1 (os.drop (cutN 8 hs)) (cutN 9 (hs.drop (cutN 8 hs)));have I:=zhd ((os.drop (cutN 8 hs)).drop (cutN 9 (hs.drop (cutN 8 hs))));unfold wFun
  split <;> simp only[List.length_append,List.length_cons,List.length_nil] <;> omega
 unfold wrK
 repeat' split
 all_goals (try simp only[wBra,List.length_append,List.length_cons,List.length_nil])
 all_goals omega
mutual
theorem zjr:∀ t:Pt,(wrP t).length+5<=12 * cntP t
 | .mk k x n a f t l=>by
  have h1:=zy5 k x n (l.map hdP) (wrM l);have h2:=zsi l;rw[wrP,cntP];omega
theorem zsi:∀ l:List Pt,((wrM l).map (fun o=>o.length+3)).sum<=12 * cntL l
 | []=>by simp[wrM]
 | t::r=>by
  have h1:=zjr t;have h2:=zsi r;rw[wrM,cntL,List.map_cons,List.sum_cons];omega
end
theorem zfp:∀ (l:List Pt)(q:Nat),cntL (l.take q)+cntL (l.drop q)=cntL l
 | [],q=>by simp[cntL]
 | t::r,0=>by simp[cntL]
 | t::r,q+1=>by
  have:=zfp r q;rw[List.take_succ_cons,List.drop_succ_cons,cntL,cntL];omega
theorem zb4:∀ l:List Pt,(l.map wrP).flatten.length+5 * l.length<=12 * cntL l
 | []=>by simp[cntL]
 | t::r=>by
  have h1:=zjr t;have h2:=zb4 r;rw[List.map_cons,List.flatten_cons,List.length_append,cntL,List.length_cons];omega
theorem zec {w0 w:World}{g:Nat}{nv v:Value}{out:List Tok}{L:List Nd}(sk:Option Addr)(ck:Nat)(ks:List Nat)(ts:List Pt)(hk:KsA w0 g nv L sk ks ts)(h:Wr w0 g nv w v out)(hl:out.length+12 * cntL ts<=900000) :
  Calls Tryz.prog 118 #[.pointer (some ⟨g,0,none⟩),.slice sk ks.length ck] w fun e w'=>e=.returned (.tuple #[])∧Wp w0 g nv w v (out++(ts.map wrP).flatten) w':=by
 have HW:=J h;have E:=J hk;have ab:=hk.s;clear h hk
 go_enter Tryz.func118,Tryz.ntmps118
 go_wp2
 go_loopw [8] (fun i wr=>∃ q:Nat,q<=ks.length∧i=.int .i64 q∧Wp w0 g nv w v (out++((ts.take q).map wrP).flatten) wr) (fun i _=>ks.length - (intOf i).toNat)
 case atStart=>exact⟨0,Yk _,rfl,by simpa using Wp.start HW.out⟩
 case round=>
  obtain⟨q,hq,rfl,v1,y,F,C⟩:=hrel;have Y:=E.out.l
  by_cases hlt:q<ks.length
  ·have hd:decide ((q:Int)<ks.length)=true:=by simp;omega
   obtain⟨k,hk⟩:∃ k,ks[q]?=some k:=⟨_,Yh hlt⟩;obtain⟨t,D⟩:∃ t,ts[q]?=some t:=⟨_,Yh (by omega)⟩;have I:=y.env E.out.r;obtain⟨b,o,rfl,-⟩:=I (by omega);have M:=zda I q (by simpa using hlt);rw[List.getD_eq_getElem?_getD,List.getElem?_map,hk] at M;simp only[Option.map_some,Option.getD_some] at M;have K:ts.take (q+1)=ts.take q++[t]:=by rw[List.take_add_one,D];rfl
   have N:(out++((ts.take q).map wrP).flatten).length+12 * cntP t<=900000:=by
    have a1:=zb4 (ts.take q);have Z:=zfp ts (q+1);rw[K,zdl,zdm] at Z;rw[List.length_append];omega
   have U:=E.out.n t (Ym D) k wr v1 _ (E.out.e q k t hk D) y N;have aa:Hid _:=K;have X:Hid _:=F;have V:Hid _:=C;clear y F C hk D I K N Y
   go_wp2_with fail
   refine U.mono ?_;rintro e W ⟨rfl,A⟩;have HN:Hid (Wp w0 g nv w v (out++((ts.take (q+1)).map wrP).flatten) W):=by
    refine Wp.trans X V ?_;rw[aa.out,List.map_append,List.flatten_append,<-List.append_assoc];simpa using A
   clear A U
   go_wp2
   exact⟨⟨q+1,by omega,by go_num,HN.out⟩,by simp[intOf];omega⟩
  ·have hd:decide ((q:Int)<ks.length)=false:=by simp;omega
   have HP:Hid (Wp w0 g nv w v (out++(ts.map wrP).flatten) wr):=by
    have A:Wp w0 g nv w v (out++((ts.take q).map wrP).flatten) wr:=⟨v1,y,F,C⟩;rw[List.take_of_length_le (by omega)] at A;exact A
   clear y F C
   go_wp2
   go_end0
   exact⟨rfl,HP.out⟩
theorem zv4 (os:List (List Tok))(o:List Tok):wEnd (os++[o])=wEnd os++o++[enT]:=by simp[wEnd]
theorem zv5 (s:List UInt8)(os:List (List Tok))(o:List Tok):wPar s (os++[o])=wPar s os++(if os.length=0 then o else sgT s::o):=by
 cases os with
 | nil=>simp[wPar]
 | cons a r=>simp[wPar]
theorem zy6 (os:List (List Tok))(o:List Tok):wIf (os++[o])=wIf os++(if os.length=2 then wdT [101,108,115,101]::o else o):=by
 match os with
 | []=>simp[wIf]
 | [a]=>simp[wIf]
 | [a,b]=>simp[wIf]
 | a::b::c::r=>simp[wIf]
theorem znc (l:List Pt):(wEnd (l.map wrP)).length+4 * l.length<=12 * cntL l:=by
 have h:=zb4 l;rw[zk0];have e:((l.map wrP).map (fun o=>o.length+1)).sum=(l.map wrP).flatten.length+l.length:=by
  induction l with
  | nil=>rfl
  | cons a r ih=>
   have:=ih (zb4 r);simp only[List.map_cons,List.sum_cons,List.flatten_cons,List.length_append,List.length_cons] at this ⊢;omega
 omega
theorem znd (s:List UInt8)(l:List Pt):(wPar s (l.map wrP)).length+4 * l.length<=12 * cntL l:=by
 have A:=znb s (l.map wrP);have y:=znc l;rw[zk0] at y;omega
theorem zl6 {w0 w:World}{g:Nat}{nv v:Value}{out:List Tok}{L:List Nd}(sk:Option Addr)(ck:Nat)(ks:List Nat)(ts:List Pt)(hk:KsA w0 g nv L sk ks ts)(h:Wr w0 g nv w v out)(hl:out.length+12 * cntL ts<=900000) :
  Calls Tryz.prog 115 #[.pointer (some ⟨g,0,none⟩),.slice sk ks.length ck] w fun e w'=>e=.returned (.tuple #[])∧Wp w0 g nv w v (out++wEnd (ts.map wrP)) w':=by
 have HW:=J h;have E:=J hk;have ag:=hk.s;clear h hk
 go_enter Tryz.func115,Tryz.ntmps115
 go_wp2
 go_loopw [8] (fun i wr=>∃ q:Nat,q<=ks.length∧i=.int .i64 q∧Wp w0 g nv w v (out++wEnd ((ts.take q).map wrP)) wr) (fun i _=>ks.length - (intOf i).toNat)
 case atStart=>exact⟨0,Yk _,rfl,by simpa[wEnd] using Wp.start HW.out⟩
 case round=>
  obtain⟨q,hq,rfl,v1,y,F,C⟩:=hrel;have aa:=E.out.l
  by_cases hlt:q<ks.length
  ·have hd:decide ((q:Int)<ks.length)=true:=by simp;omega
   obtain⟨k,hk⟩:∃ k,ks[q]?=some k:=⟨_,Yh hlt⟩;obtain⟨t,D⟩:∃ t,ts[q]?=some t:=⟨_,Yh (by omega)⟩;have I:=y.env E.out.r;obtain⟨b,o,rfl,-⟩:=I (by omega);have M:=zda I q (by simpa using hlt);rw[List.getD_eq_getElem?_getD,List.getElem?_map,hk] at M;simp only[Option.map_some,Option.getD_some] at M;have K:ts.take (q+1)=ts.take q++[t]:=by rw[List.take_add_one,D];rfl
   have X:(out++wEnd ((ts.take q).map wrP)).length+12 * cntP t<=900000:=by
    have a1:=znc (ts.take q);have a2:=zfp ts (q+1);rw[K,zdl,zdm] at a2;rw[List.length_append];omega
   have ae:(out++wEnd ((ts.take q).map wrP)++wrP t).length+1<=900000:=by
    have:=zjr t;rw[List.length_append];omega
   have Y:=E.out.n t (Ym D) k wr v1 _ (E.out.e q k t hk D) y X;have af:Hid _:=K;have HO:Hid _:=F;have HQ:Hid _:=C;clear y F C hk D I K X aa
   go_wp2_with fail
   refine Y.mono ?_;rintro e W ⟨rfl,v2,V,Z,U⟩;have N:=zos V ae;have ab:Hid _:=Z;have ac:Hid _:=U;clear V Z U Y
   go_wp2_with fail
   refine N.mono ?_;rintro e W3 ⟨rfl,A⟩;have HN:Hid (Wp w0 g nv w v (out++wEnd ((ts.take (q+1)).map wrP)) W3):=by
    refine Wp.trans HO HQ (Wp.trans ab ac ?_);rw[af.out,List.map_append,show[t].map wrP=[wrP t] from rfl,zv4,<-List.append_assoc,<-List.append_assoc];exact A
   clear A N
   go_wp2
   exact⟨⟨q+1,by omega,by go_num,HN.out⟩,by simp[intOf];omega⟩
  ·have hd:decide ((q:Int)<ks.length)=false:=by simp;omega
   have HP:Hid (Wp w0 g nv w v (out++wEnd (ts.map wrP)) wr):=by
    have A:Wp w0 g nv w v (out++wEnd ((ts.take q).map wrP)) wr:=⟨v1,y,F,C⟩;rw[List.take_of_length_le (by omega)] at A;exact A
   clear y F C
   go_wp2
   go_end0
   exact⟨rfl,HP.out⟩
theorem zhp {w0 w:World}{g:Nat}{nv v:Value}{out:List Tok}{L:List Nd}(s:List UInt8)(sk:Option Addr)(ck:Nat)(ks:List Nat)(ts:List Pt)(hk:KsA w0 g nv L sk ks ts)(h:Wr w0 g nv w v out)(hl:out.length+12 * cntL ts<=900000) :
  Calls Tryz.prog 119 #[.pointer (some ⟨g,0,none⟩),.slice sk ks.length ck,.string (strU s)] w fun e w'=>e=.returned (.tuple #[])∧Wp w0 g nv w v (out++wPar s (ts.map wrP)) w':=by
 have HW:=J h;have I:=J hk;have al:=hk.s;clear h hk;generalize ab:strU s=sb;have ai:=J ab;clear ab
 go_enter Tryz.func119,Tryz.ntmps119
 go_wp2
 go_loopw [10] (fun i wr=>∃ q:Nat,q<=ks.length∧i=.int .i64 q∧Wp w0 g nv w v (out++wPar s ((ts.take q).map wrP)) wr) (fun i _=>ks.length - (intOf i).toNat)
 case atStart=>exact⟨0,Yk _,rfl,by simpa[wPar] using Wp.start HW.out⟩
 case round=>
  obtain⟨q,hq,rfl,v1,A,E,C⟩:=hrel;have Z:=I.out.l
  by_cases hlt:q<ks.length
  ·have hd:decide ((q:Int)<ks.length)=true:=by simp;omega
   obtain⟨k,hk⟩:∃ k,ks[q]?=some k:=⟨_,Yh hlt⟩;obtain⟨t,D⟩:∃ t,ts[q]?=some t:=⟨_,Yh (by omega)⟩;have K:=A.env I.out.r;obtain⟨b,o,rfl,-⟩:=K (by omega);have X:=zda K q (by simpa using hlt);rw[List.getD_eq_getElem?_getD,List.getElem?_map,hk] at X;simp only[Option.map_some,Option.getD_some] at X;have M:ts.take (q+1)=ts.take q++[t]:=by rw[List.take_add_one,D];rfl
   have V:((ts.take q).map wrP).length=q:=by rw[List.length_map,List.length_take];omega
   have ae:(out++wPar s ((ts.take q).map wrP)).length+4 * q+12 * cntP t<=900000:=by
    have a1:=znd s (ts.take q);have a2:=zfp ts (q+1);rw[M,zdl,zdm] at a2;rw[List.length_take,Nat.min_eq_left (by omega)] at a1;rw[List.length_append];omega
   have af:Hid (wPar s ((ts.take (q+1)).map wrP)=wPar s ((ts.take q).map wrP)++(if q=0 then wrP t else sgT s::wrP t)):=by
    show _=_;rw[M,List.map_append,show[t].map wrP=[wrP t] from rfl,zv5,V]
   have aa:Hid (NodC w0 g nv L t):=I.out.n t (Ym D);have ag:Hid (Emb L k t):=I.out.e q k t hk D;have HO:Hid _:=E;have Y:Hid _:=C;have ak:=zd3 t
   by_cases hq0:q=0
   ·have F:=aa.out k wr v1 _ ag A (by omega);have hz:decide (0<q)=false:=by simp;omega
    have U:=J hq0;clear A E C hk D K M ae Z V hq0
    go_wp2_with fail
    refine F.mono ?_;rintro e W ⟨rfl,y⟩;have N:Hid (Wp w0 g nv w v (out++wPar s ((ts.take (q+1)).map wrP)) W):=by
     refine Wp.trans HO Y ?_;rw[af.out,if_pos U.out,<-List.append_assoc];exact y
    clear y F
    go_wp2
    exact⟨⟨q+1,by omega,by go_num,N.out⟩,by simp[intOf];omega⟩
   ·have F:=zdb sb A (by omega);have hz:decide (0<q)=true:=by simp;omega
    have U:=J hq0;have ac:(out++wPar s ((ts.take q).map wrP)++[tkW 4 sb]).length+12 * cntP t<=900000:=by
     rw[List.length_append,List.length_singleton];omega
    clear A E C hk D K M ae Z V hq0
    go_wp2_with fail
    refine F.mono ?_;rintro e W ⟨rfl,v2,h2,o2,q2⟩;have HD:=aa.out k W v2 _ ag h2 ac;have ah:Hid _:=o2;have aj:Hid _:=q2;clear h2 o2 q2 F ac
    go_wp2_with fail
    refine HD.mono ?_;rintro e W3 ⟨rfl,y⟩;have N:Hid (Wp w0 g nv w v (out++wPar s ((ts.take (q+1)).map wrP)) W3):=by
     refine Wp.trans HO Y (Wp.trans ah aj ?_);rw[af.out,if_neg U.out,<-List.append_assoc];unfold sgT;rw[ai.out];simpa using y
    clear y HD
    go_wp2
    exact⟨⟨q+1,by omega,by go_num,N.out⟩,by simp[intOf];omega⟩
  ·have hd:decide ((q:Int)<ks.length)=false:=by simp;omega
   have HP:Hid (Wp w0 g nv w v (out++wPar s (ts.map wrP)) wr):=by
    have y:Wp w0 g nv w v (out++wPar s ((ts.take q).map wrP)) wr:=⟨v1,A,E,C⟩;rw[List.take_of_length_le (by omega)] at y;exact y
   clear A E C
   go_wp2
   go_end0
   exact⟨rfl,HP.out⟩
theorem zjs {w0 w:World}{g:Nat}{nv v:Value}{out:List Tok}{L:List Nd}(sk:Option Addr)(ck:Nat)(ks:List Nat)(ts:List Pt)(hk:KsA w0 g nv L sk ks ts)(h:Wr w0 g nv w v out)(hl:out.length+2+12 * cntL ts<=900000) :
  Calls Tryz.prog 120 #[.pointer (some ⟨g,0,none⟩),.slice sk ks.length ck] w fun e w'=>e=.returned (.tuple #[])∧Wp w0 g nv w v (out++wBra (ts.map wrP)) w':=by
 have Z:=J hk;have F:=zdb (strU [123]) h (by omega);clear h hk
 go_enter Tryz.func120,Tryz.ntmps120
 go_wp2_with fail
 refine F.mono ?_;rintro e W1 ⟨rfl,v1,D,I,y⟩;have Y:Hid _:=I;have U:Hid _:=y;have E:=zl6 sk ck ks ts Z D (by simp;omega);clear D I y F
 go_wp2_with fail
 refine E.mono ?_;rintro e W2 ⟨rfl,v2,N,M,C⟩;have ab:Hid _:=M;have aa:Hid _:=C;have V:=znc ts;have A:=zdb (strU [125]) N (by simp;omega);clear N M C E V
 go_wp2_with fail
 refine A.mono ?_;rintro e X ⟨rfl,K⟩;have HN:Hid (Wp w0 g nv w v (out++wBra (ts.map wrP)) X):=by
  refine Wp.trans Y U (Wp.trans ab aa ?_);simpa[wBra,sgT] using K
 clear K A
 go_wp2
 go_end0
 exact⟨rfl,HN.out⟩
theorem zdz {w0 w:World}{g:Nat}{nv v:Value}{out:List Tok}{L:List Nd}(sk:Option Addr)(ck:Nat)(ks:List Nat)(ts:List Pt)(hk:KsA w0 g nv L sk ks ts)(h:Wr w0 g nv w v out)(hl:out.length+2+12 * cntL ts<=900000) :
  Calls Tryz.prog 145 #[.pointer (some ⟨g,0,none⟩),.slice sk ks.length ck] w fun e w'=>e=.returned (.tuple #[])∧Wp w0 g nv w v (out++wBrk (ts.map wrP)) w':=by
 have Z:=J hk;have F:=zdb (strU [40]) h (by omega);clear h hk
 go_enter Tryz.func145,Tryz.ntmps145
 go_wp2_with fail
 refine F.mono ?_;rintro e W1 ⟨rfl,v1,D,I,y⟩;have Y:Hid _:=I;have U:Hid _:=y;have E:=zhp [44] sk ck ks ts Z D (by simp;omega);clear D I y F
 go_wp2_with fail
 refine E.mono ?_;rintro e W2 ⟨rfl,v2,N,M,C⟩;have ab:Hid _:=M;have aa:Hid _:=C;have V:=znd [44] ts;have A:=zdb (strU [41]) N (by simp;omega);clear N M C E V
 go_wp2_with fail
 refine A.mono ?_;rintro e X ⟨rfl,K⟩;have HN:Hid (Wp w0 g nv w v (out++wBrk (ts.map wrP)) X):=by
  refine Wp.trans Y U (Wp.trans ab aa ?_);simpa[wBrk,sgT] using K
 clear K A
 go_wp2
 go_end0
 exact⟨rfl,HN.out⟩
theorem zp4 (m n:NdM)(i:Nat)(w:World)(hT:Tabl w):Calls Tryz.prog 176 #[.agg m.cells,.agg n.cells,.int .i64 i] w fun e w'=>e=.returned (.bool (nedB m.k m.x (n.k,n.x) i))∧Below w.heap.size w w':=by
 have HT:Hid (∀ W,Below w.heap.size w W->Tabl W):=fun W E=>zcm E.block hT;clear hT;unfold NdM.cells
 go_enter Tryz.func176,Tryz.ntmps176
 go_wp2_with fail
 refine zdq (fun W=>W.heap[w.heap.size]?=some (.cells m.cells 53 (0,0))∧W.heap[w.heap.size+1]?=some (.cells n.cells 53 (0,0))∧Below w.heap.size w W) ?_ ?_
 ·have n0:=Yd w (.cells m.cells 53);have n1:=Yd (w.alloc (.cells m.cells 53)) (.cells n.cells 53);simp only[World.size_alloc] at n1;exact⟨(Yn _ _ _ (by simp)).trans n0,n1,((Yb _ _).alloc (Ya _) _).alloc (by simp) _⟩
 rintro W0 ⟨M,N,Z⟩;have A:Hid (∀ W,Below W0.heap.size W0 W->W.cell? ⟨w.heap.size,0,none⟩=some (.int .i64 m.k)∧W.cell? ⟨w.heap.size,1,none⟩=some (.string m.x)∧W.cell? ⟨w.heap.size+1,0,none⟩=some (.int .i64 n.k)∧W.cell? ⟨w.heap.size+1,1,none⟩=some (.string n.x)∧Below w.heap.size w W):=fun W E=>
  ⟨(Yc _ _ 0 _ _ _ ((E.block _ (zaa M)).trans M)).trans rfl,(Yc _ _ 1 _ _ _ ((E.block _ (zaa M)).trans M)).trans rfl,(Yc _ _ 0 _ _ _ ((E.block _ (zaa N)).trans N)).trans rfl,(Yc _ _ 1 _ _ _ ((E.block _ (zaa N)).trans N)).trans rfl,Z.trans (E.mono Z.size)⟩
 clear M N Z;obtain⟨c0,c1,d0,d1,-⟩:=A.out W0 (Yb _ _)
 go_quiet (fail)
 obtain⟨-,-,-,-,ab⟩:=A.out (W0.drewN nq) (zc8 _ _);have Y:Hid _:=ab;clear ab
 cases b1:(m.k == 26)
 rotate_left
 focus (
  have y:Hid (nedB m.k m.x (n.k,n.x) i=(n.k == 27)):=by
   show nedB _ _ _ _=_;unfold nedB;rw[if_pos (by simpa using b1)]
  go_wp2
  go_ret
  exact⟨zay y.out.symm,Y.out⟩)
 cases b2:(m.k != 27)
 rotate_left
 focus (
  have y:Hid (nedB m.k m.x (n.k,n.x) i=((n.k == 26) || (n.k == 27))):=by
   show nedB _ _ _ _=_;unfold nedB;rw[if_neg (by simpa using b1),if_pos (by simpa using b2)]
  cases b3:(n.k == 26)
  ·rw[b3] at y
   go_wp2
   go_ret
   exact⟨zay (by rw[y.out];rfl),Y.out⟩
  ·rw[b3] at y
   go_wp2
   go_ret
   exact⟨zay (by rw[y.out];rfl),Y.out⟩)
 have y:Hid (nedB m.k m.x (n.k,n.x) i=((n.k == 27) && (decide (rowI n.x<rowI m.x) || ((rowI n.x == rowI m.x) && (decide (0<i) || (rowI n.x == 2)))))):=by
  show nedB _ _ _ _=_;unfold nedB;rw[if_neg (by simpa using b1),if_neg (by simpa using b2)]
 go_wp2_with fail
 have D:Below W0.heap.size W0 (W0.drewN nq).drew:=(zc8 _ _).drew;clear c0 c1 d0 d1;refine zbc (S:=fun w'=>Below W0.heap.size W0 w') 8 rfl (by kernel_rfl) ?_;refine zaj 0 28 (.pointer (some ⟨w.heap.size,1,none⟩)) rfl (by rfl) (by kernel_rfl) (fun _ _ _ h=>h) (fun w' C=>by obtain⟨e0,K,V,F,-⟩:=A.out w' C;first|rfl|(go_simp;done)) D ?_;simp only[sI,sS,sZ];refine zaj 1 29 (.string m.x) rfl (by rfl) (by kernel_rfl) (fun _ _ _ h=>h) (fun w' C=>by obtain⟨e0,K,V,F,-⟩:=A.out w' C;first|rfl|(go_simp;done)) D ?_;simp only[sI,sS,sZ];refine zaj 3 31 (.pointer (some ⟨w.heap.size+1,1,none⟩)) rfl (by rfl) (by kernel_rfl) (fun _ _ _ h=>h) (fun w' C=>by obtain⟨e0,K,V,F,-⟩:=A.out w' C;first|rfl|(go_simp;done)) D ?_;simp only[sI,sS,sZ];refine zaj 4 32 (.string n.x) rfl (by rfl) (by kernel_rfl) (fun _ _ _ h=>h) (fun w' C=>by obtain⟨e0,K,V,F,-⟩:=A.out w' C;first|rfl|(go_simp;done)) D ?_;simp only[sI,sS,sZ];refine zh4 2 rfl (by rfl) (by kernel_rfl) ?_
 go_simp
 refine(zm6 m.x _ (HT _ (A _ D).2.2.2.2)).mono ?_;rintro e W1 ⟨rfl,ac⟩;have U:Below W0.heap.size W0 W1:=D.trans (ac.mono D.size);refine⟨U,?_⟩;refine zh4 5 rfl (by rfl) (by kernel_rfl) ?_
 go_simp
 refine(zm6 n.x W1 (HT _ (A _ U).2.2.2.2)).mono ?_;rintro e W2 ⟨rfl,aa⟩;have I:Below W0.heap.size W0 W2:=U.trans (aa.mono U.size);refine⟨I,?_⟩;refine zaj 6 9 (.int .i64 (rowI m.x)) rfl (by rfl) (by kernel_rfl) (fun _ _ _ h=>h) (fun w' C=>by obtain⟨e0,K,V,F,-⟩:=A.out w' C;first|rfl|(go_simp;done)) I ?_;simp only[sI,sS,sZ];refine zaj 7 10 (.int .i64 (rowI n.x)) rfl (by rfl) (by kernel_rfl) (fun _ _ _ h=>h) (fun w' C=>by obtain⟨e0,K,V,F,-⟩:=A.out w' C;first|rfl|(go_simp;done)) I ?_;simp only[sI,sS,sZ];refine wpAnyH_done (by kernel_rfl) ?_ _;have X:Hid (Below w.heap.size w W2):=(A _ I).2.2.2.2;clear D U I ac aa A Y HT;generalize rowI m.x=ra at y ⊢;generalize rowI n.x=rb at y ⊢
 cases b3:(n.k == 27)
 ·rw[b3] at y
  go_wp2
  go_ret
  exact⟨zay (by rw[y.out];rfl),X.out⟩
 rw[b3] at y
 cases b4:decide (rb<ra)
 rotate_left
 focus (
  rw[b4] at y
  go_wp2
  go_ret
  exact⟨zay (by rw[y.out];rfl),X.out⟩)
 rw[b4] at y
 cases b5:(rb == ra)
 ·rw[b5] at y
  go_wp2
  go_ret
  exact⟨zay (by rw[y.out];rfl),X.out⟩
 rw[b5] at y
 cases b6:decide (0<i)
 rotate_left
 focus (
  rw[b6] at y
  go_wp2
  go_ret
  exact⟨zay (by rw[y.out];rfl),X.out⟩)
 rw[b6] at y
 go_wp2
 go_ret
 exact⟨zay (by rw[y.out];simp),X.out⟩
theorem zen (w:World)(a b c:Nat):((w.drewN a).drewN b).drewN c=w.drewN (a+b+c):=by rw[zd7,zd7,Nat.add_assoc]
structure EnW (w0:World) (nv:Value) (L:List Nd):Prop where
 x:∃ sn cn N S,nv=.slice sn L.length cn∧RowsAt w0 7 NdM.cells sn N∧Rep w0 S N L
 t:Tabl w0
 l:L.length<=100000
theorem Emb.hd {L:List Nd}{i:Nat}{t:Pt}(h:Emb L i t):∃ d,L[i]?=some d∧(d.kind,d.text)=hdP t:=by
 cases t with
 | mk k x n a f t l=>
  refine⟨_,by have:=h 0 _ (by rw[layP];rfl);simpa using this,rfl⟩
theorem zv6 {k:Int}{hs:List (Int × ByteArray)}{q:Nat}{h:Int × ByteArray}(hq:hs[q]?=some h)(hk:(h.1 == k)=true):cutN k (hs.drop q)=cutN k (hs.drop (q+1))+1:=by
 have y:=(List.getElem?_eq_some_iff.1 hq).1;rw[List.drop_eq_getElem_cons y,show hs[q]=h by have:=Yh y;rw[hq] at this;injection this with this;exact this.symm,cutN,if_pos hk]
theorem zy7 {k:Int}{hs:List (Int × ByteArray)}{q:Nat}{h:Int × ByteArray}(hq:hs[q]?=some h)(hk:(h.1 == k)=false):cutN k (hs.drop q)=0:=by
 have y:=(List.getElem?_eq_some_iff.1 hq).1;rw[List.drop_eq_getElem_cons y,show hs[q]=h by have:=Yh y;rw[hq] at this;injection this with this;exact this.symm,cutN,if_neg (by rw[hk];simp)]
theorem zhq {w:World}{b o:Nat}{xs:List Nat}(h:RowsAt w 1 intC (some ⟨b,o,none⟩) xs)(n:Nat):RowsAt w 1 intC (some ⟨b,o+n,none⟩) (xs.drop n):=fun hl=>by
 obtain⟨b',o',e,hc⟩:=h (by rw[List.length_drop] at hl;omega);injection e with e;injection e with e1 e2;subst e1 e2;refine⟨b,o+n,rfl,fun i x hx j u hu=>?_⟩;rw[List.getElem?_drop] at hx;have:=hc (n+i) x hx j u hu;rw[show o+n+i * 1+j=o+(n+i) * 1+j by omega];exact this
theorem zsj {w0 w:World}{g:Nat}{nv v:Value}{out:List Tok}{L:List Nd}(kind:Int)(sk:Option Addr)(ck:Nat)(ks:List Nat)(ts:List Pt)(hE:EnW w0 nv L)(hk:KsA w0 g nv L sk ks ts)(h:Wr w0 g nv w v out)(hc:ks.length<=ck)(hcm:ck<=maxLen)(hz:sk=none->ck=0) :
  Calls Tryz.prog 144 #[.pointer (some ⟨g,0,none⟩),.slice sk ks.length ck,.int .i64 kind] w fun e w'=>(∃ sk2 ck2,e=.returned (.tuple #[.slice sk (cutN kind (ts.map hdP)) ck,.slice sk2 (ks.length - cutN kind (ts.map hdP)) ck2])∧RowsAt w0 1 intC sk2 (ks.drop (cutN kind (ts.map hdP)))∧ks.length - cutN kind (ts.map hdP)<=ck2∧ck2<=maxLen∧(sk2=none->ck2=0))∧∃ n,w'=w.drewN n:=by
 have HW:=J h;have C:=J hk;have HE:=J hE;have ay:=hk.s;have ab:Hid (ks.length=ts.length):=hk.l;have aw:maxLen=9223372036854775807:=rfl;obtain⟨sn,cn,N,S,ar,Y,hR⟩:=hE.x;have ac:Hid (N.length=L.length):=hR.1;have ax:=hE.l;have HN:=J Y;have HR:=J hR;have cg:w.cell? ⟨g,0,none⟩=some nv:=Yp 0 h.r rfl;subst ar;clear h hk hE Y hR
 go_enter Tryz.func144,Tryz.ntmps144
 go_wp2_with fail
 go_loopw [8] (fun i wr=>∃ q n:Nat,q<=ks.length∧i=.int .i64 q∧wr=w.drewN n∧cutN kind (ts.map hdP)=q+cutN kind ((ts.map hdP).drop q)) (fun i _=>ks.length - (intOf i).toNat)
 case atStart=>exact⟨0,0,Yk _,rfl,rfl,by simp⟩
 case round=>
  obtain⟨q,n,hq,rfl,rfl,ae⟩:=hrel;have M:Hid _:=ae;clear ae
  by_cases hlt:q<ks.length
  ·have hd:decide ((q:Int)<ks.length)=true:=by simp;omega
   have al:decide (q<ks.length)=true:=by simp;omega
   obtain⟨k,hk⟩:∃ k,ks[q]?=some k:=⟨_,Yh hlt⟩;obtain⟨t,D⟩:∃ t,ts[q]?=some t:=⟨_,Yh (by have:=ab.out;omega)⟩;obtain⟨d,F,ag⟩:=(C.out.e q k t hk D).hd;have av:k<L.length:=(List.getElem?_eq_some_iff.1 F).1;obtain⟨m,U⟩:∃ m,N[k]?=some m:=⟨_,Yh (by have:=ac.out;omega)⟩;have K:=HW.out.env C.out.r;have I:=HW.out.env HN;obtain⟨b,o,rfl,-⟩:=K (by omega);obtain⟨bn,on,rfl,-⟩:=I (by have:=ac.out;omega);have V:=zda K q (by simpa using hlt);rw[List.getD_eq_getElem?_getD,List.getElem?_map,hk] at V;simp only[Option.map_some,Option.getD_some] at V;have kn:=(za5 I U).1;rw[(HR.out.at U F).1.1] at kn;have hh:(ts.map hdP)[q]?=some (hdP t):=by rw[List.getElem?_map,D];rfl
   have aa:d.kind=(hdP t).1:=by rw[<-ag]
   rw[aa] at kn;have au:decide ((k:Int)<L.length)=true:=by simp;omega
   have X:Hid _:=hh;clear hk D F ag U K I aa hh
   cases c1:((hdP t).1 == kind)
   ·have y:Hid (cutN kind (ts.map hdP)=q):=by
     show _=_;rw[M.out,zy7 X.out c1];rfl
    have aq:(q:Int)<=ck:=by omega
    have ao:(q:Int)<=ks.length:=by omega
    have A:Hid (RowsAt w0 1 intC (some ⟨b,o+q,none⟩) (ks.drop q)):=zhq C.out.r q
    go_wp2
    go_quiet (fail)
    go_wp2
    have ai:¬ ck=q:=by omega
    have ap:¬ (ck:Int)=q:=by omega
    go_wp2
    go_quiet (fail)
    go_wp2
    go_ret2
    refine⟨⟨some ⟨b,o+q,none⟩,ck - q,by rw[y.out];rfl,by rw[y.out];exact A.out,by rw[y.out];omega,by omega,fun h=>by cases h⟩,?_⟩
    first|exact⟨_,zd7 _ _ _⟩ | exact⟨_,zen _ _ _ _⟩
   ·have y:Hid (cutN kind (ts.map hdP)=q+1+cutN kind ((ts.map hdP).drop (q+1))):=by
     show _=_;rw[M.out,zv6 X.out c1];omega
    go_wp2
    go_quiet (fail)
    go_wp2
    exact⟨⟨q+1,n+nq,by omega,by go_num,rfl,y.out⟩,by simp[intOf];omega⟩
  ·have hd:decide ((q:Int)<ks.length)=false:=by simp;omega
   have al:decide (q<ks.length)=false:=by simp;omega
   have y:Hid (cutN kind (ts.map hdP)=q):=by
    show _=_;rw[M.out,List.drop_eq_nil_of_le (by rw[List.length_map];have:=ab.out;omega)];rfl
   go_wp2
   go_quiet (fail)
   go_wp2
   have aq:(q:Int)<=ck:=by omega
   have ao:(q:Int)<=ks.length:=by omega
   have Z:Hid _:=C.out.r
   by_cases hk0:ks.length=0
   focus (
    have an:q=0:=by omega
    subst an;have A:Hid (∀ sp,RowsAt w0 1 intC sp (ks.drop (cutN kind (ts.map hdP)))):=fun sp E=>by rw[List.length_drop] at E;omega
    cases sk with
    | none=>
     have aj:ck=0:=hz rfl;subst aj
     go_wp2
     go_quiet (fail)
     go_wp2
     go_ret2
     refine⟨⟨none,0,by rw[y.out,hk0];rfl,A.out _,by rw[y.out,hk0];exact Ya _,by omega,fun _=>rfl⟩,?_⟩
     first|exact⟨_,zd7 _ _ _⟩ | exact⟨_,zen _ _ _ _⟩
    | some a=>
     have ak:=J hk0;clear hk0
     go_wp2
     go_quiet (fail)
     go_wp2
     go_ret2
     refine⟨⟨some a,ck,by rw[y.out,ak.out];rfl,A.out _,by rw[y.out];omega,by omega,fun h=>by cases h⟩,?_⟩
     first|exact⟨_,zd7 _ _ _⟩ | exact⟨_,zen _ _ _ _⟩)
   obtain⟨b,o,rfl,-⟩:=Z.out (by omega);have A:Hid (RowsAt w0 1 intC (some ⟨b,o+q,none⟩) (ks.drop q)):=zhq Z q
   by_cases ai:ck=q
   ·subst ai;have am:Hid (RowsAt w0 1 intC (some ⟨b,o,none⟩) (ks.drop ck)):=fun E=>by rw[List.length_drop] at E;omega
    have ah:ks.length=ck:=by omega
    have af:=J ah;clear ah
    go_wp2
    go_quiet (fail)
    go_wp2
    go_ret2
    refine⟨⟨some ⟨b,o,none⟩,0,by rw[y.out,af.out,Nat.sub_self];rfl,by rw[y.out];exact am.out,by rw[y.out,af.out];omega,by omega,fun h=>by cases h⟩,?_⟩
    first|exact⟨_,zd7 _ _ _⟩ | exact⟨_,zen _ _ _ _⟩
   ·have ap:¬ (ck:Int)=q:=by omega
    go_wp2
    go_quiet (fail)
    go_wp2
    go_ret2
    refine⟨⟨some ⟨b,o+q,none⟩,ck - q,by rw[y.out];rfl,by rw[y.out];exact A.out,by rw[y.out];omega,by omega,fun h=>by cases h⟩,?_⟩
    first|exact⟨_,zd7 _ _ _⟩ | exact⟨_,zen _ _ _ _⟩
structure NdW (w0:World) (g:Nat) (nv:Value) (L:List Nd) (m:NdM) (k:Int) (x:ByteArray) (n:Int) (ts:List Pt):Prop where
 e:m.k=k∧m.x=x∧m.n=n
 k:∃ ks,m.kn=ks.length∧KsA w0 g nv L m.ks ks ts
 c:m.kn<=m.kc∧m.kc<=maxLen∧(m.ks=none->m.kc=0)
theorem KsA.one {w0:World}{g:Nat}{nv:Value}{L:List Nd}{b o:Nat}{ks:List Nat}{ts:List Pt}(h:KsA w0 g nv L (some ⟨b,o,none⟩) ks ts){i k:Nat}{t:Pt}(hk:ks[i]?=some k)(ht:ts[i]?=some t):KsA w0 g nv L (some ⟨b,o+i,none⟩) [k] [t]:=by
 refine⟨fun _=>?_,rfl,fun j I t' A M=>?_,fun t' A=>?_,by simp⟩
 ·obtain⟨U,N,e,F⟩:=h.r (by have:=(List.getElem?_eq_some_iff.1 hk).1;omega);injection e with e;injection e with e1 e2;subst e1 e2;refine⟨b,o+i,rfl,fun j y D u K E=>?_⟩;have C:j=0:=by have:=(List.getElem?_eq_some_iff.1 D).1;simp at this;omega
  subst C;obtain rfl:k=y:=by simpa using D
  have:=F i k hk u K E;rw[show o+i+0 * 1+u=o+i * 1+u by omega];exact this
 ·have C:j=0:=by have:=(List.getElem?_eq_some_iff.1 A).1;simp at this;omega
  subst C;obtain rfl:k=I:=by simpa using A
  obtain rfl:t=t':=by simpa using M
  exact h.e i k t hk ht
 ·obtain rfl:t'=t:=by simpa using A
  exact h.n t' (Ym ht)
theorem zeo {w0 w:World}{g:Nat}{nv v:Value}{out:List Tok}{L:List Nd}{m:NdM}{k:Int}{x:ByteArray}{n:Int}{ts:List Pt}(i:Nat)(hi:i<=1)(hE:EnW w0 nv L)(hm:NdW w0 g nv L m k x n ts)(h:Wr w0 g nv w v out)(hl:∀ t,ts[i]?=some t->out.length+2+12 * cntP t<=900000) :
  Calls Tryz.prog 163 #[.pointer (some ⟨g,0,none⟩),.agg m.cells,.int .i64 i] w fun e w'=>e=.returned (.tuple #[])∧Wp w0 g nv w v (out++wOpe k x (ts.map hdP) (ts.map wrP) i) w':=by
 have HW:=J h;have HE:=J hE;have HM:=J hm;obtain⟨ks,an,Y⟩:=hm.k;have HK:=J Y;have ab:=J an;have M:Hid (ks.length=ts.length):=Y.l;have aF:=hm.c.1;have aG:m.kc<=9223372036854775807:=hm.c.2.1;have aI:ks.length<=100000:=Y.s;obtain⟨sn,cn,N,S,ax,hN,hR⟩:=hE.x;have HN:=J hN;have HR:=J hR;have aA:=J ax;have aH:=hE.l;clear h hE hm Y an ax hN hR
 by_cases hlt:i<ts.length
 ·have aD:i<m.kn:=by have:=ab.out;have:=M.out;omega
  have hd:decide ((m.kn:Int)<=(i:Int))=false:=by simp;omega
  have az:decide (m.kn<=i)=false:=by simp;omega
  obtain⟨A,hk⟩:∃ A,ks[i]?=some A:=⟨_,Yh (by have:=M.out;omega)⟩;obtain⟨t,K⟩:∃ t,ts[i]?=some t:=⟨_,Yh hlt⟩;obtain⟨b,o,ai,-⟩:=HK.out.r (by have:=M.out;omega);obtain⟨d,ae,aw⟩:=(HK.out.e i A t hk K).hd;have aE:A<L.length:=(List.getElem?_eq_some_iff.1 ae).1;obtain⟨E,ak⟩:∃ E,N[A]?=some E:=⟨_,Yh (by have:=HR.out.1;omega)⟩;have ac:=(HR.out.at ak ae).1;have HH:Hid ((E.k,E.x)=hdP t):=by show _=_;rw[ac.1,ac.2.1];exact aw
  have aj:Hid (KsA w0 g nv L (some ⟨b,o+i,none⟩) [A] [t]):=KsA.one (by rw[<-ai];exact HK) hk K;have Z:Hid (wOpe k x (ts.map hdP) (ts.map wrP) i=if nedB k x (hdP t) i then wBrk ([t].map wrP) else([t].map wrP).flatten):=by
   show _=_;unfold wOpe;rw[List.getElem?_map,List.getElem?_map,K];simp
  have aq:Hid (out.length+2+12 * cntL [t]<=900000):=by show _<=_;rw[zdm];exact hl t K
  have aB:Hid _:=ak;have ao:=J ai;clear hk K ae aw ak ac ai hl;rw[show m.cells=#[.int .i64 m.k,.string m.x,.int .i64 m.n,.slice m.ks m.kn m.kc,.int .i64 m.a,.int .i64 m.f,.int .i64 m.t] from rfl,ao.out]
  go_enter Tryz.func163,Tryz.ntmps163
  go_wp2_with fail
  refine zdq (fun W=>W.heap[w.heap.size]?=some (.cells m.cells 53 (0,0))∧Below w.heap.size w W) ?_ ?_
  ·rw[show m.cells=#[.int .i64 m.k,.string m.x,.int .i64 m.n,.slice m.ks m.kn m.kc,.int .i64 m.a,.int .i64 m.f,.int .i64 m.t] from rfl,ao.out];exact⟨Yd w _,(Yb _ _).alloc (Ya _) _⟩
  rintro W0 ⟨r0,aa⟩;obtain⟨V,on,ar,ay⟩:=HN.out (by have:=HR.out.1;omega);have D:Hid (∀ W,Below W0.heap.size W0 W->W.heap[w.heap.size]?=some (.cells m.cells 53 (0,0))∧W.cell? ⟨g,0,none⟩=some (.slice (some ⟨V,on,none⟩) L.length cn)∧W.cell? ⟨b,o+i,none⟩=some (.int .i64 A)∧(∀ j u,E.cells[j]?=some u->W.cell? ⟨V,on+A * 7+j,none⟩=some u)∧Below w.heap.size w W):=fun W hb=>by
   have ap:Below w.heap.size w W:=aa.trans (hb.mono aa.size);have am:=HW.out.low ap;refine⟨(hb.block _ (zaa r0)).trans r0,?_,?_,?_,ap⟩
   ·rw[<-ar,<-aA.out];exact Yp 0 am.r rfl
   ·have:=zda (am.env aj.out.r) 0 (by simp);simpa using this
   ·obtain⟨b',o',e,hc⟩:=(am.env HN) (by have:=HR.out.1;omega);rw[ar] at e;injection e with e;injection e with F I;subst F I;exact fun j u hu=>hc A E aB j u hu
  clear r0 aa ay;have aC:decide ((A:Int)<L.length)=true:=by simp;omega
  have C:Below W0.heap.size W0 W0.drew:=(Yb _ _).drew;refine zbc (S:=fun w'=>Below W0.heap.size W0 w') 12 rfl (by kernel_rfl) ?_;refine zyr 0 18 53 (.tmp 4) rfl (by rfl) w.heap.size 53 m.cells (0,0) rfl (by kernel_rfl) (fun _ _ _ h=>h) _ (fun w' y=>(D w' y).1) Tryz.underlying53 rfl (by kernel_rfl) C ?_;simp only[sI,sS,sZ];refine zaj 1 19 (.pointer (some ⟨g,0,none⟩)) rfl (by rfl) (by kernel_rfl) (fun _ _ _ h=>h) (fun w' y=>by obtain⟨-,F,I,-⟩:=D.out w' y;first|rfl|(go_simp;done)) C ?_;simp only[sI,sS,sZ];refine zaj 2 20 (.pointer (some ⟨g,0,none⟩)) rfl (by rfl) (by kernel_rfl) (fun _ _ _ h=>h) (fun w' y=>by obtain⟨-,F,I,-⟩:=D.out w' y;first|rfl|(go_simp;done)) C ?_;simp only[sI,sS,sZ];refine zaj 3 21 (.pointer (some ⟨g,0,none⟩)) rfl (by rfl) (by kernel_rfl) (fun _ _ _ h=>h) (fun w' y=>by obtain⟨-,F,I,-⟩:=D.out w' y;first|rfl|(go_simp;done)) C ?_;simp only[sI,sS,sZ];refine zaj 4 22 (.slice (some ⟨V,on,none⟩) L.length cn) rfl (by rfl) (by kernel_rfl) (fun _ _ _ h=>h) (fun w' y=>by obtain⟨-,F,I,-⟩:=D.out w' y;first|rfl|(go_simp;done)) C ?_;simp only[sI,sS,sZ];refine zaj 5 23 (.slice (some ⟨b,o+i,none⟩) 1 (m.kc - i)) rfl (by rfl) (by kernel_rfl) (fun _ _ _ h=>h) (fun w' y=>by obtain⟨-,F,I,-⟩:=D.out w' y;first|rfl|(go_simp;done)) C ?_;simp only[sI,sS,sZ];refine zaj 6 24 (.pointer (some ⟨b,o+i,none⟩)) rfl (by rfl) (by kernel_rfl) (fun _ _ _ h=>h) (fun w' y=>by obtain⟨-,F,I,-⟩:=D.out w' y;first|rfl|(go_simp;done)) C ?_;simp only[sI,sS,sZ];refine zaj 7 25 (.int .i64 A) rfl (by rfl) (by kernel_rfl) (fun _ _ _ h=>h) (fun w' y=>by obtain⟨-,F,I,-⟩:=D.out w' y;first|rfl|(go_simp;done)) C ?_;simp only[sI,sS,sZ];refine zaj 8 26 (.pointer (some ⟨V,on+A * 7,none⟩)) rfl (by rfl) (by kernel_rfl) (fun _ _ _ h=>h) (fun w' y=>by obtain⟨-,F,I,-⟩:=D.out w' y;first|rfl|(go_simp;done)) C ?_
  simp only[sI,sS,sZ];refine zxl 9 27 53 (.tmp 26) rfl V (on+A * 7) E.cells rfl (by kernel_rfl) (fun _ _ _ h=>h) _ (fun w' y=>(D w' y).2.2.2.1) Tryz.underlying53 rfl (by kernel_rfl) C ?_;simp only[sI,sS,sZ];refine zaj 10 28 (.int .i64 i) rfl (by rfl) (by kernel_rfl) (fun _ _ _ h=>h) (fun w' y=>by obtain⟨-,F,I,-⟩:=D.out w' y;first|rfl|(go_simp;done)) C ?_;simp only[sI,sS,sZ];refine zh4 11 rfl (by rfl) (by kernel_rfl) ?_
  go_simp
  have av:Tabl W0.drew:=zcm (HW.out.low (D _ C).2.2.2.2).b.block HE.out.t;refine(zp4 m E i W0.drew av).mono ?_;rintro e W1 ⟨rfl,b1⟩;have ag:Below W0.heap.size W0 W1:=C.trans (b1.mono C.size);refine⟨ag,?_⟩;refine wpAnyH_done (by kernel_rfl) ?_ _;have ah:Hid (Below w.heap.size w W1):=(D _ ag).2.2.2.2;have au:=J (HW.out.low ah);have HX:Hid (nedB m.k m.x (E.k,E.x) i=nedB k x (hdP t) i):=by show _=_;rw[HH.out,HM.out.e.1,HM.out.e.2.1]
  clear C ag b1 D av
  cases hn:nedB m.k m.x (E.k,E.x) i
  ·have U:=zec (some ⟨b,o+i,none⟩) (m.kc - i) [A] [t] aj.out au (by have:=aq.out;omega);have af:Hid (wOpe k x (ts.map hdP) (ts.map wrP) i=([t].map wrP).flatten):=by show _=_;rw[Z.out,<-HX.out,hn];rfl
   go_wp2_with fail
   refine U.mono ?_;rintro e W2 ⟨rfl,X⟩;have al:Hid (Wp w0 g nv w v (out++wOpe k x (ts.map hdP) (ts.map wrP) i) W2):=by
    show Wp _ _ _ _ _ _ _;rw[af.out];exact Wp.pre ah X
   clear X U
   go_wp2
   go_end0
   exact⟨rfl,al.out⟩
  ·have U:=zdz (some ⟨b,o+i,none⟩) (m.kc - i) [A] [t] aj.out au (by have:=aq.out;omega);have af:Hid (wOpe k x (ts.map hdP) (ts.map wrP) i=wBrk ([t].map wrP)):=by show _=_;rw[Z.out,<-HX.out,hn];rfl
   go_wp2_with fail
   refine U.mono ?_;rintro e W2 ⟨rfl,X⟩;have al:Hid (Wp w0 g nv w v (out++wOpe k x (ts.map hdP) (ts.map wrP) i) W2):=by
    show Wp _ _ _ _ _ _ _;rw[af.out];exact Wp.pre ah X
   clear X U
   go_wp2
   go_end0
   exact⟨rfl,al.out⟩
 ·have hd:decide ((m.kn:Int)<=(i:Int))=true:=by have:=ab.out;have:=M.out;simp;omega
  have az:decide (m.kn<=i)=true:=by have:=ab.out;have:=M.out;simp;omega
  have Z:Hid (wOpe k x (ts.map hdP) (ts.map wrP) i=[]):=by
   show _=_;unfold wOpe;rw[List.getElem?_map,List.getElem?_eq_none (by omega)];rfl
  unfold NdM.cells
  go_enter Tryz.func163,Tryz.ntmps163
  go_wp2
  (try simp only[Exit.inBlock,Exit.then])
  refine bodyPost_ret (results_none rfl _ _ _) rfl ?_;refine⟨rfl,?_⟩;rw[Z.out,List.append_nil];exact Wp.pre ((Yb _ _).alloc (Ya _) _) (Wp.start (HW.out.low ((Yb _ _).alloc (Ya _) _)))
theorem z09 (l:List Pt):(wIf (l.map wrP)).length+4 * l.length<=12 * cntL l:=by
 have h:=zb4 l;have:(wIf (l.map wrP)).length<=(l.map wrP).flatten.length+l.length:=by
  unfold wIf;rw[List.length_append,List.length_append];have e:(l.map wrP).flatten.length=((l.map wrP).take 2).flatten.length+((l.map wrP).drop 2).flatten.length:=by
   rw[<-List.length_append,<-List.flatten_append,List.take_append_drop]
  rw[e]
  split
  ·rename_i h2
   rw[List.length_map] at h2;simp;omega
  ·simp
 omega
theorem zp5 {w0 w:World}{g:Nat}{nv v:Value}{out:List Tok}{L:List Nd}{m:NdM}{k:Int}{x:ByteArray}{n:Int}{ts:List Pt}(hm:NdW w0 g nv L m k x n ts)(h:Wr w0 g nv w v out)(hl:out.length+2+12 * cntL ts<=900000) :
  Calls Tryz.prog 146 #[.pointer (some ⟨g,0,none⟩),.agg m.cells] w fun e w'=>e=.returned (.tuple #[])∧Wp w0 g nv w v (out++([wdT [105,102]]++wIf (ts.map wrP))) w':=by
 have HW:=J h;obtain⟨y,af,hK⟩:=hm.k;have N:=J hK;have an:=J af;have ar:y.length<=100000:=hK.s;clear h hm hK af;rw[show m.cells=#[.int .i64 m.k,.string m.x,.int .i64 m.n,.slice m.ks m.kn m.kc,.int .i64 m.a,.int .i64 m.f,.int .i64 m.t] from rfl,an.out]
 go_enter Tryz.func146,Tryz.ntmps146
 go_wp2_with fail
 have Y:Below w.heap.size w (w.alloc (.cells #[.int .i64 m.k,.string m.x,.int .i64 m.n,.slice m.ks y.length m.kc,.int .i64 m.a,.int .i64 m.f,.int .i64 m.t] 53)):=(Yb _ _).alloc (Ya _) _;have al:=Yd w (.cells #[.int .i64 m.k,.string m.x,.int .i64 m.n,.slice m.ks y.length m.kc,.int .i64 m.a,.int .i64 m.f,.int .i64 m.t] 53);have ab:=HW.out.low Y;have ai:w.heap.size≠g:=by have:=HW.out.lt;omega
 have D:=zbi [strU [105,102]] ab (by simp;omega) (by simp);simp only[World.size_alloc] at D;refine D.mono ?_;rintro e W1 ⟨rfl,v1,A,C,F⟩;have r1:=Wp.row ab C al ai (by decide);have c1:W1.cell? ⟨w.heap.size,3,none⟩=some (.slice m.ks y.length m.kc):=Yp 3 r1 rfl;have HS:Hid (Wp w0 g nv w v (out++[wdT [105,102]]) W1):=Wp.pre Y ⟨v1,A,C,F⟩;clear Y al ab ai D A C F r1
 go_wp2
 go_loopw [12] (fun i wr=>∃ q:Nat,q<=y.length∧i=.int .i64 q∧Wp w0 g nv w v (out++[wdT [105,102]]++wIf ((ts.take q).map wrP)) wr) (fun i _=>y.length - (intOf i).toNat)
 case atStart=>exact⟨0,Yk _,rfl,by simpa[wIf] using HS.out⟩
 case round=>
  obtain⟨q,hq,rfl,v1,A,C,F⟩:=hrel;have ae:=N.out.l
  by_cases hlt:q<y.length
  ·have hd:decide ((q:Int)<y.length)=true:=by simp;omega
   obtain⟨k,U⟩:∃ k,y[q]?=some k:=⟨_,Yh hlt⟩;obtain⟨t,I⟩:∃ t,ts[q]?=some t:=⟨_,Yh (by omega)⟩;have K:=A.env N.out.r;obtain⟨b,o,M,-⟩:=K (by omega);rw[M] at K;have kc:=zda K q (by simpa using hlt);rw[List.getD_eq_getElem?_getD,List.getElem?_map,U] at kc;simp only[Option.map_some,Option.getD_some] at kc;have V:ts.take (q+1)=ts.take q++[t]:=by rw[List.take_add_one,I];rfl
   have Z:((ts.take q).map wrP).length=q:=by rw[List.length_map,List.length_take];omega
   have aa:(out++[wdT [105,102]]++wIf ((ts.take q).map wrP)).length+4 * q+12 * cntP t<=900000:=by
    have a1:=z09 (ts.take q);have a2:=zfp ts (q+1);rw[V,zdl,zdm] at a2;rw[List.length_take,Nat.min_eq_left (by omega)] at a1;rw[List.length_append,List.length_append,List.length_singleton];omega
   have aj:Hid (wIf ((ts.take (q+1)).map wrP)=wIf ((ts.take q).map wrP)++(if q=2 then wdT [101,108,115,101]::wrP t else wrP t)):=by
    show _=_;rw[V,List.map_append,show[t].map wrP=[wrP t] from rfl,zy6,Z]
   have ag:Hid (NodC w0 g nv L t):=N.out.n t (Ym I);have ak:Hid (Emb L k t):=N.out.e q k t U I;have HO:Hid _:=C;have HQ:Hid _:=F;have ac:Hid _:=M;have ap:=zd3 t
   by_cases hq0:q=2
   rotate_left
   ·have D:=ag.out k wr v1 _ ak A (by omega);have hz:((q:Int) == 2)=false:=by simp;omega
    have aq:(q == 2)=false:=by simp;omega
    have HZ:=J hq0;clear A C F U I K V aa ae Z hq0 M;rw[ac.out]
    go_wp2_with fail
    refine D.mono ?_;rintro e W ⟨rfl,E⟩;have X:Hid (Wp w0 g nv w v (out++[wdT [105,102]]++wIf ((ts.take (q+1)).map wrP)) W):=by
     refine Wp.trans HO HQ ?_;rw[aj.out,if_neg HZ.out,<-List.append_assoc];exact E
    clear E D
    go_wp2
    exact⟨⟨q+1,by omega,by go_num,X.out⟩,by simp[intOf];omega⟩
   ·subst hq0;have D:=zbi [strU [101,108,115,101]] A (by simp at aa ⊢;omega) (by simp);have ah:(out++[wdT [105,102]]++wIf ((ts.take 2).map wrP)++[strU [101,108,115,101]].map (tkW 1)).length+12 * cntP t<=900000:=by
     rw[List.length_append,List.length_map,List.length_singleton];omega
    clear A C F U I K V aa ae Z M;rw[ac.out]
    go_wp2_with fail
    refine D.mono ?_;rintro e W ⟨rfl,v2,h2,o2,q2⟩;have HD:=ag.out k W v2 _ ak h2 ah;have am:Hid _:=o2;have ao:Hid _:=q2;clear h2 o2 q2 D ah
    go_wp2_with fail
    refine HD.mono ?_;rintro e W3 ⟨rfl,E⟩;have X:Hid (Wp w0 g nv w v (out++[wdT [105,102]]++wIf ((ts.take (2+1)).map wrP)) W3):=by
     refine Wp.trans HO HQ (Wp.trans am ao ?_);rw[aj.out,if_pos (by trivial),<-List.append_assoc];unfold wdT at E ⊢;simpa using E
    clear E HD
    go_wp2
    exact⟨⟨2+1,by omega,by go_num,X.out⟩,by simp[intOf];omega⟩
  ·have hd:decide ((q:Int)<y.length)=false:=by simp;omega
   have HP:Hid (Wp w0 g nv w v (out++([wdT [105,102]]++wIf (ts.map wrP))) wr):=by
    have E:Wp w0 g nv w v (out++[wdT [105,102]]++wIf ((ts.take q).map wrP)) wr:=⟨v1,A,C,F⟩;rw[List.take_of_length_le (by omega),List.append_assoc] at E;exact E
   clear A C F
   go_wp2
   go_end0
   exact⟨rfl,HP.out⟩
end Go.Proofs.YtmclgbkijeidaaaGreatDoor
