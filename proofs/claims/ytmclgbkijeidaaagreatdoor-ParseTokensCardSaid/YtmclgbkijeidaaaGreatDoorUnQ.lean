import Derived.Test.YtmclgbkijeidaaaGreatDoorUnP
import Derived.Test.YtmclgbkijeidaaaGreatDoorUnE
import Derived.Test.YtmclgbkijeidaaaGreatDoorUnD
import Derived.Test.YtmclgbkijeidaaaGreatDoorUnI
import Derived.Test.YtmclgbkijeidaaaGreatDoorUnG
import Derived.Test.YtmclgbkijeidaaaGreatDoorUnO
namespace Go.Proofs.YtmclgbkijeidaaaGreatDoor
open Go.RowKit
theorem zgt {p:UInt8->Bool}:∀ (L:List UInt8)(m:Nat),runN p L<=m->runN p (L.take m)=runN p L
 | [],m,_=>by rw[List.take_nil]
 | a::L,0,h=>by rw[List.take_zero,zkn];omega
 | a::L,m+1,h=>by
  rw[zcd] at h;rw[List.take_succ_cons,zcd,zcd]
  cases ha:p a with
  | false=>rfl
  | true=>
   rw[ha] at h;simp only[if_true] at h ⊢;rw[zgt L m (by omega)]
theorem zn6:∀ (m:Nat) (L acc:List UInt8)(i:Nat)(v:List UInt8)(n:Nat),L.length<=m->unqA acc i L=some (v,n)->i<n∧n - i<=L.length∧unqA acc i (L.take (n - i))=some (v,n):=by
 intro m
 induction m with
 | zero=>
  intro L acc i v n hm h;have:L=[]:=List.eq_nil_of_length_eq_zero (by omega);subst this;rw[unqA] at h
  cases h
 | succ m ih=>
  intro L acc i v n hm h
  cases L with
  | nil=>rw[unqA] at h;cases h
  | cons c r=>
   rw[List.length_cons] at hm ⊢;rw[zcr] at h
   by_cases h1:c.toNat=34
   ·rw[if_pos h1] at h;injection h with h;injection h with h2 h3;subst h2 h3;refine⟨by omega,by omega,?_⟩;rw[show i+1 - i=0+1 by omega,List.take_succ_cons,zcr,if_pos h1]
   ·rw[if_neg h1] at h
    by_cases h2:c.toNat=92
    ·rw[if_pos h2] at h
     cases r with
     | nil=>cases h
     | cons d r'=>
      rw[List.length_cons] at hm ⊢
      cases hp:pairU d with
      | none=>simp only[hp] at h;cases h
      | some x=>
       simp only[hp] at h;obtain⟨q1,q2,q3⟩:=ih r' _ _ _ _ (by omega) h;refine⟨by omega,by omega,?_⟩;rw[show n - i=(n - (i+2))+1+1 by omega,List.take_succ_cons,List.take_succ_cons,zcr,if_neg h1,if_pos h2];simp only[hp];exact q3
    ·rw[if_neg h2] at h
     cases hp:plnB c.toNat with
     | false=>rw[hp] at h;simp at h
     | true=>
      rw[hp] at h;simp only[if_true] at h;obtain⟨q1,q2,q3⟩:=ih r _ _ _ _ (by omega) h;refine⟨by omega,by omega,?_⟩;rw[show n - i=(n - (i+1))+1 by omega,List.take_succ_cons,zcr,if_neg h1,if_neg h2,hp];simp only[if_true];exact q3
theorem zpl {S:List UInt8}{en:Bool}{k:Int}{n:Nat}(h:lookR S en=(k,n,0))(hk:k≠0)(hn:0<n):lookR (S.take n) false=(k,n,0):=by
 cases S with
 | nil=>
  simp only[lookR,Prod.mk.injEq] at h;omega
 | cons c r=>
  obtain⟨m,rfl⟩:∃ m,n=m+1:=⟨n - 1,by omega⟩;rw[List.take_succ_cons];unfold lookR at h ⊢;simp only at h ⊢
  by_cases c2:clsI c.toNat=2
  ·rw[if_pos c2] at h
   split at h
   ·simp at h
   ·simp only[Prod.mk.injEq] at h;exact absurd h.1.symm hk
  rw[if_neg c2] at h ⊢
  by_cases c1:clsI c.toNat=1
  ·rw[if_pos c1] at h;simp only[Prod.mk.injEq] at h;exact absurd h.1.symm hk
  rw[if_neg c1] at h ⊢
  by_cases c6:clsI c.toNat=6
  ·rw[if_pos c6] at h ⊢;exact h
  rw[if_neg c6] at h ⊢
  by_cases c3:clsI c.toNat=3
  ·rw[if_pos c3] at h ⊢;injection h with h1 h;rw[<-h1]
   congr 1
   unfold wordR at h ⊢
   by_cases hw:runN (inC [3,4]) (c::r) > 24
   ·rw[if_pos hw] at h;injection h with _ h;cases h
   ·rw[if_neg hw] at h;injection h with h _;have e:=zgt (p:=inC [3,4]) (c::r) (m+1) (by omega);rw[List.take_succ_cons] at e;rw[e,if_neg hw,h]
  rw[if_neg c3] at h ⊢
  by_cases c4:clsI c.toNat=4
  ·rw[if_pos c4] at h ⊢;injection h with h1 h;rw[<-h1]
   congr 1
   unfold numR at h ⊢
   split at h
   ·injection h with _ h;cases h
   ·rename_i hq
    injection h with h _;have e:=zgt (p:=inC [4]) (c::r) (m+1) (by omega);rw[List.take_succ_cons] at e;rw[e];rw[h] at hq ⊢;have e2:(c::r.take m).take (m+1)=(c::r).take (m+1):=by rw[List.take_succ_cons,List.take_succ_cons,List.take_take,Nat.min_self]
    have e3:(c::r.take m).drop (m+1)=[]:=by rw[List.drop_succ_cons,List.drop_eq_nil_of_le (by rw[List.length_take];omega)]
    rw[e2,e3,zkn];rw[if_neg (fun hh=>hq (hh.elim .inl (fun hh=>absurd hh (by omega))))]
  rw[if_neg c4] at h ⊢
  by_cases c5:clsI c.toNat=5
  ·rw[if_pos c5] at h ⊢;injection h with h1 h;rw[<-h1]
   congr 1
   unfold quoR unqO at h ⊢
   by_cases h34:c.toNat=34
   ·simp only[h34,if_true] at h ⊢
    cases hu:unqA [] 1 r with
    | none=>rw[hu] at h;injection h with _ h;cases h
    | some v=>
     obtain⟨v,nn⟩:=v;rw[hu] at h;injection h with h _;subst h;have:=(zn6 _ r [] 1 v (m+1) (Nat.le_refl _) hu).2.2;rw[show m+1 - 1=m by omega] at this;rw[this]
   ·simp only[h34,if_false] at h;injection h with _ h
    cases h
  rw[if_neg c5] at h ⊢
  by_cases cp:Lib.hasPrefix (c::r) [47,47]=true
  ·rw[if_pos cp] at h;simp only[Prod.mk.injEq] at h;exact absurd h.1.symm hk
  rw[if_neg cp] at h;injection h with h1 h;rw[<-h1];unfold sigR at h
  by_cases s2:sig2 ((c::r).take 2)=true
  ·rw[if_pos s2] at h;injection h with h _;obtain rfl:m=1:=by omega
   cases r with
   | nil=>simp[sig2] at s2
   | cons d r'=>
    have cp':¬ Lib.hasPrefix (c::(d::r').take 1) [47,47]=true:=by
     intro hh;apply cp;unfold Lib.hasPrefix at hh ⊢;simpa[List.isPrefixOf] using hh
    rw[if_neg cp']
    congr 1
    unfold sigR;have e:(c::(d::r').take 1).take 2=(c::d::r').take 2:=rfl;rw[e,if_pos s2]
  ·rw[if_neg s2] at h;simp only at h
   split at h
   ·rename_i s1
    injection h with h _;obtain rfl:m=0:=by omega
    rw[List.take_zero,if_neg (by simp[Lib.hasPrefix,List.isPrefixOf])]
    congr 1
    unfold sigR;rw[if_neg (by simp[sig2])];simp only;rw[if_pos s1]
   ·injection h with _ h;cases h
theorem zlc {S:List UInt8}{en:Bool}{n m:Nat}(h:lookR S en=(0,n,0))(hm:n<=m):lookR (S.take m) false=(0,n,0):=by
 cases S with
 | nil=>simp[lookR] at h
 | cons c r=>
  have hn:=(zcs h (fun e=>by cases e)).2;have hn':0<n:=by
   rcases hn with hn|⟨hn,-⟩
   ·exact hn
   ·exact absurd hn (by decide)
  obtain⟨m,rfl⟩:∃ m',m=m'+1:=⟨m - 1,by omega⟩;rw[List.take_succ_cons];unfold lookR at h ⊢;simp only at h ⊢
  by_cases c2:clsI c.toNat=2
  ·rw[if_pos c2] at h ⊢
   split at h
   ·simp at h
   ·exact h
  rw[if_neg c2] at h ⊢
  by_cases c1:clsI c.toNat=1
  ·rw[if_pos c1] at h ⊢;exact h
  rw[if_neg c1] at h ⊢
  by_cases c6:clsI c.toNat=6
  ·rw[if_pos c6] at h;simp at h
  rw[if_neg c6] at h ⊢
  by_cases c3:clsI c.toNat=3
  ·rw[if_pos c3] at h;simp at h
  rw[if_neg c3] at h ⊢
  by_cases c4:clsI c.toNat=4
  ·rw[if_pos c4] at h;simp at h
  rw[if_neg c4] at h ⊢
  by_cases c5:clsI c.toNat=5
  ·rw[if_pos c5] at h;simp at h
  rw[if_neg c5] at h ⊢
  by_cases cp:Lib.hasPrefix (c::r) [47,47]=true
  ·rw[if_pos cp] at h;simp only[Prod.mk.injEq] at h;have hc:=h.2.1;unfold comN at hc;have hn2:2<=n:=by
    cases r with
    | nil=>simp[Lib.hasPrefix,List.isPrefixOf] at cp
    | cons d r'=>
     simp[Lib.hasPrefix,List.isPrefixOf] at cp;obtain⟨rfl,rfl⟩:=cp;rw[zcd,zcd] at hc;simp at hc;omega
   have cp':Lib.hasPrefix (c::r.take m) [47,47]=true:=by
    cases r with
    | nil=>rw[List.take_nil];exact cp
    | cons d r'=>
     obtain⟨m,rfl⟩:∃ m',m=m'+1:=⟨m - 1,by omega⟩;rw[List.take_succ_cons];unfold Lib.hasPrefix at cp ⊢;simpa[List.isPrefixOf] using cp
   have e:=zgt (p:=fun c=>c != 10) (c::r) (m+1) (by omega);rw[List.take_succ_cons] at e;rw[if_pos cp',comN,e,hc]
  ·rw[if_neg cp] at h;simp at h
inductive GapL:List UInt8->Prop
 | nil:GapL []
 | step {S:List UInt8}{n:Nat}:S≠[]->lookR S false=(0,n,0)->GapL (S.drop n)->GapL S
def StL (L:List UInt8):Nat->List Tok->Prop
 | e,[]=>GapL (L.drop e)
 | e,t::r=>∃ a:Nat,t.pos=a∧e<=a∧a+t.text.data.toList.length<=L.length∧(L.drop a).take t.text.data.toList.length=t.text.data.toList∧GapL ((L.drop e).take (a - e))∧StL L (a+t.text.data.toList.length) r
theorem zq1 {L:List UInt8}{p n:Nat}{en:Bool}(h:lookR (L.drop p) en=(0,n,0))(hp:p<L.length):∀ ts:List Tok,StL L (p+n) ts->StL L p ts:=by
 have hne:L.drop p≠[]:=fun e=>by have:=congrArg List.length e;rw[List.length_drop] at this;simp at this;omega
 intro ts hs;have hn0:0<n:=by
  rcases(zcs h (fun e=>absurd e hne)).2 with h|⟨h,-⟩
  ·exact h
  ·exact absurd h (by decide)
 have hnl:=(zcs h (fun e=>absurd e hne)).1
 cases ts with
 | nil=>
  have e:=zlc (m:=(L.drop p).length) h hnl;rw[List.take_length] at e;exact .step hne e (by rw[List.drop_drop];exact hs)
 | cons t r=>
  obtain⟨a,h1,h2,h3,h4,h5,h6⟩:=hs;refine⟨a,h1,by omega,h3,h4,?_,h6⟩;have e:=zlc (m:=a - p) h (by omega);refine .step (fun e=>?_) e ?_
  ·have:=congrArg List.length e;rw[List.length_take] at this;rw[List.length_drop] at this;simp at this;omega
  ·rw[List.drop_take,List.drop_drop,show a - p - n=a - (p+n) by omega];exact h5
theorem zfg {S:List UInt8}{k:Int}(h:lookR S false=(k,S.length,0))(hk:k≠0)(hS:0<S.length)(hl:S.length<=4096)(p:Int):alnB ⟨k,strU S,p⟩=true:=by
 unfold alnB lexO;show(match (if 4096<S.length then(([],3,0):List Tok × Int × Nat) else lexG S (2 * S.length+1) 0 []).1 with
  | []=>false
  | x::_=>tkEq x ⟨k,strU S,p⟩)=true
 rw[if_neg (by omega)];have hl0:lookR (S.drop 0) (clo (lastT []))=(k,S.length,0):=h;rw[zc7 (.inl hS) hl0 hk (by simp)];obtain⟨f,hf⟩:∃ f,2 * S.length=f+1+1:=⟨2 * S.length - 2,by omega⟩;rw[hf,Nat.zero_add,List.nil_append,List.drop_zero,List.take_length];have hte:tkEq ⟨k,strU S,((0:Nat):Int)⟩ ⟨k,strU S,p⟩=true:=by simp[tkEq]
 have hlt:lastT [⟨k,strU S,((0:Nat):Int)⟩]=⟨k,strU S,((0:Nat):Int)⟩:=rfl
 cases hc:clo ⟨k,strU S,((0:Nat):Int)⟩ with
 | false=>
  rw[zex (by omega) (by rw[hlt];exact hc)];exact hte
 | true=>
  have hle:lookR (S.drop S.length) (clo (lastT [⟨k,strU S,((0:Nat):Int)⟩]))=(5,0,0):=by rw[hlt,hc,List.drop_length];rfl
  rw[zc7 (.inr (by rw[hlt];exact hc)) hle (by decide) (by simp)];rw[zex (by omega) (by rw[zb5];rfl)];exact hte
theorem zma {L:List UInt8}(hL:L.length<=4096):∀ (f p:Nat)(ds:List Tok),p<=L.length->ds.length<=1024->lexMu L p ds<f ->
  (∃ e q,lexG L f p ds=([],e,q)∧e≠0∧q<=L.length)∨∃ ms,lexG L f p ds=(ds++ms,0,0)∧StL L p ms∧chkF (lastT ds) ms=true∧(ds++ms).length<=1024:=by
 intro f
 induction f with
 | zero=>intro p ds _ _ h;omega
 | succ f ih=>
  intro p ds hp hn hf;obtain⟨k,n,e,hl⟩:∃ k n e,lookR (L.drop p) (clo (lastT ds))=(k,n,e):=⟨_,_,_,rfl⟩
  by_cases h1:p<L.length∨clo (lastT ds)=true
  ·by_cases he:e=0
   ·subst he
    by_cases hk:k=0
    ·subst hk;obtain⟨hm0,hm1⟩:=zi9 h1 hp hl;have hlt:p<L.length:=by
      by_cases h:p<L.length
      ·exact h
      ·rw[List.drop_eq_nil_of_le (by omega)] at hl;simp[lookR] at hl
     rw[zdn h1 hl];rcases ih (p+n) ds hm0 hn (by omega) with h|⟨ms,g1,g2,g3,g4⟩
     ·exact .inl h
     ·exact .inr ⟨ms,g1,zq1 hl hlt ms g2,g3,g4⟩
    ·by_cases ht:ds.length=1024
     ·exact .inl ⟨3,p,zde h1 hl hk ht,by decide,hp⟩
     ·obtain⟨hm0,hm1⟩:=zja h1 hp hl (t:=⟨k,strU ((L.drop p).take n),p⟩) rfl;rw[zc7 h1 hl hk ht];have hsz:=zcs hl (fun e=>by
       rcases h1 with h1|h1
       ·have:=congrArg List.length e;rw[List.length_drop] at this;simp at this;omega
       ·exact h1)
      have hlen:((L.drop p).take n).length=n:=by rw[List.length_take,List.length_drop];omega
      rcases ih (p+n) (ds++[⟨k,strU ((L.drop p).take n),p⟩]) hm0 (by simp;omega) (by omega) with h|⟨ms,g1,g2,g3,g4⟩
      ·exact .inl h
      ·rw[zb5] at g3;refine .inr ⟨⟨k,strU ((L.drop p).take n),p⟩::ms,by rw[g1];simp,⟨p,rfl,Nat.le_refl _,?_,?_,?_,?_⟩,?_,by simpa using g4⟩
       ·rw[zd6,hlen];exact hm0
       ·rw[zd6,hlen]
       ·rw[Nat.sub_self,List.take_zero];exact .nil
       ·rw[zd6,hlen];exact g2
       ·rw[chkF];rcases hsz.2 with h0|⟨hk5,h0,hen⟩
        ·have hb:bareB ⟨k,strU ((L.drop p).take n),p⟩=false:=by
          cases hb:bareB ⟨k,strU ((L.drop p).take n),p⟩ with
          | false=>rfl
          | true=>
           have:=(zpi hb).2.2;rw[zc6] at this;rw[this] at hlen;simp at hlen;omega
         have hlc:=zpl hl hk h0;have ha:alnB ⟨k,strU ((L.drop p).take n),p⟩=true:=zfg (by rw[hlen];exact hlc) hk (by omega) (by omega) _;rw[hb,ha];exact g3
        ·subst hk5 h0;rw[hen];rw[List.take_zero] at g3 ⊢;have hb:bareB ⟨5,strU [],p⟩=true:=by unfold bareB;rw[zc6];rfl
         rw[hb];exact g3
   ·exact .inl ⟨e,p,zdm h1 hl he,he,hp⟩
  ·have hc:clo (lastT ds)=false:=by
    cases hc:clo (lastT ds) with
    | false=>rfl
    | true=>exact absurd (.inr hc) h1
   refine .inr ⟨[],?_,?_,by rw[chkF,hc];rfl,by simpa using hn⟩
   ·rw[zex (fun h=>h1 (.inl h)) hc,List.append_nil]
   ·show GapL (L.drop p);rw[List.drop_eq_nil_of_le (by
     by_cases h:p<L.length
     ·exact absurd (.inl h) h1
     ·omega)]
    exact .nil
theorem zkf {L:List UInt8}(hL:L.length<=4096):(∃ e q,lexO L=([],e,q)∧e≠0∧q<=L.length)∨∃ ms,lexO L=(ms,0,0)∧StL L 0 ms∧chkO ms=0∧ms.length<=1024:=by
 have h:=zma hL (2 * L.length+1) 0 [] (Nat.zero_le _) (by simp) (by unfold lexMu;rw[zd7];simp[clo]);unfold lexO;rw[if_neg (by omega)];rcases h with h|⟨ms,g1,g2,g3,g4⟩
 ·exact .inl h
 ·rw[List.nil_append] at g1 g4;refine .inr ⟨ms,g1,g2,?_,g4⟩;unfold chkO;rw[if_neg (by omega)];rw[zd7] at g3;rw[g3];rfl
set_option maxRecDepth 100000
set_option maxHeartbeats 4000000
structure PrF (w W:World):Prop where
  b:Below w.heap.size w W
  z:W.heap[w.heap.size]?=some (.cells #[.slice none 0 0] 25 (0,0))
  s:W.heap[w.heap.size+1]?=some (.cells #[.int .i64 0,.int .i64 0] 28 (0,0))
theorem PrF.below {w W W':World}(h:PrF w W)(hb:Below W.heap.size W W'):PrF w W':=⟨h.b.trans (hb.mono h.b.size),(hb.block _ (zaa h.z)).trans h.z,(hb.block _ (zaa h.s)).trans h.s⟩
def PrP (w:World) (r:(Int × Int) ⊕ Pt) (e:Ending) (w':World):Prop :=
  Below w.heap.size w w'∧match r with
  | .inl p=>e=.returned (.tuple #[.agg #[.slice none 0 0],.agg #[.int .i64 p.1,.int .i64 p.2]])
  | .inr t=>∃ v,e=.returned (.tuple #[.agg #[v],.agg #[.int .i64 0,.int .i64 0]])∧TrAt w.heap.size w' v (layP 0 t)
theorem za2 {w W:World}(h:PrF w W)(v:Value)(a b:Int) :
    Below w.heap.size w (((W.setCell ⟨w.heap.size,0,none⟩ v).setCell ⟨w.heap.size+1,0,none⟩ (.int .i64 a)).setCell ⟨w.heap.size+1,1,none⟩ (.int .i64 b)) ∧
    (((W.setCell ⟨w.heap.size,0,none⟩ v).setCell ⟨w.heap.size+1,0,none⟩ (.int .i64 a)).setCell ⟨w.heap.size+1,1,none⟩ (.int .i64 b)).heap[w.heap.size]?=some (.cells #[v] 25 (0,0)) ∧
    (((W.setCell ⟨w.heap.size,0,none⟩ v).setCell ⟨w.heap.size+1,0,none⟩ (.int .i64 a)).setCell ⟨w.heap.size+1,1,none⟩ (.int .i64 b)).heap[w.heap.size+1]?=some (.cells #[.int .i64 a,.int .i64 b] 28 (0,0)) :=
  ⟨((h.b.setCell (p:=⟨w.heap.size,0,none⟩) (Nat.le_refl _) _).setCell (p:=⟨w.heap.size+1,0,none⟩) (Nat.le_succ _) _).setCell (p:=⟨w.heap.size+1,1,none⟩) (Nat.le_succ _) _,
   (heap_setCell_other _ _ _ _ (by simp)).trans ((heap_setCell_other _ _ _ _ (by simp)).trans (heap_setCell_same _ _ 0 _ _ _ h.z)),
   heap_setCell_same _ _ 1 _ _ _ (heap_setCell_same _ _ 0 _ _ _ ((heap_setCell_other _ _ _ _ (by simp)).trans h.s))⟩
theorem PrF.c {w W:World}(h:PrF w W):W.cell? ⟨w.heap.size,0,none⟩=some (.slice none 0 0)∧W.cell? ⟨w.heap.size+1,0,none⟩=some (.int .i64 0)∧W.cell? ⟨w.heap.size+1,1,none⟩=some (.int .i64 0) :=
  ⟨(cell_of_row _ _ 0 _ _ _ h.z).trans rfl,(cell_of_row _ _ 0 _ _ _ h.s).trans rfl,(cell_of_row _ _ 1 _ _ _ h.s).trans rfl⟩
theorem PrF.f {w W:World}(h:PrF w W):W.frozen? ⟨w.heap.size,0,none⟩=false∧W.frozen? ⟨w.heap.size+1,0,none⟩=false∧W.frozen? ⟨w.heap.size+1,1,none⟩=false :=
  ⟨frozen_of_row _ _ _ _ _ h.z,frozen_of_row _ _ _ _ _ h.s,frozen_of_row _ _ _ _ _ h.s⟩
theorem zjt (w:World)(st:Option Addr)(cap:Nat)(ts:List Tok)(hr:RowsT w st ts)(hT:Tabl w)(few:ts.length<=100000)(ok:∀ t ∈ ts,-1000000000000000000<=t.pos∧t.pos<=1000000000000000000∧t.text.size<=100000) :
    Calls Tryz.prog 13 #[.slice st ts.length cap] w (PrP w (parO ts)):=by
  have HR:Hid (∀ W,Below w.heap.size w W->RowsT W st ts):=fun W hb=>zdo hb.block hr;have HT:Hid (∀ W,Below w.heap.size w W->Tabl W):=fun W hb=>zdp hb.block hT;have HOK:Hid _:=ok;clear hr hT ok
  go_enter Tryz.func13,Tryz.ntmps13
  go_wp2_with fail
  refine zaf (fun W=>PrF w W) ?_ ?_
  . have n0:=heap_alloc_new w (.cells #[.slice none 0 0] 25)
    have n1:=heap_alloc_new (w.alloc (.cells #[.slice none 0 0] 25)) (.cells #[.int .i64 0,.int .i64 0] 28);simp only[World.size_alloc] at n1;exact⟨((Below.refl _ _).alloc (Nat.le_refl _) _).alloc (by simp) _,(Below.heap_alloc _ _ _ (by simp)).trans n0,n1⟩
  intro W f;refine(zjc st cap ts W (HR.out W f.b) few).mono ?_;rintro e W1 ⟨rfl,b1⟩;have F1:Hid (PrF w W1):=f.below b1;clear f b1
  by_cases hc:chkO ts=0
  . rw[hc]
    go_wp2_with fail
    refine(zh4 st cap ts W1 (HR.out W1 F1.out.b) few).mono ?_;rintro e W2 ⟨rfl,b2⟩;have F2:Hid (PrF w W2):=F1.out.below b2;clear F1 b2
    cases hri:risB (-1) ts
    . have HX:Hid (parO ts=.inl (2,0)):=by show _=_;unfold parO;simp[hc,hri]
      obtain⟨c0,c1,c2⟩:=F2.out.c;obtain⟨f0,f1,f2⟩:=F2.out.f
      go_wp2
      exact bodyPost_ret (zbr Tryz.results13 _ _ w.heap.size (w.heap.size+1) _ _ _ _ (0,0) (0,0) _ _ rfl rfl (za2 F2.out _ _ _).2.1 (za2 F2.out _ _ _).2.2 Tryz.underlying25 rfl (by kernel_rfl) Tryz.underlying28 rfl (by kernel_rfl)) rfl (by rw[HX.out];exact⟨(za2 F2.out _ _ _).1,rfl⟩)
    . go_wp2_with fail
      refine(zph W2 st cap ts few HOK.out (fun W' hW'=>⟨zdo hW' (HR.out W2 F2.out.b),zdp hW' (HT.out W2 F2.out.b)⟩)).mono ?_;rintro e W3 ⟨b3,hm⟩;have F3:Hid (PrF w W3):=F2.out.below b3;have hsz:w.heap.size+2<=W2.heap.size:=zaa F2.out.s;obtain⟨s,n,c,a,b,L,R,rfl,hTr,hn,hk,hR,hE⟩:∃ (s:Option Addr) (n c:Nat) (a b:Int) (L:List Nd) (R:(Int × Int) ⊕ Pt),e=.returned (.tuple #[.agg #[.slice s n c],.agg #[.int .i64 a,.int .i64 b]])∧(n=L.length∧TrAt (w.heap.size+2) W3 (.slice s n c) L)∧L.length<=400000∧(∀ d ∈ L,(∀ k ∈ d.kids,k<L.length)∧d.kids.length<=400000) ∧
          (parO ts=if 2048<L.length then .inl (3,0) else if 24<dpF (fun _=>0) 0 0 L then .inl (3,0) else R)∧∀ w',Below w.heap.size w w'->TrAt w.heap.size w' (.slice s n c) L->PrP w R (.returned (.tuple #[.agg #[.slice s n c],.agg #[.int .i64 a,.int .i64 b]])) w':=by
        obtain⟨r,hr⟩:∃ r,filO ts=r:=⟨_,rfl⟩;rw[hr] at hm
        cases r with
        | out=>exact hm.elim
        | bad s=>exact⟨none,0,0,210,s,[],.inl (210,s),hm,⟨rfl,TrAt.nil _ _⟩,by simp,by simp,by unfold parO;simp[hc,hri,hr,dpF],fun w' hb _=>⟨hb,rfl⟩⟩
        | ok t q=>
          obtain⟨hcn,v,rfl,hT⟩:=hm;obtain⟨s,c,rfl⟩:=hT.shape;have hl:=zk5 0 t;exact⟨s,_,c,0,0,layP 0 t,.inr t,rfl,⟨rfl,hT.mono hsz⟩,by omega,fun d hd=>by
            have h:=zke t 0 d hd;exact⟨fun k hk=>by have:=h.1 k hk;omega,by omega⟩,by unfold parO;rw[if_neg (by simp[hc]),if_neg (by simp[hri]),hr],fun w' hb ht=>⟨hb,_,rfl,ht⟩⟩
      obtain⟨hnL,hTr⟩:=hTr;subst hnL;have HTR:Hid _:=hTr;have HKB:Hid _:=hk;have HPO:Hid _:=hR;have HE:Hid _:=hE;clear hTr hk hR hE hm b3 F2 hsz;obtain⟨c0,c1,c2⟩:=F3.out.c;obtain⟨f0,f1,f2⟩:=F3.out.f;have hl1:=zaa F3.out.s;have hl0:=zaa F3.out.z
      by_cases h2:2048<L.length
      . have h2':(L.length:Int) > 2048:=by omega
        have HX:Hid (parO ts=.inl (3,0)):=by show _=_;rw[HPO.out,if_pos h2]
        go_wp2
        have d:=za2 F3.out (.slice none 0 0) 3 0;generalize (((W3.setCell ⟨w.heap.size,0,none⟩ (.slice none 0 0)).setCell ⟨w.heap.size+1,0,none⟩ (.int .i64 3)).setCell ⟨w.heap.size+1,1,none⟩ (.int .i64 0))=Y at d ⊢;have e1:=(Below.heap_alloc Y (.cells #[.slice s L.length c] 25 (0,0)) _ (zaa d.2.1)).trans d.2.1;have e2:=(Below.heap_alloc Y (.cells #[.slice s L.length c] 25 (0,0)) _ (zaa d.2.2)).trans d.2.2;have e3:=(Below.heap_alloc _ (.cells #[.int .i64 a,.int .i64 b] 28 (0,0)) _ (zaa e1)).trans e1;have e4:=(Below.heap_alloc _ (.cells #[.int .i64 a,.int .i64 b] 28 (0,0)) _ (zaa e2)).trans e2;exact bodyPost_ret (zbr Tryz.results13 _ _ w.heap.size (w.heap.size+1) _ _ _ _ (0,0) (0,0) _ _ rfl rfl e3 e4 Tryz.underlying25 rfl (by kernel_rfl) Tryz.underlying28 rfl (by kernel_rfl)) rfl (by rw[HX.out];exact⟨(d.1.alloc d.1.size _).alloc (Nat.le_trans d.1.size (by simp)) _,rfl⟩)
      . have h2':¬ (L.length:Int) > 2048:=by omega
        go_wp2_with fail
        refine zaf (fun W=>PrF w W∧W.heap[W3.heap.size]?=some (.cells #[.slice s L.length c] 25 (0,0))∧W.heap[W3.heap.size+1]?=some (.cells #[.int .i64 a,.int .i64 b] 28 (0,0))∧TrAt (w.heap.size+2) W (.slice s L.length c) L) ?_ ?_
        . have n0:=heap_alloc_new W3 (.cells #[.slice s L.length c] 25)
          have n1:=heap_alloc_new (W3.alloc (.cells #[.slice s L.length c] 25)) (.cells #[.int .i64 a,.int .i64 b] 28);simp only[World.size_alloc] at n1;have hbb:=((Below.refl W3.heap.size W3).alloc (Nat.le_refl _) (.cells #[.slice s L.length c] 25)).alloc (by simp) (.cells #[.int .i64 a,.int .i64 b] 28);exact⟨F3.out.below hbb,(Below.heap_alloc _ _ _ (by simp)).trans n0,n1,TrAt.below HTR.out hbb⟩
        rintro W4 ⟨f4,ht4,hs4,hT4⟩;obtain⟨N,S,hO,hRep,hSS⟩:=hT4;obtain⟨sp',cap',hv,hrows,-,-,-⟩:=OwnG.rows elN hO;have hT4:TrAt (w.heap.size+2) W4 (.slice s L.length c) L:=⟨N,S,hO,hRep,hSS⟩;injection hv with hv1 hv2 hv3;subst hv1 hv3;refine(zkc W4 s c N S L hrows hRep hn HKB.out).mono ?_;rintro e W5 ⟨rfl,b5⟩;have F5:Hid (PrF w W5):=f4.below b5;have HT5:Hid (TrAt (w.heap.size+2) W5 (.slice s L.length c) L):=hT4.below b5;have ht5:=(b5.block _ (zaa ht4)).trans ht4;have hs5:=(b5.block _ (zaa hs4)).trans hs4;clear f4 ht4 hs4 hT4 b5 hO hRep hrows hv2 c0 c1 c2 f0 f1 f2;obtain⟨c0,c1,c2⟩:=F5.out.c;obtain⟨f0,f1,f2⟩:=F5.out.f;have d0:W5.cell? ⟨W3.heap.size,0,none⟩=some (.slice s L.length c):=(cell_of_row _ _ 0 _ _ _ ht5).trans rfl;have d1:W5.cell? ⟨W3.heap.size+1,0,none⟩=some (.int .i64 a):=(cell_of_row _ _ 0 _ _ _ hs5).trans rfl;have d2:W5.cell? ⟨W3.heap.size+1,1,none⟩=some (.int .i64 b):=(cell_of_row _ _ 1 _ _ _ hs5).trans rfl
        by_cases h3:24<dpF (fun _=>0) 0 0 L
        . have h3':dpF (fun _=>0) 0 0 L > 24:=h3
          have HX:Hid (parO ts=.inl (3,0)):=by show _=_;rw[HPO.out,if_neg h2,if_pos h3]
          go_wp2
          exact bodyPost_ret (zbr Tryz.results13 _ _ w.heap.size (w.heap.size+1) _ _ _ _ (0,0) (0,0) _ _ rfl rfl (za2 F5.out _ _ _).2.1 (za2 F5.out _ _ _).2.2 Tryz.underlying25 rfl (by kernel_rfl) Tryz.underlying28 rfl (by kernel_rfl)) rfl (by rw[HX.out];exact⟨(za2 F5.out _ _ _).1,rfl⟩)
        . have h3':¬ dpF (fun _=>0) 0 0 L > 24:=h3
          have HX:Hid (parO ts=R):=by show _=_;rw[HPO.out,if_neg h2,if_neg h3]
          clear ht5 hs5
          go_wp2
          have HTF:Hid (TrAt w.heap.size (((W5.setCell ⟨w.heap.size,0,none⟩ (.slice s L.length c)).setCell ⟨w.heap.size+1,0,none⟩ (.int .i64 a)).setCell ⟨w.heap.size+1,1,none⟩ (.int .i64 b)) (.slice s L.length c) L):=by
            have t1:=HT5.out.other F5.out.z (.inl rfl) (by omega) 0 (.slice s L.length c);have r1:=(heap_setCell_other W5 ⟨w.heap.size,0,none⟩ (w.heap.size+1) (.slice s L.length c) (by simp)).trans F5.out.s;have t2:=t1.other r1 (.inr rfl) (by omega) 0 (.int .i64 a);exact(t2.other (heap_setCell_same _ _ 0 _ _ (.int .i64 a) r1) (.inr rfl) (by omega) 1 (.int .i64 b)).mono (by omega)
          have HDN:Hid _:=za2 F5.out (.slice s L.length c) a b
          go_region
          go_wp2
          generalize (((W5.setCell ⟨w.heap.size,0,none⟩ (.slice s L.length c)).setCell ⟨w.heap.size+1,0,none⟩ (.int .i64 a)).setCell ⟨w.heap.size+1,1,none⟩ (.int .i64 b))=Y at HTF HDN ⊢;exact bodyPost_ret (zbr Tryz.results13 _ Y.drew w.heap.size (w.heap.size+1) _ _ _ _ (0,0) (0,0) _ _ rfl rfl HDN.out.2.1 HDN.out.2.2 Tryz.underlying25 rfl (by kernel_rfl) Tryz.underlying28 rfl (by kernel_rfl)) rfl (by rw[HX.out];exact HE.out _ HDN.out.1.drew (HTF.out.below (Below.refl _ _).drew))
  . have HX:Hid (parO ts=.inl (2,0)):=by show _=_;unfold parO;simp[hc]
    obtain⟨c0,c1,c2⟩:=F1.out.c;obtain⟨f0,f1,f2⟩:=F1.out.f
    go_wp2
    exact bodyPost_ret (zbr Tryz.results13 _ _ w.heap.size (w.heap.size+1) _ _ _ _ (0,0) (0,0) _ _ rfl rfl (za2 F1.out _ _ _).2.1 (za2 F1.out _ _ _).2.2 Tryz.underlying25 rfl (by kernel_rfl) Tryz.underlying28 rfl (by kernel_rfl)) rfl (by rw[HX.out];exact⟨(za2 F1.out _ _ _).1,rfl⟩)
def txtO (s:List UInt8):(Int × Int) ⊕ Pt:=if (lexO s).2.1=0 then parO (lexO s).1 else .inl ((lexO s).2.1,(lexO s).2.2)
theorem zpm (w:World)(x:ByteArray)(hT:Tabl w)(few:(lexO x.data.toList).1.length<=100000)(ok:∀ t ∈ (lexO x.data.toList).1,-1000000000000000000<=t.pos∧t.pos<=1000000000000000000∧t.text.size<=100000) :
  Calls Tryz.prog 7 #[.string x] w (PrP w (txtO x.data.toList)):=by
 have HT:Hid (∀ W,Below w.heap.size w W->Tabl W):=fun W hb=>zdp hb.block hT;obtain⟨ts,er,p,hl⟩:∃ ts er p,lexO x.data.toList=(ts,er,p):=⟨_,_,_,rfl⟩;have HO:Hid (txtO x.data.toList=if er=0 then parO ts else .inl (er,p)):=by show _=_;unfold txtO;rw[hl]
 rw[hl] at few ok;have HOK:Hid _:=ok;have few':ts.length<=100000:=few;clear hT ok few;have HL:Hid _:=hl;clear hl
 go_enter Tryz.func7,Tryz.ntmps7
 go_wp2_with fail
 refine zaf (fun W=>PrF w W) ?_ ?_
 ·have n0:=heap_alloc_new w (.cells #[.slice none 0 0] 25);have n1:=heap_alloc_new (w.alloc (.cells #[.slice none 0 0] 25)) (.cells #[.int .i64 0,.int .i64 0] 28);simp only[World.size_alloc] at n1;exact⟨((Below.refl _ _).alloc (Nat.le_refl _) _).alloc (by simp) _,(Below.heap_alloc _ _ _ (by simp)).trans n0,n1⟩
 intro W f;refine(zmu x W).mono ?_;rintro e W1 ⟨⟨v,rfl,hv⟩,b1⟩;rw[HL.out] at hv ⊢;obtain⟨st,cap,rfl,hrows,-,-,-⟩:=OwnG.rows elT hv;have F1:Hid (PrF w W1):=f.below b1;have HRW:=hid hrows;clear f b1 hv hrows HL;obtain⟨c0,c1,c2⟩:=F1.out.c;obtain⟨f0,f1,f2⟩:=F1.out.f;have hl1:=zaa F1.out.s;have hl0:=zaa F1.out.z
 by_cases he:er=0
 ·have HX:Hid (txtO x.data.toList=parO ts):=by show _=_;rw[HO.out,if_pos he]
  clear HO;subst he
  go_wp2_with fail
  refine zaf (fun W=>PrF w W∧RowsT W st ts) ?_ ?_
  ·have hbb:=(Below.refl W1.heap.size W1).alloc (Nat.le_refl _) (.cells #[.int .i64 0,.int .i64 p] 28);exact⟨F1.out.below hbb,RowsAt.below HRW.out hbb⟩
  rintro W2 ⟨f2',hr2⟩;refine(zjt W2 st cap ts hr2 (HT.out W2 f2'.b) few' HOK.out).mono ?_;rintro e W3 ⟨b3,hm⟩;have F3:Hid (PrF w W3):=f2'.below b3;have hsz:w.heap.size+2<=W2.heap.size:=zaa f2'.s;obtain⟨s,n,c,a,b,rfl,hE⟩:∃ (s:Option Addr) (n c:Nat) (a b:Int),e=.returned (.tuple #[.agg #[.slice s n c],.agg #[.int .i64 a,.int .i64 b]])∧PrP w (parO ts) (.returned (.tuple #[.agg #[.slice s n c],.agg #[.int .i64 a,.int .i64 b]])) (((W3.setCell ⟨w.heap.size,0,none⟩ (.slice s n c)).setCell ⟨w.heap.size+1,0,none⟩ (.int .i64 a)).setCell ⟨w.heap.size+1,1,none⟩ (.int .i64 b)):=by
   cases hp:parO ts with
   | inl q=>
    rw[hp] at hm;exact⟨none,0,0,q.1,q.2,hm,(za2 F3.out _ _ _).1,rfl⟩
   | inr t=>
    rw[hp] at hm;obtain⟨v,rfl,hT3⟩:=hm;obtain⟨s,c,rfl⟩:=hT3.shape;refine⟨s,_,c,0,0,rfl,(za2 F3.out _ _ _).1,_,rfl,?_⟩;have t1:=(hT3.mono hsz).other F3.out.z (.inl rfl) (by omega) 0 (.slice s (layP 0 t).length c);have r1:=(heap_setCell_other W3 ⟨w.heap.size,0,none⟩ (w.heap.size+1) (.slice s (layP 0 t).length c) (by simp)).trans F3.out.s;have t2:=t1.other r1 (.inr rfl) (by omega) 0 (.int .i64 0);exact(t2.other (heap_setCell_same _ _ 0 _ _ (.int .i64 0) r1) (.inr rfl) (by omega) 1 (.int .i64 0)).mono (by omega)
  have HE:Hid _:=hE;clear hm hE b3 f2' hr2 c0 c1 c2 f0 f1 f2;obtain⟨c0,c1,c2⟩:=F3.out.c;obtain⟨f0,f1,f2⟩:=F3.out.f
  go_wp2
  exact bodyPost_ret (zbr Tryz.results7 _ _ w.heap.size (w.heap.size+1) _ _ _ _ (0,0) (0,0) _ _ rfl rfl (za2 F3.out _ _ _).2.1 (za2 F3.out _ _ _).2.2 Tryz.underlying25 rfl (by kernel_rfl) Tryz.underlying28 rfl (by kernel_rfl)) rfl (by rw[HX.out];exact HE.out)
 ·have HX:Hid (txtO x.data.toList=.inl (er,p)):=by show _=_;rw[HO.out,if_neg he]
  clear HO
  go_wp2
  refine zdd (fun W=>PrF w W∧W.heap[W1.heap.size]?=some (.cells #[.int .i64 er,.int .i64 p] 28 (0,0))) ⟨F1.out.below ((Below.refl W1.heap.size W1).alloc (Nat.le_refl _) _),heap_alloc_new _ _⟩ ?_;rintro W2 ⟨f2',h2⟩;have F2:Hid (PrF w W2):=f2';clear c0 c1 c2 f0 f1 f2 f2';obtain⟨c0,c1,c2⟩:=F2.out.c;obtain⟨f0,f1,f2⟩:=F2.out.f;have d0:W2.cell? ⟨W1.heap.size,0,none⟩=some (.int .i64 er):=(cell_of_row _ _ 0 _ _ _ h2).trans rfl;have d1:W2.cell? ⟨W1.heap.size,1,none⟩=some (.int .i64 p):=(cell_of_row _ _ 1 _ _ _ h2).trans rfl;have HDN:Hid _:=za2 F2.out (.slice none 0 0) er p;clear h2
  go_region
  go_wp2
  generalize (((W2.setCell ⟨w.heap.size,0,none⟩ (.slice none 0 0)).setCell ⟨w.heap.size+1,0,none⟩ (.int .i64 er)).setCell ⟨w.heap.size+1,1,none⟩ (.int .i64 p))=Y at HDN ⊢;exact bodyPost_ret (zbr Tryz.results7 _ Y.drew w.heap.size (w.heap.size+1) _ _ _ _ (0,0) (0,0) _ _ rfl rfl HDN.out.2.1 HDN.out.2.2 Tryz.underlying25 rfl (by kernel_rfl) Tryz.underlying28 rfl (by kernel_rfl)) rfl (by rw[HX.out];exact⟨HDN.out.1.drew,rfl⟩)
def filN (ts:List Tok):Nat:=24 * ts.length+36
theorem zq2 {ts:List Tok}(hR:RtT ts):∃ v s,filD ts (filN ts) ⟨0,false⟩=some (v,s)∧(s.bad=true->filO ts=.bad (herI ts s.p))∧(s.bad=false->filO ts=.ok v.pt s.p):=by
 have h:=zr3 hR (12 * ts.length+12) (filN ts) (by unfold filN;omega);have he:filP ts (12 * ts.length+12) 0≠.out:=zkv;unfold filO
 cases hr:filP ts (12 * ts.length+12) 0 with
 | ok t q=>
  rw[hr] at h;obtain⟨v,hv,hpt,-⟩:=h;exact⟨v,⟨q,false⟩,hv,(fun h=>by cases h),fun _=>by rw[hpt]⟩
 | bad s=>
  rw[hr] at h;obtain⟨v,q,hv,hq⟩:=h;exact⟨v,⟨q,true⟩,hv,(fun _=>by rw[<-hq]),fun h=>by cases h⟩
 | out=>exact absurd hr he
def docO (v:Qv) (s:Qs) (ts:List Tok):(Int × Int) ⊕ Pt :=
 if s.bad then .inl (210,herI ts s.p) else if 2048<cntP v.pt then .inl (3,0) else if 24<dpP v.pt then .inl (3,0) else .inr v.pt
theorem zq3 {ts:List Tok}{v:Qv}{s:Qs}(h1:chkO ts=0)(h2:risB (-1) ts=true)(hb:s.bad=true->filO ts=.bad (herI ts s.p))(hg:s.bad=false->filO ts=.ok v.pt s.p):parO ts=docO v s ts:=by
 unfold parO docO;rw[if_neg (by simp[h1]),if_neg (by simp[h2])]
 cases h:s.bad
 ·rw[hg h];simp only[ziw,zqy];have e:(24<(dpP v.pt:Int)) ↔ 24<dpP v.pt:=by omega
  simp only[e];rfl
 ·rw[hb h];rfl
theorem zf6:∀ (ts:List Tok)(last:Tok),chkF last ts=true->∀ t ∈ ts,bareB t=true∨alnB t=true
 | [],_,_=>fun t ht=>by cases ht
 | x::r,last,h=>by
  rw[chkF] at h;intro t ht
  by_cases hb:bareB x=true
  ·rw[if_pos hb] at h
   split at h
   ·rcases List.mem_cons.1 ht with rfl|ht
    ·exact .inl hb
    ·exact zf6 r x h t ht
   ·cases h
  ·rw[if_neg hb] at h
   split at h
   ·rename_i ha
    rcases List.mem_cons.1 ht with rfl|ht
    ·exact .inr ha
    ·exact zf6 r x h t ht
   ·cases h
theorem zsk {t:Tok}(h:alnB t=true)(hm:t.text.data.toList ∈ sgQ):t.kind=4:=by
 obtain⟨h1,-,-⟩:=zix h;simp only[sgQ,List.mem_cons,List.not_mem_nil,or_false] at hm;have hk:∀ L n,t.text.data.toList=L->(lookR L false)=(4,n,0)->t.kind=4:=fun L n e1 e2=>by
  rw[e1,e2] at h1;injection h1 with h1 _;exact h1.symm
 rcases hm with h|h|h|h|h|h|h|h|h|h|h|h|h|h|h|h|h|h|h|h|h|h <;> exact hk _ _ h (by rfl)
theorem zn7 {t:Tok}(h:bareB t=true∨alnB t=true):(t.text.data.toList ∈ sgQ->t.kind=4)∧(kepB t.text=true->t.kind=1):=by
 rcases h with h|h
 ·have hx:t.text.data.toList=[]:=by
   unfold bareB at h;have h2:=(Bool.and_eq_true _ _ ▸ h:_∧_).2;rw[ByteArray.toList_eq] at h2;exact List.isEmpty_iff.1 h2
  refine⟨fun hm=>?_,fun hk=>?_⟩
  ·rw[hx] at hm;exact absurd hm (by decide)
  ·unfold kepB at hk;rw[hx] at hk;exact absurd hk (by decide)
 ·refine⟨zsk h,fun hk=>?_⟩;obtain⟨h1,-,-⟩:=zix h;have hq:∀ L n,t.text.data.toList=L->(lookR L false)=(1,n,0)->t.kind=1:=fun L n e1 e2=>by
   rw[e1,e2] at h1;injection h1 with h1 _;exact h1.symm
  simp only[kepB,Bool.or_eq_true,beq_iff_eq,or_assoc] at hk;rcases hk with h|h|h|h|h|h|h|h|h|h|h|h|h|h|h|h <;> exact hq _ _ h (by rfl)
theorem zsl {ts:List Tok}(h:chkO ts=0):RtT ts:=by
 have hc:chkF ⟨0,⟨#[]⟩,0⟩ ts=true:=by
  unfold chkO at h
  split at h
  ·cases h
  ·split at h
   ·assumption
   ·cases h
 have he:=zf6 ts _ hc;have hz:∀ p,(nxT ts p ∈ ts)∨nxT ts p=tokZ:=fun p=>by
  by_cases hp:p<ts.length
  ·refine .inl ?_;unfold nxT;rw[List.getD_eq_getElem?_getD,List.getElem?_eq_getElem hp];exact List.getElem_mem hp
  ·exact .inr (zgo hp)
 refine⟨fun p hp=>?_,fun p hp=>?_⟩
 ·rcases hz p with h|h
  ·exact(zn7 (he _ h)).1 hp
  ·rw[h] at hp;exact absurd hp (by decide)
 ·rcases hz p with h|h
  ·exact(zn7 (he _ h)).2 hp
  ·rw[h] at hp;exact absurd hp (by decide)
theorem zei {w:World}{b o i:Nat}{es:List Qe}(h:RowsAt w 9 Qe.cells (some ⟨b,o,none⟩) es){e:Qe}(he:es[i]?=some e)(j:Nat)(v:Value)(hv:e.cells[j]?=some v):w.cell? ⟨b,o+i * 9+j,none⟩=some v:=by
 obtain⟨b',o',e',hc⟩:=h (by have:=(List.getElem?_eq_some_iff.1 he).1;omega);injection e' with e';injection e' with e1 e2;subst e1 e2;exact hc i e he j v hv
theorem zn8 {w:World}{b o i:Nat}{es:List Qe}(h:RowsAt w 9 Qe.cells (some ⟨b,o,none⟩) es){k:Int}{x:ByteArray}{n a f t bg:Int}{sp:Option Addr}{len cp:Nat}(he:es[i]?=some ⟨k,x,n,a,f,t,bg,sp,len,cp⟩) :
  w.cell? ⟨b,o+i * 9,none⟩=some (.int .i64 k)∧w.cell? ⟨b,o+i * 9+1,none⟩=some (.string x)∧w.cell? ⟨b,o+i * 9+2,none⟩=some (.int .i64 n)∧w.cell? ⟨b,o+i * 9+3,none⟩=some (.slice none 0 0)∧w.cell? ⟨b,o+i * 9+4,none⟩=some (.int .i64 a) ∧
  w.cell? ⟨b,o+i * 9+5,none⟩=some (.int .i64 f)∧w.cell? ⟨b,o+i * 9+6,none⟩=some (.int .i64 t)∧w.cell? ⟨b,o+i * 9+7,none⟩=some (.int .i64 bg)∧w.cell? ⟨b,o+i * 9+8,none⟩=some (.slice sp len cp) :=
 ⟨zei h he 0 _ rfl,zei h he 1 _ rfl,zei h he 2 _ rfl,zei h he 3 _ rfl,zei h he 4 _ rfl,zei h he 5 _ rfl,zei h he 6 _ rfl,zei h he 7 _ rfl,zei h he 8 _ rfl⟩
theorem zpn {l:List Pt}{q:Nat}{t:Pt}(h:l[q]?=some t):dpL (l.take (q+1))=max (dpL (l.take q)) (dpP t):=by
 rw[show l.take (q+1)=l.take q++[t] by rw[List.take_add_one,h];rfl,zk8]
theorem zqh:∀ (l:List Pt)(q:Nat),dpL (l.take q)<=dpL l
 | [],q=>by simp[dpL]
 | t::r,0=>by simp[dpL]
 | t::r,q+1=>by have:=zqh r q;rw[List.take_succ_cons,dpL,dpL];omega
theorem zmb (n:Nat):∀ (t:Pt)(w:World)(e:Qe) (S:Nat->Prop),cntP t<=n->QAt w S t e->(∀ j,S j->j<w.heap.size)->cntP t<=400000 ->
  Calls Tryz.prog 27 #[.agg e.cells] w fun e' w'=>e'=.returned (.int .i64 (dpP t))∧Below w.heap.size w w':=by
 induction n with
 | zero=>intro t w e S h;cases t with | mk k x n a f t l=>rw[cntP] at h;omega
 | succ n ih=>
  intro t w e S hcnt hq hS hbound;have HIH:=hid ih;clear ih
  cases hq with
  | mk k x nn a f tt l bg es sp cap hr hs hl hk=>
  have hcl:1+cntL l<=n+1:=hcnt;have hbd:1+cntL l<=400000:=hbound;have hll:=zhb l;have hdl:=zkd l;clear hcnt hbound;obtain⟨nl,hnl⟩:∃ q,es.length=q:=⟨_,rfl⟩;have HNL:=hid hnl;have hlq:l.length=nl:=hl.symm.trans hnl;have HLQ:=hid hlq;have hnb:nl<=400000:=by omega
  have HRS:Hid (∀ W,Below w.heap.size w W->RowsAt W 9 Qe.cells sp es):=hid fun W h=>hr.stay fun q hq=>h.block _ (hS _ (hs q hq));have HKD:Hid (∀ W,Below w.heap.size w W->∀ (i:Nat) (e':Qe) (t':Pt),es[i]?=some e'->l[i]?=some t'->QAt W S t' e'∧∀ j,S j->j<W.heap.size):=hid fun W h i e' t' e1 e2=>⟨(hk i e' t' e1 e2).keep (fun _ h=>h) fun j hj=>h.block j (hS j hj),fun j hj=>Nat.lt_of_lt_of_le (hS j hj) h.size⟩;rw[hnl];clear hr hs hk hS hnl hl hlq
  go_enter Tryz.func27,Tryz.ntmps27
  unfold Qe.cells paQ
  go_wp2_with fail
  refine zdd (fun W=>W.heap[w.heap.size]?=some (.cells (paQ k x nn a f tt bg (.slice sp nl cap)) 63 (0,0))∧Below w.heap.size w W) ⟨heap_alloc_new _ _,(Below.refl _ _).alloc (Nat.le_refl _) _⟩ ?_;rintro W1 ⟨r1,b1⟩;have HRW:Hid (∀ W,Below W1.heap.size W1 W->W.heap[w.heap.size]?=some (.cells (paQ k x nn a f tt bg (.slice sp nl cap)) 63 (0,0))∧Below w.heap.size w W):=hid fun W h=>⟨(h.block _ (zaa r1)).trans r1,b1.trans (h.mono b1.size)⟩;clear r1 b1
  go_loopw [3,4] (fun nv i wr=>∃ (q m:Nat),q<=nl∧i=.int .i64 q∧nv=.int .i64 m∧m=dpL (l.take q)∧Below W1.heap.size W1 wr) (fun _ i _=>nl - (intOf i).toNat)
  case atStart=>exact⟨0,0,Nat.zero_le _,rfl,rfl,by simp[dpL],Below.refl _ _⟩
  case round=>
   obtain⟨q,m,hq,rfl,rfl,hm,hB⟩:=hrel;have HB:=hid hB;have HM:=hid hm;have hmb:m<=400000:=by have:=zqh l q;omega
   obtain⟨rw1,bw1⟩:=HRW.out wr hB;have HBW:=hid bw1;obtain⟨-,-,-,-,-,-,-,-,c8,-⟩:=row9 rw1;clear rw1 bw1 hB hm
   by_cases hlt:q<nl
   ·have hd:decide ((q:Int)<nl)=true:=by simp;omega
    obtain⟨e',he'⟩:∃ e',es[q]?=some e':=⟨_,List.getElem?_eq_getElem (by have:=HNL.out;omega)⟩;obtain⟨t',ht'⟩:∃ t',l[q]?=some t':=⟨_,List.getElem?_eq_getElem (by have:=HLQ.out;omega)⟩;have HT:=hid ht';obtain⟨hqa,hsz⟩:=HKD.out wr HBW.out q e' t' he' ht';have HQA:=hid hqa;have HSZ:=hid hsz;obtain⟨b,o,rfl,-⟩:=HRS.out wr HBW.out (by have:=HNL.out;omega);obtain⟨e0,e1,e2,e3,e4,e5,e6,e7,e8,e9⟩:=e';obtain⟨d0,d1,d2,d3,d4,d5,d6,d7,d8⟩:=zn8 (HRS.out wr HBW.out) he';have hct:=zha l q t' ht';have hdt:=zqg t';clear he' ht' hqa hsz
    go_wp2_with fail
    refine(HIH.out t' wr ⟨e0,e1,e2,e3,e4,e5,e6,e7,e8,e9⟩ S (by omega) HQA.out HSZ.out (by omega)).mono ?_;rintro e W2 ⟨rfl,b2⟩;have HB2:Hid (Below W1.heap.size W1 W2):=hid (HB.out.trans (b2.mono HB.out.size));clear b2 c8 d0 d1 d2 d3 d4 d5 d6 d7 d8;have HM2:=hid (zpn HT.out);obtain⟨dt,hdt2⟩:∃ dt,dpP t'=dt:=⟨_,rfl⟩;rw[hdt2] at HM2 hdt ⊢;have HD2:=hid hdt2;clear hdt2
    by_cases hgt:m<dt
    ·have hg2:decide ((dt:Int) > m)=true:=by simp;omega
     go_wp2
     exact⟨⟨q+1,dt,by omega,by congr 1,rfl,by rw[HM2.out,<-HM.out];omega,HB2.out⟩,by simp[intOf];omega⟩
    ·have hg2:decide ((dt:Int) > m)=false:=by simp;omega
     go_wp2
     exact⟨⟨q+1,m,by omega,by congr 1,rfl,by rw[HM2.out,<-HM.out];omega,HB2.out⟩,by simp[intOf];omega⟩
   ·have hd:decide ((q:Int)<nl)=false:=by simp;omega
    have HE:Hid (m=dpL l):=hid (by rw[HM.out,show q=l.length by have:=HLQ.out;omega,List.take_length])
    go_wp2
    go_ret
    exact⟨by rw[HE.out,dpP];rfl,HBW.out⟩
theorem Rep.app {w:World}{S S':Nat->Prop}{N N':List NdM}{L L':List Nd}(h:Rep w S N L)(h':Rep w S' N' L'):Rep w (fun q=>S q∨S' q) (N++N') (L++L') :=
 ⟨by simp[h.1,h'.1],fun i m d e1 e2=>by
  by_cases hi:i<N.length
  ·rw[List.getElem?_append_left hi] at e1;rw[List.getElem?_append_left (by rw[<-h.1];exact hi)] at e2;obtain⟨a,b,c,e,f⟩:=h.2 i m d e1 e2;exact⟨a,b,c,e,fun q hq=>.inl (f q hq)⟩
  ·rw[List.getElem?_append_right (by omega)] at e1;rw[List.getElem?_append_right (by rw[<-h.1];omega),<-h.1] at e2;obtain⟨a,b,c,e,f⟩:=h'.2 _ m d e1 e2;exact⟨a,b,c,e,fun q hq=>.inr (f q hq)⟩⟩
theorem Rep.nil (w:World) (S:Nat->Prop):Rep w S [] []:=⟨rfl,fun i m d h=>by simp at h⟩
theorem zgu {B C:Nat}{w:World}{u v:Value}{N:List NdM}{ks:List Nat}(hn:OwnN B w u N)(hi:OwnI C w v ks){q:Nat}(hq:v.ownBlock=some q):u.ownBlock≠some q:=by
 intro e;rcases hn.2 with⟨rfl,h0⟩ | ⟨g',cap,cur,rfl,-,h2,-⟩
 ·cases e
 ·have e1:g'=q:=by injection e
  exact hi.ne h2 (by decide) (by rw[hq,e1])
structure LyR (B:Nat) (w:World) (pb:Nat) (cs:Array Value) (v:Value) (N0:List NdM) (m:NdM) (l:List Pt) (a b:Nat) (W:World) (u:Value):Prop where
 row:W.heap[pb]?=some (.cells cs 63 (0,0))
 gro:w.grownBy W v.ownBlock
 own:u.ownBlock=v.ownBlock∨∃ q,u.ownBlock=some q∧w.heap.size<=q
 ex:∃ (ks:Option Addr) (kn kc:Nat) (N':List NdM) (S:Nat->Prop),OwnN B W u (N0++⟨m.k,m.x,m.n,ks,kn,kc,m.a,m.f,m.t⟩::N')∧OwnI w.heap.size W (.slice ks kn kc) (kidI (N0.length+1) (l.take a))∧Rep W S N' (layL (N0.length+1) (l.take b)) ∧
  ∀ q,S q->w.heap.size<=q∧q<W.heap.size∧u.ownBlock≠some q∧(Value.slice ks kn kc).ownBlock≠some q
def LayS (B:Nat) (w:World) (v:Value) (N0:List NdM) (t:Pt) (e:Ending) (w':World):Prop :=
 ∃ (v':Value) (N':List NdM) (S':Nat->Prop),e=.returned v'∧OwnN B w' v' (N0++N')∧Rep w' S' N' (layP N0.length t)∧w.grownBy w' v.ownBlock∧(v'.ownBlock=v.ownBlock∨∃ q,v'.ownBlock=some q∧w.heap.size<=q)∧∀ j,S' j->w.heap.size<=j∧j<w'.heap.size∧v'.ownBlock≠some j
section
variable {B pb:Nat}{w W W1:World}{cs:Array Value}{v u:Value}{N0:List NdM}{m:NdM}{l:List Pt}{a b j:Nat}{tj:Pt}
set_option maxRecDepth 100000 in
theorem zpo (hown:OwnN B w v N0)(hB:B<=w.heap.size)(hb:Below w.heap.size w W1)(hs:W1.heap.size=w.heap.size+1)(hr:W1.heap[w.heap.size]?=some (.cells cs 63 (0,0)))(hm:m.ks=none∧m.kn=0∧m.kc=0)(hl:N0.length+1<=1000000) :
  ∃ v1 W2,(Builtin.append_ #[23,23] 23 #[v,.slice (some ⟨W1.heap.size,0,none⟩) 1 1]).run Tryz.prog (W1.alloc (.cells m.cells 53))=.ok v1 W2∧LyR B w w.heap.size cs v N0 m l 0 0 W2 v1:=by
 have ha:Below W1.heap.size W1 (W1.alloc (.cells m.cells 53)):=(Below.refl _ _).alloc (Nat.le_refl _) _;have hrow:=heap_alloc_new W1 (.cells m.cells 53);have hsa:=ha.size;have hown1:=hown.below hb;obtain⟨v1,W2,hrun,ho,hg,hq⟩:=zdi (ys:=[m]) (cap:=1) elN 23 (hown1.below ha) (fun e=>by cases e) (zau hrow) (by simp;omega) (by omega);have hsg:=hg.size;have hvl:∀ q,v.ownBlock=some q->q<w.heap.size:=fun q e=>(hown.lt e).2;refine⟨v1,W2,hrun,(hg.block _ (by omega) fun e=>by have:=hvl _ e.symm;omega).trans ((ha.block _ (by omega)).trans hr),⟨hg.os.trans (ha.os.trans hb.os),hg.tape.trans (ha.tape.trans hb.tape),hg.output.trans (ha.output.trans hb.output),by omega,fun k hk hne=>(hg.block k (by omega) hne).trans ((ha.block k (by omega)).trans (hb.block k hk))⟩,?_,none,0,0,[],fun _=>False,?_,zbv _ _,Rep.nil _ _,fun _ h=>h.elim⟩
 ·rcases hq with hq|hq
  ·exact .inl hq
  ·exact .inr ⟨_,hq,by omega⟩
 ·obtain⟨k,x,n,ks,kn,kc,a,f,t⟩:=m;obtain⟨rfl,rfl,rfl⟩:=hm;exact ho
theorem LyR.len (h:LyR B w pb cs v N0 m l a b W u):∃ s c,u=.slice s (N0.length+1+cntL (l.take b)) c:=by
 obtain⟨ks,kn,kc,N',S,h1,h2,h3,h4⟩:=h.ex;obtain⟨s,c,e⟩:=h1.shape;have hN:=h3.1;rw[ze1] at hN;refine⟨s,c,?_⟩;rw[e,List.length_append,List.length_cons,hN,show N0.length+(cntL (l.take b)+1)=N0.length+1+cntL (l.take b) by omega]
set_option maxRecDepth 100000 in
theorem zsm (h:LyR B w pb cs v N0 m l j j W u)(htj:l[j]?=some tj)(hl:N0.length+1+cntL l<=500000) :
  ∃ gu c ks kn kc s7 n7 c7 W7 W8,u=.slice (some ⟨gu,0,none⟩) (N0.length+1+cntL (l.take j)) c∧W.cell? ⟨gu,N0.length * 7+3,none⟩=some (.slice ks kn kc) ∧
   (Builtin.append_ #[51,51] 51 #[.slice ks kn kc,.slice (some ⟨W.heap.size,0,none⟩) 1 1]).run Tryz.prog (W.alloc (.cells #[.int .i64 ((N0.length+1+cntL (l.take j):Nat):Int)] 3))=.ok (.slice s7 n7 c7) W7 ∧
   W7.cell? ⟨gu,N0.length * 7+3,none⟩=some (.slice ks kn kc)∧W7.frozen? ⟨gu,N0.length * 7+3,none⟩=false∧W7.setCell ⟨gu,N0.length * 7+3,none⟩ (.slice s7 n7 c7)=W8∧LyR B w pb cs v N0 m l (j+1) j W8 u:=by
 obtain⟨s,c,hsh⟩:=h.len;obtain⟨hrow,hgro,hown,ks,kn,kc,N',S,h1,h2,h3,h4⟩:=h;have hle:=hgro.size;have hbA:Below W.heap.size W (W.alloc (.cells #[.int .i64 ((N0.length+1+cntL (l.take j):Nat):Int)] 3)):=(Below.refl _ _).alloc (Nat.le_refl _) _;have hrA:=heap_alloc_new W (.cells #[.int .i64 ((N0.length+1+cntL (l.take j):Nat):Int)] 3);have hsA:=hbA.size;have hll:=zhb l;have hjl:j<l.length:=(List.getElem?_eq_some_iff.1 htj).1;obtain⟨v7,W7,hrun7,ho7,hg7,hq7⟩:=zdi (ys:=[N0.length+1+cntL (l.take j)]) (cap:=1) elI 51 (h2.below hbA) (fun e=>by cases e) (zau hrA) (by rw[zgr,List.length_take,List.length_singleton];omega) (by omega);obtain⟨s7,c7,rfl⟩:=OwnG.shape ho7;have hs7:=hg7.size;have hap:∀ q,(Value.slice ks kn kc).ownBlock=some q->u.ownBlock≠some q:=fun q hq=>zgu h1 h2 hq;have hk7:∀ q,q<W.heap.size->(Value.slice ks kn kc).ownBlock≠some q->W7.heap[q]?=W.heap[q]?:=fun q hq hn=>(hg7.block q (by omega) fun e=>hn e.symm).trans (hbA.block q hq);have h17:OwnN B W7 u (N0++⟨m.k,m.x,m.n,ks,kn,kc,m.a,m.f,m.t⟩::N'):=h1.keep fun q hq=>hk7 q (h1.lt hq).2 fun e=>hap q e hq;subst hsh;obtain⟨gu,hgu,hg1,hg2,hcell,hfz,hset⟩:=OwnN.set h17 (i:=N0.length) (m:=⟨m.k,m.x,m.n,ks,kn,kc,m.a,m.f,m.t⟩) (by simp) s7 (kidI (N0.length+1) (l.take j)++[N0.length+1+cntL (l.take j)]).length c7;obtain⟨gu',hgu',-,-,hcell',-,-⟩:=OwnN.set h1 (i:=N0.length) (m:=⟨m.k,m.x,m.n,ks,kn,kc,m.a,m.f,m.t⟩) (by simp) s7 (kidI (N0.length+1) (l.take j)++[N0.length+1+cntL (l.take j)]).length c7;subst hgu;obtain rfl:gu=gu':=by injection hgu' with e;injection e
 have hoth:∀ q,q≠gu->(W7.setCell ⟨gu,N0.length * 7+3,none⟩ (.slice s7 (kidI (N0.length+1) (l.take j)++[N0.length+1+cntL (l.take j)]).length c7)).heap[q]?=W7.heap[q]?:=fun q hq=>heap_setCell_other _ _ _ _ hq;have hst:=(Below.refl 0 W7).setCell (p:=⟨gu,N0.length * 7+3,none⟩) (Nat.zero_le _) (.slice s7 (kidI (N0.length+1) (l.take j)++[N0.length+1+cntL (l.take j)]).length c7);have hss:=hst.size;refine⟨gu,c,ks,kn,kc,s7,(kidI (N0.length+1) (l.take j)++[N0.length+1+cntL (l.take j)]).length,c7,W7,_,rfl,hcell',hrun7,hcell,hfz,rfl,?_,⟨hst.os.trans (hg7.os.trans (hbA.os.trans hgro.os)),hst.tape.trans (hg7.tape.trans (hbA.tape.trans hgro.tape)),hst.output.trans (hg7.output.trans (hbA.output.trans hgro.output)),by omega,fun k hk hne=>?_⟩,hown,s7,(kidI (N0.length+1) (l.take j)++[N0.length+1+cntL (l.take j)]).length,c7,N',S,?_,?_,?_,?_⟩
 ·have hpu:(Value.slice (some ⟨gu,0,none⟩) (N0.length+1+cntL (l.take j)) c).ownBlock≠some pb:=h1.ne hrow (by decide);have hpk:(Value.slice ks kn kc).ownBlock≠some pb:=h2.ne hrow (by decide);exact(hoth pb fun e=>hpu (by rw[e];rfl)).trans ((hk7 pb (zaa hrow) hpk).trans hrow)
 ·have hku:k≠gu:=fun e=>by
   rcases hown with h|⟨q,h,hq⟩
   ·exact hne (by rw[<-h,e];rfl)
   ·have:gu=q:=by injection h
    omega
  have hkk:(Value.slice ks kn kc).ownBlock≠some k:=fun e=>by have:=(h2.lt e).1;omega
  exact(hoth k hku).trans ((hk7 k (by omega) hkk).trans (hgro.block k hk hne))
 ·rw[List.set_append_right _ _ (Nat.le_refl _),Nat.sub_self,List.set_cons_zero] at hset;exact hset
 ·have hkeep:∀ q,(Value.slice s7 (kidI (N0.length+1) (l.take j)++[N0.length+1+cntL (l.take j)]).length c7).ownBlock=some q->q≠gu:=fun q hq e=>zgu h17 ho7 hq (by rw[e];rfl);rw[show l.take (j+1)=l.take j++[tj] by rw[List.take_add_one,htj];rfl,zfw];exact(ho7.keep fun q hq=>hoth q (hkeep q hq))
 ·exact h3.keep (fun _ h=>h) fun q hq=>by
   obtain⟨q1,q2,q3,q4⟩:=h4 q hq;exact(hoth q fun e=>q3 (by rw[e];rfl)).trans (hk7 q q2 q4)
 ·intro q hq;obtain⟨q1,q2,q3,q4⟩:=h4 q hq;refine⟨q1,by omega,q3,fun e=>?_⟩;rcases hq7 with h|h
  ·exact q4 (h.symm.trans e)
  ·rw[h] at e;injection e with e;omega
set_option maxRecDepth 100000 in
theorem zsn (h:LyR B w pb cs v N0 m l (j+1) j W u)(htj:l[j]?=some tj) :
  ∃ N,OwnN B W u N∧N.length=N0.length+1+cntL (l.take j)∧∀ e W9,LayS B W u N tj e W9->∃ v9,e=.returned v9∧LyR B w pb cs v N0 m l (j+1) (j+1) W9 v9:=by
 obtain⟨hrow,hgro,hown,ks,kn,kc,N',S,h1,h2,h3,h4⟩:=h;have hN:=h3.1;rw[ze1] at hN;have hlen:(N0++(⟨m.k,m.x,m.n,ks,kn,kc,m.a,m.f,m.t⟩:NdM)::N').length=N0.length+1+cntL (l.take j):=by rw[List.length_append,List.length_cons,hN];omega
 refine⟨_,h1,hlen,?_⟩;rintro e W9 ⟨v9,N9,S9,rfl,k1,k2,k3,k4,k5⟩;have hap:∀ q,(Value.slice ks kn kc).ownBlock=some q->u.ownBlock≠some q:=fun q hq=>zgu h1 h2 hq;have hs9:=k3.size;have hle:=hgro.size;refine⟨v9,rfl,(k3.block pb (zaa hrow) fun e=>h1.ne hrow (by decide) e.symm).trans hrow,⟨k3.os.trans hgro.os,k3.tape.trans hgro.tape,k3.output.trans hgro.output,by omega,fun k hk hne=>(k3.block k (by omega) fun e=>?_).trans (hgro.block k hk hne)⟩,?_,ks,kn,kc,N'++N9,fun q=>S q∨S9 q,?_,?_,?_,?_⟩
 ·rcases hown with h|⟨q,h,hq⟩
  ·exact hne (e.trans h)
  ·rw[h] at e;injection e with e;omega
 ·rcases k4 with h|⟨q,h,hq⟩
  ·rw[h];exact hown
  ·exact .inr ⟨q,h,by omega⟩
 ·rw[List.append_assoc,List.cons_append] at k1;exact k1
 ·exact h2.keep fun q hq=>k3.block q (h2.lt hq).2 fun e=>hap q hq e.symm
 ·rw[show l.take (j+1)=l.take j++[tj] by rw[List.take_add_one,htj];rfl,zfv,<-hlen];exact(h3.keep (fun _ h=>h) fun q hq=>k3.block q (h4 q hq).2.1 fun e=>(h4 q hq).2.2.1 e.symm).app k2
 ·rintro q (hq|hq)
  ·obtain⟨q1,q2,q3,q4⟩:=h4 q hq;refine⟨q1,by omega,fun e=>?_,q4⟩;rcases k4 with h|⟨r,h,hr⟩
   ·exact q3 (h.symm.trans e)
   ·rw[h] at e;injection e with e;omega
  ·obtain⟨q1,q2,q3⟩:=k5 q hq;exact⟨by omega,q2,q3,fun e=>by have:=(h2.lt e).2;omega⟩
set_option maxRecDepth 100000 in
theorem zso (h:LyR B w pb cs v N0 m l l.length l.length W u):LayS B w v N0 (.mk m.k m.x m.n m.a m.f m.t l) (.returned u) W:=by
 obtain⟨hrow,hgro,hown,ks,kn,kc,N',S,h1,h2,h3,h4⟩:=h;rw[List.take_length] at h2 h3;obtain⟨su,cu,e,hru,hnu,hcu⟩:=OwnG.rows elI h2;injection e with e1 e2 e3;subst e1 e2 e3;refine⟨u,_,fun q=>(Value.slice ks (kidI (N0.length+1) l).length kc).ownBlock=some q∨S q,rfl,h1,?_,hgro,hown,?_⟩
 ·rw[layP];refine Rep.app (N:=[_]) (L:=[_]) ⟨rfl,fun i m' d' e1 e2=>?_⟩ h3;have hi:i=0:=by have:=(List.getElem?_eq_some_iff.1 e1).1;simp at this;omega
  subst hi;obtain rfl:_=m':=by simpa using e1
  obtain rfl:_=d':=by simpa using e2
  exact⟨⟨rfl,rfl,rfl,rfl,rfl,rfl⟩,rfl,hru,⟨hnu,hcu⟩,fun q hq=>by have hq':ks=some q:=hq;rw[hq'];rfl⟩
 ·rintro q (hq|hq)
  ·exact⟨(h2.lt hq).1,(h2.lt hq).2,zgu h1 h2 hq⟩
  ·exact⟨(h4 q hq).1,(h4 q hq).2.1,(h4 q hq).2.2.1⟩
end
end Go.Proofs.YtmclgbkijeidaaaGreatDoor
