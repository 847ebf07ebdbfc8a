import Derived.Test.YtmclgbkijeidaaaGreatDoorUoT
import Derived.Test.YtmclgbkijeidaaaGreatDoorUoM
import Derived.Test.YtmclgbkijeidaaaGreatDoorUoL
import Derived.Test.YtmclgbkijeidaaaGreatDoorUoN
namespace Go.Proofs.YtmclgbkijeidaaaGreatDoor
open Go.RowKit
section
variable {ts:List Tok}
def Lis (ts:List Tok) (one:Nat->Rs Pt) (more:List Pt->Nat->Rs (List Pt)) (dl:List Pt->Qs->Option (List Pt × Qs)):Prop :=
 ∀ (fr:Int) (K:List Pt->Nat->Rs Pt) (DK:List Pt->Qs->Rq) (pre l:List Pt) (p:Nat),isT ts p [41]=false->(∀ l q,AgG ts (IsV fr) (K l q) (DK (pre++l) ⟨q,false⟩))->(∀ l q,Bd (DK l ⟨q,true⟩) q) ->
  AgG ts (IsV fr) ((one p).bind fun v q=>(more (l++[v]) q).bind fun l q=>expP ts [41] q fun q=>K l q) ((dl (pre++l) ⟨p,false⟩).bind fun l=>tak ts ⟨#[41]⟩ l.2 fun _ q=>DK l.1 q)
variable (hR:RtT ts)
include hR
theorem zyf {one:Nat->Rs Pt}{more:List Pt->Nat->Rs (List Pt)}{dl:List Pt->Qs->Option (List Pt × Qs)}{d1:∀ l p,isT ts p [41]=true->dl l ⟨p,false⟩=some (l,⟨p,false⟩)}(hL:Lis ts one more dl)(hb:∀ l q,Bd (dl l ⟨q,true⟩) q)(fr:Int) (K:List Pt->Nat->Rs Pt) (DK:List Pt->Qs->Rq)(pre:List Pt)(p:Nat)(hK:∀ l q,AgG ts (IsV fr) (K l q) (DK (pre++l) ⟨q,false⟩))(hKb:∀ l q,Bd (DK l ⟨q,true⟩) q) :
  AgG ts (IsV fr) ((lisP ts one more p).bind K) (tak ts ⟨#[40]⟩ ⟨p,false⟩ fun _ q=>(dl pre q).bind fun l=>tak ts ⟨#[41]⟩ l.2 fun _ q=>DK l.1 q):=by
 unfold lisP;rw[zjz];refine zbr (zdc hR p ⟨#[40]⟩ (.inl rfl) rfl) (fun _=>?_) fun t=>zaz (hb _ _) fun _=>zb6 fun _=>hKb _ _
 dsimp only
 rw[z21]
 split
 ·rename_i h
  rw[d1 _ _ h];show AgG ts (IsV fr) (K [] (p+1+1)) (tak ts ⟨#[41]⟩ ⟨p+1,false⟩ fun _ q=>DK pre q);refine zdd ((zdc hR _ ⟨#[41]⟩ (.inl rfl) rfl).trans h) ?_;have:=hK [] (p+1+1);rw[List.append_nil] at this;exact this
 ·rename_i h
  have:=hL fr K DK pre [] (p+1) (by simpa using h) hK hKb;rw[zhj];rw[List.append_nil] at this;simp only[zhj,zjz];exact this
theorem z3c {f:Fns}{d:Dns}{dp:∀ l p,isT ts p [41]=true->d.parL l ⟨p,false⟩=some (l,⟨p,false⟩)}(hp:Lis ts (tydP ts 9) f.parL d.parL)(hpb:∀ l q,Bd (d.parL l ⟨q,true⟩) q)(hs:∀ l q,AgG ts Eq (f.stmL l q) (d.stmL l ⟨q,false⟩))(hbs:∀ l q,Bd (d.stmL l ⟨q,true⟩) q)(p:Nat):AgG ts (IsV (herI ts p)) (funP ts f p) (funD ts d ⟨p,false⟩):=by
 have M:∀ (u n:Tok) (l:List Pt) q,Bd (if isQ ts q ⟨#[123]⟩ then(bloD ts d ⟨q,true⟩).bind fun b=>some ((⟨7,n.text,0,n.pos,u.pos,behI ts b.2.p,u.pos,l++[b.1.pt]⟩:Qv),b.2) else(bloD ts d (kinD ts ⟨q,true⟩).2).bind fun b=>some ((⟨7,n.text,0,n.pos,u.pos,behI ts b.2.p,u.pos,l++[(kinD ts ⟨q,true⟩).1.pt]++[b.1.pt]⟩:Qv),b.2)) q:=fun u n l q=>by
  refine zd9 (zaz (zfv fun _=>hbs _ _) fun _=>zaq _) ?_;rw[zia];exact zaz (zfv fun _=>hbs _ _) fun _=>zaq _
 have Y:∀ (l:List Pt) q,AgG ts (IsV (herI ts p)) (funR ts f (herI ts p) l q) (tak ts ⟨#[110,97,109,101]⟩ ⟨q,false⟩ fun n q=>tak ts ⟨#[40]⟩ q fun _ q=>(d.parL l q).bind fun l=>tak ts ⟨#[41]⟩ l.2 fun _ q=>
   if isQ ts q.p ⟨#[123]⟩ then(bloD ts d q).bind fun b=>some ((⟨7,n.text,0,n.pos,(nxQ ts p).pos,behI ts b.2.p,(nxQ ts p).pos,l.1++[b.1.pt]⟩:Qv),b.2)
   else(bloD ts d (kinD ts q).2).bind fun b=>some ((⟨7,n.text,0,n.pos,(nxQ ts p).pos,behI ts b.2.p,(nxQ ts p).pos,l.1++[(kinD ts q).1.pt]++[b.1.pt]⟩:Qv),b.2)):=fun l q=>by
  unfold funR;refine zbr (zdg q) (fun h=>?_) fun t=>zb6 fun _=>zaz (hpb _ _) fun _=>zb6 fun _=>M _ _ _ _;obtain⟨-,D,C⟩:=zfw (zek h);refine zyf hR (d1:=dp) hp hpb (herI ts p) _ (fun l A=>if isQ ts A.p ⟨#[123]⟩ then(bloD ts d A).bind fun b=>some ((⟨7,(nxQ ts q).text,0,(nxQ ts q).pos,(nxQ ts p).pos,behI ts b.2.p,(nxQ ts p).pos,l++[b.1.pt]⟩:Qv),b.2)
   else(bloD ts d (kinD ts A).2).bind fun b=>some ((⟨7,(nxQ ts q).text,0,(nxQ ts q).pos,(nxQ ts p).pos,behI ts b.2.p,(nxQ ts p).pos,l++[(kinD ts A).1.pt]++[b.1.pt]⟩:Qv),b.2)) l (q+1) (fun Z A=>?_) fun l A=>M _ _ _ _
  refine zcy (by rw[zbg hR _ ⟨#[123]⟩ (.inl rfl)]) (fun _=>?_) fun _=>?_
  ·refine zcg (zj0 hR hs hbs _) (fun t v q U=>?_) fun v q=>zaq _;obtain⟨rfl,-⟩:=U;exact zc9 ⟨by simp only[Qv.pt,D,C,zbv p],zbv p⟩
  ·refine ziw (P':=IsV (herI ts p)) (k:=fun k=>(bloD ts d k.2).bind fun b=>some ((⟨7,(nxQ ts q).text,0,(nxQ ts q).pos,(nxQ ts p).pos,behI ts b.2.p,(nxQ ts p).pos,l++Z++[k.1.pt]++[b.1.pt]⟩:Qv),b.2)) (zs5 hR _) (fun t v aa U=>?_) fun v q=>zaz (zfv fun _=>hbs _ _) fun _=>zaq _;obtain⟨rfl,-⟩:=U;refine zcg (zj0 hR hs hbs _) (fun t u q hu=>?_) fun v q=>zaq _;obtain⟨rfl,-⟩:=hu;exact zc9 ⟨by simp only[Qv.pt,D,C,zbv p],zbv p⟩
 have V:∀ (u:Tok) (l:List Pt) q,Bd (tak ts ⟨#[110,97,109,101]⟩ ⟨q,true⟩ fun n q=>tak ts ⟨#[40]⟩ q fun _ q=>(d.parL l q).bind fun l=>tak ts ⟨#[41]⟩ l.2 fun _ q=>
   if isQ ts q.p ⟨#[123]⟩ then(bloD ts d q).bind fun b=>some ((⟨7,n.text,0,n.pos,u.pos,behI ts b.2.p,u.pos,l.1++[b.1.pt]⟩:Qv),b.2)
   else(bloD ts d (kinD ts q).2).bind fun b=>some ((⟨7,n.text,0,n.pos,u.pos,behI ts b.2.p,u.pos,l.1++[(kinD ts q).1.pt]++[b.1.pt]⟩:Qv),b.2)) q:=fun u l q=>zb6 fun _=>zb6 fun _=>zaz (hpb _ _) fun _=>zb6 fun _=>M _ _ _ _
 unfold funP funD;refine zbr (zdc hR p ⟨#[102,117,110,99]⟩ (.inr rfl) rfl) (fun _=>?_) fun t=>?_
 ·dsimp only
  have F:∀ x,(recD ts ⟨p+1,false⟩).2=⟨x,true⟩->AgG ts (IsV (herI ts p)) (.bad (herI ts x)) (tak ts ⟨#[110,97,109,101]⟩ (recD ts ⟨p+1,false⟩).2 fun n q=>tak ts ⟨#[40]⟩ q fun _ q=>(d.parL (recD ts ⟨p+1,false⟩).1 q).bind fun l=>tak ts ⟨#[41]⟩ l.2 fun _ q=>
    if isQ ts q.p ⟨#[123]⟩ then(bloD ts d q).bind fun b=>some ((⟨7,n.text,0,n.pos,(nxQ ts p).pos,behI ts b.2.p,(nxQ ts p).pos,l.1++[b.1.pt]⟩:Qv),b.2)
    else(bloD ts d (kinD ts q).2).bind fun b=>some ((⟨7,n.text,0,n.pos,(nxQ ts p).pos,behI ts b.2.p,(nxQ ts p).pos,l.1++[(kinD ts q).1.pt]++[b.1.pt]⟩:Qv),b.2)):=fun x K=>by
   rw[K];exact zjf (V _ _ _) rfl
  have X:∀ l x,recD ts ⟨p+1,false⟩=(l,⟨x,false⟩)->AgG ts (IsV (herI ts p)) (funR ts f (herI ts p) l x) (tak ts ⟨#[110,97,109,101]⟩ (recD ts ⟨p+1,false⟩).2 fun n q=>tak ts ⟨#[40]⟩ q fun _ q=>(d.parL (recD ts ⟨p+1,false⟩).1 q).bind fun l=>tak ts ⟨#[41]⟩ l.2 fun _ q=>
    if isQ ts q.p ⟨#[123]⟩ then(bloD ts d q).bind fun b=>some ((⟨7,n.text,0,n.pos,(nxQ ts p).pos,behI ts b.2.p,(nxQ ts p).pos,l.1++[b.1.pt]⟩:Qv),b.2)
    else(bloD ts d (kinD ts q).2).bind fun b=>some ((⟨7,n.text,0,n.pos,(nxQ ts p).pos,behI ts b.2.p,(nxQ ts p).pos,l.1++[(kinD ts q).1.pt]++[b.1.pt]⟩:Qv),b.2)):=fun l x K=>by
   rw[K];exact Y _ _
  have I:recD ts ⟨p+1,false⟩=if isT ts (p+1) [40] then tak ts ⟨#[40]⟩ ⟨p+1,false⟩ fun _ q=>tak ts ⟨#[110,97,109,101]⟩ q fun n q=>tak ts ⟨#[110,97,109,101]⟩ q fun t q=>
    tak ts ⟨#[41]⟩ q fun _ q2=>([Pt.mk 8 n.text 0 n.pos n.pos (behI ts q.p) [Pt.mk 11 t.text 0 t.pos t.pos (behI ts q.p) []]],q2) else([],⟨p+1,false⟩):=by
   unfold recD;rw[zbg hR _ ⟨#[40]⟩ (.inl rfl)]
  split
  ·rename_i h
   have y:=I.trans (if_pos h);clear I;have ho:okQ ts (p+1) ⟨#[40]⟩=true:=(zdc hR _ ⟨#[40]⟩ (.inl rfl) rfl).trans h;have e0:takS ts ⟨#[40]⟩ ⟨p+1,false⟩=⟨p+1+1,false⟩:=by unfold takS;rw[ho];rfl
   unfold tak at y
   dsimp only at y
   rw[e0] at y;unfold recP namP;rw[zuj]
   cases hn:namB ts (p+1+1)
   ·refine F (p+1+1) ?_;have e:takS ts ⟨#[110,97,109,101]⟩ ⟨p+1+1,false⟩=⟨p+1+1,true⟩:=by unfold takS;rw[zdg,hn];rfl
    rw[e] at y;rw[y];rfl
   ·have e:takS ts ⟨#[110,97,109,101]⟩ ⟨p+1+1,false⟩=⟨p+1+1+1,false⟩∧takT ts ⟨#[110,97,109,101]⟩ ⟨p+1+1,false⟩=nxQ ts (p+1+1):=by
     unfold takS takT;rw[zdg,hn];exact⟨rfl,rfl⟩
    obtain⟨-,D,C⟩:=zfw (zek hn);rw[e.1,e.2] at y;show AgG ts _ (Rs.bind (Rs.bind (worP ts 11 (p+1+1+1)) fun v q=>Rs.ok (Pt.mk 8 (nxT ts (p+1+1)).text 0 (nxT ts (p+1+1)).pos (herI ts (p+1+1)) (behI ts q) [v]) q) fun v q=>expP ts [41] q fun q=>funR ts f (herI ts p) [v] q) _;unfold worP
    cases hm:namB ts (p+1+1+1)
    ·refine F (p+1+1+1) ?_;have E:takS ts ⟨#[110,97,109,101]⟩ ⟨p+1+1+1,false⟩=⟨p+1+1+1,true⟩:=by unfold takS;rw[zdg,hm];rfl
     rw[E] at y;rw[y];rfl
    ·have E:takS ts ⟨#[110,97,109,101]⟩ ⟨p+1+1+1,false⟩=⟨p+1+1+1+1,false⟩∧takT ts ⟨#[110,97,109,101]⟩ ⟨p+1+1+1,false⟩=nxQ ts (p+1+1+1):=by
      unfold takS takT;rw[zdg,hm];exact⟨rfl,rfl⟩
     obtain⟨-,m2,m3⟩:=zfw (zek hm);rw[E.1,E.2] at y;show AgG ts _ (expP ts [41] (p+1+1+1+1) fun q=>_) _;unfold expP
     cases hc:isT ts (p+1+1+1+1) [41]
     ·have N:takS ts ⟨#[41]⟩ ⟨p+1+1+1+1,false⟩=⟨p+1+1+1+1,true⟩:=by unfold takS;rw[zdc hR _ ⟨#[41]⟩ (.inl rfl) rfl,hc];rfl
      refine F (p+1+1+1+1) ?_;rw[N] at y;rw[y]
     ·have N:takS ts ⟨#[41]⟩ ⟨p+1+1+1+1,false⟩=⟨p+1+1+1+1+1,false⟩:=by unfold takS;rw[zdc hR _ ⟨#[41]⟩ (.inl rfl) rfl,hc];rfl
      refine X _ _ ?_;rw[N] at y;rw[y];simp only[D,C,m2,m3]
  ·rename_i h
   exact X _ _ (I.trans (if_neg h))
 ·dsimp only
  rw[zwl];exact V _ _ _
end
structure AgA (ts:List Tok) (n:Nat):Prop where
 bin:∀ m,2 * n+12<=m->∀ k p,k<=5->AgG ts (IsV (herI ts p)) ((fns ts n).bin k p) ((dns ts m).row (k+1) ⟨p,false⟩)
 binL:∀ m,2 * n+12<=m->∀ (k:Nat) fr t v p,k<=4->IsV fr t v->AgG ts (IsV fr) ((fns ts n).binL k fr t p) ((dns ts m).rowL (k+1) v ⟨p,false⟩)
 una:∀ m,2 * n+12<=m->∀ p,AgG ts (IsV (herI ts p)) ((fns ts n).una p) ((dns ts m).una ⟨p,false⟩)
 post:∀ m,2 * n+12<=m->∀ p,AgG ts (IsV (herI ts p)) ((fns ts n).post p) ((dns ts m).post ⟨p,false⟩)
 posL:∀ m,2 * n+12<=m->∀ fr t v p,IsV fr t v->AgG ts (IsV fr) ((fns ts n).posL fr t p) ((dns ts m).posL v ⟨p,false⟩)
 prim:∀ m,2 * n+12<=m->∀ p,AgG ts (IsV (herI ts p)) ((fns ts n).prim p) ((dns ts m).prim ⟨p,false⟩)
 argL:∀ m,2 * n+13<=m->Lis ts ((fns ts n).bin 0) (fns ts n).argL (dns ts m).argL
 parL:∀ m,2 * n+13<=m->Lis ts (tydP ts 9) (fns ts n).parL (dns ts m).parL
 fieL:∀ m,2 * n+12<=m->∀ l p,AgG ts Eq ((fns ts n).fieL l p) ((dns ts m).fieL l ⟨p,false⟩)
 stmt:∀ m,2 * n+12<=m->∀ p,AgG ts (IsV (herI ts p)) ((fns ts n).stmt p) ((dns ts m).stmt ⟨p,false⟩)
 bran:∀ m,2 * n+12<=m->∀ p,AgG ts (IsV (herI ts p)) ((fns ts n).bran p) ((dns ts m).bran ⟨p,false⟩)
 stmL:∀ m,2 * n+12<=m->∀ l p,AgG ts Eq ((fns ts n).stmL l p) ((dns ts m).stmL l ⟨p,false⟩)
 impL:∀ m,2 * n+12<=m->∀ l p,AgG ts Eq ((fns ts n).impL l p) ((dns ts m).impL l ⟨p,false⟩)
 decL:∀ m,2 * n+12<=m->∀ l p,AgG ts Eq ((fns ts n).decL l p) ((dns ts m).decL l ⟨p,false⟩)
section
variable {ts:List Tok}
theorem zw2 {p:Nat}(hk:(nxT ts p).kind=4)(hs:spc (nxT ts p).text=false):okQ ts p (nxQ ts p).text=true:=by
 rw[zk5,zox hs];unfold isQ;rw[zk5,zgt,hk];simp
variable (hR:RtT ts)
include hR
theorem zlj {one one':Nat->Rs Pt}{more more':List Pt->Nat->Rs (List Pt)}{dl dl':List Pt->Qs->Option (List Pt × Qs)}{d1:Qs->Rq}
  (h1:∀ p,AgG ts (IsV (herI ts p)) (one p) (d1 ⟨p,false⟩))
  (hdl:∀ l q,isT ts q [41]=false->dl l ⟨q,false⟩=(d1 ⟨q,false⟩).bind fun u=>if isQ ts u.2.p ⟨#[41]⟩ then some (l++[u.1.pt],u.2) else tak ts ⟨#[44]⟩ u.2 fun _ q=>dl' (l++[u.1.pt]) (wrQ (isQ ts q.p ⟨#[41]⟩) q))
  (hm:(∀ l q,more l q=.out)∨(∀ l q,more l q=if isT ts q [44] then(one' (q+1)).bind fun t q=>more' (l++[t]) q else .ok l q)∧(∀ q,isT ts q [41]=true->(nxT ts q).kind=4->one' q=.bad (herI ts q)∨one' q=.out)∧Lis ts one' more' dl')
  (hb':∀ l q,Bd (dl' l ⟨q,true⟩) q):Lis ts one more dl:=by
 intro E K M pre l p I C y;rw[hdl _ _ I,Option.bind_assoc];refine zcg (h1 p) (fun t v q F=>?_) fun v q=>?_
 ·obtain⟨rfl,-⟩:=F;rcases hm with hm|⟨hm,hcl,hL⟩
  ·rw[hm]
   trivial
  rw[hm]
  dsimp only
  rw[zbg hR q ⟨#[41]⟩ (.inl rfl)]
  cases h2:isT ts q [41]
  ·simp only[Bool.false_eq_true,↓reduceIte];rw[z22]
   cases A:isT ts q [44]
   ·have e:okQ ts q ⟨#[41]⟩=false:=(zdc hR q ⟨#[41]⟩ (.inl rfl) rfl).trans h2;show AgG ts _ (Rs.need (isT ts q [41]) (herI ts q) (K (l++[v.pt]) (q+1))) _;rw[h2];refine zjf (p:=q) ?_ rfl;have D:takS ts ⟨#[44]⟩ ⟨q,false⟩=⟨q,true⟩:=by unfold takS;rw[zdc hR _ ⟨#[44]⟩ (.inl rfl) rfl,A];rfl
    unfold tak;rw[D]
    dsimp only
    rw[znp];exact zaz (hb' _ _) fun l=>y _ _
   ·simp only[↓reduceIte];refine zdd ((zdc hR _ ⟨#[44]⟩ (.inl rfl) rfl).trans A) ?_
    dsimp only
    rw[zbg hR (q+1) ⟨#[41]⟩ (.inl rfl)]
    cases h4:isT ts (q+1) [41]
    ·have:=hL E K M pre (l++[v.pt]) (q+1) h4 C y;rw[zhj,List.append_assoc];exact this
    ·rcases hcl _ h4 (z23 hR h4 rfl) with h|h
     ·rw[h];exact zjf (zaz (hb' _ _) fun l=>zb6 fun _=>y _ _) rfl
     ·rw[h]
      trivial
  ·have A:isT ts q [44]=false:=by
    unfold isT at h2 ⊢;rw[eq_of_beq h2];rfl
   rw[A];simp only[Bool.false_eq_true,↓reduceIte];refine zbr (zdc hR q ⟨#[41]⟩ (.inl rfl) rfl) (fun _=>?_) fun t=>y _ _;have:=C (l++[v.pt]) (q+1);rw[<-List.append_assoc] at this;exact this
 ·refine zaz (zd9 (zaq _) ?_) fun l=>zb6 fun _=>y _ _;refine zb6 fun _=>?_;rw[znp];exact hb' _ _
theorem zul {p k:Nat}(h:rowI (nxT ts p).text=k):(nxT ts p).kind=4∧spc (nxT ts p).text=false:=by
 have y:(nxT ts p).text.data.toList ∈ sgQ∧spc (nxT ts p).text=false:=by
  unfold rowI at h;unfold spc
  split at h
  ·rename_i e
   rw[eq_of_beq e];exact⟨by simp[sgQ],rfl⟩
  split at h
  ·rename_i e
   rw[eq_of_beq e];exact⟨by simp[sgQ],rfl⟩
  split at h
  ·rename_i e
   simp only[Bool.or_eq_true] at e;rcases e with((((e|e) | e) | e) | e) | e
   all_goals
    rw[eq_of_beq e];exact⟨by simp[sgQ],rfl⟩
  split at h
  ·rename_i e
   simp only[Bool.or_eq_true] at e;rcases e with e|e
   all_goals
    rw[eq_of_beq e];exact⟨by simp[sgQ],rfl⟩
  split at h
  ·rename_i e
   simp only[Bool.or_eq_true] at e;rcases e with(e|e) | e
   all_goals
    rw[eq_of_beq e];exact⟨by simp[sgQ],rfl⟩
  ·omega
 exact⟨hR.sg p y.1,y.2⟩
theorem agA (n:Nat):AgA ts n:=by
 have ae:∀ m l q,isT ts q [41]=false->(dns ts (m+1)).parL l ⟨q,false⟩=(some (tydD ts 9 ⟨q,false⟩)).bind fun u=>if isQ ts u.2.p ⟨#[41]⟩ then some (l++[u.1.pt],u.2) else tak ts ⟨#[44]⟩ u.2 fun _ q=>(dns ts m).parL (l++[u.1.pt]) (wrQ (isQ ts q.p ⟨#[41]⟩) q):=fun m l q h=>by
  show(if (!false && !isQ ts q ⟨#[41]⟩)=true then _ else _)=_;rw[zbg hR q ⟨#[41]⟩ (.inl rfl),h];rfl
 have af:∀ m l q,isT ts q [41]=false->(dns ts (m+1)).argL l ⟨q,false⟩=((dns ts m).row 1 ⟨q,false⟩).bind fun u=>if isQ ts u.2.p ⟨#[41]⟩ then some (l++[u.1.pt],u.2) else tak ts ⟨#[44]⟩ u.2 fun _ q=>(dns ts m).argL (l++[u.1.pt]) (wrQ (isQ ts q.p ⟨#[41]⟩) q):=fun m l q h=>by
  show(if (!false && !isQ ts q ⟨#[41]⟩)=true then _ else _)=_;rw[zbg hR q ⟨#[41]⟩ (.inl rfl),h];rfl
 induction n with
 | zero=>
  constructor
  all_goals first
   | (intros;trivial)
   | skip
  ·intro m A D K DK pre l p U hK al
   trivial
  ·intro m A;obtain⟨m,rfl⟩:∃ k,m=k+1:=⟨m - 1,by omega⟩;exact zlj hR (d1:=fun q=>some (tydD ts 9 q)) (one':=tydP ts 9) (more':=fun _ _=>.out) (dl':=(dns ts m).parL) (zs6 hR 9) (fun l q h=>ae m l q h) (.inl fun _ _=>rfl) fun l q=>(bdA ts q m).parL (by omega) l
 | succ n ih=>
  have y:∀ m q,BdA ts q m:=fun m q=>bdA ts q m;have ac:∀ m,2 * (n+1)+12<=m->∀ k p,k<=5->AgG ts (IsV (herI ts p)) ((fns ts (n+1)).bin k p) ((dns ts m).row (k+1) ⟨p,false⟩):=by
   intro m A k p X;obtain⟨m,rfl⟩:∃ k,m=k+1:=⟨m - 1,by omega⟩;refine zcy (by omega) (fun h=>ih.una m (by omega) p) fun h=>?_;refine zcg (ih.bin m (by omega) (k+1) p (by omega)) (fun t v q C=>ih.binL m (by omega) k _ _ _ _ (by omega) C) fun v q=>(y m q).rowL (by omega) _ _
  have ah:∀ m,1<=m->∀ l p,isT ts p [41]=true->(dns ts m).argL l ⟨p,false⟩=some (l,⟨p,false⟩):=fun m A l p h=>by
   obtain⟨m,rfl⟩:∃ k,m=k+1:=⟨m - 1,by omega⟩;show(if !false && !isQ ts p ⟨#[41]⟩ then _ else _)=_;rw[zbg hR p ⟨#[41]⟩ (.inl rfl),h];rfl
  have ai:∀ m,1<=m->∀ l p,isT ts p [41]=true->(dns ts m).parL l ⟨p,false⟩=some (l,⟨p,false⟩):=fun m A l p h=>by
   obtain⟨m,rfl⟩:∃ k,m=k+1:=⟨m - 1,by omega⟩;show(if !false && !isQ ts p ⟨#[41]⟩ then _ else _)=_;rw[zbg hR p ⟨#[41]⟩ (.inl rfl),h];rfl
  constructor
  ·exact ac
  ·intro m A k D t v p X C;obtain⟨m,rfl⟩:∃ k,m=k+1:=⟨m - 1,by omega⟩;obtain⟨rfl,M⟩:=C;have U:(!false && (((nxQ ts p).kind == 4) && (rowQ (nxQ ts p).text == ((k+1:Nat):Int))))=true ↔ rowI (nxT ts p).text=k:=by
    rw[zgt,zk5];unfold rowQ
    constructor
    ·intro h;simp only[Bool.not_false,Bool.true_and,Bool.and_eq_true,beq_iff_eq] at h;have:=h.2
     push_cast at this
     omega
    ·intro h;rw[(zul hR h).1];simp only[Bool.not_false,Bool.true_and,Bool.and_eq_true,beq_iff_eq];refine⟨trivial,?_⟩
     push_cast
     omega
   refine zcy U (fun h=>?_) fun _=>zc9 ⟨rfl,M⟩;have E:=zul hR h;obtain⟨Y,Z,V⟩:=zfw (zoh h);refine zdd (zw2 E.1 E.2) ?_;refine zcg (ih.bin m (by omega) (k+1) (p+1) (by omega)) (fun t u q hu=>?_) fun v q=>zd9 (zaq _) ((y m q).rowL (by omega) _ _);obtain⟨rfl,-⟩:=hu;have hV:IsV D (.mk 27 (nxT ts p).text 0 (nxT ts p).pos D (behI ts q) [v.pt,u.pt]) ⟨27,(nxQ ts p).text,0,(nxQ ts p).pos,v.bg,behI ts q,v.bg,[v.pt,u.pt]⟩:=⟨by simp only[Qv.pt,V,M],M⟩;exact zcy (by omega) (fun _=>zc9 hV) fun _=>ih.binL m (by omega) k _ _ _ _ (by omega) hV
  ·intro m A p;obtain⟨m,rfl⟩:∃ k,m=k+1:=⟨m - 1,by omega⟩;refine zcy (by rw[zbg hR _ ⟨#[45]⟩ (.inl rfl),zbg hR _ ⟨#[33]⟩ (.inl rfl)];rfl) (fun h=>?_) fun _=>ih.post m (by omega) p;have hq:okQ ts p (nxQ ts p).text=true∧p<ts.length:=by
    rw[Bool.or_eq_true] at h;rcases h with h|h
    ·have e:(nxQ ts p).text=⟨#[45]⟩:=zk6 ((zbg hR _ ⟨#[45]⟩ (.inl rfl)).trans h);rw[e];exact⟨(zdc hR _ ⟨#[45]⟩ (.inl rfl) rfl).trans h,zcx h (by simp)⟩
    ·have e:(nxQ ts p).text=⟨#[33]⟩:=zk6 ((zbg hR _ ⟨#[33]⟩ (.inl rfl)).trans h);rw[e];exact⟨(zdc hR _ ⟨#[33]⟩ (.inl rfl) rfl).trans h,zcx h (by simp)⟩
   obtain⟨Y,Z,V⟩:=zfw hq.2;refine zdd hq.1 ?_;refine zcg (ih.una m (by omega) (p+1)) (fun t u q hu=>?_) fun v q=>zaq _;obtain⟨rfl,-⟩:=hu;exact zc9 ⟨by simp only[Qv.pt,V,<-Z],Y⟩
  ·intro m A p;obtain⟨m,rfl⟩:∃ k,m=k+1:=⟨m - 1,by omega⟩;exact zcg (ih.prim m (by omega) p) (fun t v q C=>ih.posL m (by omega) _ _ _ _ C) fun v q=>(y m q).posL (by omega) _
  ·intro m A D t v p C;obtain⟨m,rfl⟩:∃ k,m=k+1:=⟨m - 1,by omega⟩;obtain⟨rfl,M⟩:=C;show AgG ts (IsV D) (if isT ts p [46] then namP ts (p+1) fun x q=>(fns ts n).posL D (.mk 24 x.text 0 x.pos D (behI ts q) [v.pt]) q
    else if isT ts p [40] then(lisP ts ((fns ts n).bin 0) (fns ts n).argL p).bind fun l q=>(fns ts n).posL D (.mk 25 ⟨#[]⟩ 0 D D (behI ts q) ([v.pt]++l)) q
    else .ok v.pt p) (if !false && (isQ ts p ⟨#[46]⟩ || isQ ts p ⟨#[40]⟩) then
     (if isQ ts p ⟨#[46]⟩ then tak ts ⟨#[46]⟩ ⟨p,false⟩ fun _ q=>tak ts ⟨#[110,97,109,101]⟩ q fun m' q=>(dns ts m).posL ⟨24,m'.text,0,m'.pos,v.bg,behI ts q.p,v.bg,[v.pt]⟩ q
     else tak ts ⟨#[40]⟩ ⟨p,false⟩ fun _ q=>((dns ts m).argL [v.pt] q).bind fun l=>tak ts ⟨#[41]⟩ l.2 fun _ q=>(dns ts m).posL ⟨25,⟨#[]⟩,0,v.bg,v.bg,behI ts q.p,v.bg,l.1⟩ q)
    else some (v,⟨p,false⟩))
   rw[zbg hR _ ⟨#[46]⟩ (.inl rfl),zbg hR _ ⟨#[40]⟩ (.inl rfl)];simp only[Bool.not_false,Bool.true_and]
   cases hd:isT ts p [46]
   ·cases ho:isT ts p [40]
    ·exact zc9 ⟨rfl,M⟩
    ·refine zyf hR (d1:=ah m (by omega)) (ih.argL m (by omega)) (fun l q=>(y m q).argL (by omega) l) D (fun l q=>(fns ts n).posL D (.mk 25 ⟨#[]⟩ 0 D D (behI ts q) ([v.pt]++l)) q) (fun l q=>(dns ts m).posL ⟨25,⟨#[]⟩,0,v.bg,v.bg,behI ts q.p,v.bg,l⟩ q) [v.pt] p (fun l q=>ih.posL m (by omega) _ _ _ _ ⟨by simp only[Qv.pt,M],M⟩) fun l q=>(y m q).posL (by omega) _
   ·rw[if_pos rfl,if_pos (by simp),if_pos rfl];refine zdd ((zdc hR _ ⟨#[46]⟩ (.inl rfl) rfl).trans hd) ?_;refine zbr (zdg _) (fun h=>?_) fun t=>(y m _).posL (by omega) _;obtain⟨Y,Z,V⟩:=zfw (zek h);exact ih.posL m (by omega) _ _ _ _ ⟨by simp only[Qv.pt,M,V],M⟩
  ·intro m A p;obtain⟨m,rfl⟩:∃ k,m=k+1:=⟨m - 1,by omega⟩;refine zcy (by rw[zbg hR _ ⟨#[40]⟩ (.inl rfl)];rfl) (fun h=>?_) fun _=>?_
   ·refine zdd ((zdc hR _ ⟨#[40]⟩ (.inl rfl) rfl).trans h) ?_;refine zcg (ih.bin m (by omega) 0 (p+1) (by omega)) (fun t v q C=>?_) fun v q=>zb6 fun _=>zaq _;obtain⟨rfl,-⟩:=C;refine zbr (zdc hR _ ⟨#[41]⟩ (.inl rfl) rfl) (fun _=>zc9 ⟨rfl,zbv p⟩) fun t=>zaq _
   ·cases hn:namB ts p
    ·rw[if_neg (by simp)]
     dsimp only
     split
     ·exact zs4 hR p
     ·rename_i h
      simp only[zgt,zbg hR p ⟨#[116,114,117,101]⟩ (.inr rfl),zbg hR p ⟨#[102,97,108,115,101]⟩ (.inr rfl),Bool.or_eq_true,not_or] at h;have e:va1P ts p=.bad (herI ts p):=by
       unfold va1P;rw[if_neg h.1.1,if_neg h.1.2,if_neg (by rw[Bool.or_eq_true];exact fun e=>e.elim h.2.1 h.2.2)]
      rw[e];refine zjf (p:=p) ?_ rfl;unfold tak takS;rw[zdg,hn];exact zaq _
    ·rw[if_pos rfl];obtain⟨Y,Z,V⟩:=zfw (zek hn);have aa:=hn;unfold namB at aa;rw[Bool.and_eq_true,Bool.not_eq_true'] at aa;have X:(nxT ts p).kind=1:=eq_of_beq aa.1;have ht:∀ s:ByteArray,kepB s=true->isT ts p s.data.toList=false:=fun s E=>by
      unfold isT;rw[beq_eq_false_iff_ne];intro e;rw[zgi e,E] at aa
      cases aa.2
     rw[if_neg (by rw[zgt,X,zbg hR p ⟨#[116,114,117,101]⟩ (.inr rfl),zbg hR p ⟨#[102,97,108,115,101]⟩ (.inr rfl),ht ⟨#[116,114,117,101]⟩ rfl,ht ⟨#[102,97,108,115,101]⟩ rfl];simp)];exact zdd (k:=fun _ q'=>some ((⟨23,(nxQ ts p).text,0,(nxQ ts p).pos,(nxQ ts p).pos,behI ts q'.p,(nxQ ts p).pos,[]⟩:Qv),q')) ((zdg p).trans hn) (zc9 ⟨by simp only[Qv.pt,V,<-Z],Y⟩)
  ·intro m A;obtain⟨m,rfl⟩:∃ k,m=k+1:=⟨m - 1,by omega⟩;refine zlj hR (d1:=(dns ts m).row 1) (one':=(fns ts n).bin 0) (more':=(fns ts n).argL) (dl':=(dns ts m).argL) (fun p=>ac m (by omega) 0 p (by omega)) (fun l q h=>af m l q h) (.inr ⟨fun _ _=>rfl,fun q h X=>(zuk n q h X).1 0,ih.argL m (by omega)⟩) fun l q=>(y m q).argL (by omega) l
  ·intro m A;obtain⟨m,rfl⟩:∃ k,m=k+1:=⟨m - 1,by omega⟩;refine zlj hR (d1:=fun q=>some (tydD ts 9 q)) (one':=tydP ts 9) (more':=(fns ts n).parL) (dl':=(dns ts m).parL) (zs6 hR 9) (fun l q h=>ae m l q h) (.inr ⟨fun _ _=>rfl,fun q h X=>.inl ?_,ih.parL m (by omega)⟩) fun l q=>(y m q).parL (by omega) l;unfold tydP namP namB;rw[X];rfl
  ·intro m A l p;obtain⟨m,rfl⟩:∃ k,m=k+1:=⟨m - 1,by omega⟩;show AgG ts Eq (if isT ts p [125] then .ok l p else(tydP ts 6 p).bind fun t q=>if isT ts q [125] then(fns ts n).fieL (l++[t]) q else kinP ts 5 q fun _ q=>(fns ts n).fieL (l++[t]) q)
    (if !false && !isQ ts p ⟨#[125]⟩ then(dns ts m).fieL (l++[(tydD ts 6 ⟨p,false⟩).1.pt]) (if isQ ts (tydD ts 6 ⟨p,false⟩).2.p ⟨#[125]⟩ then(tydD ts 6 ⟨p,false⟩).2 else takS ts ⟨#[101,110,100]⟩ (tydD ts 6 ⟨p,false⟩).2) else some (l,⟨p,false⟩))
   rw[zbg hR p ⟨#[125]⟩ (.inl rfl)]
   cases h:isT ts p [125]
   ·simp only[Bool.false_eq_true,↓reduceIte,Bool.not_false,Bool.and_self];refine ziw (P:=IsV (herI ts p)) (k:=fun u=>(dns ts m).fieL (l++[u.1.pt]) (if isQ ts u.2.p ⟨#[125]⟩ then u.2 else takS ts ⟨#[101,110,100]⟩ u.2)) (zs6 hR 6 p) (fun t v q C=>?_) fun v q=>?_
    ·obtain⟨rfl,-⟩:=C
     dsimp only
     rw[zbg hR q ⟨#[125]⟩ (.inl rfl)]
     cases h2:isT ts q [125]
     ·simp only[Bool.false_eq_true,↓reduceIte];exact zbr (s:=⟨#[101,110,100]⟩) (k:=fun _ q=>(dns ts m).fieL (l++[v.pt]) q) (zey q).1 (fun _=>ih.fieL m (by omega) _ _) fun t=>(y m q).fieL (by omega) _
     ·simp only[↓reduceIte];exact ih.fieL m (by omega) _ _
    ·dsimp only
     rw[zov,ite_self];exact(y m q).fieL (by omega) _
   ·exact zc9 rfl
  ·intro m A p;obtain⟨m,rfl⟩:∃ k,m=k+1:=⟨m - 1,by omega⟩;have I:∀ q,AgG ts (IsV (herI ts q)) ((fns ts n).bin 0 q) ((dns ts m).row 1 ⟨q,false⟩):=fun q=>ih.bin m (by omega) 0 q (by omega);have N:∀ q,Bd ((dns ts m).row 1 ⟨q,true⟩) q:=fun q=>(y m q).row 1 (by omega) (by omega);have E:=ih.stmL m (by omega);have F:∀ l q,Bd ((dns ts m).stmL l ⟨q,true⟩) q:=fun l q=>(y m q).stmL (by omega) l;refine zcy (by rw[zbg hR p ⟨#[123]⟩ (.inl rfl)]) (fun _=>zj0 hR E F p) fun _=>?_;refine zcy (by rw[zbg hR p ⟨#[118,97,114]⟩ (.inr rfl)]) (fun _=>zye hR I N p) fun _=>?_;refine zcy (by rw[zbg hR p ⟨#[105,102]⟩ (.inr rfl)]) (fun _=>ih.bran m (by omega) p) fun _=>?_;refine zcy (by rw[zbg hR p ⟨#[102,111,114]⟩ (.inr rfl)]) (fun _=>z26 hR I N E F p) fun _=>?_;refine zcy (by rw[zbg hR p ⟨#[114,101,116,117,114,110]⟩ (.inr rfl)]) (fun _=>z27 hR I N p) fun _=>?_;refine zcy ?_ (fun _=>z29 hR I N p) fun _=>z3a hR I N p;rw[zgt,zk5];show(namB ts p && (decide (p+1<ts.length) && (((nxT ts (p+1)).kind == 4) && isT ts (p+1) [58,61])))=true ↔ (namB ts p && isT ts (p+1) [58,61])=true
   cases h:isT ts (p+1) [58,61]
   ·simp
   ·rw[z23 hR h rfl,decide_eq_true (zcx h (by simp))];simp
  ·intro m A p;obtain⟨m,rfl⟩:∃ k,m=k+1:=⟨m - 1,by omega⟩;have I:∀ q,AgG ts (IsV (herI ts q)) ((fns ts n).bin 0 q) ((dns ts m).row 1 ⟨q,false⟩):=fun q=>ih.bin m (by omega) 0 q (by omega);have N:∀ q,Bd ((dns ts m).row 1 ⟨q,true⟩) q:=fun q=>(y m q).row 1 (by omega) (by omega);have E:=ih.stmL m (by omega);have F:∀ l q,Bd ((dns ts m).stmL l ⟨q,true⟩) q:=fun l q=>(y m q).stmL (by omega) l;have ak:∀ q,isQ ts q ⟨#[101,108,115,101]⟩=true->isQ ts q ⟨#[105,102]⟩=false:=fun q h=>by
    unfold isQ at h ⊢;rw[Bool.and_eq_true] at h;rw[eq_of_beq h.1];rfl
   have aj:∀ q,isQ ts q ⟨#[105,102]⟩=false->Bd (if isQ ts q ⟨#[105,102]⟩ then(dns ts m).bran ⟨q,true⟩ else bloD ts (dns ts m) ⟨q,true⟩) q:=fun q h=>by
    rw[h];exact zfv fun l=>F l q
   have ab:∀ (t:Tok) (e b:Qv) q,Bd (if isQ ts q ⟨#[101,108,115,101]⟩ then tak ts ⟨#[101,108,115,101]⟩ ⟨q,true⟩ fun _ q=>(if isQ ts q.p ⟨#[105,102]⟩ then(dns ts m).bran q else bloD ts (dns ts m) q).bind fun c=>some ((⟨14,⟨#[]⟩,0,t.pos,t.pos,behI ts c.2.p,t.pos,[e.pt,b.pt,c.1.pt]⟩:Qv),c.2)
     else some ((⟨14,⟨#[]⟩,0,t.pos,t.pos,behI ts q,t.pos,[e.pt,b.pt]⟩:Qv),⟨q,true⟩)) q:=fun t e b q=>zwk (fun h=>zb6 fun _=>zaz (aj q (ak q h)) fun _=>zaq _) fun _=>zaq _
   unfold fns dns
   dsimp only
   refine zbr (zdc hR p ⟨#[105,102]⟩ (.inr rfl) rfl) (fun _=>?_) fun t=>zaz (N _) fun e=>zaz (zfv fun l=>F l _) fun b=>ab _ _ _ _;refine zcg (I _) (fun t e q he=>?_) fun e q=>zaz (zfv fun l=>F l _) fun b=>ab _ _ _ _;obtain⟨rfl,-⟩:=he;refine zcg (zj0 hR E F _) (fun t b q ag=>?_) fun b q=>ab _ _ _ _;obtain⟨rfl,-⟩:=ag;refine zcy (by rw[zbg hR q ⟨#[101,108,115,101]⟩ (.inr rfl)]) (fun h=>?_) fun _=>zc9 ⟨by simp only[Qv.pt,zbv p],zbv p⟩;refine zdd ((zdc hR q ⟨#[101,108,115,101]⟩ (.inr rfl) rfl).trans h) ?_;have U:∃ bg,AgG ts (IsV bg) (if isT ts (q+1) [105,102] then(fns ts n).bran (q+1) else bloP ts (fns ts n) (q+1)) (if isQ ts (q+1) ⟨#[105,102]⟩ then(dns ts m).bran ⟨q+1,false⟩ else bloD ts (dns ts m) ⟨q+1,false⟩) :=
    ⟨herI ts (q+1),zcy (by rw[zbg hR (q+1) ⟨#[105,102]⟩ (.inr rfl)]) (fun _=>ih.bran m (by omega) _) fun _=>zj0 hR E F _⟩
   obtain⟨bg,U⟩:=U;refine zcg U (fun t c q U=>?_) fun c q=>zaq _;obtain⟨rfl,-⟩:=U;exact zc9 ⟨by simp only[Qv.pt,zbv p],zbv p⟩
  ·intro m A l p;obtain⟨m,rfl⟩:∃ k,m=k+1:=⟨m - 1,by omega⟩;show AgG ts Eq (if isT ts p [125] then .ok l p else((fns ts n).stmt p).bind fun t q=>if isT ts q [125] then(fns ts n).stmL (l++[t]) q else kinP ts 5 q fun _ q=>(fns ts n).stmL (l++[t]) q)
    (if !false && !isQ ts p ⟨#[125]⟩ then((dns ts m).stmt ⟨p,false⟩).bind fun u=>(dns ts m).stmL (l++[u.1.pt]) (if isQ ts u.2.p ⟨#[125]⟩ then u.2 else takS ts ⟨#[101,110,100]⟩ u.2) else some (l,⟨p,false⟩))
   rw[zbg hR p ⟨#[125]⟩ (.inl rfl)]
   cases h:isT ts p [125]
   ·simp only[Bool.false_eq_true,↓reduceIte,Bool.not_false,Bool.and_self];refine zcg (ih.stmt m (by omega) p) (fun t v q C=>?_) fun v q=>?_
    ·obtain⟨rfl,-⟩:=C
     dsimp only
     rw[zbg hR q ⟨#[125]⟩ (.inl rfl)]
     cases h2:isT ts q [125]
     ·simp only[Bool.false_eq_true,↓reduceIte];exact zbr (s:=⟨#[101,110,100]⟩) (k:=fun _ q=>(dns ts m).stmL (l++[v.pt]) q) (zey q).1 (fun _=>ih.stmL m (by omega) _ _) fun t=>(y m q).stmL (by omega) _
     ·simp only[↓reduceIte];exact ih.stmL m (by omega) _ _
    ·dsimp only
     rw[zov,ite_self];exact(y m q).stmL (by omega) _
   ·exact zc9 rfl
  ·intro m A l p;obtain⟨m,rfl⟩:∃ k,m=k+1:=⟨m - 1,by omega⟩;show AgG ts Eq (if isT ts p [105,109,112,111,114,116] then(impP ts p).bind fun t q=>kinP ts 5 q fun _ q=>(fns ts n).impL (l++[t]) q else .ok l p)
    (if !false && isQ ts p ⟨#[105,109,112,111,114,116]⟩ then(dns ts m).impL (l++[(impD ts ⟨p,false⟩).1.pt]) (takS ts ⟨#[101,110,100]⟩ (impD ts ⟨p,false⟩).2) else some (l,⟨p,false⟩))
   refine zcy (by rw[zbg hR p ⟨#[105,109,112,111,114,116]⟩ (.inr rfl)];rfl) (fun h=>?_) fun _=>zc9 rfl;refine ziw (P:=IsV (herI ts p)) (k:=fun u=>(dns ts m).impL (l++[u.1.pt]) (takS ts ⟨#[101,110,100]⟩ u.2)) (z1l hR p) (fun t v q C=>?_) fun v q=>(y m q).impL (by omega) _;obtain⟨rfl,-⟩:=C;exact zbr (s:=⟨#[101,110,100]⟩) (k:=fun _ q=>(dns ts m).impL (l++[v.pt]) q) (zey q).1 (fun _=>ih.impL m (by omega) _ _) fun t=>(y m q).impL (by omega) _
  ·intro m A l p;obtain⟨m,rfl⟩:∃ k,m=k+1:=⟨m - 1,by omega⟩;have I:∀ q,AgG ts (IsV (herI ts q)) ((fns ts n).bin 0 q) ((dns ts m).row 1 ⟨q,false⟩):=fun q=>ih.bin m (by omega) 0 q (by omega);have N:∀ q,Bd ((dns ts m).row 1 ⟨q,true⟩) q:=fun q=>(y m q).row 1 (by omega) (by omega);have E:=ih.stmL m (by omega);have F:∀ l q,Bd ((dns ts m).stmL l ⟨q,true⟩) q:=fun l q=>(y m q).stmL (by omega) l;show AgG ts Eq (if p<ts.length then(decP ts (fns ts n) p).bind fun t q=>kinP ts 5 q fun _ q=>(fns ts n).decL (l++[t]) q else .ok l p)
    (if !false && decide (p<ts.length) then(decD ts (dns ts m) ⟨p,false⟩).bind fun u=>(dns ts m).decL (l++[u.1.pt]) (takS ts ⟨#[101,110,100]⟩ u.2) else some (l,⟨p,false⟩))
   refine zcy (by simp) (fun hp=>?_) fun _=>zc9 rfl;have hd:AgG ts (IsV (herI ts p)) (decP ts (fns ts n) p) (decD ts (dns ts m) ⟨p,false⟩):=by
    unfold decP decD;refine zcy (by rw[zbg hR p ⟨#[99,111,110,115,116]⟩ (.inr rfl)]) (fun _=>z1m hR p) fun _=>?_;refine zcy (by rw[zbg hR p ⟨#[118,97,114]⟩ (.inr rfl)]) (fun _=>zye hR I N p) fun _=>?_;refine zcy (by rw[zbg hR p ⟨#[116,121,112,101]⟩ (.inr rfl)]) (fun _=>z3b hR (ih.fieL m (by omega)) (fun l q=>(y m q).fieL (by omega) l) p) fun _=>?_;have hf:=z3c hR (d:=dns ts m) (f:=fns ts n) (dp:=ai m (by omega)) (ih.parL m (by omega)) (fun l q=>(y m q).parL (by omega) l) E F p
    split
    ·exact hf
    ·rename_i h
     have e:funP ts (fns ts n) p=.bad (herI ts p):=by
      unfold funP expP;rw[show isT ts p [102,117,110,99]=false by simpa using h];rfl
     rw[e] at hf;exact hf
   refine zcg hd (fun t v q C=>?_) fun v q=>(y m q).decL (by omega) _;obtain⟨rfl,-⟩:=C;exact zbr (s:=⟨#[101,110,100]⟩) (k:=fun _ q=>(dns ts m).decL (l++[v.pt]) q) (zey q).1 (fun _=>ih.decL m (by omega) _ _) fun t=>(y m q).decL (by omega) _
theorem z3d (n m:Nat)(hm:2 * n+12<=m):AgG ts (IsV (herI ts 0)) (filP ts n 0) (filD ts m ⟨0,false⟩):=by
 have h:=agA hR n;have y:=bdA ts;unfold filP filD;refine zoy hR 1 ⟨#[112,97,99,107,97,103,101]⟩ 0 (d:=fun w=>((dns ts m).impL [] (takS ts ⟨#[101,110,100]⟩ w.2)).bind fun l=>((dns ts m).decL l.1 l.2).bind fun l=>some ((⟨1,w.1.x,0,w.1.a,w.1.f,behI ts l.2.p,w.1.bg,l.1⟩:Qv),l.2)) rfl rfl (fun C=>?_) fun v q=>zaz ((y q m).impL (by omega) _) fun l=>zaz ((y q m).decL (by omega) _) fun _=>zaq _;refine zbr (s:=⟨#[101,110,100]⟩) (k:=fun _ q=>((dns ts m).impL [] q).bind fun l=>((dns ts m).decL l.1 l.2).bind fun l=>some ((⟨1,(nxT ts (0+1)).text,0,(nxT ts (0+1)).pos,herI ts 0,behI ts l.2.p,herI ts 0,l.1⟩:Qv),l.2)) (zey _).1 (fun _=>?_) fun t=>zaz ((y _ m).impL (by omega) _) fun l=>zaz ((y _ m).decL (by omega) _) fun _=>zaq _;refine zcg (h.impL m hm _ _) (fun l l' q A=>?_) fun l q=>zaz ((y q m).decL (by omega) _) fun _=>zaq _;subst A;refine zcg (h.decL m hm _ _) (fun l l' q A=>?_) fun l q=>zaq _;subst A;exact zc9 ⟨by simp only[Qv.pt],rfl⟩
end
mutual
def dpP:Pt->Nat | .mk _ _ _ _ _ _ l=>dpL l+1
def dpL:List Pt->Nat | []=>0|t::r=>max (dpP t) (dpL r)
end
theorem zyg:∀ (L:List Nd) (D D':Nat->Int)(i:Nat)(m:Int),(∀ j,i<=j->D j=D' j)->dpF D i m L=dpF D' i m L
 | [],_,_,_,_,_=>rfl
 | d::r,D,D',i,m,h=>by
  rw[dpF,dpF,h i (Ya _)];refine zyg r _ _ _ _ fun j hj=>?_;have hne:j≠i:=by omega
  show(if j ∈ d.kids then _ else upd D i _ j)=(if j ∈ d.kids then _ else upd D' i _ j)
  split
  ·rfl
  ·unfold upd;rw[if_neg hne,if_neg hne];exact h j (by omega)
theorem zyh:∀ (l:List Pt)(i j:Nat),j ∈ kidI i l->j<i+cntL l
 | [],i,j,h=>by simp[kidI] at h
 | t::r,i,j,h=>by
  rw[kidI,List.mem_cons] at h;rw[cntL];have h1:=zd3 t;rcases h with h|h
  ·omega
  ·have:=zyh r (i+cntP t) j h;omega
theorem zj1 (D:Nat->Int)(i:Nat)(m:Int):dpF D i m []=m:=rfl
mutual
theorem zny:∀ (t:Pt)(i:Nat) (D:Nat->Int)(m:Int)(rest:List Nd),dpF D i m (layP i t++rest)=dpF D (i+cntP t) (max m (D i+dpP t)) rest
 | .mk k x n a f t l,i,D,m,rest=>by
  rw[layP,List.cons_append,dpF,zum l (i+1) _ _ (D i+1) rest (fun j hj=>?_) (by omega),cntP,dpP,show i+1+cntL l=i+(1+cntL l) by omega,show max (max m (D i+1)) (D i+1+(dpL l:Int))=max m (D i+((dpL l+1:Nat):Int)) by push_cast;omega]
  ·refine zyg rest _ _ _ _ fun j hj=>?_;show(if j ∈ kidI (i+1) l then _ else upd D i _ j)=_;rw[if_neg (fun h=>by have:=zyh l (i+1) j h;omega)];unfold upd;rw[if_neg (by omega)]
  ·show(if j ∈ kidI (i+1) l then _ else _)=_;rw[if_pos hj]
theorem zum:∀ (l:List Pt)(i:Nat) (D:Nat->Int)(m c:Int)(rest:List Nd),(∀ j,j ∈ kidI i l->D j=c)->c<=m->dpF D i m (layL i l++rest)=dpF D (i+cntL l) (max m (c+dpL l)) rest
 | [],i,D,m,c,rest,_,hc=>by
  rw[layL,List.nil_append,cntL,dpL,Nat.add_zero,show max m (c+((0:Nat):Int))=m by push_cast;omega]
 | t::r,i,D,m,c,rest,hD,hc=>by
  rw[layL,List.append_assoc,zny t i D m,hD i (by rw[kidI];exact List.mem_cons_self ..),zum r (i+cntP t) D _ c rest (fun j hj=>hD j (by rw[kidI];exact List.mem_cons_of_mem _ hj)) (by omega),cntL,dpL,show i+cntP t+cntL r=i+(cntP t+cntL r) by omega,
   show max (max m (c+(dpP t:Int))) (c+(dpL r:Int))=max m (c+((max (dpP t) (dpL r):Nat):Int)) by push_cast;omega]
end
theorem z0e (t:Pt):dpF (fun _=>0) 0 0 (layP 0 t)=dpP t:=by
 have h:=zny t 0 (fun _=>0) 0 [];rw[List.append_nil,zj1] at h;rw[h];omega
theorem zph:∀ (l:List Pt)(t:Pt),dpL (l++[t])=max (dpL l) (dpP t)
 | [],t=>by simp[dpL]
 | a::l,t=>by rw[List.cons_append,dpL,dpL,zph l t];omega
mutual
theorem zyi:∀ t:Pt,dpP t<=cntP t
 | .mk _ _ _ _ _ _ l=>by have:=znz l;rw[dpP,cntP];omega
theorem znz:∀ l:List Pt,dpL l<=cntL l
 | []=>Ya _
 | t::r=>by have h1:=zyi t;have h2:=znz r;rw[dpL,cntL];omega
end
def filN (ts:List Tok):Nat:=24 * ts.length+36
theorem z0f {ts:List Tok}(hR:RtT ts):∃ v s,filD ts (filN ts) ⟨0,false⟩=some (v,s)∧(s.bad=true->filO ts=.bad (herI ts s.p))∧(s.bad=false->filO ts=.ok v.pt s.p):=by
 have h:=z3d hR (12 * ts.length+12) (filN ts) (by unfold filN;omega);have A:filP ts (12 * ts.length+12) 0≠.out:=zkn;unfold filO
 cases hr:filP ts (12 * ts.length+12) 0 with
 | ok t q=>
  rw[hr] at h;obtain⟨v,y,D,-⟩:=h;exact⟨v,⟨q,false⟩,y,(fun h=>by cases h),fun _=>by rw[D]⟩
 | bad s=>
  rw[hr] at h;obtain⟨v,q,y,C⟩:=h;exact⟨v,⟨q,true⟩,y,(fun _=>by rw[<-C]),fun h=>by cases h⟩
 | out=>exact absurd hr A
def docO (v:Qv) (s:Qs) (ts:List Tok):(Int × Int) ⊕ Pt :=
 if s.bad then .inl (210,herI ts s.p) else if 2048<cntP v.pt then .inl (3,0) else if 24<dpP v.pt then .inl (3,0) else .inr v.pt
theorem z0g {ts:List Tok}{v:Qv}{s:Qs}(h1:chkO ts=0)(h2:risB (-1) ts=true)(hb:s.bad=true->filO ts=.bad (herI ts s.p))(hg:s.bad=false->filO ts=.ok v.pt s.p):parO ts=docO v s ts:=by
 unfold parO docO;rw[if_neg (by simp[h1]),if_neg (by simp[h2])]
 cases h:s.bad
 ·rw[hg h];simp only[zco,z0e];have e:(24<(dpP v.pt:Int)) ↔ 24<dpP v.pt:=by omega
  simp only[e];rfl
 ·rw[hb h];rfl
theorem zhu:∀ (ts:List Tok)(last:Tok),chkF last ts=true->∀ t ∈ ts,bareB t=true∨alnB t=true
 | [],_,_=>fun t ht=>by cases ht
 | x::r,last,h=>by
  rw[chkF] at h;intro t ht
  by_cases hb:bareB x=true
  ·rw[if_pos hb] at h
   split at h
   ·rcases List.mem_cons.1 ht with rfl|ht
    ·exact .inl hb
    ·exact zhu r x h t ht
   ·cases h
  ·rw[if_neg hb] at h
   split at h
   ·rename_i ha
    rcases List.mem_cons.1 ht with rfl|ht
    ·exact .inr ha
    ·exact zhu r x h t ht
   ·cases h
theorem z3e {t:Tok}(h:alnB t=true)(hm:t.text.data.toList ∈ sgQ):t.kind=4:=by
 obtain⟨y,-,-⟩:=zlh h;simp only[sgQ,List.mem_cons,List.not_mem_nil,or_false] at hm;have D:∀ L n,t.text.data.toList=L->(lookR L false)=(4,n,0)->t.kind=4:=fun L n C A=>by
  rw[C,A] at y;injection y with y _;exact y.symm
 rcases hm with h|h|h|h|h|h|h|h|h|h|h|h|h|h|h|h|h|h|h|h|h|h <;> exact D _ _ h (by rfl)
theorem zun {t:Tok}(h:bareB t=true∨alnB t=true):(t.text.data.toList ∈ sgQ->t.kind=4)∧(kepB t.text=true->t.kind=1):=by
 rcases h with h|h
 ·have E:t.text.data.toList=[]:=by
   unfold bareB at h;have D:=(Bool.and_eq_true _ _ ▸ h:_∧_).2;rw[ByteArray.toList_eq] at D;exact List.isEmpty_iff.1 D
  refine⟨fun C=>?_,fun y=>?_⟩
  ·rw[E] at C;exact absurd C (by decide)
  ·unfold kepB at y;rw[E] at y;exact absurd y (by decide)
 ·refine⟨z3e h,fun y=>?_⟩;obtain⟨A,-,-⟩:=zlh h;have K:∀ L n,t.text.data.toList=L->(lookR L false)=(1,n,0)->t.kind=1:=fun L n F I=>by
   rw[F,I] at A;injection A with A _;exact A.symm
  simp only[kepB,Bool.or_eq_true,beq_iff_eq,or_assoc] at y;rcases y with h|h|h|h|h|h|h|h|h|h|h|h|h|h|h|h <;> exact K _ _ h (by rfl)
theorem z3f {ts:List Tok}(h:chkO ts=0):RtT ts:=by
 have D:chkF ⟨0,⟨#[]⟩,0⟩ ts=true:=by
  unfold chkO at h
  split at h
  ·cases h
  ·split at h
   ·assumption
   ·cases h
 have C:=zhu ts _ D;have A:∀ p,(nxT ts p ∈ ts)∨nxT ts p=tokZ:=fun p=>by
  by_cases y:p<ts.length
  ·refine .inl ?_;unfold nxT;rw[List.getD_eq_getElem?_getD,Yh y];exact List.getElem_mem y
  ·exact .inr (zib y)
 refine⟨fun p y=>?_,fun p y=>?_⟩
 ·rcases A p with h|h
  ·exact(zun (C _ h)).1 y
  ·rw[h] at y;exact absurd y (by decide)
 ·rcases A p with h|h
  ·exact(zun (C _ h)).2 y
  ·rw[h] at y;exact absurd y (by decide)
end Go.Proofs.YtmclgbkijeidaaaGreatDoor
