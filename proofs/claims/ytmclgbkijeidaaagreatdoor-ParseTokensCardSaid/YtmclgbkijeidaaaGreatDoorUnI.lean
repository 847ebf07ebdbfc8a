import Derived.Test.YtmclgbkijeidaaaGreatDoorUnH
namespace Go.Proofs.YtmclgbkijeidaaaGreatDoor
open Go.RowKit
structure AgA (ts:List Tok) (n:Nat):Prop where
 bin:∀ m,2 * n+12<=m->∀ k p,k<=5->AgG ts (IsV (herI ts p)) ((fns ts n).bin k p) ((dns ts m).row (k+1) ⟨p,false⟩)
 binL:∀ m,2 * n+12<=m->∀ (k:Nat) fr t v p,k<=4->IsV fr t v->AgG ts (IsV fr) ((fns ts n).binL k fr t p) ((dns ts m).rowL (k+1) v ⟨p,false⟩)
 una:∀ m,2 * n+12<=m->∀ p,AgG ts (IsV (herI ts p)) ((fns ts n).una p) ((dns ts m).una ⟨p,false⟩)
 post:∀ m,2 * n+12<=m->∀ p,AgG ts (IsV (herI ts p)) ((fns ts n).post p) ((dns ts m).post ⟨p,false⟩)
 posL:∀ m,2 * n+12<=m->∀ fr t v p,IsV fr t v->AgG ts (IsV fr) ((fns ts n).posL fr t p) ((dns ts m).posL v ⟨p,false⟩)
 prim:∀ m,2 * n+12<=m->∀ p,AgG ts (IsV (herI ts p)) ((fns ts n).prim p) ((dns ts m).prim ⟨p,false⟩)
 argL:∀ m,2 * n+13<=m->Lis ts ((fns ts n).bin 0) (fns ts n).argL (dns ts m).argL
 parL:∀ m,2 * n+13<=m->Lis ts (tydP ts 9) (fns ts n).parL (dns ts m).parL
 fieL:∀ m,2 * n+12<=m->∀ l p,AgG ts Eq ((fns ts n).fieL l p) ((dns ts m).fieL l ⟨p,false⟩)
 stmt:∀ m,2 * n+12<=m->∀ p,AgG ts (IsV (herI ts p)) ((fns ts n).stmt p) ((dns ts m).stmt ⟨p,false⟩)
 bran:∀ m,2 * n+12<=m->∀ p,AgG ts (IsV (herI ts p)) ((fns ts n).bran p) ((dns ts m).bran ⟨p,false⟩)
 stmL:∀ m,2 * n+12<=m->∀ l p,AgG ts Eq ((fns ts n).stmL l p) ((dns ts m).stmL l ⟨p,false⟩)
 impL:∀ m,2 * n+12<=m->∀ l p,AgG ts Eq ((fns ts n).impL l p) ((dns ts m).impL l ⟨p,false⟩)
 decL:∀ m,2 * n+12<=m->∀ l p,AgG ts Eq ((fns ts n).decL l p) ((dns ts m).decL l ⟨p,false⟩)
section
variable {ts:List Tok}
theorem zo8 {p:Nat}(hk:(nxT ts p).kind=4)(hs:spc (nxT ts p).text=false):okQ ts p (nxQ ts p).text=true:=by
 rw[zij,zky hs];unfold isQ;rw[zij,zfb,hk];simp
variable (hR:RtT ts)
include hR
theorem zim {one one':Nat->Rs Pt}{more more':List Pt->Nat->Rs (List Pt)}{dl dl':List Pt->Qs->Option (List Pt × Qs)}{d1:Qs->Rq}
  (h1:∀ p,AgG ts (IsV (herI ts p)) (one p) (d1 ⟨p,false⟩))
  (hdl:∀ l q,isT ts q [41]=false->dl l ⟨q,false⟩=(d1 ⟨q,false⟩).bind fun u=>if isQ ts u.2.p ⟨#[41]⟩ then some (l++[u.1.pt],u.2) else tak ts ⟨#[44]⟩ u.2 fun _ q=>dl' (l++[u.1.pt]) (wrQ (isQ ts q.p ⟨#[41]⟩) q))
  (hm:(∀ l q,more l q=.out)∨(∀ l q,more l q=if isT ts q [44] then(one' (q+1)).bind fun t q=>more' (l++[t]) q else .ok l q)∧(∀ q,isT ts q [41]=true->(nxT ts q).kind=4->one' q=.bad (herI ts q)∨one' q=.out)∧Lis ts one' more' dl')
  (hb':∀ l q,Bd (dl' l ⟨q,true⟩) q):Lis ts one more dl:=by
 intro fr K DK pre l p hc hK hKb;rw[hdl _ _ hc,Option.bind_assoc];refine zb2 (h1 p) (fun t v q hv=>?_) fun v q=>?_
 ·obtain⟨rfl,-⟩:=hv;rcases hm with hm|⟨hm,hcl,hL⟩
  ·rw[hm]
   trivial
  rw[hm]
  dsimp only
  rw[zba hR q ⟨#[41]⟩ (.inl rfl)]
  cases h2:isT ts q [41]
  ·simp only[Bool.false_eq_true,↓reduceIte];rw[zrv]
   cases h3:isT ts q [44]
   ·have e:okQ ts q ⟨#[41]⟩=false:=(zct hR q ⟨#[41]⟩ (.inl rfl) rfl).trans h2;show AgG ts _ (Rs.need (isT ts q [41]) (herI ts q) (K (l++[v.pt]) (q+1))) _;rw[h2];refine zhl (p:=q) ?_ rfl;have ec:takS ts ⟨#[44]⟩ ⟨q,false⟩=⟨q,true⟩:=by unfold takS;rw[zct hR _ ⟨#[44]⟩ (.inl rfl) rfl,h3];rfl
    unfold tak;rw[ec]
    dsimp only
    rw[zj7];exact zax (hb' _ _) fun l=>hKb _ _
   ·simp only[↓reduceIte];refine zcu ((zct hR _ ⟨#[44]⟩ (.inl rfl) rfl).trans h3) ?_
    dsimp only
    rw[zba hR (q+1) ⟨#[41]⟩ (.inl rfl)]
    cases h4:isT ts (q+1) [41]
    ·have:=hL fr K DK pre (l++[v.pt]) (q+1) h4 hK hKb;rw[zfq,List.append_assoc];exact this
    ·rcases hcl _ h4 (zrw hR h4 rfl) with h|h
     ·rw[h];exact zhl (zax (hb' _ _) fun l=>zbw fun _=>hKb _ _) rfl
     ·rw[h]
      trivial
  ·have h3:isT ts q [44]=false:=by
    unfold isT at h2 ⊢;rw[eq_of_beq h2];rfl
   rw[h3];simp only[Bool.false_eq_true,↓reduceIte];refine zbh (zct hR q ⟨#[41]⟩ (.inl rfl) rfl) (fun _=>?_) fun t=>hKb _ _;have:=hK (l++[v.pt]) (q+1);rw[<-List.append_assoc] at this;exact this
 ·refine zax (zdf (zaq _) ?_) fun l=>zbw fun _=>hKb _ _;refine zbw fun _=>?_;rw[zj7];exact hb' _ _
theorem znd {p k:Nat}(h:rowI (nxT ts p).text=k):(nxT ts p).kind=4∧spc (nxT ts p).text=false:=by
 have hs:(nxT ts p).text.data.toList ∈ sgQ∧spc (nxT ts p).text=false:=by
  unfold rowI at h;unfold spc
  split at h
  ·rename_i e
   rw[eq_of_beq e];exact⟨by simp[sgQ],rfl⟩
  split at h
  ·rename_i e
   rw[eq_of_beq e];exact⟨by simp[sgQ],rfl⟩
  split at h
  ·rename_i e
   simp only[Bool.or_eq_true] at e;rcases e with((((e|e) | e) | e) | e) | e
   all_goals
    rw[eq_of_beq e];exact⟨by simp[sgQ],rfl⟩
  split at h
  ·rename_i e
   simp only[Bool.or_eq_true] at e;rcases e with e|e
   all_goals
    rw[eq_of_beq e];exact⟨by simp[sgQ],rfl⟩
  split at h
  ·rename_i e
   simp only[Bool.or_eq_true] at e;rcases e with(e|e) | e
   all_goals
    rw[eq_of_beq e];exact⟨by simp[sgQ],rfl⟩
  ·omega
 exact⟨hR.sg p hs.1,hs.2⟩
theorem agA (n:Nat):AgA ts n:=by
 have hpar:∀ m l q,isT ts q [41]=false->(dns ts (m+1)).parL l ⟨q,false⟩=(some (tydD ts 9 ⟨q,false⟩)).bind fun u=>if isQ ts u.2.p ⟨#[41]⟩ then some (l++[u.1.pt],u.2) else tak ts ⟨#[44]⟩ u.2 fun _ q=>(dns ts m).parL (l++[u.1.pt]) (wrQ (isQ ts q.p ⟨#[41]⟩) q):=fun m l q h=>by
  show(if (!false && !isQ ts q ⟨#[41]⟩)=true then _ else _)=_;rw[zba hR q ⟨#[41]⟩ (.inl rfl),h];rfl
 have harg:∀ m l q,isT ts q [41]=false->(dns ts (m+1)).argL l ⟨q,false⟩=((dns ts m).row 1 ⟨q,false⟩).bind fun u=>if isQ ts u.2.p ⟨#[41]⟩ then some (l++[u.1.pt],u.2) else tak ts ⟨#[44]⟩ u.2 fun _ q=>(dns ts m).argL (l++[u.1.pt]) (wrQ (isQ ts q.p ⟨#[41]⟩) q):=fun m l q h=>by
  show(if (!false && !isQ ts q ⟨#[41]⟩)=true then _ else _)=_;rw[zba hR q ⟨#[41]⟩ (.inl rfl),h];rfl
 induction n with
 | zero=>
  constructor
  all_goals first
   | (intros;trivial)
   | skip
  ·intro m hm fr K DK pre l p hc hK hKb
   trivial
  ·intro m hm;obtain⟨m,rfl⟩:∃ k,m=k+1:=⟨m - 1,by omega⟩;exact zim hR (d1:=fun q=>some (tydD ts 9 q)) (one':=tydP ts 9) (more':=fun _ _=>.out) (dl':=(dns ts m).parL) (zm6 hR 9) (fun l q h=>hpar m l q h) (.inl fun _ _=>rfl) fun l q=>(bdA ts q m).parL (by omega) l
 | succ n ih=>
  have hb:∀ m q,BdA ts q m:=fun m q=>bdA ts q m;have hbin:∀ m,2 * (n+1)+12<=m->∀ k p,k<=5->AgG ts (IsV (herI ts p)) ((fns ts (n+1)).bin k p) ((dns ts m).row (k+1) ⟨p,false⟩):=by
   intro m hm k p hk;obtain⟨m,rfl⟩:∃ k,m=k+1:=⟨m - 1,by omega⟩;refine zcf (by omega) (fun h=>ih.una m (by omega) p) fun h=>?_;refine zb2 (ih.bin m (by omega) (k+1) p (by omega)) (fun t v q hv=>ih.binL m (by omega) k _ _ _ _ (by omega) hv) fun v q=>(hb m q).rowL (by omega) _ _
  have hclose:∀ m,1<=m->∀ l p,isT ts p [41]=true->(dns ts m).argL l ⟨p,false⟩=some (l,⟨p,false⟩):=fun m hm l p h=>by
   obtain⟨m,rfl⟩:∃ k,m=k+1:=⟨m - 1,by omega⟩;show(if !false && !isQ ts p ⟨#[41]⟩ then _ else _)=_;rw[zba hR p ⟨#[41]⟩ (.inl rfl),h];rfl
  have hclosep:∀ m,1<=m->∀ l p,isT ts p [41]=true->(dns ts m).parL l ⟨p,false⟩=some (l,⟨p,false⟩):=fun m hm l p h=>by
   obtain⟨m,rfl⟩:∃ k,m=k+1:=⟨m - 1,by omega⟩;show(if !false && !isQ ts p ⟨#[41]⟩ then _ else _)=_;rw[zba hR p ⟨#[41]⟩ (.inl rfl),h];rfl
  constructor
  ·exact hbin
  ·intro m hm k fr t v p hk hv;obtain⟨m,rfl⟩:∃ k,m=k+1:=⟨m - 1,by omega⟩;obtain⟨rfl,hbg⟩:=hv;have hc:(!false && (((nxQ ts p).kind == 4) && (rowQ (nxQ ts p).text == ((k+1:Nat):Int))))=true ↔ rowI (nxT ts p).text=k:=by
    rw[zfb,zij];unfold rowQ
    constructor
    ·intro h;simp only[Bool.not_false,Bool.true_and,Bool.and_eq_true,beq_iff_eq] at h;have:=h.2
     push_cast at this
     omega
    ·intro h;rw[(znd hR h).1];simp only[Bool.not_false,Bool.true_and,Bool.and_eq_true,beq_iff_eq];refine⟨trivial,?_⟩
     push_cast
     omega
   refine zcf hc (fun h=>?_) fun _=>zcp ⟨rfl,hbg⟩;have hs:=znd hR h;obtain⟨e1,e2,e3⟩:=zek (zku h);refine zcu (zo8 hs.1 hs.2) ?_;refine zb2 (ih.bin m (by omega) (k+1) (p+1) (by omega)) (fun t u q hu=>?_) fun v q=>zdf (zaq _) ((hb m q).rowL (by omega) _ _);obtain⟨rfl,-⟩:=hu;have hV:IsV fr (.mk 27 (nxT ts p).text 0 (nxT ts p).pos fr (behI ts q) [v.pt,u.pt]) ⟨27,(nxQ ts p).text,0,(nxQ ts p).pos,v.bg,behI ts q,v.bg,[v.pt,u.pt]⟩:=⟨by simp only[Qv.pt,e3,hbg],hbg⟩;exact zcf (by omega) (fun _=>zcp hV) fun _=>ih.binL m (by omega) k _ _ _ _ (by omega) hV
  ·intro m hm p;obtain⟨m,rfl⟩:∃ k,m=k+1:=⟨m - 1,by omega⟩;refine zcf (by rw[zba hR _ ⟨#[45]⟩ (.inl rfl),zba hR _ ⟨#[33]⟩ (.inl rfl)];rfl) (fun h=>?_) fun _=>ih.post m (by omega) p;have hq:okQ ts p (nxQ ts p).text=true∧p<ts.length:=by
    rw[Bool.or_eq_true] at h;rcases h with h|h
    ·have e:(nxQ ts p).text=⟨#[45]⟩:=zik ((zba hR _ ⟨#[45]⟩ (.inl rfl)).trans h);rw[e];exact⟨(zct hR _ ⟨#[45]⟩ (.inl rfl) rfl).trans h,zcg h (by simp)⟩
    ·have e:(nxQ ts p).text=⟨#[33]⟩:=zik ((zba hR _ ⟨#[33]⟩ (.inl rfl)).trans h);rw[e];exact⟨(zct hR _ ⟨#[33]⟩ (.inl rfl) rfl).trans h,zcg h (by simp)⟩
   obtain⟨e1,e2,e3⟩:=zek hq.2;refine zcu hq.1 ?_;refine zb2 (ih.una m (by omega) (p+1)) (fun t u q hu=>?_) fun v q=>zaq _;obtain⟨rfl,-⟩:=hu;exact zcp ⟨by simp only[Qv.pt,e3,<-e2],e1⟩
  ·intro m hm p;obtain⟨m,rfl⟩:∃ k,m=k+1:=⟨m - 1,by omega⟩;exact zb2 (ih.prim m (by omega) p) (fun t v q hv=>ih.posL m (by omega) _ _ _ _ hv) fun v q=>(hb m q).posL (by omega) _
  ·intro m hm fr t v p hv;obtain⟨m,rfl⟩:∃ k,m=k+1:=⟨m - 1,by omega⟩;obtain⟨rfl,hbg⟩:=hv;show AgG ts (IsV fr) (if isT ts p [46] then namP ts (p+1) fun x q=>(fns ts n).posL fr (.mk 24 x.text 0 x.pos fr (behI ts q) [v.pt]) q
    else if isT ts p [40] then(lisP ts ((fns ts n).bin 0) (fns ts n).argL p).bind fun l q=>(fns ts n).posL fr (.mk 25 ⟨#[]⟩ 0 fr fr (behI ts q) ([v.pt]++l)) q
    else .ok v.pt p) (if !false && (isQ ts p ⟨#[46]⟩ || isQ ts p ⟨#[40]⟩) then
     (if isQ ts p ⟨#[46]⟩ then tak ts ⟨#[46]⟩ ⟨p,false⟩ fun _ q=>tak ts ⟨#[110,97,109,101]⟩ q fun m' q=>(dns ts m).posL ⟨24,m'.text,0,m'.pos,v.bg,behI ts q.p,v.bg,[v.pt]⟩ q
     else tak ts ⟨#[40]⟩ ⟨p,false⟩ fun _ q=>((dns ts m).argL [v.pt] q).bind fun l=>tak ts ⟨#[41]⟩ l.2 fun _ q=>(dns ts m).posL ⟨25,⟨#[]⟩,0,v.bg,v.bg,behI ts q.p,v.bg,l.1⟩ q)
    else some (v,⟨p,false⟩))
   rw[zba hR _ ⟨#[46]⟩ (.inl rfl),zba hR _ ⟨#[40]⟩ (.inl rfl)];simp only[Bool.not_false,Bool.true_and]
   cases hd:isT ts p [46]
   ·cases ho:isT ts p [40]
    ·exact zcp ⟨rfl,hbg⟩
    ·refine zp8 hR (d1:=hclose m (by omega)) (ih.argL m (by omega)) (fun l q=>(hb m q).argL (by omega) l) fr (fun l q=>(fns ts n).posL fr (.mk 25 ⟨#[]⟩ 0 fr fr (behI ts q) ([v.pt]++l)) q) (fun l q=>(dns ts m).posL ⟨25,⟨#[]⟩,0,v.bg,v.bg,behI ts q.p,v.bg,l⟩ q) [v.pt] p (fun l q=>ih.posL m (by omega) _ _ _ _ ⟨by simp only[Qv.pt,hbg],hbg⟩) fun l q=>(hb m q).posL (by omega) _
   ·rw[if_pos rfl,if_pos (by simp),if_pos rfl];refine zcu ((zct hR _ ⟨#[46]⟩ (.inl rfl) rfl).trans hd) ?_;refine zbh (zcx _) (fun h=>?_) fun t=>(hb m _).posL (by omega) _;obtain⟨e1,e2,e3⟩:=zek (zdq h);exact ih.posL m (by omega) _ _ _ _ ⟨by simp only[Qv.pt,hbg,e3],hbg⟩
  ·intro m hm p;obtain⟨m,rfl⟩:∃ k,m=k+1:=⟨m - 1,by omega⟩;refine zcf (by rw[zba hR _ ⟨#[40]⟩ (.inl rfl)];rfl) (fun h=>?_) fun _=>?_
   ·refine zcu ((zct hR _ ⟨#[40]⟩ (.inl rfl) rfl).trans h) ?_;refine zb2 (ih.bin m (by omega) 0 (p+1) (by omega)) (fun t v q hv=>?_) fun v q=>zbw fun _=>zaq _;obtain⟨rfl,-⟩:=hv;refine zbh (zct hR _ ⟨#[41]⟩ (.inl rfl) rfl) (fun _=>zcp ⟨rfl,zbl p⟩) fun t=>zaq _
   ·cases hn:namB ts p
    ·rw[if_neg (by simp)]
     dsimp only
     split
     ·exact zm4 hR p
     ·rename_i h
      simp only[zfb,zba hR p ⟨#[116,114,117,101]⟩ (.inr rfl),zba hR p ⟨#[102,97,108,115,101]⟩ (.inr rfl),Bool.or_eq_true,not_or] at h;have e:va1P ts p=.bad (herI ts p):=by
       unfold va1P;rw[if_neg h.1.1,if_neg h.1.2,if_neg (by rw[Bool.or_eq_true];exact fun e=>e.elim h.2.1 h.2.2)]
      rw[e];refine zhl (p:=p) ?_ rfl;unfold tak takS;rw[zcx,hn];exact zaq _
    ·rw[if_pos rfl];obtain⟨e1,e2,e3⟩:=zek (zdq hn);have hn':=hn;unfold namB at hn';rw[Bool.and_eq_true,Bool.not_eq_true'] at hn';have hk:(nxT ts p).kind=1:=eq_of_beq hn'.1;have ht:∀ s:ByteArray,kepB s=true->isT ts p s.data.toList=false:=fun s hs=>by
      unfold isT;rw[beq_eq_false_iff_ne];intro e;rw[ze7 e,hs] at hn'
      cases hn'.2
     rw[if_neg (by rw[zfb,hk,zba hR p ⟨#[116,114,117,101]⟩ (.inr rfl),zba hR p ⟨#[102,97,108,115,101]⟩ (.inr rfl),ht ⟨#[116,114,117,101]⟩ rfl,ht ⟨#[102,97,108,115,101]⟩ rfl];simp)];exact zcu (k:=fun _ q'=>some ((⟨23,(nxQ ts p).text,0,(nxQ ts p).pos,(nxQ ts p).pos,behI ts q'.p,(nxQ ts p).pos,[]⟩:Qv),q')) ((zcx p).trans hn) (zcp ⟨by simp only[Qv.pt,e3,<-e2],e1⟩)
  ·intro m hm;obtain⟨m,rfl⟩:∃ k,m=k+1:=⟨m - 1,by omega⟩;refine zim hR (d1:=(dns ts m).row 1) (one':=(fns ts n).bin 0) (more':=(fns ts n).argL) (dl':=(dns ts m).argL) (fun p=>hbin m (by omega) 0 p (by omega)) (fun l q h=>harg m l q h) (.inr ⟨fun _ _=>rfl,fun q h hk=>(znc n q h hk).1 0,ih.argL m (by omega)⟩) fun l q=>(hb m q).argL (by omega) l
  ·intro m hm;obtain⟨m,rfl⟩:∃ k,m=k+1:=⟨m - 1,by omega⟩;refine zim hR (d1:=fun q=>some (tydD ts 9 q)) (one':=tydP ts 9) (more':=(fns ts n).parL) (dl':=(dns ts m).parL) (zm6 hR 9) (fun l q h=>hpar m l q h) (.inr ⟨fun _ _=>rfl,fun q h hk=>.inl ?_,ih.parL m (by omega)⟩) fun l q=>(hb m q).parL (by omega) l;unfold tydP namP namB;rw[hk];rfl
  ·intro m hm l p;obtain⟨m,rfl⟩:∃ k,m=k+1:=⟨m - 1,by omega⟩;show AgG ts Eq (if isT ts p [125] then .ok l p else(tydP ts 6 p).bind fun t q=>if isT ts q [125] then(fns ts n).fieL (l++[t]) q else kinP ts 5 q fun _ q=>(fns ts n).fieL (l++[t]) q)
    (if !false && !isQ ts p ⟨#[125]⟩ then(dns ts m).fieL (l++[(tydD ts 6 ⟨p,false⟩).1.pt]) (if isQ ts (tydD ts 6 ⟨p,false⟩).2.p ⟨#[125]⟩ then(tydD ts 6 ⟨p,false⟩).2 else takS ts ⟨#[101,110,100]⟩ (tydD ts 6 ⟨p,false⟩).2) else some (l,⟨p,false⟩))
   rw[zba hR p ⟨#[125]⟩ (.inl rfl)]
   cases h:isT ts p [125]
   ·simp only[Bool.false_eq_true,↓reduceIte,Bool.not_false,Bool.and_self];refine zg3 (P:=IsV (herI ts p)) (k:=fun u=>(dns ts m).fieL (l++[u.1.pt]) (if isQ ts u.2.p ⟨#[125]⟩ then u.2 else takS ts ⟨#[101,110,100]⟩ u.2)) (zm6 hR 6 p) (fun t v q hv=>?_) fun v q=>?_
    ·obtain⟨rfl,-⟩:=hv
     dsimp only
     rw[zba hR q ⟨#[125]⟩ (.inl rfl)]
     cases h2:isT ts q [125]
     ·simp only[Bool.false_eq_true,↓reduceIte];exact zbh (s:=⟨#[101,110,100]⟩) (k:=fun _ q=>(dns ts m).fieL (l++[v.pt]) q) (zdw q).1 (fun _=>ih.fieL m (by omega) _ _) fun t=>(hb m q).fieL (by omega) _
     ·simp only[↓reduceIte];exact ih.fieL m (by omega) _ _
    ·dsimp only
     rw[zkw,ite_self];exact(hb m q).fieL (by omega) _
   ·exact zcp rfl
  ·intro m hm p;obtain⟨m,rfl⟩:∃ k,m=k+1:=⟨m - 1,by omega⟩;have hr:∀ q,AgG ts (IsV (herI ts q)) ((fns ts n).bin 0 q) ((dns ts m).row 1 ⟨q,false⟩):=fun q=>ih.bin m (by omega) 0 q (by omega);have hrb:∀ q,Bd ((dns ts m).row 1 ⟨q,true⟩) q:=fun q=>(hb m q).row 1 (by omega) (by omega);have hs:=ih.stmL m (by omega);have hsb:∀ l q,Bd ((dns ts m).stmL l ⟨q,true⟩) q:=fun l q=>(hb m q).stmL (by omega) l;refine zcf (by rw[zba hR p ⟨#[123]⟩ (.inl rfl)]) (fun _=>zhu hR hs hsb p) fun _=>?_;refine zcf (by rw[zba hR p ⟨#[118,97,114]⟩ (.inr rfl)]) (fun _=>zp7 hR hr hrb p) fun _=>?_;refine zcf (by rw[zba hR p ⟨#[105,102]⟩ (.inr rfl)]) (fun _=>ih.bran m (by omega) p) fun _=>?_;refine zcf (by rw[zba hR p ⟨#[102,111,114]⟩ (.inr rfl)]) (fun _=>zrx hR hr hrb hs hsb p) fun _=>?_;refine zcf (by rw[zba hR p ⟨#[114,101,116,117,114,110]⟩ (.inr rfl)]) (fun _=>zry hR hr hrb p) fun _=>?_;refine zcf ?_ (fun _=>zrz hR hr hrb p) fun _=>zr0 hR hr hrb p;rw[zfb,zij];show(namB ts p && (decide (p+1<ts.length) && (((nxT ts (p+1)).kind == 4) && isT ts (p+1) [58,61])))=true ↔ (namB ts p && isT ts (p+1) [58,61])=true
   cases h:isT ts (p+1) [58,61]
   ·simp
   ·rw[zrw hR h rfl,decide_eq_true (zcg h (by simp))];simp
  ·intro m hm p;obtain⟨m,rfl⟩:∃ k,m=k+1:=⟨m - 1,by omega⟩;have hr:∀ q,AgG ts (IsV (herI ts q)) ((fns ts n).bin 0 q) ((dns ts m).row 1 ⟨q,false⟩):=fun q=>ih.bin m (by omega) 0 q (by omega);have hrb:∀ q,Bd ((dns ts m).row 1 ⟨q,true⟩) q:=fun q=>(hb m q).row 1 (by omega) (by omega);have hs:=ih.stmL m (by omega);have hsb:∀ l q,Bd ((dns ts m).stmL l ⟨q,true⟩) q:=fun l q=>(hb m q).stmL (by omega) l;have hne:∀ q,isQ ts q ⟨#[101,108,115,101]⟩=true->isQ ts q ⟨#[105,102]⟩=false:=fun q h=>by
    unfold isQ at h ⊢;rw[Bool.and_eq_true] at h;rw[eq_of_beq h.1];rfl
   have hcb:∀ q,isQ ts q ⟨#[105,102]⟩=false->Bd (if isQ ts q ⟨#[105,102]⟩ then(dns ts m).bran ⟨q,true⟩ else bloD ts (dns ts m) ⟨q,true⟩) q:=fun q h=>by
    rw[h];exact zej fun l=>hsb l q
   have hbb:∀ (t:Tok) (e b:Qv) q,Bd (if isQ ts q ⟨#[101,108,115,101]⟩ then tak ts ⟨#[101,108,115,101]⟩ ⟨q,true⟩ fun _ q=>(if isQ ts q.p ⟨#[105,102]⟩ then(dns ts m).bran q else bloD ts (dns ts m) q).bind fun c=>some ((⟨14,⟨#[]⟩,0,t.pos,t.pos,behI ts c.2.p,t.pos,[e.pt,b.pt,c.1.pt]⟩:Qv),c.2)
     else some ((⟨14,⟨#[]⟩,0,t.pos,t.pos,behI ts q,t.pos,[e.pt,b.pt]⟩:Qv),⟨q,true⟩)) q:=fun t e b q=>zo5 (fun h=>zbw fun _=>zax (hcb q (hne q h)) fun _=>zaq _) fun _=>zaq _
   unfold fns dns
   dsimp only
   refine zbh (zct hR p ⟨#[105,102]⟩ (.inr rfl) rfl) (fun _=>?_) fun t=>zax (hrb _) fun e=>zax (zej fun l=>hsb l _) fun b=>hbb _ _ _ _;refine zb2 (hr _) (fun t e q he=>?_) fun e q=>zax (zej fun l=>hsb l _) fun b=>hbb _ _ _ _;obtain⟨rfl,-⟩:=he;refine zb2 (zhu hR hs hsb _) (fun t b q hb'=>?_) fun b q=>hbb _ _ _ _;obtain⟨rfl,-⟩:=hb';refine zcf (by rw[zba hR q ⟨#[101,108,115,101]⟩ (.inr rfl)]) (fun h=>?_) fun _=>zcp ⟨by simp only[Qv.pt,zbl p],zbl p⟩;refine zcu ((zct hR q ⟨#[101,108,115,101]⟩ (.inr rfl) rfl).trans h) ?_;have hc:∃ bg,AgG ts (IsV bg) (if isT ts (q+1) [105,102] then(fns ts n).bran (q+1) else bloP ts (fns ts n) (q+1)) (if isQ ts (q+1) ⟨#[105,102]⟩ then(dns ts m).bran ⟨q+1,false⟩ else bloD ts (dns ts m) ⟨q+1,false⟩) :=
    ⟨herI ts (q+1),zcf (by rw[zba hR (q+1) ⟨#[105,102]⟩ (.inr rfl)]) (fun _=>ih.bran m (by omega) _) fun _=>zhu hR hs hsb _⟩
   obtain⟨bg,hc⟩:=hc;refine zb2 hc (fun t c q hc=>?_) fun c q=>zaq _;obtain⟨rfl,-⟩:=hc;exact zcp ⟨by simp only[Qv.pt,zbl p],zbl p⟩
  ·intro m hm l p;obtain⟨m,rfl⟩:∃ k,m=k+1:=⟨m - 1,by omega⟩;show AgG ts Eq (if isT ts p [125] then .ok l p else((fns ts n).stmt p).bind fun t q=>if isT ts q [125] then(fns ts n).stmL (l++[t]) q else kinP ts 5 q fun _ q=>(fns ts n).stmL (l++[t]) q)
    (if !false && !isQ ts p ⟨#[125]⟩ then((dns ts m).stmt ⟨p,false⟩).bind fun u=>(dns ts m).stmL (l++[u.1.pt]) (if isQ ts u.2.p ⟨#[125]⟩ then u.2 else takS ts ⟨#[101,110,100]⟩ u.2) else some (l,⟨p,false⟩))
   rw[zba hR p ⟨#[125]⟩ (.inl rfl)]
   cases h:isT ts p [125]
   ·simp only[Bool.false_eq_true,↓reduceIte,Bool.not_false,Bool.and_self];refine zb2 (ih.stmt m (by omega) p) (fun t v q hv=>?_) fun v q=>?_
    ·obtain⟨rfl,-⟩:=hv
     dsimp only
     rw[zba hR q ⟨#[125]⟩ (.inl rfl)]
     cases h2:isT ts q [125]
     ·simp only[Bool.false_eq_true,↓reduceIte];exact zbh (s:=⟨#[101,110,100]⟩) (k:=fun _ q=>(dns ts m).stmL (l++[v.pt]) q) (zdw q).1 (fun _=>ih.stmL m (by omega) _ _) fun t=>(hb m q).stmL (by omega) _
     ·simp only[↓reduceIte];exact ih.stmL m (by omega) _ _
    ·dsimp only
     rw[zkw,ite_self];exact(hb m q).stmL (by omega) _
   ·exact zcp rfl
  ·intro m hm l p;obtain⟨m,rfl⟩:∃ k,m=k+1:=⟨m - 1,by omega⟩;show AgG ts Eq (if isT ts p [105,109,112,111,114,116] then(impP ts p).bind fun t q=>kinP ts 5 q fun _ q=>(fns ts n).impL (l++[t]) q else .ok l p)
    (if !false && isQ ts p ⟨#[105,109,112,111,114,116]⟩ then(dns ts m).impL (l++[(impD ts ⟨p,false⟩).1.pt]) (takS ts ⟨#[101,110,100]⟩ (impD ts ⟨p,false⟩).2) else some (l,⟨p,false⟩))
   refine zcf (by rw[zba hR p ⟨#[105,109,112,111,114,116]⟩ (.inr rfl)];rfl) (fun h=>?_) fun _=>zcp rfl;refine zg3 (P:=IsV (herI ts p)) (k:=fun u=>(dns ts m).impL (l++[u.1.pt]) (takS ts ⟨#[101,110,100]⟩ u.2)) (zrr hR p) (fun t v q hv=>?_) fun v q=>(hb m q).impL (by omega) _;obtain⟨rfl,-⟩:=hv;exact zbh (s:=⟨#[101,110,100]⟩) (k:=fun _ q=>(dns ts m).impL (l++[v.pt]) q) (zdw q).1 (fun _=>ih.impL m (by omega) _ _) fun t=>(hb m q).impL (by omega) _
  ·intro m hm l p;obtain⟨m,rfl⟩:∃ k,m=k+1:=⟨m - 1,by omega⟩;have hr:∀ q,AgG ts (IsV (herI ts q)) ((fns ts n).bin 0 q) ((dns ts m).row 1 ⟨q,false⟩):=fun q=>ih.bin m (by omega) 0 q (by omega);have hrb:∀ q,Bd ((dns ts m).row 1 ⟨q,true⟩) q:=fun q=>(hb m q).row 1 (by omega) (by omega);have hs:=ih.stmL m (by omega);have hsb:∀ l q,Bd ((dns ts m).stmL l ⟨q,true⟩) q:=fun l q=>(hb m q).stmL (by omega) l;show AgG ts Eq (if p<ts.length then(decP ts (fns ts n) p).bind fun t q=>kinP ts 5 q fun _ q=>(fns ts n).decL (l++[t]) q else .ok l p)
    (if !false && decide (p<ts.length) then(decD ts (dns ts m) ⟨p,false⟩).bind fun u=>(dns ts m).decL (l++[u.1.pt]) (takS ts ⟨#[101,110,100]⟩ u.2) else some (l,⟨p,false⟩))
   refine zcf (by simp) (fun hp=>?_) fun _=>zcp rfl;have hd:AgG ts (IsV (herI ts p)) (decP ts (fns ts n) p) (decD ts (dns ts m) ⟨p,false⟩):=by
    unfold decP decD;refine zcf (by rw[zba hR p ⟨#[99,111,110,115,116]⟩ (.inr rfl)]) (fun _=>zrs hR p) fun _=>?_;refine zcf (by rw[zba hR p ⟨#[118,97,114]⟩ (.inr rfl)]) (fun _=>zp7 hR hr hrb p) fun _=>?_;refine zcf (by rw[zba hR p ⟨#[116,121,112,101]⟩ (.inr rfl)]) (fun _=>zr1 hR (ih.fieL m (by omega)) (fun l q=>(hb m q).fieL (by omega) l) p) fun _=>?_;have hf:=zr2 hR (d:=dns ts m) (f:=fns ts n) (dp:=hclosep m (by omega)) (ih.parL m (by omega)) (fun l q=>(hb m q).parL (by omega) l) hs hsb p
    split
    ·exact hf
    ·rename_i h
     have e:funP ts (fns ts n) p=.bad (herI ts p):=by
      unfold funP expP;rw[show isT ts p [102,117,110,99]=false by simpa using h];rfl
     rw[e] at hf;exact hf
   refine zb2 hd (fun t v q hv=>?_) fun v q=>(hb m q).decL (by omega) _;obtain⟨rfl,-⟩:=hv;exact zbh (s:=⟨#[101,110,100]⟩) (k:=fun _ q=>(dns ts m).decL (l++[v.pt]) q) (zdw q).1 (fun _=>ih.decL m (by omega) _ _) fun t=>(hb m q).decL (by omega) _
theorem zr3 (n m:Nat)(hm:2 * n+12<=m):AgG ts (IsV (herI ts 0)) (filP ts n 0) (filD ts m ⟨0,false⟩):=by
 have h:=agA hR n;have hb:=bdA ts;unfold filP filD;refine zkz hR 1 ⟨#[112,97,99,107,97,103,101]⟩ 0 (d:=fun w=>((dns ts m).impL [] (takS ts ⟨#[101,110,100]⟩ w.2)).bind fun l=>((dns ts m).decL l.1 l.2).bind fun l=>some ((⟨1,w.1.x,0,w.1.a,w.1.f,behI ts l.2.p,w.1.bg,l.1⟩:Qv),l.2)) rfl rfl (fun hp=>?_) fun v q=>zax ((hb q m).impL (by omega) _) fun l=>zax ((hb q m).decL (by omega) _) fun _=>zaq _;refine zbh (s:=⟨#[101,110,100]⟩) (k:=fun _ q=>((dns ts m).impL [] q).bind fun l=>((dns ts m).decL l.1 l.2).bind fun l=>some ((⟨1,(nxT ts (0+1)).text,0,(nxT ts (0+1)).pos,herI ts 0,behI ts l.2.p,herI ts 0,l.1⟩:Qv),l.2)) (zdw _).1 (fun _=>?_) fun t=>zax ((hb _ m).impL (by omega) _) fun l=>zax ((hb _ m).decL (by omega) _) fun _=>zaq _;refine zb2 (h.impL m hm _ _) (fun l l' q hl=>?_) fun l q=>zax ((hb q m).decL (by omega) _) fun _=>zaq _;subst hl;refine zb2 (h.decL m hm _ _) (fun l l' q hl=>?_) fun l q=>zaq _;subst hl;exact zcp ⟨by simp only[Qv.pt],rfl⟩
end
def LtQ (q s:Qs):Prop:=q.p<=s.p∧(s.bad=true∨(q.bad=false∧q.p<s.p))
def LeQ (q s:Qs):Prop:=q.p<=s.p∧(s.bad=true∨q.bad=false)
theorem LtQ.le {q s:Qs}(h:LtQ q s):LeQ q s:=⟨h.1,h.2.elim .inl fun h=>.inr h.1⟩
theorem LeQ.rfl (q:Qs):LeQ q q:=⟨Nat.le_refl _,by cases q.bad <;> simp⟩
theorem LeQ.trans {a b c:Qs}(h:LeQ a b)(h':LeQ b c):LeQ a c:=by
 refine⟨Nat.le_trans h.1 h'.1,?_⟩;rcases h'.2 with h' | h'
 ·exact .inl h'
 ·rcases h.2 with h|h
  ·rw[h'] at h;cases h
  ·exact .inr h
theorem LtQ.trans {a b c:Qs}(h:LtQ a b)(h':LeQ b c):LtQ a c:=by
 have h1:=h'.1;refine⟨Nat.le_trans h.1 h'.1,?_⟩;rcases h'.2 with h' | h'
 ·exact .inl h'
 ·rcases h.2 with h|⟨h,h2⟩
  ·rw[h'] at h;cases h
  ·exact .inr ⟨h,by omega⟩
section
variable {ts:List Tok}
theorem zal (s:ByteArray)(q:Qs):LtQ q (takS ts s q):=by
 unfold takS
 cases h:q.bad
 ·cases okQ ts q.p s
  ·exact⟨Nat.le_refl _,.inl rfl⟩
  ·exact⟨Nat.le_succ _,.inr ⟨h,Nat.lt_succ_self _⟩⟩
 ·exact⟨Nat.le_refl _,.inl rfl⟩
theorem zlr (b:Bool)(q:Qs):LeQ q (wrQ b q):=by
 cases b
 ·exact LeQ.rfl q
 ·exact⟨Nat.le_refl _,.inl rfl⟩
def Oq {α:Type}(R:Qs->Prop) (d:Option (α × Qs)):Prop:=∀ v s,d=some (v,s)->R s
theorem zbm {α:Type}{R:Qs->Prop}{v:α}{s:Qs}(h:R s):Oq R (some (v,s)):=fun _ _ e=>by cases e;exact h
theorem zr4 {α:Type}{R:Qs->Prop}{d:α × Qs}(h:R d.2):Oq R (some d):=fun _ _ e=>by cases e;exact h
theorem zb3 {α β:Type}{R R':Qs->Prop}{d:Option (α × Qs)}{k:α × Qs->Option (β × Qs)}(h:Oq R d)(hk:∀ v s,R s->Oq R' (k (v,s))):Oq R' (d.bind k):=by
 cases d with
 | none=>intro _ _ e;cases e
 | some r=>exact hk _ _ (h _ _ rfl)
theorem zb6 {α:Type}{R:Qs->Prop}{c:Prop} [Decidable c] {a b:Option (α × Qs)}(h:Oq R a)(h':Oq R b):Oq R (if c then a else b):=by
 split
 ·exact h
 ·exact h'
theorem zds {α:Type}{R R':Qs->Prop}{d:Option (α × Qs)}(h:Oq R d)(hR:∀ s,R s->R' s):Oq R' d:=fun v s e=>hR _ (h v s e)
theorem zj9 {α:Type}{R:Qs->Prop}{c:Prop} [Decidable c] {a b:α × Qs}(h:R a.2)(h':R b.2):R (if c then a else b).2:=by
 split
 ·exact h
 ·exact h'
theorem zk0 (k:Int)(w:ByteArray)(q:Qs):LtQ q (worD ts k w q).2:=(zal _ _).trans (zal _ _).le
theorem zne (q:Qs):LtQ q (litD ts q).2:=by
 unfold litD;exact zj9 (zal _ _) (zj9 (zal _ _) (zj9 (zal _ _) (zal _ _)))
theorem zr5 (q:Qs):LtQ q (valD ts q).2:=by
 unfold valD;exact zj9 ((zal _ _).trans ((zlr _ _).trans (zne _).le)) (zne _)
theorem zk1 (q:Qs):LtQ q (kinD ts q).2:=by
 unfold kinD;refine zj9 (zal _ _) ?_;show LtQ q (if _ then _ else _:Qv × Qs).2;exact zj9 ((zal _ _).trans ((zal _ _).trans (zal _ _).le).le) (zal _ _)
theorem zjh (k:Int)(q:Qs):LtQ q (tydD ts k q).2:=(zal _ _).trans (zk1 _).le
theorem zr6 (q:Qs):LtQ q (impD ts q).2:=(zal _ _).trans (zal _ _).le
theorem zr7 (q:Qs):LtQ q (conD ts q).2:=(zk0 _ _ _).trans ((zal _ _).trans (zr5 _).le).le
theorem zr8 (q:Qs):LeQ q (recD ts q).2:=by
 unfold recD;exact zj9 (((zal _ _).trans ((zal _ _).trans ((zal _ _).trans (zal _ _).le).le).le).le) (LeQ.rfl q)
structure Lst (d:Dns):Prop where
 row:∀ k q,Oq (LtQ q) (d.row k q)
 rowL:∀ k v q,Oq (LeQ q) (d.rowL k v q)
 una:∀ q,Oq (LtQ q) (d.una q)
 post:∀ q,Oq (LtQ q) (d.post q)
 posL:∀ v q,Oq (LeQ q) (d.posL v q)
 prim:∀ q,Oq (LtQ q) (d.prim q)
 argL:∀ l q,Oq (LeQ q) (d.argL l q)
 parL:∀ l q,Oq (LeQ q) (d.parL l q)
 fieL:∀ l q,Oq (LeQ q) (d.fieL l q)
 stmt:∀ q,Oq (LtQ q) (d.stmt q)
 bran:∀ q,Oq (LtQ q) (d.bran q)
 stmL:∀ l q,Oq (LeQ q) (d.stmL l q)
 impL:∀ l q,Oq (LeQ q) (d.impL l q)
 decL:∀ l q,Oq (LeQ q) (d.decL l q)
section
variable {d:Dns}(h:Lst d)
include h
theorem zhv (q:Qs):Oq (LtQ q) (bloD ts d q):=by
 unfold bloD tak;exact zb3 (h.stmL _ _) fun v s hs=>zbm ((zal _ _).trans (hs.trans (zal _ _).le))
theorem zp9 (q:Qs):Oq (LtQ q) (varD ts d q):=by
 unfold varD tak
 dsimp only
 exact zb6 (zb3 (h.row _ _) fun v s hs=>zbm ((zk0 _ _ _).trans ((zk1 _).trans ((zal _ _).trans hs.le).le).le)) (zbm ((zk0 _ _ _).trans (zk1 _).le))
theorem zr9 (q:Qs):Oq (LtQ q) (looD ts d q):=by
 unfold looD;unfold tak;exact zb3 (h.row _ _) fun v s hs=>zb3 (zhv h _) fun u s' hs'=>zbm ((zal _ _).trans (hs.trans hs'.le).le)
theorem zsa (q:Qs):Oq (LtQ q) (resD ts d q):=by
 unfold resD tak;exact zb6 (zb3 (h.row _ _) fun v s hs=>zbm ((zal _ _).trans hs.le)) (zbm (zal _ _))
theorem zsb (q:Qs):Oq (LtQ q) (shoD ts d q):=by
 unfold shoD tak;exact zb3 (h.row _ _) fun v s hs=>zbm ((zal _ _).trans ((zal _ _).trans hs.le).le)
theorem zsc (q:Qs):Oq (LtQ q) (simD ts d q):=by
 unfold simD tak;exact zb3 (h.row _ _) fun v s hs=>zb6 (zb3 (h.row _ _) fun u s' hs'=>zbm (hs.trans ((zal _ _).trans hs'.le).le)) (zbm hs)
theorem zsd (q:Qs):Oq (LtQ q) (strD ts d q):=by
 unfold strD tak;exact zb3 (h.fieL _ _) fun v s hs=>zbm ((zk0 _ _ _).trans ((zal _ _).trans ((zal _ _).trans (hs.trans (zal _ _).le)).le).le)
theorem zse (q:Qs):Oq (LtQ q) (funD ts d q):=by
 unfold funD tak
 dsimp only
 refine zb3 (h.parL _ _) fun v s hs=>?_;have h1:LtQ q (takS ts ⟨#[41]⟩ s):=(zal _ _).trans ((zr8 _).trans ((zal _ _).trans ((zal _ _).trans (hs.trans (zal _ _).le)).le).le);exact zb6 (zb3 (zhv h _) fun u s' hs'=>zbm (h1.trans hs'.le)) (zb3 (zhv h _) fun u s' hs'=>zbm (h1.trans ((zk1 _).trans hs'.le).le))
theorem zqa (q:Qs):Oq (LtQ q) (decD ts d q):=by
 unfold decD;exact zb6 (zr4 (zr7 _)) (zb6 (zp9 h _) (zb6 (zsd h _) (zse h _)))
end
theorem lst (n:Nat):Lst (dns ts n):=by
 induction n with
 | zero=>constructor <;> (intros;intro _ _ e;cases e)
 | succ n ih=>
  constructor
  ·intro k q;exact zb6 (ih.una _) (zb3 (ih.row _ _) fun v s hs=>zds (ih.rowL _ _ _) fun s' hs'=>hs.trans hs')
  ·intro k v q;unfold dns
   dsimp only[tak]
   exact zb6 (zb3 (ih.row _ _) fun u s hs=>zb6 (zbm ((zal _ _).trans hs.le).le) (zds (ih.rowL _ _ _) fun s' hs'=>(((zal _ _).trans hs.le).trans hs').le)) (zbm (LeQ.rfl _))
  ·intro q;unfold dns
   dsimp only[tak]
   exact zb6 (zb3 (ih.una _) fun u s hs=>zbm ((zal _ _).trans hs.le)) (ih.post _)
  ·intro q;exact zb3 (ih.prim _) fun v s hs=>zds (ih.posL _ _) fun s' hs'=>hs.trans hs'
  ·intro v q;unfold dns
   dsimp only[tak]
   exact zb6 (zb6 (zds (ih.posL _ _) fun s hs=>((zal _ _).trans ((zal _ _).trans hs).le).le) (zb3 (ih.argL _ _) fun l s hs=>zds (ih.posL _ _) fun s' hs'=>((zal _ _).trans (hs.trans ((zal _ _).trans hs').le)).le)) (zbm (LeQ.rfl _))
  ·intro q;unfold dns
   dsimp only[tak]
   exact zb6 (zb3 (ih.row _ _) fun u s hs=>zbm ((zal _ _).trans (hs.trans (zal _ _).le).le)) (zb6 (zr4 (zne _)) (zbm (zal _ _)))
  ·intro l q;unfold dns
   dsimp only[tak]
   exact zb6 (zb3 (ih.row _ _) fun u s hs=>zb6 (zbm hs.le) (zds (ih.argL _ _) fun s' hs'=>(hs.trans ((zal _ _).trans ((zlr _ _).trans hs')).le).le)) (zbm (LeQ.rfl _))
  ·intro l q;unfold dns
   dsimp only[tak]
   exact zb6 (zb6 (zbm (zjh _ _).le) (zds (ih.parL _ _) fun s' hs'=>((zjh _ _).trans ((zal _ _).trans ((zlr _ _).trans hs')).le).le)) (zbm (LeQ.rfl _))
  ·intro l q;unfold dns
   dsimp only
   refine zb6 (zds (ih.fieL _ _) fun s' hs'=>((zjh (ts:=ts) 6 q).trans (LeQ.trans ?_ hs')).le) (zbm (LeQ.rfl _))
   split
   ·exact LeQ.rfl _
   ·exact(zal _ _).le
  ·intro q;exact zb6 (zhv ih _) (zb6 (zp9 ih _) (zb6 (ih.bran _) (zb6 (zr9 ih _) (zb6 (zsa ih _) (zb6 (zsb ih _) (zsc ih _))))))
  ·intro q;unfold dns
   dsimp only[tak]
   refine zb3 (ih.row _ _) fun e s hs=>zb3 (zhv ih _) fun b s2 hs2=>?_;have h1:LtQ q s2:=(zal _ _).trans (hs.trans hs2.le).le;exact zb6 (zb3 (R:=LtQ (takS ts ⟨#[101,108,115,101]⟩ s2)) (zb6 (ih.bran _) (zhv ih _)) fun c s3 hs3=>zbm (h1.trans ((zal _ _).trans hs3.le).le)) (zbm h1)
  ·intro l q;unfold dns
   dsimp only
   refine zb6 (zb3 (ih.stmt _) fun u s hs=>zds (ih.stmL _ _) fun s' hs'=>(hs.trans (LeQ.trans ?_ hs')).le) (zbm (LeQ.rfl _))
   dsimp only
   split
   ·exact LeQ.rfl _
   ·exact(zal _ _).le
  ·intro l q;unfold dns
   dsimp only
   exact zb6 (zds (ih.impL _ _) fun s' hs'=>((zr6 q).trans ((zal _ _).trans hs').le).le) (zbm (LeQ.rfl _))
  ·intro l q;unfold dns
   dsimp only
   exact zb6 (zb3 (zqa ih _) fun u s hs=>zds (ih.decL _ _) fun s' hs'=>(hs.trans ((zal _ _).trans hs').le).le) (zbm (LeQ.rfl _))
end
def muS (ts:List Tok) (s:Qs):Nat:=if s.bad then 0 else ts.length+1 - s.p
theorem zd3 {ts:List Tok}{q s:Qs}(hq:q.bad=false)(hp:q.p<=ts.length)(hs:s.p<=ts.length)(h:LtQ q s):muS ts s<muS ts q:=by
 unfold muS;rw[hq];rcases h.2 with h|⟨-,h⟩
 ·rw[h];simp;omega
 ·cases s.bad
  ·simp;omega
  ·simp;omega
section
variable {ts:List Tok}
theorem znf (m k:Nat)(q:Qs):(dns ts (m+1)).row k q=if k=6 then(dns ts m).una q else((dns ts m).row (k+1) q).bind fun v=>(dns ts m).rowL k v.1 v.2:=rfl
theorem zls (m k:Nat)(v:Qv)(q:Qs):(dns ts (m+1)).rowL k v q=if !q.bad && (((nxQ ts q.p).kind == 4) && (rowQ (nxQ ts q.p).text == k)) then
    ((dns ts m).row (k+1) (takS ts (nxQ ts q.p).text q)).bind fun u=>if k=3 then some ((⟨27,(nxQ ts q.p).text,0,(nxQ ts q.p).pos,v.bg,behI ts u.2.p,v.bg,[v.pt,u.1.pt]⟩:Qv),u.2) else(dns ts m).rowL k ⟨27,(nxQ ts q.p).text,0,(nxQ ts q.p).pos,v.bg,behI ts u.2.p,v.bg,[v.pt,u.1.pt]⟩ u.2
   else some (v,q):=rfl
theorem zji (m:Nat)(q:Qs):(dns ts (m+1)).una q=if !q.bad && (isQ ts q.p ⟨#[45]⟩ || isQ ts q.p ⟨#[33]⟩) then
    ((dns ts m).una (takS ts (nxQ ts q.p).text q)).bind fun u=>some ((⟨26,(nxQ ts q.p).text,0,(nxQ ts q.p).pos,(nxQ ts q.p).pos,behI ts u.2.p,(nxQ ts q.p).pos,[u.1.pt]⟩:Qv),u.2)
   else(dns ts m).post q:=rfl
theorem zhw (m:Nat)(q:Qs):(dns ts (m+1)).post q=((dns ts m).prim q).bind fun v=>(dns ts m).posL v.1 v.2:=rfl
theorem zhx (m:Nat)(v:Qv)(q:Qs):(dns ts (m+1)).posL v q=if !q.bad && (isQ ts q.p ⟨#[46]⟩ || isQ ts q.p ⟨#[40]⟩) then
    (if isQ ts q.p ⟨#[46]⟩ then(dns ts m).posL ⟨24,(takT ts ⟨#[110,97,109,101]⟩ (takS ts ⟨#[46]⟩ q)).text,0,(takT ts ⟨#[110,97,109,101]⟩ (takS ts ⟨#[46]⟩ q)).pos,v.bg,behI ts (takS ts ⟨#[110,97,109,101]⟩ (takS ts ⟨#[46]⟩ q)).p,v.bg,[v.pt]⟩ (takS ts ⟨#[110,97,109,101]⟩ (takS ts ⟨#[46]⟩ q))
    else((dns ts m).argL [v.pt] (takS ts ⟨#[40]⟩ q)).bind fun l=>(dns ts m).posL ⟨25,⟨#[]⟩,0,v.bg,v.bg,behI ts (takS ts ⟨#[41]⟩ l.2).p,v.bg,l.1⟩ (takS ts ⟨#[41]⟩ l.2))
   else some (v,q):=rfl
theorem zlt (m:Nat)(q:Qs):(dns ts (m+1)).prim q=if !q.bad && isQ ts q.p ⟨#[40]⟩ then
    ((dns ts m).row 1 (takS ts ⟨#[40]⟩ q)).bind fun v=>some ((⟨v.1.k,v.1.x,v.1.n,v.1.a,v.1.f,v.1.t,(nxQ ts q.p).pos,v.1.l⟩:Qv),takS ts ⟨#[41]⟩ v.2)
   else if (((nxQ ts q.p).kind == 2) || ((nxQ ts q.p).kind == 3)) || (isQ ts q.p ⟨#[116,114,117,101]⟩ || isQ ts q.p ⟨#[102,97,108,115,101]⟩) then some (litD ts q)
   else some ((⟨23,(nxQ ts q.p).text,0,(nxQ ts q.p).pos,(nxQ ts q.p).pos,behI ts (takS ts ⟨#[110,97,109,101]⟩ q).p,(nxQ ts q.p).pos,[]⟩:Qv),takS ts ⟨#[110,97,109,101]⟩ q):=rfl
theorem zhy (m:Nat)(l:List Pt)(q:Qs):(dns ts (m+1)).argL l q=if !q.bad && !isQ ts q.p ⟨#[41]⟩ then((dns ts m).row 1 q).bind fun u=>
    if isQ ts u.2.p ⟨#[41]⟩ then some (l++[u.1.pt],u.2) else(dns ts m).argL (l++[u.1.pt]) (wrQ (isQ ts (takS ts ⟨#[44]⟩ u.2).p ⟨#[41]⟩) (takS ts ⟨#[44]⟩ u.2))
   else some (l,q):=rfl
theorem zlu (m:Nat)(l:List Pt)(q:Qs):(dns ts (m+1)).parL l q=if !q.bad && !isQ ts q.p ⟨#[41]⟩ then
    (if isQ ts (tydD ts 9 q).2.p ⟨#[41]⟩ then some (l++[(tydD ts 9 q).1.pt],(tydD ts 9 q).2) else(dns ts m).parL (l++[(tydD ts 9 q).1.pt]) (wrQ (isQ ts (takS ts ⟨#[44]⟩ (tydD ts 9 q).2).p ⟨#[41]⟩) (takS ts ⟨#[44]⟩ (tydD ts 9 q).2)))
   else some (l,q):=rfl
theorem zlv (m:Nat)(l:List Pt)(q:Qs):(dns ts (m+1)).fieL l q=if !q.bad && !isQ ts q.p ⟨#[125]⟩ then
    (dns ts m).fieL (l++[(tydD ts 6 q).1.pt]) (if isQ ts (tydD ts 6 q).2.p ⟨#[125]⟩ then(tydD ts 6 q).2 else takS ts ⟨#[101,110,100]⟩ (tydD ts 6 q).2)
   else some (l,q):=rfl
theorem zlw (m:Nat)(l:List Pt)(q:Qs):(dns ts (m+1)).stmL l q=if !q.bad && !isQ ts q.p ⟨#[125]⟩ then((dns ts m).stmt q).bind fun u=>(dns ts m).stmL (l++[u.1.pt]) (if isQ ts u.2.p ⟨#[125]⟩ then u.2 else takS ts ⟨#[101,110,100]⟩ u.2) else some (l,q):=rfl
theorem zlx (m:Nat)(l:List Pt)(q:Qs):(dns ts (m+1)).impL l q=if !q.bad && isQ ts q.p ⟨#[105,109,112,111,114,116]⟩ then(dns ts m).impL (l++[(impD ts q).1.pt]) (takS ts ⟨#[101,110,100]⟩ (impD ts q).2) else some (l,q):=rfl
theorem zly (m:Nat)(l:List Pt)(q:Qs):(dns ts (m+1)).decL l q=if !q.bad && decide (q.p<ts.length) then(decD ts (dns ts m) q).bind fun u=>(dns ts m).decL (l++[u.1.pt]) (takS ts ⟨#[101,110,100]⟩ u.2) else some (l,q):=rfl
theorem zlz (m:Nat)(q:Qs):(dns ts (m+1)).stmt q=
   if isQ ts q.p ⟨#[123]⟩ then bloD ts (dns ts m) q else if isQ ts q.p ⟨#[118,97,114]⟩ then varD ts (dns ts m) q else if isQ ts q.p ⟨#[105,102]⟩ then(dns ts m).bran q
   else if isQ ts q.p ⟨#[102,111,114]⟩ then looD ts (dns ts m) q else if isQ ts q.p ⟨#[114,101,116,117,114,110]⟩ then resD ts (dns ts m) q
   else if (((nxQ ts q.p).kind == 1) && !kepB (nxQ ts q.p).text) && (decide (q.p+1<ts.length) && (((nxT ts (q.p+1)).kind == 4) && isT ts (q.p+1) [58,61])) then shoD ts (dns ts m) q else simD ts (dns ts m) q:=rfl
theorem zl0 (m:Nat)(q:Qs):(dns ts (m+1)).bran q=((dns ts m).row 1 (takS ts ⟨#[105,102]⟩ q)).bind fun e=>(bloD ts (dns ts m) e.2).bind fun b=>
   if isQ ts b.2.p ⟨#[101,108,115,101]⟩ then(if isQ ts (takS ts ⟨#[101,108,115,101]⟩ b.2).p ⟨#[105,102]⟩ then(dns ts m).bran (takS ts ⟨#[101,108,115,101]⟩ b.2) else bloD ts (dns ts m) (takS ts ⟨#[101,108,115,101]⟩ b.2)).bind fun c=>some ((⟨14,⟨#[]⟩,0,(takT ts ⟨#[105,102]⟩ q).pos,(takT ts ⟨#[105,102]⟩ q).pos,behI ts c.2.p,(takT ts ⟨#[105,102]⟩ q).pos,[e.1.pt,b.1.pt,c.1.pt]⟩:Qv),c.2)
   else some ((⟨14,⟨#[]⟩,0,(takT ts ⟨#[105,102]⟩ q).pos,(takT ts ⟨#[105,102]⟩ q).pos,behI ts b.2.p,(takT ts ⟨#[105,102]⟩ q).pos,[e.1.pt,b.1.pt]⟩:Qv),b.2):=rfl
end
end Go.Proofs.YtmclgbkijeidaaaGreatDoor
