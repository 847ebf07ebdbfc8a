import Derived.Test.YtabiangdmibocaaGreatDoorUnR
import Derived.Test.YtabiangdmibocaaGreatDoorUnG
namespace Go.Proofs.YtabiangdmibocaaGreatDoor
set_option maxRecDepth 100000
open Go.RowKit
inductive St:Pt->Prop
 | block {a f t:Int}{l:List Pt}:(∀ u ∈ l,St u)->St (.mk 13 ⟨#[]⟩ 0 a f t l)
 | loop {a f t a' f' t':Int}{c:Pt}{l:List Pt}:Ex c->(∀ u ∈ l,St u)->St (.mk 15 ⟨#[]⟩ 0 a f t [c,.mk 13 ⟨#[]⟩ 0 a' f' t' l])
 | if1 {a f t a' f' t':Int}{c:Pt}{l:List Pt}:Ex c->(∀ u ∈ l,St u)->St (.mk 14 ⟨#[]⟩ 0 a f t [c,.mk 13 ⟨#[]⟩ 0 a' f' t' l])
 | if2 {a f t a' f' t' a2 f2 t2:Int}{c:Pt}{l m:List Pt}:Ex c->(∀ u ∈ l,St u)->(∀ u ∈ m,St u)->St (.mk 14 ⟨#[]⟩ 0 a f t [c,.mk 13 ⟨#[]⟩ 0 a' f' t' l,.mk 13 ⟨#[]⟩ 0 a2 f2 t2 m])
 | if3 {a f t a' f' t':Int}{c d:Pt}{l:List Pt}:Ex c->(∀ u ∈ l,St u)->St d->(hdP d).1=14->St (.mk 14 ⟨#[]⟩ 0 a f t [c,.mk 13 ⟨#[]⟩ 0 a' f' t' l,d])
 | var1 {a f t:Int}{x:ByteArray}{v:Pt}:kepB x=false->Ty v->St (.mk 4 x 0 a f t [v])
 | var2 {a f t:Int}{x:ByteArray}{v d:Pt}:kepB x=false->Ty v->Ex d->St (.mk 4 x 0 a f t [v,d])
 | res0 {a f t:Int}:St (.mk 16 ⟨#[]⟩ 0 a f t [])
 | res1 {a f t:Int}{e:Pt}:Ex e->St (.mk 16 ⟨#[]⟩ 0 a f t [e])
 | short {a f t:Int}{x:ByteArray}{e:Pt}:kepB x=false->plF x->Ex e->St (.mk 17 x 0 a f t [e])
 | assign {a f t:Int}{e d:Pt}:Ex e->Ex d->St (.mk 18 ⟨#[]⟩ 0 a f t [e,d])
 | expr {a f t:Int}{e:Pt}:Ex e->St (.mk 19 ⟨#[]⟩ 0 a f t [e])
def StI (e:Pt):Prop:=∀ (k:Int) (s:List UInt8) (r:List Tok),fol k s->∀ (ts:List Tok) (p:Nat),Hs ts p (wrP e++tkW k (strU s)::r)->isT ts p [125]=false∧∃ e',smP e e'∧Ev (fun m=>(fns ts m).stmt p) (.ok e' (p+(wrP e).length))
theorem ztc:∀ (l:List Pt),(∀ u ∈ l,StI u)->∀ (ts:List Tok)(p:Nat)(acc:List Pt),Hs ts p (wEnd (l.map wrP)++[sgT [125]]) ->
  ∃ l',smL l l'∧Ev (fun m=>(fns ts m).stmL acc p) (.ok (acc++l') (p+(wEnd (l.map wrP)).length))
 | [],_,ts,p,acc,hh=>by
  refine⟨[],zbw,zbn ?_⟩;have h0:Hs ts p (tkW 4 (strU [125])::[]):=by simpa[sgT,wEnd] using hh
  rw[List.append_nil];exact zbp h0.is (zap _)
 | u::r,hl,ts,p,acc,hh=>by
  have hw:wEnd ((u::r).map wrP)++[sgT [125]]=wrP u++(tkW 5 (strU [59])::(wEnd (r.map wrP)++[sgT [125]])):=by simp[wEnd,enT]
  rw[hw] at hh;have hc:=hh.right;have hk:(nxT ts (p+(wrP u).length)).kind=5:=hc.knd;obtain⟨h0,u',h1,h2⟩:=hl u (by simp) 5 [59] _ (.inl ⟨rfl,rfl⟩) ts p hh;obtain⟨l',h3,h4⟩:=ztc r (fun v hv=>hl v (by simp[hv])) ts (p+(wrP u).length+1) (acc++[u']) hc.tail;refine⟨u'::l',zbu h1 h3,zbn ?_⟩;refine zav (by rw[h0];simp) (zat h2 (zav (by rw[hc.not (by decide)];simp) ?_));unfold kinP;refine za5 (by rw[hk];rfl) ?_;have e3:p+(wEnd ((u::r).map wrP)).length=p+(wrP u).length+1+(wEnd (r.map wrP)).length:=by simp[wEnd];omega
  rw[e3,show acc++u'::l'=acc++[u']++l' by simp];exact h4
theorem zja {a f t:Int}{l:List Pt}(hl:∀ u ∈ l,StI u)(ts:List Tok)(p:Nat)(hh:Hs ts p (wBra (l.map wrP))):∃ e',smP (.mk 13 ⟨#[]⟩ 0 a f t l) e'∧Ev (fun m=>bloP ts (fns ts m) p) (.ok e' (p+(wBra (l.map wrP)).length)):=by
 have hw:wBra (l.map wrP)=tkW 4 (strU [123])::(wEnd (l.map wrP)++[sgT [125]]):=by simp[wBra,sgT]
 rw[hw] at hh ⊢;obtain⟨l',h1,h2⟩:=ztc l hl ts (p+1) [] hh.tail;have hz:Hs ts (p+1+(wEnd (l.map wrP)).length) (tkW 4 (strU [125])::[]):=hh.tail.right;refine⟨.mk 13 ⟨#[]⟩ 0 (herI ts p) (herI ts p) (behI ts (p+1+(wEnd (l.map wrP)).length+1)) l',zbk h1,?_⟩;rw[show p+(tkW 4 (strU [123])::(wEnd (l.map wrP)++[sgT [125]])).length=p+1+(wEnd (l.map wrP)).length+1 by simp;omega];unfold bloP linP expP;exact zat (za5 hh.is (zat h2 (za5 hz.is (zap _)))) (zap _)
theorem zh8 (a f t:Int)(l:List Pt):wrP (.mk 13 ⟨#[]⟩ 0 a f t l)=wBra (l.map wrP):=by simp[wrP,wrK,wrS,zcn]
theorem zjb (l:List Pt):wBra (l.map wrP)=tkW 4 (strU [123])::(wEnd (l.map wrP)++[sgT [125]]):=by simp[wBra,sgT]
theorem z0r (a f t:Int)(c b:Pt):wrP (.mk 15 ⟨#[]⟩ 0 a f t [c,b])=wdT [102,111,114]::(wrP c++wrP b):=by simp[wrP,wrK,wrS,zcn]
theorem zyl (a f t:Int)(c b:Pt):wrP (.mk 14 ⟨#[]⟩ 0 a f t [c,b])=wdT [105,102]::(wrP c++wrP b):=by simp[wrP,wrK,wrS,zcn,wIf]
theorem zop (a f t:Int)(c b d:Pt):wrP (.mk 14 ⟨#[]⟩ 0 a f t [c,b,d])=wdT [105,102]::(wrP c++(wrP b++wdT [101,108,115,101]::wrP d)):=by simp[wrP,wrK,wrS,zcn,wIf]
theorem z27 {a f t a' f' t':Int}{c:Pt}{l:List Pt}(hc:Ex c)(hl:∀ u ∈ l,StI u)(ts:List Tok)(p:Nat)(hh:Hs ts p (wdT [102,111,114]::(wrP c++wBra (l.map wrP)))) :
  ∃ e',smP (.mk 15 ⟨#[]⟩ 0 a f t [c,.mk 13 ⟨#[]⟩ 0 a' f' t' l]) e'∧Ev (fun m=>looP ts (fns ts m) p) (.ok e' (p+1+(wrP c).length+(wBra (l.map wrP)).length)):=by
 have ht:=hh.tail;obtain⟨c',h1,h2⟩:=zkj hc (s:=[123]) ⟨by decide,by decide,by decide⟩ ts (p+1) (by have:=ht;rw[zjb] at this;exact this);obtain⟨b',h3,h4⟩:=zja (a:=a') (f:=f') (t:=t') hl ts (p+1+(wrP c).length) ht.right;refine⟨.mk 15 ⟨#[]⟩ 0 (herI ts p) (herI ts p) (behI ts (p+1+(wrP c).length+(wBra (l.map wrP)).length)) [c',b'],zbk (zbu h1 (zcg h3)),?_⟩;unfold looP expP;exact za5 hh.is (zat h2 (zat h4 (zap _)))
theorem zwy {a f t a' f' t':Int}{c:Pt}{l:List Pt}(hc:Ex c)(hl:∀ u ∈ l,StI u){k:Int}{s:List UInt8}{r:List Tok}(hf:fol k s)(ts:List Tok)(p:Nat)(hh:Hs ts p (wdT [105,102]::(wrP c++(wBra (l.map wrP)++tkW k (strU s)::r)))) :
  ∃ e',smP (.mk 14 ⟨#[]⟩ 0 a f t [c,.mk 13 ⟨#[]⟩ 0 a' f' t' l]) e'∧Ev (fun m=>(fns ts m).bran p) (.ok e' (p+1+(wrP c).length+(wBra (l.map wrP)).length)):=by
 have ht:=hh.tail;obtain⟨c',h1,h2⟩:=zkj hc (s:=[123]) ⟨by decide,by decide,by decide⟩ ts (p+1) (by have:=ht;rw[zjb,List.cons_append] at this;exact this);obtain⟨b',h3,h4⟩:=zja (a:=a') (f:=f') (t:=t') hl ts (p+1+(wrP c).length) ht.right.left;have hz:=ht.right.right;refine⟨.mk 14 ⟨#[]⟩ 0 (herI ts p) (herI ts p) (behI ts (p+1+(wrP c).length+(wBra (l.map wrP)).length)) [c',b'],zbk (zbu h1 (zcg h3)),zbn ?_⟩;show Ev (fun m=>expP ts [105,102] p fun q=>((fns ts m).bin 0 q).bind fun x q=>(bloP ts (fns ts m) q).bind fun b q=>
    if isT ts q [101,108,115,101] then
     (if isT ts (q+1) [105,102] then(fns ts m).bran (q+1) else bloP ts (fns ts m) (q+1)).bind fun c q=>Rs.ok (Pt.mk 14 ⟨#[]⟩ 0 (herI ts p) (herI ts p) (behI ts q) [x,b,c]) q
    else Rs.ok (Pt.mk 14 ⟨#[]⟩ 0 (herI ts p) (herI ts p) (behI ts q) [x,b]) q) _
 unfold expP;refine za5 hh.is (zat h2 (zat h4 (zav ?_ (zap _))));rw[show isT ts (p+1+(wrP c).length+(wBra (l.map wrP)).length) [101,108,115,101]=false by rcases hf with⟨rfl,rfl⟩ | ⟨rfl,rfl⟩ <;> exact hz.not (by decide)];simp
theorem zoq {a f t a' f' t':Int}{c d:Pt}{l:List Pt}(hc:Ex c)(hl:∀ u ∈ l,StI u)(ts:List Tok)(p:Nat)(r:List Tok)(hh:Hs ts p (wdT [105,102]::(wrP c++(wBra (l.map wrP)++wdT [101,108,115,101]::r))))
  (q:Nat) (hd:∃ d',smP d d'∧Ev (fun m=>if isT ts (p+1+(wrP c).length+(wBra (l.map wrP)).length+1) [105,102] then(fns ts m).bran (p+1+(wrP c).length+(wBra (l.map wrP)).length+1) else bloP ts (fns ts m) (p+1+(wrP c).length+(wBra (l.map wrP)).length+1)) (.ok d' q)) :
  ∃ e',smP (.mk 14 ⟨#[]⟩ 0 a f t [c,.mk 13 ⟨#[]⟩ 0 a' f' t' l,d]) e'∧Ev (fun m=>(fns ts m).bran p) (.ok e' q):=by
 have ht:=hh.tail;obtain⟨c',h1,h2⟩:=zkj hc (s:=[123]) ⟨by decide,by decide,by decide⟩ ts (p+1) (by have:=ht;rw[zjb,List.cons_append] at this;exact this);obtain⟨b',h3,h4⟩:=zja (a:=a') (f:=f') (t:=t') hl ts (p+1+(wrP c).length) ht.right.left;have hz:=ht.right.right;obtain⟨d',h5,h6⟩:=hd;refine⟨.mk 14 ⟨#[]⟩ 0 (herI ts p) (herI ts p) (behI ts q) [c',b',d'],zbk (zbu h1 (zbu h3 (zcg h5))),zbn ?_⟩;show Ev (fun m=>expP ts [105,102] p fun q=>((fns ts m).bin 0 q).bind fun x q=>(bloP ts (fns ts m) q).bind fun b q=>
    if isT ts q [101,108,115,101] then
     (if isT ts (q+1) [105,102] then(fns ts m).bran (q+1) else bloP ts (fns ts m) (q+1)).bind fun c q=>Rs.ok (Pt.mk 14 ⟨#[]⟩ 0 (herI ts p) (herI ts p) (behI ts q) [x,b,c]) q
    else Rs.ok (Pt.mk 14 ⟨#[]⟩ 0 (herI ts p) (herI ts p) (behI ts q) [x,b]) q) _
 unfold expP;exact za5 hh.is (zat h2 (zat h4 (zbp hz.is (zat h6 (zap _)))))
theorem z29:∀ (m:Nat),∃ c r,Lib.decDigits m=c::r∧(48<=c∧c<=57):=by
 intro m
 induction m using Nat.strongRecOn with
 | _ m ih=>
  rw[Lib.decDigits]
  split
  ·rename_i h
   refine⟨_,[],rfl,?_⟩;have e:(UInt8.ofNat (48+m)).toNat=48+m:=by rw[UInt8.toNat_ofNat'];omega
   constructor
   ·rw[UInt8.le_iff_toNat_le,e];show 48<=48+m;omega
   ·rw[UInt8.le_iff_toNat_le,e];show 48+m<=57;omega
  ·rename_i h
   obtain⟨c,r,e,h1⟩:=ih (m / 10) (by omega);exact⟨c,_,by rw[e];rfl,h1⟩
theorem zwz {n:Int}(h:plF ⟨(Lib.itoa n).toArray⟩):∃ c r,Lib.itoa n=c::r∧(48<=c∧c<=57):=by
 unfold Lib.itoa at h ⊢
 split
 ·rename_i hn
  rw[if_pos hn] at h;obtain⟨c,r,e,hc⟩:=h;have e2:(45:UInt8)::Lib.decDigits n.natAbs=c::r:=by simpa using e
  injection e2 with e3 _;rw[<-e3] at hc;exact absurd hc (by decide)
 ·exact z29 _
theorem zor:∀ (L acc Q:List UInt8),quoG acc L=some Q->∃ r,Q=acc++r
 | [],acc,Q,h=>by
  rw[quoG] at h;injection h with h;exact⟨[34],h.symm⟩
 | c::L,acc,Q,h=>by
  rw[quoG] at h
  split at h
  ·cases h
  ·rename_i x hx
   obtain⟨r,e⟩:=zor L _ Q h;exact⟨x++r,by rw[e,List.append_assoc]⟩
theorem z0s {x:ByteArray}(h:plF (quoT x)):∃ r,(quoT x).data.toList=34::r:=by
 unfold quoT at h ⊢
 split
 ·rename_i q hq
  unfold quoO at hq;obtain⟨r,e⟩:=zor _ _ _ hq;exact⟨r,by rw[e];simp[strU]⟩
 ·rename_i hq
  rw[hq] at h;obtain⟨c,r,e,-⟩:=h;simp at e
theorem ztd {x:ByteArray}{c:UInt8}{r:List UInt8}(h:x.data.toList=c::r)(hc:c<97):kepB x=false:=by
 have hne:∀ d:UInt8,97<=d->∀ u:List UInt8,((c::r) == (d::u))=false:=fun d hd u=>by
  rw[Bool.eq_false_iff];intro e;have e2:c::r=d::u:=eq_of_beq e;injection e2 with e3 _;subst e3;exact absurd hc (by simpa[UInt8.not_lt] using hd)
 unfold kepB;rw[h];simp only[hne 112 (by decide),hne 105 (by decide),hne 99 (by decide),hne 118 (by decide),hne 116 (by decide),hne 115 (by decide),hne 102 (by decide),hne 101 (by decide),hne 114 (by decide),hne 98 (by decide),Bool.or_self]
theorem zte {x:ByteArray}(h:kepB x=false):(x.data.toList == [118,97,114])=false∧(x.data.toList == [105,102])=false∧(x.data.toList == [102,111,114])=false∧(x.data.toList == [114,101,116,117,114,110])=false:=by
 unfold kepB at h;simp only[Bool.or_eq_false_iff] at h;obtain⟨⟨⟨⟨⟨⟨⟨⟨⟨⟨⟨⟨⟨⟨⟨-,-⟩,-⟩,h4⟩,-⟩,-⟩,-⟩,h8⟩,-⟩,h10⟩,h11⟩,-⟩,-⟩,-⟩,-⟩,-⟩:=h;exact⟨h4,h8,h10,h11⟩
structure plSt (a:Tok):Prop where
 b:(a.text.data.toList == [123])=false
 c:(a.text.data.toList == [125])=false
 v:(a.text.data.toList == [118,97,114])=false
 i:(a.text.data.toList == [105,102])=false
 f:(a.text.data.toList == [102,111,114])=false
 r:(a.text.data.toList == [114,101,116,117,114,110])=false
theorem zkk {k:Int}{x:ByteArray}(hp:plF x)(hk:kepB x=false):plSt (tkW k x):=by
 obtain⟨h1,h2,h3,h4⟩:=zte hk;exact⟨zgc hp (by decide),zgc hp (by decide),h1,h2,h3,h4⟩
theorem ztf {k:Int}{s:List UInt8}(h1:(s == [123])=false)(h2:(s == [125])=false)(h3:(s == [118,97,114])=false)(h4:(s == [105,102])=false)(h5:(s == [102,111,114])=false)(h6:(s == [114,101,116,117,114,110])=false):plSt (tkW k (strU s)):=by
 exact⟨by simpa[tkW,strU] using h1,by simpa[tkW,strU] using h2,by simpa[tkW,strU] using h3,by simpa[tkW,strU] using h4,by simpa[tkW,strU] using h5,by simpa[tkW,strU] using h6⟩
theorem zmz {k:Int}{x:ByteArray}{u:Pt}{i:Nat}(h:∃ a r,wrP u=a::r∧plSt a):∃ a r,opeT k x u i=a::r∧plSt a:=by
 unfold opeT
 split
 ·exact⟨sgT [40],wrP u++[sgT [41]],by simp[wBrk,wPar],ztf (by decide) (by decide) (by decide) (by decide) (by decide) (by decide)⟩
 ·exact h
theorem zym {e:Pt}(h:Ex e):∃ a r,wrP e=a::r∧plSt a:=by
 induction h with
 | @int n a f t hn hp=>
  obtain⟨c,r,e1,h1,h2⟩:=zwz hp;refine⟨_,_,zh4 _ _ _ _ _,zkk hp (ztd (c:=c) (r:=r) (by simpa using e1) ?_)⟩;exact Nat.lt_of_le_of_lt (UInt8.le_iff_toNat_le.1 h2) (by decide)
 | @text x a f t hx hp=>
  obtain⟨r,e1⟩:=z0s hp;exact⟨_,_,zh5 _ _ _ _ _,zkk hp (ztd e1 (by decide))⟩
 | bool hx=>
  refine⟨_,_,zh6 _ _ _ _ _,?_⟩;rcases hx with rfl|rfl <;> exact ztf (by decide) (by decide) (by decide) (by decide) (by decide) (by decide)
 | name hk hp=>exact⟨_,_,zkg _ _ _ _ _,zkk hp hk⟩
 | dot _ _ _ ih=>
  obtain⟨a,r,e1,e2⟩:=zmz ih;exact⟨a,r++_,by rw[zok,e1];rfl,e2⟩
 | call _ _ ih _=>
  obtain⟨a,r,e1,e2⟩:=zmz ih;exact⟨a,r++_,by rw[zkh,e1];rfl,e2⟩
 | una hx _ _=>
  refine⟨_,_,zol _ _ _ _ _ _,?_⟩;rcases hx with rfl|rfl <;> exact ztf (by decide) (by decide) (by decide) (by decide) (by decide) (by decide)
 | bin _ _ _ ih _=>
  obtain⟨a,r,e1,e2⟩:=zmz ih;exact⟨a,r++_,by rw[zom,e1];rfl,e2⟩
theorem ztg (a f t:Int)(x:ByteArray)(v:Pt):wrP (.mk 4 x 0 a f t [v])=wdT [118,97,114]::tkW 1 x::wrP v:=by simp[wrP,wrK,zcn,wPar]
theorem zth (a f t:Int)(x:ByteArray)(v d:Pt):wrP (.mk 4 x 0 a f t [v,d])=wdT [118,97,114]::tkW 1 x::(wrP v++tkW 4 (strU [61])::wrP d):=by simp[wrP,wrK,zcn,wPar,sgT]
theorem z0t (a f t:Int):wrP (.mk 16 ⟨#[]⟩ 0 a f t [])=[wdT [114,101,116,117,114,110]]:=by simp[wrP,wrK,wrS,zcn]
theorem z0u (a f t:Int)(e:Pt):wrP (.mk 16 ⟨#[]⟩ 0 a f t [e])=wdT [114,101,116,117,114,110]::wrP e:=by simp[wrP,wrK,wrS,zcn]
theorem zw0 (a f t:Int)(x:ByteArray)(e:Pt):wrP (.mk 17 x 0 a f t [e])=tkW 1 x::tkW 4 (strU [58,61])::wrP e:=by simp[wrP,wrK,wrS,zcn,sgT]
theorem zti (a f t:Int)(e d:Pt):wrP (.mk 18 ⟨#[]⟩ 0 a f t [e,d])=wrP e++tkW 4 (strU [61])::wrP d:=by simp[wrP,wrK,wrS,zcn,wPar,sgT]
theorem z0v (a f t:Int)(e:Pt):wrP (.mk 19 ⟨#[]⟩ 0 a f t [e])=wrP e:=by simp[wrP,wrK,wrS,zcn]
def BrI (e:Pt):Prop:=∀ (k:Int) (s:List UInt8) (r:List Tok),fol k s->∀ (ts:List Tok) (p:Nat),Hs ts p (wrP e++tkW k (strU s)::r)->isT ts p [105,102]=true∧∃ e',smP e e'∧Ev (fun m=>(fns ts m).bran p) (.ok e' (p+(wrP e).length))
theorem ze9 {ts:List Tok}{p:Nat}{r:Rs Pt}(h:Ev (fun n=>
   if isT ts p [123] then bloP ts (fns ts n) p else if isT ts p [118,97,114] then varP ts (fns ts n) p else if isT ts p [105,102] then(fns ts n).bran p
   else if isT ts p [102,111,114] then looP ts (fns ts n) p else if isT ts p [114,101,116,117,114,110] then resP ts (fns ts n) p
   else if namB ts p && isT ts (p+1) [58,61] then shoP ts (fns ts n) p else simP ts (fns ts n) p) r):Ev (fun m=>(fns ts m).stmt p) r:=zbn h
theorem bf {b:Bool}(h:b=false):¬ b=true:=by rw[h];simp
theorem zkl {e:Pt}(h:BrI e)(hw:∃ r,wrP e=wdT [105,102]::r):StI e:=by
 intro k s r hf ts p hh;obtain⟨q,hq⟩:=hw;have h0:Hs ts p (wdT [105,102]::(q++tkW k (strU s)::r)):=by have:=hh;rw[hq] at this;exact this
 obtain⟨h1,e',h2,h3⟩:=h k s r hf ts p hh;exact⟨h0.not (by decide),e',h2,ze9 (zav (bf (h0.not (by decide))) (zav (bf (h0.not (by decide))) (zbp h1 h3)))⟩
theorem zh9 {e:Pt}{a:Tok}{q:List Tok}(ha:plSt a){ts:List Tok}{p:Nat}{e':Pt}{n:Nat}(hh:Hs ts p (a::q))(h2:smP e e')
  (h:Ev (fun n=>if namB ts p && isT ts (p+1) [58,61] then shoP ts (fns ts n) p else simP ts (fns ts n) p) (.ok e' n)):isT ts p [125]=false∧∃ e',smP e e'∧Ev (fun m=>(fns ts m).stmt p) (.ok e' n):=by
 refine⟨hh.notT ha.c,e',h2,ze9 (zav (bf (hh.notT ha.b)) (zav (bf (hh.notT ha.v)) (zav (bf (hh.notT ha.i)) (zav (bf (hh.notT ha.f)) (zav (bf (hh.notT ha.r)) h)))))⟩
theorem z0w {u:Pt}(h:St u):StI u∧((hdP u).1=14->BrI u):=by
 induction h with
 | @block a f t l hl ih=>
  refine⟨fun k s r hf ts p hh=>?_,fun h=>by simp[hdP] at h⟩;rw[zh8] at hh ⊢;obtain⟨e',h1,h2⟩:=zja (a:=a) (f:=f) (t:=t) (fun u hu=>(ih u hu).1) ts p hh.left;have h0:Hs ts p (tkW 4 (strU [123])::(wEnd (l.map wrP)++[sgT [125]])):=by have:=hh.left;rw[zjb] at this;exact this
  exact⟨h0.not (by decide),e',h1,ze9 (zbp h0.is h2)⟩
 | @loop a f t a' f' t' c l hc hl ih=>
  refine⟨fun k s r hf ts p hh=>?_,fun h=>by simp[hdP] at h⟩;rw[z0r,zh8] at hh ⊢;obtain⟨e',h1,h2⟩:=z27 (a:=a) (f:=f) (t:=t) (a':=a') (f':=f') (t':=t') hc (fun u hu=>(ih u hu).1) ts p hh.left;have h0:Hs ts p (wdT [102,111,114]::(wrP c++wBra (l.map wrP))):=hh.left;refine⟨h0.not (by decide),e',h1,ze9 (zav (bf (h0.not (by decide))) (zav (bf (h0.not (by decide))) (zav (bf (h0.not (by decide))) (zbp h0.is ?_))))⟩;rw[show p+(wdT [102,111,114]::(wrP c++wBra (l.map wrP))).length=p+1+(wrP c).length+(wBra (l.map wrP)).length by simp;omega];exact h2
 | @if1 a f t a' f' t' c l hc hl ih=>
  have hb:BrI (.mk 14 ⟨#[]⟩ 0 a f t [c,.mk 13 ⟨#[]⟩ 0 a' f' t' l]):=fun k s r hf ts p hh=>by
   rw[zyl,zh8] at hh ⊢;have h0:Hs ts p (wdT [105,102]::(wrP c++(wBra (l.map wrP)++tkW k (strU s)::r))):=by simpa using hh
   obtain⟨e',h1,h2⟩:=zwy (a:=a) (f:=f) (t:=t) (a':=a') (f':=f') (t':=t') hc (fun u hu=>(ih u hu).1) hf ts p h0;refine⟨h0.is,e',h1,?_⟩;rw[show p+(wdT [105,102]::(wrP c++wBra (l.map wrP))).length=p+1+(wrP c).length+(wBra (l.map wrP)).length by simp;omega];exact h2
  exact⟨zkl hb ⟨_,zyl _ _ _ _ _⟩,fun _=>hb⟩
 | @if2 a f t a' f' t' a2 f2 t2 c l m hc hl hm ih im=>
  have hb:BrI (.mk 14 ⟨#[]⟩ 0 a f t [c,.mk 13 ⟨#[]⟩ 0 a' f' t' l,.mk 13 ⟨#[]⟩ 0 a2 f2 t2 m]):=fun k s r hf ts p hh=>by
   rw[zop,zh8,zh8] at hh ⊢;have h0:Hs ts p (wdT [105,102]::(wrP c++(wBra (l.map wrP)++wdT [101,108,115,101]::(wBra (m.map wrP)++tkW k (strU s)::r)))):=by simpa using hh
   have hz:Hs ts (p+1+(wrP c).length+(wBra (l.map wrP)).length+1) (wBra (m.map wrP)++tkW k (strU s)::r):=h0.tail.right.right.tail;have hz2:Hs ts (p+1+(wrP c).length+(wBra (l.map wrP)).length+1) (tkW 4 (strU [123])::(wEnd (m.map wrP)++[sgT [125]])):=by have:=hz.left;rw[zjb] at this;exact this
   obtain⟨d',h3,h4⟩:=zja (a:=a2) (f:=f2) (t:=t2) (fun u hu=>(im u hu).1) ts _ hz.left;obtain⟨e',h1,h2⟩:=zoq (a:=a) (f:=f) (t:=t) (a':=a') (f':=f') (t':=t') hc (fun u hu=>(ih u hu).1) ts p _ h0 _ ⟨d',h3,zav (bf (hz2.not (by decide))) h4⟩;refine⟨h0.is,e',h1,?_⟩;rw[show p+(wdT [105,102]::(wrP c++(wBra (l.map wrP)++wdT [101,108,115,101]::wBra (m.map wrP)))).length=p+1+(wrP c).length+(wBra (l.map wrP)).length+1+(wBra (m.map wrP)).length by simp;omega];exact h2
  exact⟨zkl hb ⟨_,zop _ _ _ _ _ _⟩,fun _=>hb⟩
 | @if3 a f t a' f' t' c d l hc hl hd h14 ih id=>
  have hb:BrI (.mk 14 ⟨#[]⟩ 0 a f t [c,.mk 13 ⟨#[]⟩ 0 a' f' t' l,d]):=fun k s r hf ts p hh=>by
   rw[zop,zh8] at hh ⊢;have h0:Hs ts p (wdT [105,102]::(wrP c++(wBra (l.map wrP)++wdT [101,108,115,101]::(wrP d++tkW k (strU s)::r)))):=by simpa using hh
   have hz:Hs ts (p+1+(wrP c).length+(wBra (l.map wrP)).length+1) (wrP d++tkW k (strU s)::r):=h0.tail.right.right.tail;obtain⟨g1,d',h3,h4⟩:=id.2 h14 k s r hf ts _ hz;obtain⟨e',h1,h2⟩:=zoq (a:=a) (f:=f) (t:=t) (a':=a') (f':=f') (t':=t') hc (fun u hu=>(ih u hu).1) ts p _ h0 _ ⟨d',h3,zbp g1 h4⟩;refine⟨h0.is,e',h1,?_⟩;rw[show p+(wdT [105,102]::(wrP c++(wBra (l.map wrP)++wdT [101,108,115,101]::wrP d))).length=p+1+(wrP c).length+(wBra (l.map wrP)).length+1+(wrP d).length by simp;omega];exact h2
  exact⟨zkl hb ⟨_,zop _ _ _ _ _ _⟩,fun _=>hb⟩
 | @var1 a f t x v hx hv=>
  refine⟨fun k s r hf ts p hh=>?_,fun h=>by simp[hdP] at h⟩;rw[ztg] at hh ⊢;have h0:Hs ts p (wdT [118,97,114]::tkW 1 x::(wrP v++tkW k (strU s)::r)):=hh;obtain⟨e',h1,h2⟩:=zta (a:=a) (f:=f) (t:=t) hx hv hf ts p h0;refine⟨h0.not (by decide),e',h1,ze9 (zav (bf (h0.not (by decide))) (zbp h0.is ?_))⟩;rw[show p+(wdT [118,97,114]::tkW 1 x::wrP v).length=p+1+1+(wrP v).length by simp;omega];exact h2
 | @var2 a f t x v d hx hv hd=>
  refine⟨fun k s r hf ts p hh=>?_,fun h=>by simp[hdP] at h⟩;rw[zth] at hh ⊢;have h0:Hs ts p (wdT [118,97,114]::tkW 1 x::(wrP v++tkW 4 (strU [61])::(wrP d++tkW k (strU s)::r))):=by simpa using hh
  obtain⟨e',h1,h2⟩:=ztb (a:=a) (f:=f) (t:=t) hx hv hd hf ts p h0;refine⟨h0.not (by decide),e',h1,ze9 (zav (bf (h0.not (by decide))) (zbp h0.is ?_))⟩;rw[show p+(wdT [118,97,114]::tkW 1 x::(wrP v++tkW 4 (strU [61])::wrP d)).length=p+1+1+(wrP v).length+1+(wrP d).length by simp;omega];exact h2
 | @res0 a f t=>
  refine⟨fun k s r hf ts p hh=>?_,fun h=>by simp[hdP] at h⟩;rw[z0t] at hh ⊢;have h0:Hs ts p (wdT [114,101,116,117,114,110]::tkW k (strU s)::r):=hh;obtain⟨e',h1,h2⟩:=zwx (a:=a) (f:=f) (t:=t) hf ts p h0;exact⟨h0.not (by decide),e',h1,ze9 (zav (bf (h0.not (by decide))) (zav (bf (h0.not (by decide))) (zav (bf (h0.not (by decide))) (zav (bf (h0.not (by decide))) (zbp h0.is h2)))))⟩
 | @res1 a f t e he=>
  refine⟨fun k s r hf ts p hh=>?_,fun h=>by simp[hdP] at h⟩;rw[z0u] at hh ⊢;have h0:Hs ts p (wdT [114,101,116,117,114,110]::(wrP e++tkW k (strU s)::r)):=hh;obtain⟨e',h1,h2⟩:=z0q (a:=a) (f:=f) (t:=t) he hf ts p h0;refine⟨h0.not (by decide),e',h1,ze9 (zav (bf (h0.not (by decide))) (zav (bf (h0.not (by decide))) (zav (bf (h0.not (by decide))) (zav (bf (h0.not (by decide))) (zbp h0.is ?_)))))⟩;rw[show p+(wdT [114,101,116,117,114,110]::wrP e).length=p+1+(wrP e).length by simp;omega];exact h2
 | @short a f t x e hx hp he=>
  refine⟨fun k s r hf ts p hh=>?_,fun h=>by simp[hdP] at h⟩;rw[zw0] at hh ⊢;have h0:Hs ts p (tkW 1 x::tkW 4 (strU [58,61])::(wrP e++tkW k (strU s)::r)):=hh;obtain⟨e',h1,h2⟩:=z0p (a:=a) (f:=f) (t:=t) hx he hf ts p h0;refine zh9 (zkk hp hx) h0 h1 (zbp (by rw[zd9 h0 hx,h0.tail.is];rfl) ?_);rw[show p+(tkW 1 x::tkW 4 (strU [58,61])::wrP e).length=p+1+1+(wrP e).length by simp;omega];exact h2
 | @assign a f t e d he hd=>
  refine⟨fun k s r hf ts p hh=>?_,fun h=>by simp[hdP] at h⟩;rw[zti] at hh ⊢;have h0:Hs ts p (wrP e++tkW 4 (strU [61])::(wrP d++tkW k (strU s)::r)):=by simpa using hh
  obtain⟨e',h1,h2⟩:=z0o (a:=a) (f:=f) (t:=t) he hd hf ts p h0;obtain⟨b,q,hb,hpl⟩:=zym he;have h3:Hs ts p (b::(q++tkW 4 (strU [61])::(wrP d++tkW k (strU s)::r))):=by have:=h0;rw[hb] at this;exact this
  refine zh9 hpl h3 h1 (zav (by rw[zoo he (zi8 (by decide)) ts p h0];simp) ?_);rw[show p+(wrP e++tkW 4 (strU [61])::wrP d).length=p+(wrP e).length+1+(wrP d).length by simp;omega];exact h2
 | @expr a f t e he=>
  refine⟨fun k s r hf ts p hh=>?_,fun h=>by simp[hdP] at h⟩;rw[z0v] at hh ⊢;obtain⟨e',h1,h2⟩:=z0n (a:=a) (f:=f) (t:=t) he hf ts p hh;obtain⟨b,q,hb,hpl⟩:=zym he;have h3:Hs ts p (b::(q++tkW k (strU s)::r)):=by have:=hh;rw[hb] at this;exact this
  refine zh9 hpl h3 h1 (zav (by rw[zoo he (w:=tkW k (strU s)) (by rcases hf with⟨-,rfl⟩ | ⟨-,rfl⟩ <;> exact zi8 (by decide)) ts p hh];simp) h2)
theorem z5h {u:Pt}(h:St u):StI u:=(z0w h).1
structure Kn (ts us:List Tok) (K:Nat->Prop):Prop where
 down:∀ p q,p<=q->K q->K p
 nx:∀ p,K p->nxT ts p=nxT us p
 lt:∀ p,K p->(p<ts.length ↔ p<us.length)
def farR (ts:List Tok) (K:Nat->Prop) {α:Type}(r:Rs α):Prop:=match r with | .ok _ q=>¬ K q | .bad s=>∃ p,¬ K p∧s=herI ts p | .out=>True
def relR (ts:List Tok) (K:Nat->Prop) {α:Type}(r s:Rs α):Prop:=match r with | .ok v q=>K q->s=.ok v q | .bad x=>(∃ p,¬ K p∧x=herI ts p)∨s=.bad x | .out=>True
def qR (ts:List Tok) (K:Nat->Prop) (p:Nat) {α:Type}(r s:Rs α):Prop:=(K p->relR ts K r s)∧(¬ K p->farR ts K r)
section
variable {ts us:List Tok}{K:Nat->Prop}{α β:Type}
theorem zkm {r:Rs α}(s:Rs α)(h:farR ts K r):relR ts K r s:=by
 cases r with
 | ok v q=>exact fun hk=>(h hk).elim
 | bad x=>exact .inl h
 | out=>trivial
theorem zgd {r:Rs α}{f:α->Nat->Rs β}(h:farR ts K r)(hf:∀ v q,¬ K q->farR ts K (f v q)):farR ts K (r.bind f):=by
 cases r with
 | ok v q=>exact hf v q h
 | bad x=>exact h
 | out=>trivial
theorem zei (hK:Kn ts us K){p q:Nat}{r s:Rs α}(h:qR ts K q r s)(hp:p<=q):qR ts K p r s:=by
 refine⟨fun _=>?_,fun hn=>h.2 fun hk=>hn (hK.down p q hp hk)⟩
 by_cases hk:K q
 ·exact h.1 hk
 ·exact zkm s (h.2 hk)
theorem zbd {p:Nat}{r s:Rs α}{f g:α->Nat->Rs β}(h:qR ts K p r s)(hf:∀ v q,(K q->K p)->qR ts K q (f v q) (g v q)):qR ts K p (r.bind f) (s.bind g):=by
 constructor
 ·intro hp;have h1:=h.1 hp
  cases r with
  | ok v q=>
   have h2:=hf v q fun _=>hp
   by_cases hq:K q
   ·rw[h1 hq];exact h2.1 hq
   ·exact zkm _ (h2.2 hq)
  | bad x=>
   rcases h1 with h1|h1
   ·exact .inl h1
   ·rw[h1];exact .inr rfl
  | out=>trivial
 ·intro hp;have h1:=h.2 hp
  cases r with
  | ok v q=>exact(hf v q fun hq=>(h1 hq).elim).2 h1
  | bad x=>exact h1
  | out=>trivial
theorem q_ok {p q:Nat}{v v':α}(hq:K q->K p)(hv:K q->v=v'):qR ts K p (.ok v q) (.ok v' q) :=
 ⟨fun _ hk=>by rw[hv hk],fun hn hk=>hn (hq hk)⟩
theorem zce {p:Nat}{c c':Prop} [Decidable c] [Decidable c'] {a b a' b':Rs α}(hc:K p->(c ↔ c'))(h1:qR ts K p a a')(h2:qR ts K p b b'):qR ts K p (if c then a else b) (if c' then a' else b'):=by
 constructor
 ·intro hp
  by_cases h:c
  ·rw[if_pos h,if_pos ((hc hp).1 h)];exact h1.1 hp
  ·rw[if_neg h,if_neg fun h'=>h ((hc hp).2 h')];exact h2.1 hp
 ·intro hp
  by_cases h:c
  ·rw[if_pos h];exact h1.2 hp
  ·rw[if_neg h];exact h2.2 hp
theorem zfa {c:Prop} [Decidable c] {a b:Rs α}(h1:c->farR ts K a)(h2:¬ c->farR ts K b):farR ts K (if c then a else b):=by
 split
 ·rename_i h;exact h1 h
 ·rename_i h;exact h2 h
theorem Kn.he (hK:Kn ts us K){p:Nat}(h:K p):herI ts p=herI us p:=by
 unfold herI behI;have h1:=hK.lt p h;rw[<-hK.nx p h,<-hK.nx (p - 1) (hK.down _ _ (by omega) h)]
 by_cases hp:p<ts.length
 ·rw[if_pos hp,if_pos (h1.1 hp)]
 ·rw[if_neg hp,if_neg fun h'=>hp (h1.2 h')]
theorem Kn.be (hK:Kn ts us K){p:Nat}(h:K p):behI ts p=behI us p:=by
 unfold behI;rw[<-hK.nx (p - 1) (hK.down _ _ (by omega) h)]
theorem Kn.is (hK:Kn ts us K){p:Nat}(h:K p)(s:List UInt8):isT ts p s=isT us p s:=by unfold isT;rw[hK.nx p h]
theorem Kn.isi (hK:Kn ts us K)(p:Nat)(s:List UInt8):K p->(isT ts p s=true ↔ isT us p s=true):=fun h=>by rw[hK.is h]
theorem Kn.na (hK:Kn ts us K){p:Nat}(h:K p):namB ts p=namB us p:=by unfold namB;rw[hK.nx p h]
theorem Kn.one (hK:Kn ts us K){p:Nat}(h:K (p+1)):K p:=hK.down _ _ (by omega) h
theorem ztj (hK:Kn ts us K)(p:Nat):qR ts K p (.bad (herI ts p):Rs α) (.bad (herI us p)):=⟨fun h=>.inr (by rw[hK.he h]),fun h=>⟨p,h,rfl⟩⟩
theorem ztk (hK:Kn ts us K){p:Nat}{b b':Bool}{k k':Rs α}(hb:K p->b=b')(h:qR ts K (p+1) k k'):qR ts K p (Rs.need b (herI ts p) k) (Rs.need b' (herI us p) k'):=by
 unfold Rs.need;exact zce (fun hp=>by rw[hb hp]) (zei hK h (by omega)) (ztj hK p)
theorem zos (hK:Kn ts us K){p:Nat}{b:Bool}{k:Rs α}(hp:¬ K p)(hk:¬ K (p+1)->farR ts K k):farR ts K (Rs.need b (herI ts p) k):=by
 unfold Rs.need;exact zfa (fun _=>hk fun h=>hp (hK.one h)) fun _=>⟨p,hp,rfl⟩
theorem zel (hK:Kn ts us K){p:Nat}{s:List UInt8}{k k':Nat->Rs α}(h:(K (p+1)->K p)->qR ts K (p+1) (k (p+1)) (k' (p+1))):qR ts K p (expP ts s p k) (expP us s p k'):=ztk hK (fun hp=>hK.is hp s) (h hK.one)
theorem zqh (hK:Kn ts us K){p:Nat}{n:Int}{k k':Tok->Nat->Rs α}(h:(K (p+1)->K p)->qR ts K (p+1) (k (nxT ts p) (p+1)) (k' (nxT us p) (p+1))):qR ts K p (kinP ts n p k) (kinP us n p k'):=ztk hK (fun hp=>by rw[hK.nx p hp]) (h hK.one)
theorem zit (hK:Kn ts us K){p:Nat}{k k':Tok->Nat->Rs α}(h:(K (p+1)->K p)->qR ts K (p+1) (k (nxT ts p) (p+1)) (k' (nxT us p) (p+1))):qR ts K p (namP ts p k) (namP us p k'):=ztk hK (fun hp=>hK.na hp) (h hK.one)
theorem z5i {k n:Int}{x x':ByteArray}{a a' f f' t t':Int}{l l':List Pt}(h1:x=x')(h2:a=a')(h3:f=f')(h4:t=t')(h5:l=l'):Pt.mk k x n a f t l=.mk k x' n a' f' t' l':=by rw[h1,h2,h3,h4,h5]
theorem zw1 (hK:Kn ts us K)(k:Int)(p:Nat):qR ts K p (leaP ts k p) (leaP us k p) :=
 q_ok hK.one fun h=>z5i (by rw[hK.nx p (hK.one h)]) (by rw[hK.nx p (hK.one h)]) (hK.he (hK.one h)) (hK.be h) rfl
theorem z0x (hK:Kn ts us K)(k:Int)(p:Nat):qR ts K p (worP ts k p) (worP us k p):=by
 unfold worP Rs.need;exact zce (fun hp=>by rw[hK.na hp]) (zw1 hK k p) (ztj hK p)
theorem z0y (hK:Kn ts us K)(p:Nat):qR ts K p (va1P ts p) (va1P us p):=by
 unfold va1P;refine zce (fun hp=>by rw[hK.nx p hp]) (q_ok hK.one fun h=>?_) (zce (fun hp=>by rw[hK.nx p hp]) (q_ok hK.one fun h=>?_) (zce (fun hp=>by rw[hK.is hp,hK.is hp]) (zw1 hK _ _) (ztj hK p)))
 ·rw[hK.nx p (hK.one h),hK.he (hK.one h),hK.be h]
 ·rw[hK.nx p (hK.one h),hK.he (hK.one h),hK.be h]
theorem z5j (hK:Kn ts us K)(p:Nat):qR ts K p (valP ts p) (valP us p):=by
 unfold valP;refine zce (fun hp=>by rw[hK.is hp]) (zei hK (q:=p+1) (zce (fun hp=>by rw[hK.nx _ hp]) (zbd (z0y hK _) fun v q hq=>q_ok (fun h=>h) fun h=>?_) (ztj hK _)) (by omega)) (z0y hK p);have hp:=hK.one (hq h);rw[hK.nx p hp,hK.he hp,hK.be h]
theorem z0z (hK:Kn ts us K)(p:Nat):qR ts K p (typP ts p) (typP us p):=by
 unfold typP;refine zce (fun hp=>by rw[hK.is hp,hK.is hp,hK.is hp]) (zw1 hK _ _) ?_;have hfar:qR ts K p ((worP ts 23 p).bind fun v q=>expP ts [46] q fun q=>namP ts q fun t q=>Rs.ok (Pt.mk 12 t.text 0 t.pos (herI ts p) (behI ts q) [v]) q) ((worP us 23 p).bind fun v q=>expP us [46] q fun q=>namP us q fun t q=>Rs.ok (Pt.mk 12 t.text 0 t.pos (herI us p) (behI us q) [v]) q):=by
  refine zbd (z0x hK _ _) fun v q hq=>zel hK fun h1=>zit hK fun h2=>q_ok (fun h=>h) fun h=>?_;have hp:=hq (h1 (h2 h));rw[hK.nx _ (h2 h),hK.he hp,hK.be h]
 by_cases h1:K (p+1)
 ·exact zce (fun _=>by rw[hK.is h1]) hfar (z0x hK _ _)
 ·by_cases hn:namB ts p=true
  ·have f2:farR ts K (worP ts 11 p):=by unfold worP Rs.need;rw[if_pos hn];exact h1
   have f1:farR ts K ((worP ts 23 p).bind fun v q=>expP ts [46] q fun q=>namP ts q fun t q=>Rs.ok (Pt.mk 12 t.text 0 t.pos (herI ts p) (behI ts q) [v]) q):=by
    have e:worP ts 23 p=leaP ts 23 p:=by unfold worP Rs.need;rw[if_pos hn]
    rw[e];show farR ts K (expP ts [46] (p+1) fun q=>namP ts q fun t q=>Rs.ok (Pt.mk 12 t.text 0 t.pos (herI ts p) (behI ts q) [Pt.mk 23 (nxT ts p).text 0 (nxT ts p).pos (herI ts p) (behI ts (p+1)) []]) q);exact zos hK h1 fun h2=>zos hK h2 fun h3=>h3
   have f:farR ts K (if isT ts (p+1) [46]=true then(worP ts 23 p).bind fun v q=>expP ts [46] q fun q=>namP ts q fun t q=>Rs.ok (Pt.mk 12 t.text 0 t.pos (herI ts p) (behI ts q) [v]) q else worP ts 11 p):=zfa (fun _=>f1) fun _=>f2;exact⟨fun _=>zkm _ f,fun _=>f⟩
  ·have e:∀ (X:List Tok) (k:Int),namB X p=false->worP X k p=.bad (herI X p):=fun X k h=>by unfold worP Rs.need;rw[h];rfl
   have hn':namB ts p=false:=by simpa using hn
   rw[e ts 23 hn',e ts 11 hn']
   constructor
   ·intro hp;have hu:namB us p=false:=by rw[<-hK.na hp];exact hn'
    rw[e us 23 hu,e us 11 hu,hK.he hp];have:∀ (c c':Prop) [Decidable c] [Decidable c'] (y:Int),relR ts K (if c then(.bad y:Rs Pt).bind (fun v q=>expP ts [46] q fun q=>namP ts q fun t q=>Rs.ok (Pt.mk 12 t.text 0 t.pos (herI us p) (behI ts q) [v]) q) else .bad y) (if c' then(.bad y:Rs Pt).bind (fun v q=>expP us [46] q fun q=>namP us q fun t q=>Rs.ok (Pt.mk 12 t.text 0 t.pos (herI us p) (behI us q) [v]) q) else .bad y):=fun c c' _ _ y=>by
     split <;> split <;> exact .inr rfl
    exact this _ _ _
   ·intro hp;exact zfa (fun _=>⟨p,hp,rfl⟩) fun _=>⟨p,hp,rfl⟩
theorem z00 (hK:Kn ts us K)(k:Int)(p:Nat):qR ts K p (tydP ts k p) (tydP us k p):=by
 unfold tydP;refine zit hK fun h1=>zbd (z0z hK _) fun v q hq=>q_ok (fun h=>h) fun h=>?_;have hp:=h1 (hq h);rw[hK.nx p hp,hK.he hp,hK.be h]
theorem z5k (hK:Kn ts us K)(p:Nat):qR ts K p (impP ts p) (impP us p):=by
 unfold impP;refine zel hK fun h1=>zqh hK fun h2=>q_ok (fun h=>h) fun h=>?_;rw[hK.nx _ (h2 h),hK.he (h1 (h2 h)),hK.be h]
theorem z5l (hK:Kn ts us K)(p:Nat):qR ts K p (conP ts p) (conP us p):=by
 unfold conP;refine zel hK fun h1=>zit hK fun h2=>zel hK fun h3=>zbd (z5j hK _) fun v q hq=>q_ok (fun h=>h) fun h=>?_;rw[hK.nx _ (h2 (h3 (hq h))),hK.he (h1 (h2 (h3 (hq h)))),hK.be h]
theorem z5m (hK:Kn ts us K)(p:Nat):qR ts K p (recP ts p) (recP us p):=by
 unfold recP;refine zit hK fun h1=>zbd (z0x hK _ _) fun v q hq=>q_ok (fun h=>h) fun h=>?_;have hp:=h1 (hq h);rw[hK.nx p hp,hK.he hp,hK.be h]
structure RlA (ts us:List Tok) (K:Nat->Prop) (n m:Nat):Prop where
 bin:∀ l p,qR ts K p ((fns ts n).bin l p) ((fns us m).bin l p)
 binL:∀ l fr fr' t t' p,(K p->fr=fr'∧t=t')->qR ts K p ((fns ts n).binL l fr t p) ((fns us m).binL l fr' t' p)
 una:∀ p,qR ts K p ((fns ts n).una p) ((fns us m).una p)
 post:∀ p,qR ts K p ((fns ts n).post p) ((fns us m).post p)
 posL:∀ fr fr' t t' p,(K p->fr=fr'∧t=t')->qR ts K p ((fns ts n).posL fr t p) ((fns us m).posL fr' t' p)
 prim:∀ p,qR ts K p ((fns ts n).prim p) ((fns us m).prim p)
 argL:∀ l l' p,(K p->l=l')->qR ts K p ((fns ts n).argL l p) ((fns us m).argL l' p)
 parL:∀ l l' p,(K p->l=l')->qR ts K p ((fns ts n).parL l p) ((fns us m).parL l' p)
 fieL:∀ l l' p,(K p->l=l')->qR ts K p ((fns ts n).fieL l p) ((fns us m).fieL l' p)
 stmt:∀ p,qR ts K p ((fns ts n).stmt p) ((fns us m).stmt p)
 bran:∀ p,qR ts K p ((fns ts n).bran p) ((fns us m).bran p)
 stmL:∀ l l' p,(K p->l=l')->qR ts K p ((fns ts n).stmL l p) ((fns us m).stmL l' p)
 impL:∀ l l' p,(K p->l=l')->qR ts K p ((fns ts n).impL l p) ((fns us m).impL l' p)
 decL:∀ l l' p,(K p->l=l')->qR ts K p ((fns ts n).decL l p) ((fns us m).decL l' p)
 nbin:∀ l p,namB ts p=true->¬ K (p+1)->farR ts K ((fns ts n).bin l p)
 nuna:∀ p,namB ts p=true->¬ K (p+1)->farR ts K ((fns ts n).una p)
 npost:∀ p,namB ts p=true->¬ K (p+1)->farR ts K ((fns ts n).post p)
 nprim:∀ p,namB ts p=true->¬ K (p+1)->farR ts K ((fns ts n).prim p)
theorem z3a (hK:Kn ts us K){one one':Nat->Rs Pt}{more more':List Pt->Nat->Rs (List Pt)}{p:Nat}(h1:∀ q,qR ts K q (one q) (one' q))(h2:∀ l l' q,(K q->l=l')->qR ts K q (more l q) (more' l' q)):qR ts K p (lisP ts one more p) (lisP us one' more' p):=by
 unfold lisP;exact zel hK fun _=>zce (hK.isi _ _) (zei hK (q_ok (p:=p+1+1) (fun h=>h) fun _=>rfl) (by omega)) (zbd (h1 _) fun v q _=>zbd (h2 _ _ _ fun _=>rfl) fun l q _=>zel hK fun _=>q_ok (fun h=>h) fun _=>rfl)
theorem z3b (hK:Kn ts us K){more more':List Pt->Nat->Rs (List Pt)}{p:Nat}(h2:∀ l l' q,(K q->l=l')->qR ts K q (more l q) (more' l' q)):qR ts K p (linP ts more p) (linP us more' p):=by
 unfold linP;exact zel hK fun _=>zbd (h2 _ _ _ fun _=>rfl) fun l q _=>zel hK fun _=>q_ok (fun h=>h) fun _=>rfl
theorem zqi (hK:Kn ts us K){n m:Nat}(ih:RlA ts us K n m)(p:Nat):qR ts K p (bloP ts (fns ts n) p) (bloP us (fns us m) p):=by
 unfold bloP;refine zbd (z3b hK ih.stmL) fun l q hq=>q_ok (fun h=>h) fun h=>?_;rw[hK.he (hq h),hK.be h]
theorem z3c (hK:Kn ts us K){n m:Nat}(ih:RlA ts us K n m)(p:Nat):qR ts K p (varP ts (fns ts n) p) (varP us (fns us m) p):=by
 unfold varP;refine zel hK fun h1=>zit hK fun h2=>zbd (z0z hK _) fun v q hq=>zce (hK.isi _ _) (zei hK (zbd (ih.bin 0 _) fun x q' hq'=>q_ok (fun h=>h) fun h=>?_) (by omega)) (q_ok (fun h=>h) fun h=>?_)
 ·have h3:=hq (hK.one (hq' h));rw[hK.nx _ (h2 h3),hK.he (h1 (h2 h3)),hK.be h]
 ·have h3:=hq h;rw[hK.nx _ (h2 h3),hK.he (h1 (h2 h3)),hK.be h]
theorem z5n (hK:Kn ts us K){n m:Nat}(ih:RlA ts us K n m)(p:Nat):qR ts K p (decP ts (fns ts n) p) (decP us (fns us m) p):=by
 have hfun:∀ fr fr' l l' q,(K q->fr=fr'∧l=l')->qR ts K q (funR ts (fns ts n) fr l q) (funR us (fns us m) fr' l' q):=fun fr fr' l l' q hd=>by
  unfold funR;refine zit hK fun h1=>zbd (z3a hK (z00 hK 9) ih.parL) fun ps q1 hq1=>zce (hK.isi _ _) (zbd (zqi hK ih _) fun b q2 hq2=>q_ok (fun h=>h) fun h=>?_) (zbd (z0z hK _) fun v q2 hq2=>zbd (zqi hK ih _) fun b q3 hq3=>q_ok (fun h=>h) fun h=>?_)
  ·have h3:=h1 (hq1 (hq2 h));rw[hK.nx _ h3,hK.be h,(hd h3).1,(hd h3).2]
  ·have h3:=h1 (hq1 (hq2 (hq3 h)));rw[hK.nx _ h3,hK.be h,(hd h3).1,(hd h3).2]
 unfold decP;refine zce (hK.isi _ _) (z5l hK p) (zce (hK.isi _ _) (z3c hK ih p) (zce (hK.isi _ _) ?_ (zce (hK.isi _ _) ?_ (ztj hK p))))
 ·unfold strP;refine zel hK fun h1=>zit hK fun h2=>zel hK fun h3=>zbd (z3b hK ih.fieL) fun l q hq=>q_ok (fun h=>h) fun h=>?_;rw[hK.nx _ (h2 (h3 (hq h))),hK.he (h1 (h2 (h3 (hq h)))),hK.be h]
 ·unfold funP;refine zel hK fun h1=>zce (hK.isi _ _) (zei hK (zbd (z5m hK _) fun v q hq=>zel hK fun h2=>hfun _ _ _ _ _ fun h=>⟨hK.he (h1 (hK.one (hq (h2 h)))),rfl⟩) (by omega)) (hfun _ _ _ _ _ fun h=>⟨hK.he (h1 h),rfl⟩)
theorem rlA (hK:Kn ts us K):∀ n m,n<=m->RlA ts us K n m:=by
 intro n
 induction n with
 | zero=>
  intro m _;have ho:∀ {γ:Type}(p:Nat) (s:Rs γ),qR ts K p (.out:Rs γ) s:=fun p s=>⟨fun _=>trivial,fun _=>trivial⟩
  constructor <;> intros <;> first|exact ho _ _|trivial
 | succ n ih0=>
  intro m0 hm;obtain⟨m,rfl⟩:∃ m,m0=m+1:=⟨m0 - 1,by omega⟩;have ih:=ih0 m (by omega);clear ih0 hm
  constructor
  ·intro l p;show qR ts K p (if l=5 then(fns ts n).una p else((fns ts n).bin (l+1) p).bind fun t q=>(fns ts n).binL l (herI ts p) t q) (if l=5 then(fns us m).una p else((fns us m).bin (l+1) p).bind fun t q=>(fns us m).binL l (herI us p) t q);exact zce (fun _=>Iff.rfl) (ih.una p) (zbd (ih.bin _ _) fun t q hq=>ih.binL _ _ _ _ _ _ fun h=>⟨hK.he (hq h),rfl⟩)
  ·intro l fr fr' t t' p hd;show qR ts K p (if rowI (nxT ts p).text=l then((fns ts n).bin (l+1) (p+1)).bind fun u q=>if l=2 then .ok (.mk 27 (nxT ts p).text 0 (nxT ts p).pos fr (behI ts q) [t,u]) q else(fns ts n).binL l fr (.mk 27 (nxT ts p).text 0 (nxT ts p).pos fr (behI ts q) [t,u]) q else .ok t p)
    (if rowI (nxT us p).text=l then((fns us m).bin (l+1) (p+1)).bind fun u q=>if l=2 then .ok (.mk 27 (nxT us p).text 0 (nxT us p).pos fr' (behI us q) [t',u]) q else(fns us m).binL l fr' (.mk 27 (nxT us p).text 0 (nxT us p).pos fr' (behI us q) [t',u]) q else .ok t' p)
   refine zce (fun hp=>by rw[hK.nx _ hp]) (zei hK (zbd (ih.bin _ _) fun u q hq=>zce (fun _=>Iff.rfl) (q_ok (fun h=>h) fun h=>?_) (ih.binL _ _ _ _ _ _ fun h=>⟨(hd (hK.one (hq h))).1,?_⟩)) (by omega)) (q_ok (fun h=>h) fun h=>(hd h).2)
   ·have h3:=hK.one (hq h);rw[hK.nx _ h3,hK.be h,(hd h3).1,(hd h3).2]
   ·have h3:=hK.one (hq h);rw[hK.nx _ h3,hK.be h,(hd h3).1,(hd h3).2]
  ·intro p;show qR ts K p (if isT ts p [45] || isT ts p [33] then((fns ts n).una (p+1)).bind fun u q=>.ok (.mk 26 (nxT ts p).text 0 (nxT ts p).pos (herI ts p) (behI ts q) [u]) q else(fns ts n).post p) (if isT us p [45] || isT us p [33] then((fns us m).una (p+1)).bind fun u q=>.ok (.mk 26 (nxT us p).text 0 (nxT us p).pos (herI us p) (behI us q) [u]) q else(fns us m).post p);refine zce (fun hp=>by rw[hK.is hp,hK.is hp]) (zei hK (zbd (ih.una _) fun u q hq=>q_ok (fun h=>h) fun h=>?_) (by omega)) (ih.post p);have h3:=hK.one (hq h);rw[hK.nx _ h3,hK.be h,hK.he h3]
  ·intro p;exact zbd (ih.prim p) fun t q hq=>ih.posL _ _ _ _ _ fun h=>⟨hK.he (hq h),rfl⟩
  ·intro fr fr' t t' p hd;refine zce (hK.isi _ _) (zei hK (zit hK fun h1=>ih.posL _ _ _ _ _ fun h=>?_) (by omega)) (zce (hK.isi _ _) (zbd (z3a hK (ih.bin 0) ih.argL) fun l q hq=>ih.posL _ _ _ _ _ fun h=>?_) (q_ok (fun h=>h) fun h=>(hd h).2))
   ·have h3:=hd (hK.one (h1 h));exact⟨h3.1,by rw[hK.nx _ (h1 h),hK.be h,h3.1,h3.2]⟩
   ·have h3:=hd (hq h);exact⟨h3.1,by rw[hK.be h,h3.1,h3.2]⟩
  ·intro p;exact zce (hK.isi _ _) (zei hK (zbd (ih.bin _ _) fun t q hq=>zel hK fun _=>q_ok (fun h=>h) fun _=>rfl) (by omega)) (zce (fun hp=>by rw[hK.na hp]) (zw1 hK _ _) (z0y hK _))
  ·intro l l' p hd;exact zce (hK.isi _ _) (zei hK (zbd (ih.bin _ _) fun t q hq=>ih.argL _ _ _ fun h=>by rw[hd (hK.one (hq h))]) (by omega)) (q_ok (fun h=>h) hd)
  ·intro l l' p hd;exact zce (hK.isi _ _) (zei hK (zbd (z00 hK _ _) fun t q hq=>ih.parL _ _ _ fun h=>by rw[hd (hK.one (hq h))]) (by omega)) (q_ok (fun h=>h) hd)
  ·intro l l' p hd;exact zce (hK.isi _ _) (q_ok (fun h=>h) hd) (zbd (z00 hK _ _) fun t q hq=>zce (hK.isi _ _) (ih.fieL _ _ _ fun h=>by rw[hd (hq h)]) (zqh hK fun h1=>ih.fieL _ _ _ fun h=>by rw[hd (hq (h1 h))]))
  ·intro p;have hsho:qR ts K p (shoP ts (fns ts n) p) (shoP us (fns us m) p):=by
    unfold shoP;refine zit hK fun h1=>zel hK fun h2=>zbd (ih.bin _ _) fun x q hq=>q_ok (fun h=>h) fun h=>?_;have h3:=h1 (h2 (hq h));rw[hK.nx _ h3,hK.he h3,hK.be h]
   have hsim:qR ts K p (simP ts (fns ts n) p) (simP us (fns us m) p):=by
    unfold simP;refine zbd (ih.bin _ _) fun x q hq=>zce (hK.isi _ _) (zei hK (zbd (ih.bin _ _) fun y q' hq'=>q_ok (fun h=>h) fun h=>?_) (by omega)) (q_ok (fun h=>h) fun h=>?_)
    ·rw[hK.he (hq (hK.one (hq' h))),hK.be h]
    ·rw[hK.he (hq h),hK.be h]
   refine zce (hK.isi _ _) (zqi hK ih p) (zce (hK.isi _ _) (z3c hK ih p) (zce (hK.isi _ _) (ih.bran p) (zce (hK.isi _ _) ?_ (zce (hK.isi _ _) ?_ ?_))))
   ·unfold looP;refine zel hK fun h1=>zbd (ih.bin _ _) fun x q hq=>zbd (zqi hK ih _) fun b q' hq'=>q_ok (fun h=>h) fun h=>?_;rw[hK.he (h1 (hq (hq' h))),hK.be h]
   ·unfold resP;refine zel hK fun h1=>zce (fun hp=>by rw[hK.nx _ hp,hK.is hp]) (zbd (ih.bin _ _) fun x q hq=>q_ok (fun h=>h) fun h=>?_) (q_ok (fun h=>h) fun h=>?_)
    ·rw[hK.he (h1 (hq h)),hK.be h]
    ·rw[hK.he (h1 h),hK.be h]
   ·by_cases h1:K (p+1)
    ·exact zce (fun hp=>by rw[hK.na hp,hK.is h1]) hsho hsim
    ·by_cases hn:namB ts p=true
     ·have f1:farR ts K (shoP ts (fns ts n) p):=by
       unfold shoP namP Rs.need;rw[if_pos hn];exact(zel (us:=us) (k':=fun q=>((fns us m).bin 0 q).bind fun x q=>.ok (.mk 17 (nxT ts p).text 0 (nxT ts p).pos (herI ts p) (behI ts q) [x]) q) hK fun _=>zbd (ih.bin _ _) fun x q hq=>q_ok (fun h=>h) fun h=>rfl).2 h1
      have f2:farR ts K (simP ts (fns ts n) p):=by
       unfold simP;refine zgd (ih.nbin 0 p hn h1) fun x q hq=>?_;exact(zce (p:=q) (c':=isT us q [61]=true) (a':=((fns us m).bin 0 (q+1)).bind fun y q=>.ok (.mk 18 ⟨#[]⟩ 0 (herI ts p) (herI ts p) (behI us q) [x,y]) q) (b':=.ok (.mk 19 ⟨#[]⟩ 0 (herI ts p) (herI ts p) (behI us q) [x]) q) (hK.isi _ _) (zei hK (zbd (ih.bin _ _) fun y q' hq'=>q_ok (fun h=>h) fun h=>by rw[hK.be h]) (by omega)) (q_ok (fun h=>h) fun h=>by rw[hK.be h])).2 hq
      have f:=zfa (ts:=ts) (K:=K) (c:=(namB ts p && isT ts (p+1) [58,61])=true) (fun _=>f1) fun _=>f2;exact⟨fun _=>zkm _ f,fun _=>f⟩
     ·have hn':namB ts p=false:=by simpa using hn
      refine⟨fun hp=>?_,fun hp=>?_⟩
      ·rw[hn',<-hK.na hp,hn'];exact hsim.1 hp
      ·rw[hn'];exact hsim.2 hp
  ·intro p;show qR ts K p (expP ts [105,102] p fun q=>((fns ts n).bin 0 q).bind fun x q=>(bloP ts (fns ts n) q).bind fun b q=>if isT ts q [101,108,115,101] then(if isT ts (q+1) [105,102] then(fns ts n).bran (q+1) else bloP ts (fns ts n) (q+1)).bind fun c q=>Rs.ok (Pt.mk 14 ⟨#[]⟩ 0 (herI ts p) (herI ts p) (behI ts q) [x,b,c]) q else Rs.ok (Pt.mk 14 ⟨#[]⟩ 0 (herI ts p) (herI ts p) (behI ts q) [x,b]) q)
    (expP us [105,102] p fun q=>((fns us m).bin 0 q).bind fun x q=>(bloP us (fns us m) q).bind fun b q=>if isT us q [101,108,115,101] then(if isT us (q+1) [105,102] then(fns us m).bran (q+1) else bloP us (fns us m) (q+1)).bind fun c q=>Rs.ok (Pt.mk 14 ⟨#[]⟩ 0 (herI us p) (herI us p) (behI us q) [x,b,c]) q else Rs.ok (Pt.mk 14 ⟨#[]⟩ 0 (herI us p) (herI us p) (behI us q) [x,b]) q)
   refine zel hK fun h1=>zbd (ih.bin _ _) fun x q hq=>zbd (zqi hK ih _) fun b q' hq'=>zce (hK.isi _ _) (zei hK (zbd (zce (p:=q'+1) (hK.isi _ _) (ih.bran _) (zqi hK ih _)) fun c q'' hq''=>q_ok (fun h=>h) fun h=>?_) (by omega)) (q_ok (fun h=>h) fun h=>?_)
   ·rw[hK.he (h1 (hq (hq' (hK.one (hq'' h))))),hK.be h]
   ·rw[hK.he (h1 (hq (hq' h))),hK.be h]
  ·intro l l' p hd;exact zce (hK.isi _ _) (q_ok (fun h=>h) hd) (zbd (ih.stmt _) fun t q hq=>zce (hK.isi _ _) (ih.stmL _ _ _ fun h=>by rw[hd (hq h)]) (zqh hK fun h1=>ih.stmL _ _ _ fun h=>by rw[hd (hq (h1 h))]))
  ·intro l l' p hd;exact zce (hK.isi _ _) (zbd (z5k hK _) fun t q hq=>zqh hK fun h1=>ih.impL _ _ _ fun h=>by rw[hd (hq (h1 h))]) (q_ok (fun h=>h) hd)
  ·intro l l' p hd;exact zce (fun hp=>hK.lt p hp) (zbd (z5n hK ih _) fun t q hq=>zqh hK fun h1=>ih.decL _ _ _ fun h=>by rw[hd (hq (h1 h))]) (q_ok (fun h=>h) hd)
  ·intro l p hn h1;show farR ts K (if l=5 then(fns ts n).una p else((fns ts n).bin (l+1) p).bind fun t q=>(fns ts n).binL l (herI ts p) t q);exact zfa (fun _=>ih.nuna p hn h1) fun _=>zgd (ih.nbin _ p hn h1) fun t q hq=>(ih.binL l (herI ts p) (herI ts p) t t q fun h=>(hq h).elim).2 hq
  ·intro p hn h1;show farR ts K (if isT ts p [45] || isT ts p [33] then((fns ts n).una (p+1)).bind fun u q=>.ok (.mk 26 (nxT ts p).text 0 (nxT ts p).pos (herI ts p) (behI ts q) [u]) q else(fns ts n).post p);exact zfa (fun _=>zgd ((ih.una (p+1)).2 h1) fun u q hq=>hq) fun _=>ih.npost p hn h1
  ·intro p hn h1;exact zgd (ih.nprim p hn h1) fun t q hq=>(ih.posL (herI ts p) (herI ts p) t t q fun h=>(hq h).elim).2 hq
  ·intro p hn h1;refine zfa (fun _=>zgd ((ih.bin 0 (p+1)).2 h1) fun t q hq=>?_) fun _=>zfa (fun _=>h1) fun h=>(h hn).elim;exact(zel (us:=us) (k':=fun q=>.ok t q) hK fun _=>q_ok (fun h=>h) fun _=>rfl).2 hq
theorem z5o (hK:Kn ts us K){n m:Nat}(hn:n<=m)(p:Nat):qR ts K p (filP ts n p) (filP us m p):=by
 have ih:=rlA hK n m hn;unfold filP;refine zel hK fun h1=>zit hK fun h2=>zqh hK fun h3=>zbd (ih.impL _ _ _ fun _=>rfl) fun l q hq=>zbd (ih.decL _ _ _ fun _=>rfl) fun l' q' hq'=>q_ok (fun h=>h) fun h=>?_;have h4:=h2 (h3 (hq (hq' h)));rw[hK.nx _ h4,hK.he (h1 h4),hK.be h]
end
theorem zw2 {ts:List Tok}{n m:Nat}(hn:n<=m)(h:filP ts n 0≠.out):filP ts m 0=filP ts n 0:=by
 have hK:Kn ts ts (fun _=>True):=⟨fun _ _ _ _=>trivial,fun _ _=>rfl,fun _ _=>Iff.rfl⟩;have hq:=(z5o hK hn 0).1 trivial
 cases hr:filP ts n 0 with
 | ok v q=>rw[hr] at hq;exact hq trivial
 | bad s=>
  rw[hr] at hq;rcases hq with⟨p,hp,-⟩ | hq
  ·exact(hp trivial).elim
  ·exact hq
 | out=>exact(h hr).elim
end Go.Proofs.YtabiangdmibocaaGreatDoor
