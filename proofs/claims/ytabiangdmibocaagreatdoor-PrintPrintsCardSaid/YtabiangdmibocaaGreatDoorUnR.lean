import Derived.Test.YtabiangdmibocaaGreatDoorUnQ
namespace Go.Proofs.YtabiangdmibocaaGreatDoor
set_option maxRecDepth 100000
open Go.RowKit
def plB (c:UInt8):Bool:=(decide (65<=c) && decide (c<=90)) || (c == 95) || (decide (97<=c) && decide (c<=122)) || (decide (48<=c) && decide (c<=57)) || (c == 34)
def plF (x:ByteArray):Prop:=∃ c r,x.data.toList=c::r∧plB c=true
def sgB (s:List UInt8):Bool:=match s with | []=>true|c::_=>!plB c
theorem zgc {x:ByteArray}{s:List UInt8}(h:plF x)(hs:sgB s=true):(x.data.toList == s)=false:=by
 obtain⟨c,r,e,hc⟩:=h;rw[e]
 cases s with
 | nil=>rfl
 | cons d u=>
  rw[<-Bool.not_eq_true];intro h2;have h3:c::r=d::u:=eq_of_beq h2;injection h3 with h3 _;subst h3;have hs2:(!plB c)=true:=hs;rw[hc] at hs2
  cases hs2
theorem Hs.pl {ts:List Tok}{p:Nat}{k:Int}{x:ByteArray}{r:List Tok}(h:Hs ts p (tkW k x::r))(hx:plF x){s:List UInt8}(hs:sgB s=true)(hk:k≠5:=by decide):isT ts p s=false:=by
 unfold isT;rw[(h.one hk).2];exact zgc hx hs
inductive Ex:Pt->Prop
 | int {n a f t:Int}:(∀ u:Tok,u.kind=2->u.text=⟨(Lib.itoa n).toArray⟩->numT u=n)->plF ⟨(Lib.itoa n).toArray⟩->Ex (.mk 20 ⟨#[]⟩ n a f t [])
 | text {x:ByteArray}{a f t:Int}:(∀ u:Tok,u.kind=3->u.text=quoT x->valT u=x)->plF (quoT x)->Ex (.mk 21 x 0 a f t [])
 | bool {x:ByteArray}{a f t:Int}:(x=strU [116,114,117,101]∨x=strU [102,97,108,115,101])->Ex (.mk 22 x 0 a f t [])
 | name {x:ByteArray}{a f t:Int}:kepB x=false->plF x->Ex (.mk 23 x 0 a f t [])
 | dot {x:ByteArray}{a f t:Int}{e:Pt}:kepB x=false->plF x->Ex e->Ex (.mk 24 x 0 a f t [e])
 | call {a f t:Int}{e:Pt}{l:List Pt}:Ex e->(∀ u ∈ l,Ex u)->Ex (.mk 25 ⟨#[]⟩ 0 a f t (e::l))
 | una {x:ByteArray}{a f t:Int}{e:Pt}:(x=strU [45]∨x=strU [33])->Ex e->Ex (.mk 26 x 0 a f t [e])
 | bin {x:ByteArray}{a f t:Int}{u v:Pt}:0<=rowI x->Ex u->Ex v->Ex (.mk 27 x 0 a f t [u,v])
def lev:Pt->Nat | .mk k x _ _ _ _ _=>if k=27 then(rowI x).toNat else if k=26 then 5 else if k=24∨k=25 then 6 else 7
def opeT (k:Int) (x:ByteArray) (u:Pt) (i:Nat):List Tok:=if nedB k x (hdP u) i then wBrk [wrP u] else wrP u
def opeL (k:Int) (x:ByteArray) (u:Pt) (i:Nat):Nat:=if nedB k x (hdP u) i then 7 else lev u
theorem zlp {k:Int}{x:ByteArray}{u:Pt}{i:Nat}(h:It u (wrP u) (lev u)):It u (opeT k x u i) (opeL k x u i):=by
 unfold opeT opeL
 split
 ·exact z2w h
 ·exact h
theorem zsw {u:Pt}(h:(hdP u).1≠27):5<=lev u:=by
 cases u with
 | mk k x n a f t l=>
  have h:k≠27:=h;show 5<=lev (.mk k x n a f t l);rw[lev,if_neg h]
  split
  ·omega
  ·split <;> omega
theorem z0i {u:Pt}(h:(hdP u).1≠27)(h':(hdP u).1≠26):6<=lev u:=by
 cases u with
 | mk k x n a f t l=>
  have h:k≠27:=h;have h':k≠26:=h';show 6<=lev (.mk k x n a f t l);rw[lev,if_neg h,if_neg h']
  split <;> omega
theorem zsx {u:Pt}(h:(hdP u).1=27):lev u=(rowI (hdP u).2).toNat:=by
 cases u with
 | mk k x n a f t l=>
  have h:k=27:=h;show lev (.mk k x n a f t l)=(rowI x).toNat;rw[lev,if_pos h]
theorem z0j {x:ByteArray}{u:Pt}:5<=opeL 26 x u 0:=by
 unfold opeL
 split
 ·omega
 ·rename_i h
  exact zsw fun e=>h (by unfold nedB;rw[if_pos rfl,e];rfl)
theorem zsy {k:Int}{x:ByteArray}{u:Pt}{i:Nat}(hk:k≠26)(hk':k≠27):6<=opeL k x u i:=by
 unfold opeL
 split
 ·omega
 ·rename_i h
  refine z0i (fun e=>h ?_) fun e=>h ?_
  ·unfold nedB;rw[if_neg hk,if_pos hk',e];rfl
  ·unfold nedB;rw[if_neg hk,if_pos hk',e];rfl
theorem zsz (x:ByteArray):rowI x<=4:=by
 unfold rowI
 repeat' split
 all_goals omega
theorem zwv {x:ByteArray}{u:Pt}(hx:0<=rowI x):(rowI x).toNat<=opeL 27 x u 0∧¬ ((rowI x).toNat=2∧opeL 27 x u 0=2):=by
 have h4:=zsz x;unfold opeL
 split
 ·omega
 ·rename_i h
  by_cases hk:(hdP u).1=27
  ·rw[zsx hk];have h1:¬ rowI (hdP u).2<rowI x:=fun e=>h (by unfold nedB;rw[if_neg (by decide),if_neg (by simp),hk];simp[e]);have h2:¬ (rowI (hdP u).2=rowI x∧rowI (hdP u).2=2):=fun e=>h (by unfold nedB;rw[if_neg (by decide),if_neg (by simp),hk,<-e.1,e.2];simp);omega
  ·have:=zsw hk;omega
theorem zs0 {x:ByteArray}{u:Pt}(hx:0<=rowI x):(rowI x).toNat+1<=opeL 27 x u 1:=by
 have h4:=zsz x;unfold opeL
 split
 ·omega
 ·rename_i h
  by_cases hk:(hdP u).1=27
  ·rw[zsx hk];have h1:¬ rowI (hdP u).2<rowI x:=fun e=>h (by unfold nedB;rw[if_neg (by decide),if_neg (by simp),hk];simp[e]);have h2:¬ rowI (hdP u).2=rowI x:=fun e=>h (by unfold nedB;rw[if_neg (by decide),if_neg (by simp),hk,e];simp);omega
  ·have:=zsw hk;omega
theorem z0k {ts:List Tok}{q:Nat}(h:0<=rowI (nxT ts q).text):stp ts q:=by
 constructor
 ·rw[<-Bool.not_eq_true];intro e;have e2:(nxT ts q).text.data.toList=[46]:=eq_of_beq e;unfold rowI at h;rw[e2] at h
  revert h
  decide
 ·rw[<-Bool.not_eq_true];intro e;have e2:(nxT ts q).text.data.toList=[40]:=eq_of_beq e;unfold rowI at h;rw[e2] at h
  revert h
  decide
theorem zh4 (n a f t:Int)(x:ByteArray):wrP (.mk 20 x n a f t [])=[nuT n]:=by simp[wrP,wrK,wrS,wrX]
theorem zh5 (n a f t:Int)(x:ByteArray):wrP (.mk 21 x n a f t [])=[tkW 3 (quoT x)]:=by simp[wrP,wrK,wrS,wrX]
theorem zh6 (n a f t:Int)(x:ByteArray):wrP (.mk 22 x n a f t [])=[tkW 1 x]:=by simp[wrP,wrK,wrS,wrX]
theorem zkg (n a f t:Int)(x:ByteArray):wrP (.mk 23 x n a f t [])=[tkW 1 x]:=by simp[wrP,wrK,wrS,wrX]
theorem zok (n a f t:Int)(x:ByteArray)(e:Pt):wrP (.mk 24 x n a f t [e])=opeT 24 x e 0++[sgT [46],tkW 1 x]:=by simp[wrP,wrK,wrS,wrX,wrM,wOpe,opeT]
theorem zkh (n a f t:Int)(x:ByteArray)(e:Pt)(l:List Pt):wrP (.mk 25 x n a f t (e::l))=opeT 25 x e 0++wBrk (l.map wrP):=by simp[wrP,wrK,wrS,wrX,wrM,wOpe,opeT,zcn]
theorem zol (n a f t:Int)(x:ByteArray)(e:Pt):wrP (.mk 26 x n a f t [e])=tkW 4 x::opeT 26 x e 0:=by simp[wrP,wrK,wrS,wrX,wrM,wOpe,opeT]
theorem zom (n a f t:Int)(x:ByteArray)(u v:Pt):wrP (.mk 27 x n a f t [u,v])=opeT 27 x u 0++tkW 4 x::opeT 27 x v 1:=by simp[wrP,wrK,wrS,wrX,wrM,wOpe,opeT]
theorem zon {ws:List Tok}{e:Pt}{w:Tok}(hw:ws=[w])(h0:∀ ts p,Hs ts p [w]->isT ts p [45]=false∧isT ts p [33]=false∧isT ts p [40]=false)
  (h:∀ ts p,Hs ts p [w]->∃ e',smP e e'∧(if namB ts p then leaP ts 23 p else va1P ts p)=.ok e' (p+1)):It e ws 7:=by
 subst hw;refine zkf (by omega) (zsu fun ts p hh=>?_) fun ts p hh=>⟨(h0 ts p hh).1,(h0 ts p hh).2.1⟩;obtain⟨e',h1,h2⟩:=h ts p hh;refine⟨e',h1,zbn ?_⟩;show Ev (fun m=>if isT ts p [40] then((fns ts m).bin 0 (p+1)).bind fun t q=>expP ts [41] q fun q=>.ok t q else if namB ts p then leaP ts 23 p else va1P ts p) _;exact zav (by rw[(h0 ts p hh).2.2];simp) (by rw[h2];exact zap _)
theorem zs1:∀ (l:List Pt),(∀ u ∈ l,It u (wrP u) (lev u))->∀ (ts:List Tok)(p:Nat)(acc:List Pt),Hs ts p (((l.map wrP).map (sgT [44]::·)).flatten++[sgT [41]]) ->
  ∃ l',smL l l'∧Ev (fun m=>(fns ts m).argL acc p) (.ok (acc++l') (p+((l.map wrP).map (sgT [44]::·)).flatten.length))
 | [],_,ts,p,acc,hh=>by
  refine⟨[],zbw,zbn ?_⟩;have h0:Hs ts p (tkW 4 (strU [41])::[]):=by simpa[sgT] using hh
  rw[List.append_nil];exact zav (by rw[h0.not (by decide)];simp) (zap _)
 | u::r,hl,ts,p,acc,hh=>by
  have hw:(((u::r).map wrP).map (sgT [44]::·)).flatten++[sgT [41]]=tkW 4 (strU [44])::(wrP u++(((r.map wrP).map (sgT [44]::·)).flatten++[sgT [41]])):=by simp[sgT]
  rw[hw] at hh;have ht:=hh.tail;have hc:=ht.right;have hn:∃ s rest,(((r.map wrP).map (sgT [44]::·)).flatten++[sgT [41]])=tkW 4 (strU s)::rest∧(s=[44]∨s=[41]):=by
   cases r with
   | nil=>exact⟨[41],[],by simp[sgT],.inr rfl⟩
   | cons v r'=>exact⟨[44],_,by simp[sgT];rfl,.inl rfl⟩
  obtain⟨s,rest,e1,e2⟩:=hn;have hc':=hc;rw[e1] at hc';obtain⟨u',h1,h2⟩:=(hl u (by simp)).c4 0 (by omega) (by omega) ts (p+1) ht.left
   (by rcases e2 with rfl|rfl <;> exact⟨hc'.not (by decide),hc'.not (by decide)⟩) (by rw[zsv hc'];rcases e2 with rfl|rfl <;> decide)
  obtain⟨l',h3,h4⟩:=zs1 r (fun v hv=>hl v (by simp[hv])) ts (p+1+(wrP u).length) (acc++[u']) hc;refine⟨u'::l',zbu h1 h3,zbn ?_⟩;refine zbp hh.is (zat h2 ?_);have e3:p+(((u::r).map wrP).map (sgT [44]::·)).flatten.length=p+1+(wrP u).length+((r.map wrP).map (sgT [44]::·)).flatten.length:=by simp;omega
  rw[e3,show acc++u'::l'=acc++[u']++l' by simp];exact h4
theorem z2x (l:List Pt)(hl:∀ u ∈ l,It u (wrP u) (lev u))(hf:∀ u ∈ l,∀ ts p r,Hs ts p (wrP u++r)->isT ts p [41]=false)(ts:List Tok)(p:Nat)(hh:Hs ts p (wBrk (l.map wrP))) :
  ∃ l',smL l l'∧Ev (fun m=>lisP ts ((fns ts m).bin 0) (fns ts m).argL p) (.ok l' (p+(wBrk (l.map wrP)).length)):=by
 cases l with
 | nil=>
  have h0:Hs ts p (tkW 4 (strU [40])::tkW 4 (strU [41])::[]):=by simpa[wBrk,wPar,sgT] using hh
  refine⟨[],zbw,?_⟩;unfold lisP expP;refine za5 h0.is (zbp h0.tail.is ?_);simp[wBrk,wPar];exact zap _
 | cons u r=>
  have hw:wBrk ((u::r).map wrP)=tkW 4 (strU [40])::(wrP u++(((r.map wrP).map (sgT [44]::·)).flatten++[sgT [41]])):=by simp[wBrk,wPar,sgT]
  rw[hw] at hh ⊢;have ht:=hh.tail;have hc:=ht.right;have hn:∃ s rest,(((r.map wrP).map (sgT [44]::·)).flatten++[sgT [41]])=tkW 4 (strU s)::rest∧(s=[44]∨s=[41]):=by
   cases r with
   | nil=>exact⟨[41],[],by simp[sgT],.inr rfl⟩
   | cons v r'=>exact⟨[44],_,by simp[sgT];rfl,.inl rfl⟩
  obtain⟨s,rest,e1,e2⟩:=hn;have hc':=hc;rw[e1] at hc';obtain⟨u',h1,h2⟩:=(hl u (by simp)).c4 0 (by omega) (by omega) ts (p+1) ht.left
   (by rcases e2 with rfl|rfl <;> exact⟨hc'.not (by decide),hc'.not (by decide)⟩) (by rw[zsv hc'];rcases e2 with rfl|rfl <;> decide)
  obtain⟨l',h3,h4⟩:=zs1 r (fun v hv=>hl v (by simp[hv])) ts (p+1+(wrP u).length) [u'] hc;have hz:Hs ts (p+1+(wrP u).length+((r.map wrP).map (sgT [44]::·)).flatten.length) (tkW 4 (strU [41])::[]):=hc.right;refine⟨u'::l',zbu h1 h3,?_⟩;unfold lisP expP;refine za5 hh.is (zav (by rw[hf u (by simp) ts (p+1) _ ht];simp) (zat h2 (zat h4 (za5 hz.is ?_))));rw[show p+(tkW 4 (strU [40])::(wrP u++(((r.map wrP).map (sgT [44]::·)).flatten++[sgT [41]]))).length=p+1+(wrP u).length+((r.map wrP).map (sgT [44]::·)).flatten.length+1 by simp;omega];exact zap _
def fstE (x:Tok):Prop:=(x.kind=4∧(x.text=strU [40]∨x.text=strU [45]∨x.text=strU [33]))∨((x.kind=2∨x.kind=3)∧plF x.text)∨(x.kind=1∧plF x.text∧(kepB x.text=false∨x.text=strU [116,114,117,101]∨x.text=strU [102,97,108,115,101]))
theorem zki {x:Tok}(h:fstE x):x.kind≠5:=by
 rcases h with⟨h,-⟩ | ⟨h|h,-⟩ | ⟨h,-⟩ <;> rw[h] <;> decide
theorem zmy {k:Int}{x:ByteArray}{u:Pt}{i:Nat}(h:∃ a r,wrP u=a::r∧fstE a):∃ a r,opeT k x u i=a::r∧fstE a:=by
 unfold opeT
 split
 ·exact⟨sgT [40],wrP u++[sgT [41]],by simp[wBrk,wPar],.inl ⟨rfl,.inl rfl⟩⟩
 ·exact h
theorem zs2 {e:Pt}(h:Ex e):∃ a r,wrP e=a::r∧fstE a:=by
 induction h with
 | int _ hp=>exact⟨_,_,zh4 _ _ _ _ _,.inr (.inl ⟨.inl rfl,hp⟩)⟩
 | text _ hp=>exact⟨_,_,zh5 _ _ _ _ _,.inr (.inl ⟨.inr rfl,hp⟩)⟩
 | bool hx=>
  refine⟨_,_,zh6 _ _ _ _ _,.inr (.inr ⟨rfl,?_,.inr hx⟩)⟩;rcases hx with rfl|rfl
  ·exact⟨116,[114,117,101],rfl,by decide⟩
  ·exact⟨102,[97,108,115,101],rfl,by decide⟩
 | name hk hp=>exact⟨_,_,zkg _ _ _ _ _,.inr (.inr ⟨rfl,hp,.inl hk⟩)⟩
 | dot _ _ _ ih=>
  obtain⟨a,r,e1,e2⟩:=zmy ih;exact⟨a,r++_,by rw[zok,e1];rfl,e2⟩
 | call _ _ ih _=>
  obtain⟨a,r,e1,e2⟩:=zmy ih;exact⟨a,r++_,by rw[zkh,e1];rfl,e2⟩
 | una hx _ _=>exact⟨_,_,zol _ _ _ _ _ _,.inl ⟨rfl,.inr hx⟩⟩
 | bin _ _ _ ih _=>
  obtain⟨a,r,e1,e2⟩:=zmy ih;exact⟨a,r++_,by rw[zom,e1];rfl,e2⟩
theorem zs3 {x:Tok}(h:fstE x){s:List UInt8}(hs:sgB s=true)(h1:(([40]:List UInt8) == s)=false)(h2:(([45]:List UInt8) == s)=false)(h3:(([33]:List UInt8) == s)=false):(x.text.data.toList == s)=false:=by
 rcases h with⟨-,h|h|h⟩ | ⟨-,h⟩ | ⟨-,h,-⟩
 ·rw[h];simpa[strU] using h1
 ·rw[h];simpa[strU] using h2
 ·rw[h];simpa[strU] using h3
 ·exact zgc h hs
 ·exact zgc h hs
theorem z5f {e:Pt}(h:Ex e):It e (wrP e) (lev e):=by
 induction h with
 | @int n a f t hn hp=>
  refine zon (zh4 _ _ _ _ _) (fun ts p hh=>⟨hh.pl hp (by decide),hh.pl hp (by decide),hh.pl hp (by decide)⟩) fun ts p hh=>?_;have hk:(nxT ts p).kind=2:=hh.one.1;have hnb:namB ts p=false:=by unfold namB;rw[hk];rfl
  refine⟨_,zbk (a':=(nxT ts p).pos) (f':=herI ts p) (t':=behI ts (p+1)) zbw,?_⟩;rw[hnb];unfold va1P;rw[hk,hn _ hk hh.one.2];rfl
 | @text x a f t hx hp=>
  refine zon (zh5 _ _ _ _ _) (fun ts p hh=>⟨hh.pl hp (by decide),hh.pl hp (by decide),hh.pl hp (by decide)⟩) fun ts p hh=>?_;have hk:(nxT ts p).kind=3:=hh.one.1;have hnb:namB ts p=false:=by unfold namB;rw[hk];rfl
  refine⟨_,zbk (a':=(nxT ts p).pos) (f':=herI ts p) (t':=behI ts (p+1)) zbw,?_⟩;rw[hnb];unfold va1P;rw[hk,hx _ hk hh.one.2];rfl
 | @bool x a f t hx=>
  have hp:plF x:=by
   rcases hx with rfl|rfl
   ·exact⟨116,[114,117,101],rfl,by decide⟩
   ·exact⟨102,[97,108,115,101],rfl,by decide⟩
  refine zon (zh6 _ _ _ _ _) (fun ts p hh=>⟨hh.pl hp (by decide),hh.pl hp (by decide),hh.pl hp (by decide)⟩) fun ts p hh=>?_;have hk:(nxT ts p).kind=1:=hh.one.1;have htx:(nxT ts p).text=x:=hh.one.2;have hkp:kepB x=true:=by rcases hx with rfl|rfl <;> decide
  have hnb:namB ts p=false:=by unfold namB;rw[htx,hkp];simp
  have hio:(isT ts p [116,114,117,101] || isT ts p [102,97,108,115,101])=true:=by
   unfold isT;rw[htx];rcases hx with rfl|rfl <;> decide
  refine⟨_,zbk (a':=(nxT ts p).pos) (f':=herI ts p) (t':=behI ts (p+1)) zbw,?_⟩;rw[hnb];unfold va1P;rw[hk,hio];unfold leaP;rw[htx];rfl
 | @name x a f t hk hp=>
  refine zon (zkg _ _ _ _ _) (fun ts p hh=>⟨hh.pl hp (by decide),hh.pl hp (by decide),hh.pl hp (by decide)⟩) fun ts p hh=>?_;have hk1:(nxT ts p).kind=1:=hh.one.1;have htx:(nxT ts p).text=x:=hh.one.2;have hnb:namB ts p=true:=by unfold namB;rw[htx,hk,hk1];rfl
  refine⟨_,zbk (a':=(nxT ts p).pos) (f':=herI ts p) (t':=behI ts (p+1)) zbw,?_⟩;rw[hnb];unfold leaP;rw[htx];rfl
 | @dot x a f t e hk hp he ih=>
  have io:=zlp (k:=24) (x:=x) (i:=0) ih;have h6:6<=opeL 24 x e 0:=zsy (by decide) (by decide);have hlv:lev (.mk 24 x 0 a f t [e])=6:=rfl;rw[hlv,zok];refine zkf (Nat.le_refl _) (fun ts p hh=>?_) fun ts p hh=>io.c0 h6 ts p hh.left;obtain⟨e',h1,h2⟩:=io.c1 h6 ts p hh.left;have hd:=hh.right;have hn:=hd.tail;have hk1:(nxT ts (p+(opeT 24 x e 0).length+1)).kind=1:=hn.one.1;have htx:(nxT ts (p+(opeT 24 x e 0).length+1)).text=x:=hn.one.2;have hnb:namB ts (p+(opeT 24 x e 0).length+1)=true:=by unfold namB;rw[htx,hk,hk1];rfl
  refine⟨.mk 24 (nxT ts (p+(opeT 24 x e 0).length+1)).text 0 (nxT ts (p+(opeT 24 x e 0).length+1)).pos (herI ts p) (behI ts (p+(opeT 24 x e 0).length+1+1)) [e'],by rw[htx];exact zbk (zcg h1),fun r hr=>h2 r (zbn ?_)⟩;refine zbp (Hs.is (k:=4) hd) (za5 hnb ?_);rw[show p+(opeT 24 x e 0++[sgT [46],tkW 1 x]).length=p+(opeT 24 x e 0).length+1+1 by simp;omega] at hr;exact hr
 | @call a f t e l he hl ih ihl=>
  have io:=zlp (k:=25) (x:=⟨#[]⟩) (i:=0) ih;have h6:6<=opeL 25 ⟨#[]⟩ e 0:=zsy (by decide) (by decide);have hlv:lev (.mk 25 ⟨#[]⟩ 0 a f t (e::l))=6:=rfl;rw[hlv,zkh];refine zkf (Nat.le_refl _) (fun ts p hh=>?_) fun ts p hh=>io.c0 h6 ts p hh.left;obtain⟨e',h1,h2⟩:=io.c1 h6 ts p hh.left;have hb:=hh.right;have hb1:Hs ts (p+(opeT 25 ⟨#[]⟩ e 0).length) (tkW 4 (strU [40])::(wPar [44] (l.map wrP)++[sgT [41]])):=by simpa[wBrk,sgT] using hb
  obtain⟨l',h3,h4⟩:=z2x l ihl (fun u hu ts p r hs=>by
   obtain⟨a,r',e1,e2⟩:=zs2 (hl u hu);rw[e1] at hs;unfold isT;rw[(hs.one (zki e2)).2];exact zs3 e2 (by decide) (by decide) (by decide) (by decide)) ts _ hb
  refine⟨.mk 25 ⟨#[]⟩ 0 (herI ts p) (herI ts p) (behI ts (p+(opeT 25 ⟨#[]⟩ e 0).length+(wBrk (l.map wrP)).length)) ([e']++l'),zbk (zbu h1 h3),fun r hr=>h2 r (zbn ?_)⟩;refine zav (by rw[hb1.not (by decide)];simp) (zbp hb1.is (zat h4 ?_));rw[List.length_append,<-Nat.add_assoc] at hr;exact hr
 | @una x a f t e hx he ih=>
  have io:=zlp (k:=26) (x:=x) (i:=0) ih;have h5:5<=opeL 26 x e 0:=z0j;have hlv:lev (.mk 26 x 0 a f t [e])=5:=rfl;rw[hlv,zol];refine zyf (Nat.le_refl _) (fun ts p hh hs=>?_) (fun h=>by omega) (fun h=>by omega);have hlen:p+(tkW 4 x::opeT 26 x e 0).length=p+1+(opeT 26 x e 0).length:=by simp;omega
  rw[hlen] at hs ⊢;obtain⟨e',h1,h2⟩:=io.c2 h5 ts (p+1) hh.tail hs;have htx:(nxT ts p).text=x:=hh.one.2;have hio:(isT ts p [45] || isT ts p [33])=true:=by
   unfold isT;rw[htx];rcases hx with rfl|rfl <;> decide
  refine⟨.mk 26 (nxT ts p).text 0 (nxT ts p).pos (herI ts p) (behI ts (p+1+(opeT 26 x e 0).length)) [e'],by rw[htx];exact zbk (zcg h1),zbn ?_⟩;exact zbp hio (zat h2 (zap _))
 | @bin x a f t u v hx hu hv ihu ihv=>
  have iu:=zlp (k:=27) (x:=x) (i:=0) ihu;have iv:=zlp (k:=27) (x:=x) (i:=1) ihv;obtain⟨g1,g2⟩:=zwv (u:=u) hx;have g3:=zs0 (u:=v) hx;have h4:=zsz x;obtain⟨k,hk⟩:∃ k:Nat,rowI x=k:=⟨(rowI x).toNat,by omega⟩;have hkn:(rowI x).toNat=k:=by omega
  have hlv:lev (.mk 27 x 0 a f t [u,v])=k:=by show(rowI x).toNat=k;exact hkn
  rw[hkn] at g1 g2 g3;rw[hlv,zom];have key:∀ ts p,Hs ts p (opeT 27 x u 0++tkW 4 x::opeT 27 x v 1)->stp ts (p+(opeT 27 x u 0++tkW 4 x::opeT 27 x v 1).length)->rowI (nxT ts (p+(opeT 27 x u 0++tkW 4 x::opeT 27 x v 1).length)).text<=(k:Int) ->
    ∃ e',smP (.mk 27 x 0 a f t [u,v]) e'∧∀ r,Ev (fun m=>if k=2 then .ok e' (p+(opeT 27 x u 0++tkW 4 x::opeT 27 x v 1).length) else(fns ts m).binL k (herI ts p) e' (p+(opeT 27 x u 0++tkW 4 x::opeT 27 x v 1).length)) r->Ev (fun m=>(fns ts m).bin k p) r:=fun ts p hh hs hr=>by
   have hlen:p+(opeT 27 x u 0++tkW 4 x::opeT 27 x v 1).length=p+(opeT 27 x u 0).length+1+(opeT 27 x v 1).length:=by simp;omega
   rw[hlen] at hs hr ⊢;have ho:=hh.right;have htx:(nxT ts (p+(opeT 27 x u 0).length)).text=x:=ho.one.2;obtain⟨u',a1,a2⟩:=iu.c3 k (by omega) g1 g2 ts p hh.left (z0k (by rw[htx];exact hx)) (by rw[htx];omega);obtain⟨v',b1,b2⟩:=iv.c4 (k+1) (by omega) g3 ts _ ho.tail hs (by omega);refine⟨.mk 27 (nxT ts (p+(opeT 27 x u 0).length)).text 0 (nxT ts (p+(opeT 27 x u 0).length)).pos (herI ts p) (behI ts (p+(opeT 27 x u 0).length+1+(opeT 27 x v 1).length)) [u',v'],by rw[htx];exact zbk (zbu a1 (zcg b1)),fun r hr=>a2 r (zbn ?_)⟩;exact zbp (by rw[htx,hk]) (zat b2 hr)
  refine z2v (by omega) (fun hk2 ts p hh hs hr=>?_) fun hk2 ts p hh hs hr=>?_
  ·obtain⟨e',a1,a2⟩:=key ts p hh hs hr;exact⟨e',a1,fun r hr'=>a2 r (zav hk2 hr')⟩
  ·subst hk2;obtain⟨e',a1,a2⟩:=key ts p hh hs (by omega);exact⟨e',a1,a2 _ (zbp rfl (zap _))⟩
set_option maxHeartbeats 4000000
structure TrW (t:Pt):Prop where
 n:cntP t<=2048
 d:dpF (fun _=>0) 0 0 (layP 0 t)<=24
 g:GdP t
 a:(wrP t).any wrA=false
 s:∀ u ∈ wrP t,-1000000000000000000<=u.pos∧u.pos<=1000000000000000000∧u.text.size<=100000
 f:∃ t' p,filO (wrP t)=.ok t' p∧eqAll ndEq (layP 0 t') (layP 0 t)=true
theorem EnW.low {w W:World}{nv:Value}{L:List Nd}(h:EnW w nv L)(hb:Below w.heap.size w W):EnW W nv L:=by
 obtain⟨s,c,N,S,h1,h2,h3⟩:=h.x;refine⟨⟨s,c,N,S,h1,h2.below hb,h3.1,fun i m d e1 e2=>?_⟩,zbj hb.block h.t,h.l⟩;obtain⟨a,b,c,e,f⟩:=h3.2 i m d e1 e2;exact⟨a,b,c.below hb,e,f⟩
theorem zfr {w:World}{sn:Option Addr}{cn:Nat}{t:Pt}(hP:TabP w)(hE:EnW w (.slice sn (layP 0 t).length cn) (layP 0 t))(hT:TrW t) :
  Calls Tryz.prog 43 #[.agg #[.slice sn (layP 0 t).length cn]] w fun e w'=>∃ v',e=.returned (.tuple #[v',.int .i64 0])∧OwnT w.heap.size w' v' (wrP t)∧Below w.heap.size w w':=by
 have HORD:Hid (∀ W,Below w.heap.size w W->Calls Tryz.prog 78 #[.agg #[.slice sn (layP 0 t).length cn]] W fun e w'=>e=.returned (.bool true)∧Below W.heap.size W w'):=fun W hb=>zh3 t (hE.low hb);have hbd:=zgp t 0;have hlc:=zbt t 0;have HKD:Hid (∀ d ∈ layP 0 t,d.kids.length<=1000000):=fun d hd=>by have:=(hbd d hd).2;have:=hT.n;omega
 have HDEP:Hid (∀ W,Below w.heap.size w W->Calls Tryz.prog 41 #[.agg #[.slice sn (layP 0 t).length cn]] W fun e w'=>e=.returned (.int .i64 (dpF (fun _=>0) 0 0 (layP 0 t)))∧Below W.heap.size W w'):=fun W hb=>by
  obtain⟨s,c,N,S,h1,h2,h3⟩:=(hE.low hb).x;injection h1 with e1 _ e2;subst e1 e2;exact zfp W sn cn N S (layP 0 t) h2 h3 (by have:=hT.n;omega) fun d hd=>⟨fun k hk=>by have:=(hbd d hd).1 k hk;omega,by have:=(hbd d hd).2;have:=hT.n;omega⟩
 have HWRI:Hid (∀ W,Below w.heap.size w W->Calls Tryz.prog 79 #[.agg #[.slice sn (layP 0 t).length cn]] W fun e w'=>∃ v',e=.returned v'∧OwnT W.heap.size w' v' (wrP t)∧Below W.heap.size W w'):=fun W hb=>zln t (hP.low hb) (hE.low hb) hT.g (by have:=hT.n;omega);have HTB:Hid (∀ W,Below w.heap.size w W->Tabl W):=fun W hb=>(hE.low hb).t;have HE:Hid (∀ W,Below w.heap.size w W->∃ N S,RowsAt W 7 NdM.cells sn N∧Rep W S N (layP 0 t)):=fun W hb=>by
  obtain⟨s,c,N,S,h1,h2,h3⟩:=(hE.low hb).x;injection h1 with e1 _ e2;subst e1 e2;exact⟨N,S,h2,h3⟩
 have HT:=hid hT;have hn:=hT.n;have hwl:=zi4 t;have hdd:=hT.d;rw[<-hlc] at hn;clear hP hE hT hbd;generalize hnl:(layP 0 t).length=nl at *;generalize hdp:dpF (fun _=>0) 0 0 (layP 0 t)=dp at *;have hd1:decide (2048<nl)=false:=by simp;omega
 have hd2:decide (24<dp)=false:=by simp;omega
 have HNL:Hid _:=hnl;have HWL:Hid _:=hwl;have HLC:Hid _:=hlc;clear hnl hdp hwl hlc hdd
 go_enter Tryz.func43,Tryz.ntmps43
 go_wp2_with fail
 have r0:=heap_alloc_new w (.cells #[.slice sn nl cn] 25);have b0:Below w.heap.size w (w.alloc (.cells #[.slice sn nl cn] 25)):=(Below.refl _ _).alloc (Nat.le_refl _) _;refine(HORD.out _ b0).mono ?_;rintro e W1 ⟨rfl,b1⟩;have B1:Hid (Below w.heap.size w W1):=b0.trans (b1.mono b0.size);have R1:Hid (W1.heap[w.heap.size]?=some (.cells #[.slice sn nl cn] 25 (0,0))):=(b1.block _ (zab r0)).trans r0;have c1:W1.cell? ⟨w.heap.size,0,none⟩=some (.slice sn nl cn):=(cell_of_row _ _ 0 _ _ _ R1.out).trans rfl;clear r0 b0 b1
 go_wp2_with fail
 refine(HDEP.out _ B1.out).mono ?_;rintro e W2 ⟨rfl,b2⟩;have B2:Hid (Below w.heap.size w W2):=B1.out.trans (b2.mono B1.out.size);have R2:Hid (W2.heap[w.heap.size]?=some (.cells #[.slice sn nl cn] 25 (0,0))):=(b2.block _ (zab R1.out)).trans R1.out;have c2:W2.cell? ⟨w.heap.size,0,none⟩=some (.slice sn nl cn):=(cell_of_row _ _ 0 _ _ _ R2.out).trans rfl;clear b2 c1 B1 R1
 go_wp2_with fail
 refine(HWRI.out _ B2.out).mono ?_;rintro e W3 ⟨v3,rfl,o3,b3⟩;have B3:Hid (Below w.heap.size w W3):=B2.out.trans (b3.mono B2.out.size);have R3:Hid (W3.heap[w.heap.size]?=some (.cells #[.slice sn nl cn] 25 (0,0))):=(b3.block _ (zab R2.out)).trans R2.out;have O3:Hid (OwnT w.heap.size W3 v3 (wrP t)):=o3.mono B2.out.size;obtain⟨sp,cp,rfl,hrows,-,-,-⟩:=OwnG.rows elT O3.out;have HRO:=hid hrows;have HWN:Hid ((wrP t).length<=100000):=by have:=HWL.out;have:=HLC.out;show _<=_;omega
 clear b3 c2 B2 R2 o3 hrows
 go_wp2_with fail
 refine(zgb sp cp (wrP t) W3 HRO.out (by have:=HWN.out;omega)).mono ?_;rintro e W4 ⟨rfl,b4⟩;rw[HT.out.a];have B4:Hid (Below w.heap.size w W4):=B3.out.trans (b4.mono B3.out.size);have R4:Hid (W4.heap[w.heap.size]?=some (.cells #[.slice sn nl cn] 25 (0,0))):=(b4.block _ (zab R3.out)).trans R3.out;have O4:Hid (OwnT w.heap.size W4 (.slice sp (wrP t).length cp) (wrP t)):=O3.out.below b4;have HR4:=hid (HRO.out.below b4);clear b4 B3 R3 O3 HRO
 go_wp2_with fail
 refine(zj8 W4 sp cp (wrP t) HWN.out HT.out.s (fun W h=>⟨zeo h HR4.out,zbj h (HTB.out W4 B4.out)⟩)).mono ?_;rintro e W5 ⟨b5,hrd⟩;obtain⟨t',p,hf,heq⟩:=HT.out.f;rw[hf] at hrd;obtain⟨hcn,v5,rfl,ht5⟩:=hrd;have B5:Hid (Below w.heap.size w W5):=B4.out.trans (b5.mono B4.out.size);have R5:Hid (W5.heap[w.heap.size]?=some (.cells #[.slice sn nl cn] 25 (0,0))):=(b5.block _ (zab R4.out)).trans R4.out;have O5:Hid (OwnT w.heap.size W5 (.slice sp (wrP t).length cp) (wrP t)):=O4.out.below b5;have HT5:=hid ht5;have HEQ:=hid heq;have HCN:=hid hcn;clear b5 B4 R4 O4 HR4 hf heq ht5 hcn;have c5:W5.cell? ⟨w.heap.size,0,none⟩=some (.slice sn nl cn):=(cell_of_row _ _ 0 _ _ _ R5.out).trans rfl;obtain⟨s5,k5,hv5⟩:∃ s5 k5,v5=.slice s5 (layP 0 t').length k5:=by
  obtain⟨N,S,h1,h2,-⟩:=HT5.out;obtain⟨s,c,e⟩:=OwnG.shape h1;exact⟨s,c,by rw[e,h2.1]⟩
 subst hv5;have hbA:Below W5.heap.size W5 ((W5.alloc (.cells #[.slice s5 (layP 0 t').length k5] 25)).alloc (.cells #[.int .i64 0,.int .i64 0] 28)):=((Below.refl _ _).alloc (Nat.le_refl _) _).alloc (by simp) _;have cA:((W5.alloc (.cells #[.slice s5 (layP 0 t').length k5] 25)).alloc (.cells #[.int .i64 0,.int .i64 0] 28)).cell? ⟨w.heap.size,0,none⟩=some (.slice sn nl cn):=(cell_of_row _ _ 0 _ _ _ ((hbA.block _ (zab R5.out)).trans R5.out)).trans rfl;have HBA:Hid _:=hbA;clear hbA
 go_wp2_with fail
 have hbw:=B5.out.trans (HBA.out.mono B5.out.size);obtain⟨M,T,hM,hMR⟩:=HE.out _ hbw;obtain⟨N,S,hO,hNR,hS5⟩:=HT5.out.below HBA.out;obtain⟨s6,k6,hs6,hrows6,-,-,-⟩:=OwnG.rows elN hO;injection hs6 with e1 _ e2;subst e1 e2;have HSA:=zlf s5 sn k5 cn N M S T (layP 0 t') (layP 0 t) _ hrows6 hNR hM hMR (by rw[zbt];have:=HCN.out;omega) (by rw[HNL.out];omega) (fun d hd=>by have:=(zgp t' 0 d hd).2;have:=HCN.out;omega) HKD.out;rw[HNL.out] at HSA;have O6:Hid _:=O5.out.below HBA.out;have HBW:Hid _:=hbw;clear hbw hM hMR hO hNR hS5 hrows6 cA c5;refine HSA.mono ?_;rintro e W6 ⟨rfl,b6⟩;rw[HEQ.out];have B6:=hid (HBW.out.trans (b6.mono HBW.out.size));have O7:Hid (OwnT w.heap.size W6 (.slice sp (wrP t).length cp) (wrP t)):=OwnG.below O6.out b6;clear b6 O6 HBW HSA HBA
 go_wp2
 go_ret2
 exact⟨_,rfl,O7.out,B6.out⟩
theorem zd5 {w:World}{sn:Option Addr}{cn:Nat}{t:Pt}(hP:TabP w)(hE:EnW w (.slice sn (layP 0 t).length cn) (layP 0 t))(hT:TrW t)(hl:(wrP t).length<=1024) :
  Calls Tryz.prog 18 #[.agg #[.slice sn (layP 0 t).length cn]] w fun e w'=>∃ v',e=.returned (.tuple #[v',.int .i64 0])∧OwnT w.heap.size w' v' (wrP t)∧Below w.heap.size w w':=by
 have HC:Hid (∀ W,Below w.heap.size w W->Calls Tryz.prog 43 #[.agg #[.slice sn (layP 0 t).length cn]] W fun e w'=>∃ v',e=.returned (.tuple #[v',.int .i64 0])∧OwnT W.heap.size w' v' (wrP t)∧Below W.heap.size W w'):=fun W hb=>zfr (hP.low hb) (hE.low hb) hT;clear hP hE hT;generalize (layP 0 t).length=nl at *;have hd:decide (1024<(wrP t).length)=false:=by simp;omega
 have HO:Hid (∀ (B:Nat) (W:World) (v:Value),OwnT B W v (wrP t)->∃ sp cap,v=.slice sp (wrP t).length cap):=fun B W v h=>OwnG.shape h;generalize hwl:(wrP t).length=wl at *;clear hwl
 go_enter Tryz.func18,Tryz.ntmps18
 go_wp2_with fail
 have b0:Below w.heap.size w (w.alloc (.cells #[.slice sn nl cn] 25)):=(Below.refl _ _).alloc (Nat.le_refl _) _;refine(HC.out _ b0).mono ?_;rintro e W ⟨v',rfl,ho,hb⟩;obtain⟨sp,cap,hv⟩:=HO.out _ _ _ ho;subst hv;have HB:Hid (Below w.heap.size w W):=b0.trans (hb.mono b0.size);have HOW:Hid (OwnT w.heap.size W (.slice sp wl cap) (wrP t)):=OwnG.mono ho b0.size;clear ho hb b0
 go_wp2
 go_ret2
 exact⟨_,rfl,HOW.out,HB.out⟩
theorem zlq {α:Type}{eq:α->α->Bool}:∀ {a b c d:List α},eqAll eq a b=true->eqAll eq c d=true->eqAll eq (a++c) (b++d)=true
 | [],[],_,_,_,h=>h
 | [],_::_,_,_,h,_=>by simp[eqAll] at h
 | _::_,[],_,_,h,_=>by simp[eqAll] at h
 | x::a,y::b,c,d,h,h'=>by
  rw[eqAll,Bool.and_eq_true] at h;rw[List.cons_append,List.cons_append,eqAll,h.1,zlq h.2 h'];rfl
mutual
theorem zi7:∀ (t t':Pt),smP t t'->cntP t=cntP t'
 | .mk k x n a f e l,.mk k' x' n' a' f' e' l',h=>by
  unfold smP at h;rw[cntP,cntP,zs4 l l' h.2.2.2]
theorem zs4:∀ (l l':List Pt),smL l l'->cntL l=cntL l'
 | [],[],_=>rfl
 | [],_::_,h=>by unfold smL smP.go at h;exact h.elim
 | _::_,[],h=>by unfold smL smP.go at h;exact h.elim
 | t::r,t'::r',h=>by
  unfold smL smP.go at h;rw[cntL,cntL,zi7 t t' h.1,zs4 r r' h.2]
end
theorem zyg:∀ (l l':List Pt)(i:Nat),smL l l'->kidI i l=kidI i l'
 | [],[],_,_=>rfl
 | [],_::_,_,h=>by unfold smL smP.go at h;exact h.elim
 | _::_,[],_,h=>by unfold smL smP.go at h;exact h.elim
 | t::r,t'::r',i,h=>by
  unfold smL smP.go at h;rw[kidI,kidI,zi7 t t' h.1,zyg r r' _ h.2]
mutual
theorem zs5:∀ (t t':Pt)(i:Nat),smP t t'->eqAll ndEq (layP i t) (layP i t')=true
 | .mk k x n a f e l,.mk k' x' n' a' f' e' l',i,h=>by
  unfold smP at h;obtain⟨rfl,rfl,rfl,hl⟩:=h;rw[layP,layP,eqAll,zs6 l l' (i+1) hl,zyg l l' _ hl];simp[ndEq]
theorem zs6:∀ (l l':List Pt)(i:Nat),smL l l'->eqAll ndEq (layL i l) (layL i l')=true
 | [],[],_,_=>by rw[layL];rfl
 | [],_::_,_,h=>by unfold smL smP.go at h;exact h.elim
 | _::_,[],_,h=>by unfold smL smP.go at h;exact h.elim
 | t::r,t'::r',i,h=>by
  unfold smL smP.go at h;rw[layL,layL,<-zi7 t t' h.1];exact zlq (zs5 t t' i h.1) (zs6 r r' _ h.2)
end
inductive Ty:Pt->Prop
 | basic {x:ByteArray}{a f t:Int}:(x=strU [105,110,116]∨x=strU [98,111,111,108]∨x=strU [115,116,114,105,110,103])->Ty (.mk 10 x 0 a f t [])
 | named {x:ByteArray}{a f t:Int}:kepB x=false->plF x->Ty (.mk 11 x 0 a f t [])
 | far {x y:ByteArray}{a f t a' f' t':Int}:kepB x=false->kepB y=false->plF y->Ty (.mk 12 x 0 a f t [.mk 23 y 0 a' f' t' []])
theorem zyh (x:ByteArray)(a f t:Int):wrP (.mk 10 x 0 a f t [])=[tkW 1 x]:=by rw[wrP,wrM];rfl
theorem zh7 (x:ByteArray)(a f t:Int):wrP (.mk 11 x 0 a f t [])=[tkW 1 x]:=by rw[wrP,wrM];rfl
theorem zlr (x y:ByteArray)(a f t a' f' t':Int):wrP (.mk 12 x 0 a f t [.mk 23 y 0 a' f' t' []])=[tkW 1 y,sgT [46],tkW 1 x]:=by rw[wrP,wrM,wrM,wrP,wrM];rfl
theorem zd9 {ts:List Tok}{p:Nat}{x:ByteArray}{r:List Tok}(h:Hs ts p (tkW 1 x::r))(hx:kepB x=false):namB ts p=true:=by
 have h1:(nxT ts p).kind=1:=h.one.1;have h2:(nxT ts p).text=x:=h.one.2;unfold namB;rw[h1,h2,hx];rfl
theorem zs7 {ts:List Tok}{p:Nat}{x:ByteArray}{r:List Tok}(h:Hs ts p (tkW 1 x::r))(hx:kepB x=false):(isT ts p [105,110,116] || isT ts p [98,111,111,108] || isT ts p [115,116,114,105,110,103])=false:=by
 have h2:(nxT ts p).text=x:=h.one.2;unfold isT;rw[h2];unfold kepB at hx;simp only[Bool.or_eq_false_iff] at hx ⊢;exact⟨⟨hx.1.1.2,hx.1.2⟩,hx.2⟩
theorem zww {e:Pt}(h:Ty e)(ts:List Tok)(p:Nat)(hh:Hs ts p (wrP e))(hd:isT ts (p+(wrP e).length) [46]=false):∃ e',smP e e'∧typP ts p=.ok e' (p+(wrP e).length):=by
 cases h with
 | @basic x a f t hx=>
  rw[zyh] at hh hd ⊢;have htx:(nxT ts p).text=x:=hh.one.2;refine⟨_,zbk (a':=(nxT ts p).pos) (f':=herI ts p) (t':=behI ts (p+1)) zbw,?_⟩;have hio:(isT ts p [105,110,116] || isT ts p [98,111,111,108] || isT ts p [115,116,114,105,110,103])=true:=by
   unfold isT;rw[htx];rcases hx with rfl|rfl|rfl <;> decide
  unfold typP;rw[hio];unfold leaP;rw[htx];rfl
 | @named x a f t hx _=>
  rw[zh7] at hh hd ⊢;have htx:(nxT ts p).text=x:=hh.one.2;refine⟨_,zbk (a':=(nxT ts p).pos) (f':=herI ts p) (t':=behI ts (p+1)) zbw,?_⟩;have hd':isT ts (p+1) [46]=false:=hd;unfold typP;rw[zs7 hh hx,hd'];unfold worP leaP;rw[zd9 hh hx,htx];rfl
 | @far x y a f t a' f' t' hx hy _=>
  rw[zlr] at hh hd ⊢;have hty:(nxT ts p).text=y:=hh.one.2;have hh1:Hs ts (p+1) [sgT [46],tkW 1 x]:=hh.tail;have hh2:Hs ts (p+1+1) [tkW 1 x]:=hh1.tail;have htx:(nxT ts (p+1+1)).text=x:=hh2.one.2;have h46:isT ts (p+1) [46]=true:=hh1.is;refine⟨.mk 12 x 0 (nxT ts (p+1+1)).pos (herI ts p) (behI ts (p+1+1+1)) [.mk 23 y 0 (nxT ts p).pos (herI ts p) (behI ts (p+1)) []],zbk (zcg (zbk zbw)),?_⟩;unfold typP;rw[zs7 hh hy,h46];unfold worP leaP expP namP;rw[zd9 hh hy];simp only[Rs.need,Rs.bind,if_true,h46,zd9 hh2 hx,htx,hty];rfl
theorem z2y {k a f t:Int}{x:ByteArray}{v:Pt}(hx:kepB x=false)(hv:Ty v)(ts:List Tok)(p:Nat)(hh:Hs ts p (tkW 1 x::wrP v))(hd:isT ts (p+1+(wrP v).length) [46]=false):∃ e',smP (.mk k x 0 a f t [v]) e'∧tydP ts k p=.ok e' (p+1+(wrP v).length):=by
 have htx:(nxT ts p).text=x:=hh.one.2;obtain⟨v',h1,h2⟩:=zww hv ts (p+1) hh.tail hd;refine⟨.mk k x 0 (nxT ts p).pos (herI ts p) (behI ts (p+1+(wrP v).length)) [v'],zbk (zcg h1),?_⟩;unfold tydP namP;simp only[zd9 hh hx,h2,htx,Rs.need,Rs.bind,if_true]
theorem z2z {a f t a' f' t':Int}{x y:ByteArray}(hx:kepB x=false)(hy:kepB y=false)(ts:List Tok)(p:Nat)(hh:Hs ts p [tkW 1 x,tkW 1 y]):∃ e',smP (.mk 8 x 0 a f t [.mk 11 y 0 a' f' t' []]) e'∧recP ts p=.ok e' (p+1+1):=by
 have htx:(nxT ts p).text=x:=hh.one.2;have hty:(nxT ts (p+1)).text=y:=hh.tail.one.2;refine⟨.mk 8 x 0 (nxT ts p).pos (herI ts p) (behI ts (p+1+1)) [.mk 11 y 0 (nxT ts (p+1)).pos (herI ts (p+1)) (behI ts (p+1+1)) []],zbk (zcg (zbk zbw)),?_⟩;unfold recP namP worP leaP;simp only[zd9 hh hx,zd9 hh.tail hy,htx,hty,Rs.need,Rs.bind,if_true]
theorem z21 {a f t:Int}{x:ByteArray}(hx:∀ u:Tok,u.kind=3->u.text=quoT x->valT u=x)(ts:List Tok)(p:Nat)(hh:Hs ts p [wdT [105,109,112,111,114,116],tkW 3 (quoT x)]):∃ e',smP (.mk 2 x 0 a f t []) e'∧impP ts p=.ok e' (p+1+1):=by
 have hi:isT ts p [105,109,112,111,114,116]=true:=hh.is;have hk:(nxT ts (p+1)).kind=3:=hh.tail.one.1;have hq:(nxT ts (p+1)).text=quoT x:=hh.tail.one.2;refine⟨.mk 2 x 0 (nxT ts (p+1)).pos (herI ts p) (behI ts (p+1+1)) [],zbk zbw,?_⟩;unfold impP expP kinP;simp only[hi,hk,hx _ hk hq,Rs.need,if_true,beq_self_eq_true]
inductive Va:Pt->Prop
 | int {n a f t:Int}:(∀ u:Tok,u.kind=2->u.text=⟨(Lib.itoa n).toArray⟩->numT u=n)->plF ⟨(Lib.itoa n).toArray⟩->Va (.mk 20 ⟨#[]⟩ n a f t [])
 | text {x:ByteArray}{a f t:Int}:(∀ u:Tok,u.kind=3->u.text=quoT x->valT u=x)->plF (quoT x)->Va (.mk 21 x 0 a f t [])
 | bool {x:ByteArray}{a f t:Int}:(x=strU [116,114,117,101]∨x=strU [102,97,108,115,101])->Va (.mk 22 x 0 a f t [])
theorem zyi {e:Pt}(h:Va e)(ts:List Tok)(p:Nat)(hh:Hs ts p (wrP e)):(wrP e).length=1∧isT ts p [45]=false∧∃ e',smP e e'∧va1P ts p=.ok e' (p+1):=by
 cases h with
 | @int n a f t hn hp=>
  rw[zh4] at hh ⊢;have hk:(nxT ts p).kind=2:=hh.one.1;refine⟨rfl,hh.pl hp (by decide),.mk 20 ⟨#[]⟩ n (nxT ts p).pos (herI ts p) (behI ts (p+1)) [],zbk zbw,?_⟩;unfold va1P;rw[hk,hn _ hk hh.one.2];rfl
 | @text x a f t hx hp=>
  rw[zh5] at hh ⊢;have hk:(nxT ts p).kind=3:=hh.one.1;refine⟨rfl,hh.pl hp (by decide),.mk 21 x 0 (nxT ts p).pos (herI ts p) (behI ts (p+1)) [],zbk zbw,?_⟩;unfold va1P;rw[hk,hx _ hk hh.one.2];rfl
 | @bool x a f t hx=>
  rw[zh6] at hh ⊢;have hk:(nxT ts p).kind=1:=hh.one.1;have htx:(nxT ts p).text=x:=hh.one.2;have hp:plF x:=by
   rcases hx with rfl|rfl
   ·exact⟨116,[114,117,101],rfl,by decide⟩
   ·exact⟨102,[97,108,115,101],rfl,by decide⟩
  have hio:(isT ts p [116,114,117,101] || isT ts p [102,97,108,115,101])=true:=by
   unfold isT;rw[htx];rcases hx with rfl|rfl <;> decide
  refine⟨rfl,hh.pl hp (by decide),.mk 22 x 0 (nxT ts p).pos (herI ts p) (behI ts (p+1)) [],zbk zbw,?_⟩;unfold va1P;rw[hk,hio];unfold leaP;rw[htx];rfl
inductive Vc:Pt->Prop
 | va {e:Pt}:Va e->Vc e
 | neg {n a f t a' f' t':Int}:(∀ u:Tok,u.kind=2->u.text=⟨(Lib.itoa n).toArray⟩->numT u=n)->plF ⟨(Lib.itoa n).toArray⟩->Vc (.mk 26 (strU [45]) 0 a f t [.mk 20 ⟨#[]⟩ n a' f' t' []])
theorem z22 (n a f t a' f' t':Int):wrP (.mk 26 (strU [45]) 0 a f t [.mk 20 ⟨#[]⟩ n a' f' t' []])=[tkW 4 (strU [45]),nuT n]:=by
 rw[wrP,wrM,wrM,zh4];rfl
theorem z23 {e:Pt}(h:Vc e)(ts:List Tok)(p:Nat)(hh:Hs ts p (wrP e)):∃ e',smP e e'∧valP ts p=.ok e' (p+(wrP e).length):=by
 cases h with
 | va h=>
  obtain⟨h1,h2,e',h3,h4⟩:=zyi h ts p hh;refine⟨e',h3,?_⟩;unfold valP;rw[h2,h4,h1];rfl
 | @neg n a f t a' f' t' hn hp=>
  rw[z22] at hh ⊢;have h45:isT ts p [45]=true:=hh.is;have htx:(nxT ts p).text=strU [45]:=hh.one.2;have hk:(nxT ts (p+1)).kind=2:=hh.tail.one.1;have hq:(nxT ts (p+1)).text=⟨(Lib.itoa n).toArray⟩:=hh.tail.one.2;obtain⟨v',h1,h2⟩:∃ v',smP (.mk 20 ⟨#[]⟩ n a' f' t' []) v'∧va1P ts (p+1)=.ok v' (p+1+1):=by
   have:=(zyi (.int (a:=a') (f:=f') (t:=t') hn hp) ts (p+1) (by rw[zh4];exact hh.tail)).2.2;exact this
  refine⟨.mk 26 (strU [45]) 0 (nxT ts p).pos (herI ts p) (behI ts (p+1+1)) [v'],zbk (zcg h1),?_⟩;unfold valP;simp only[h45,hk,h2,htx,Rs.bind,if_true,beq_self_eq_true];rfl
theorem z24 {a f t:Int}{x:ByteArray}{v:Pt}(hx:kepB x=false)(hv:Vc v)(ts:List Tok)(p:Nat)(hh:Hs ts p (wdT [99,111,110,115,116]::tkW 1 x::sgT [61]::wrP v)):∃ e',smP (.mk 3 x 0 a f t [v]) e'∧conP ts p=.ok e' (p+1+1+1+(wrP v).length):=by
 have h1:isT ts p [99,111,110,115,116]=true:=hh.is;have h2:=hh.tail;have htx:(nxT ts (p+1)).text=x:=h2.one.2;have h3:isT ts (p+1+1) [61]=true:=h2.tail.is;obtain⟨v',h4,h5⟩:=z23 hv ts (p+1+1+1) h2.tail.tail;refine⟨.mk 3 x 0 (nxT ts (p+1)).pos (herI ts p) (behI ts (p+1+1+1+(wrP v).length)) [v'],zbk (zcg h4),?_⟩;unfold conP expP namP;simp only[h1,zd9 h2 hx,h3,h5,htx,Rs.need,Rs.bind,if_true]
def Pm (k:Int) (u:Pt):Prop:=∃ (x:ByteArray) (v:Pt) (a f t:Int),u=.mk k x 0 a f t [v]∧kepB x=false∧plF x∧Ty v
theorem z25 {k a f t:Int}{x:ByteArray}{v:Pt}(hk:k=6∨k=9):wrP (.mk k x 0 a f t [v])=tkW 1 x::wrP v:=by
 rcases hk with rfl|rfl
 ·rw[wrP,wrM,wrM];simp[wrK]
 ·rw[wrP,wrM,wrM];simp[wrK]
theorem z0l {k:Int}{u:Pt}(hk:k=6∨k=9)(h:Pm k u)(ts:List Tok)(p:Nat)(hh:Hs ts p (wrP u))(hd:isT ts (p+(wrP u).length) [46]=false):∃ u',smP u u'∧tydP ts k p=.ok u' (p+(wrP u).length):=by
 obtain⟨x,v,a,f,t,rfl,h1,-,h3⟩:=h;rw[z25 hk] at hh hd ⊢;rw[List.length_cons,show p+((wrP v).length+1)=p+1+(wrP v).length by omega] at hd ⊢;exact z2y h1 h3 ts p hh hd
theorem zyj {k:Int}{u:Pt}(hk:k=6∨k=9)(h:Pm k u){s:List UInt8}(hs:sgB s=true)(ts:List Tok)(p:Nat)(r:List Tok)(hh:Hs ts p (wrP u++r)):isT ts p s=false:=by
 obtain⟨x,v,a,f,t,rfl,-,h2,-⟩:=h;rw[z25 hk,List.cons_append] at hh;exact hh.pl h2 hs
theorem zs8:∀ (l:List Pt),(∀ u ∈ l,Pm 9 u)->∀ (ts:List Tok)(p:Nat)(acc:List Pt),Hs ts p (((l.map wrP).map (sgT [44]::·)).flatten++[sgT [41]]) ->
  ∃ l',smL l l'∧Ev (fun m=>(fns ts m).parL acc p) (.ok (acc++l') (p+((l.map wrP).map (sgT [44]::·)).flatten.length))
 | [],_,ts,p,acc,hh=>by
  refine⟨[],zbw,zbn ?_⟩;have h0:Hs ts p (tkW 4 (strU [41])::[]):=by simpa[sgT] using hh
  rw[List.append_nil];exact zav (by rw[h0.not (by decide)];simp) (zap _)
 | u::r,hl,ts,p,acc,hh=>by
  have hw:(((u::r).map wrP).map (sgT [44]::·)).flatten++[sgT [41]]=tkW 4 (strU [44])::(wrP u++(((r.map wrP).map (sgT [44]::·)).flatten++[sgT [41]])):=by simp[sgT]
  rw[hw] at hh;have ht:=hh.tail;have hc:=ht.right;have hn:∃ s rest,(((r.map wrP).map (sgT [44]::·)).flatten++[sgT [41]])=tkW 4 (strU s)::rest∧(s=[44]∨s=[41]):=by
   cases r with
   | nil=>exact⟨[41],[],by simp[sgT],.inr rfl⟩
   | cons v r'=>exact⟨[44],_,by simp[sgT];rfl,.inl rfl⟩
  obtain⟨s,rest,e1,e2⟩:=hn;have hc':=hc;rw[e1] at hc';obtain⟨u',h1,h2⟩:=z0l (.inr rfl) (hl u (by simp)) ts (p+1) ht.left (by rcases e2 with rfl|rfl <;> exact hc'.not (by decide));obtain⟨l',h3,h4⟩:=zs8 r (fun v hv=>hl v (by simp[hv])) ts (p+1+(wrP u).length) (acc++[u']) hc;refine⟨u'::l',zbu h1 h3,zbn ?_⟩;refine zbp hh.is (zat (by rw[h2];exact zap _) ?_);have e3:p+(((u::r).map wrP).map (sgT [44]::·)).flatten.length=p+1+(wrP u).length+((r.map wrP).map (sgT [44]::·)).flatten.length:=by simp;omega
  rw[e3,show acc++u'::l'=acc++[u']++l' by simp];exact h4
theorem z0m (l:List Pt)(hl:∀ u ∈ l,Pm 9 u)(ts:List Tok)(p:Nat)(hh:Hs ts p (wBrk (l.map wrP))) :
  ∃ l',smL l l'∧Ev (fun m=>lisP ts (tydP ts 9) (fns ts m).parL p) (.ok l' (p+(wBrk (l.map wrP)).length)):=by
 cases l with
 | nil=>
  have h0:Hs ts p (tkW 4 (strU [40])::tkW 4 (strU [41])::[]):=by simpa[wBrk,wPar,sgT] using hh
  refine⟨[],zbw,?_⟩;unfold lisP expP;refine za5 h0.is (zbp h0.tail.is ?_);simp[wBrk,wPar];exact zap _
 | cons u r=>
  have hw:wBrk ((u::r).map wrP)=tkW 4 (strU [40])::(wrP u++(((r.map wrP).map (sgT [44]::·)).flatten++[sgT [41]])):=by simp[wBrk,wPar,sgT]
  rw[hw] at hh ⊢;have ht:=hh.tail;have hc:=ht.right;have hn:∃ s rest,(((r.map wrP).map (sgT [44]::·)).flatten++[sgT [41]])=tkW 4 (strU s)::rest∧(s=[44]∨s=[41]):=by
   cases r with
   | nil=>exact⟨[41],[],by simp[sgT],.inr rfl⟩
   | cons v r'=>exact⟨[44],_,by simp[sgT];rfl,.inl rfl⟩
  obtain⟨s,rest,e1,e2⟩:=hn;have hc':=hc;rw[e1] at hc';obtain⟨u',h1,h2⟩:=z0l (.inr rfl) (hl u (by simp)) ts (p+1) ht.left (by rcases e2 with rfl|rfl <;> exact hc'.not (by decide));obtain⟨l',h3,h4⟩:=zs8 r (fun v hv=>hl v (by simp[hv])) ts (p+1+(wrP u).length) [u'] hc;have hz:Hs ts (p+1+(wrP u).length+((r.map wrP).map (sgT [44]::·)).flatten.length) (tkW 4 (strU [41])::[]):=hc.right;refine⟨u'::l',zbu h1 h3,?_⟩;unfold lisP expP;refine za5 hh.is (zav (by rw[zyj (.inr rfl) (hl u (by simp)) (by decide) ts (p+1) _ ht];simp) (zat (by rw[h2];exact zap _) (zat h4 (za5 hz.is ?_))));rw[show p+(tkW 4 (strU [40])::(wrP u++(((r.map wrP).map (sgT [44]::·)).flatten++[sgT [41]]))).length=p+1+(wrP u).length+((r.map wrP).map (sgT [44]::·)).flatten.length+1 by simp;omega];exact zap _
theorem zs9:∀ (l:List Pt),(∀ u ∈ l,Pm 6 u)->∀ (ts:List Tok)(p:Nat)(acc:List Pt),Hs ts p (wEnd (l.map wrP)++[sgT [125]]) ->
  ∃ l',smL l l'∧Ev (fun m=>(fns ts m).fieL acc p) (.ok (acc++l') (p+(wEnd (l.map wrP)).length))
 | [],_,ts,p,acc,hh=>by
  refine⟨[],zbw,zbn ?_⟩;have h0:Hs ts p (tkW 4 (strU [125])::[]):=by simpa[sgT,wEnd] using hh
  rw[List.append_nil];exact zbp h0.is (zap _)
 | u::r,hl,ts,p,acc,hh=>by
  have hw:wEnd ((u::r).map wrP)++[sgT [125]]=wrP u++(tkW 5 (strU [59])::(wEnd (r.map wrP)++[sgT [125]])):=by simp[wEnd,enT]
  rw[hw] at hh;have hc:=hh.right;have hk:(nxT ts (p+(wrP u).length)).kind=5:=hc.knd;obtain⟨u',h1,h2⟩:=z0l (.inl rfl) (hl u (by simp)) ts p hh.left (hc.not (by decide));obtain⟨l',h3,h4⟩:=zs9 r (fun v hv=>hl v (by simp[hv])) ts (p+(wrP u).length+1) (acc++[u']) hc.tail;refine⟨u'::l',zbu h1 h3,zbn ?_⟩;refine zav (by rw[zyj (.inl rfl) (hl u (by simp)) (by decide) ts p _ hh];simp) (zat (by rw[h2];exact zap _) (zav (by rw[hc.not (by decide)];simp) ?_));unfold kinP;refine za5 (by rw[hk];rfl) ?_;have e3:p+(wEnd ((u::r).map wrP)).length=p+(wrP u).length+1+(wEnd (r.map wrP)).length:=by simp[wEnd];omega
  rw[e3,show acc++u'::l'=acc++[u']++l' by simp];exact h4
def noA (u:Tok):Prop:=(u.text.data.toList == [58,61])=false
theorem zi8 {s:List UInt8}(h:(s == [58,61])=false):noA (sgT s):=by
 show((strU s).data.toList == [58,61])=false;simpa[strU] using h
theorem z26 {s:List UInt8}(hs:noA (sgT s)){os:List (List Tok)}(h:∀ o ∈ os,∀ u ∈ o,noA u):∀ u ∈ wPar s os,noA u:=by
 intro u hu
 cases os with
 | nil=>simp[wPar] at hu
 | cons o r=>
  simp only[wPar,List.mem_append,List.mem_flatten,List.mem_map] at hu;rcases hu with hu|⟨_,⟨b,hb,rfl⟩,hu⟩
  ·exact h o (by simp) u hu
  ·rcases List.mem_cons.1 hu with rfl|hu
   ·exact hs
   ·exact h b (by simp[hb]) u hu
theorem zyk {os:List (List Tok)}(h:∀ o ∈ os,∀ u ∈ o,noA u):∀ u ∈ wBrk os,noA u:=by
 intro u hu;simp only[wBrk,List.mem_append,List.mem_singleton] at hu;rcases hu with(rfl|hu) | rfl
 ·exact zi8 (by decide)
 ·exact z26 (zi8 (by decide)) h u hu
 ·exact zi8 (by decide)
theorem zls {k:Int}{x:ByteArray}{e:Pt}{i:Nat}(h:∀ u ∈ wrP e,noA u):∀ u ∈ opeT k x e i,noA u:=by
 unfold opeT
 split
 ·exact zyk fun o ho=>by
   obtain rfl:o=wrP e:=by simpa using ho
   exact h
 ·exact h
theorem z5g {e:Pt}(h:Ex e):∀ u ∈ wrP e,noA u:=by
 induction h with
 | @int n a f t hn hp=>
  rw[zh4];intro u hu;obtain rfl:u=nuT n:=by simpa using hu
  exact zgc hp (by decide)
 | @text x a f t hx hp=>
  rw[zh5];intro u hu;obtain rfl:u=tkW 3 (quoT x):=by simpa using hu
  exact zgc hp (by decide)
 | @bool x a f t hx=>
  rw[zh6];intro u hu;obtain rfl:u=tkW 1 x:=by simpa using hu
  show(x.data.toList == [58,61])=false;rcases hx with rfl|rfl <;> decide
 | @name x a f t hk hp=>
  rw[zkg];intro u hu;obtain rfl:u=tkW 1 x:=by simpa using hu
  exact zgc hp (by decide)
 | @dot x a f t e hk hp _ ih=>
  rw[zok];intro u hu;simp only[List.mem_append,List.mem_cons,List.not_mem_nil,or_false] at hu;rcases hu with hu|rfl|rfl
  ·exact zls ih u hu
  ·exact zi8 (by decide)
  ·exact zgc hp (by decide)
 | @call a f t e l _ _ ih il=>
  rw[zkh];intro u hu;rcases List.mem_append.1 hu with hu|hu
  ·exact zls ih u hu
  ·refine zyk (fun o ho=>?_) u hu;obtain⟨v,hv,rfl⟩:=List.mem_map.1 ho;exact il v hv
 | @una x a f t e hx _ ih=>
  rw[zol];intro u hu;rcases List.mem_cons.1 hu with rfl|hu
  ·show(x.data.toList == [58,61])=false;rcases hx with rfl|rfl <;> decide
  ·exact zls ih u hu
 | @bin x a f t u v hr _ _ iu iv=>
  rw[zom];intro w hw;rcases List.mem_append.1 hw with hw|hw
  ·exact zls iu w hw
  ·rcases List.mem_cons.1 hw with rfl|hw
   ·show(x.data.toList == [58,61])=false;rw[Bool.eq_false_iff];intro e;have e2:x.data.toList=[58,61]:=eq_of_beq e;unfold rowI at hr;rw[e2] at hr
    revert hr
    decide
   ·exact zls iv w hw
theorem zoo {e:Pt}(h:Ex e){w:Tok}{r:List Tok}(hw:noA w)(ts:List Tok)(p:Nat)(hh:Hs ts p (wrP e++w::r)):isT ts (p+1) [58,61]=false:=by
 obtain⟨a,q,e1,-⟩:=zs2 h;have h2:∃ b s,q++w::r=b::s∧noA b:=by
  cases q with
  | nil=>exact⟨w,r,rfl,hw⟩
  | cons b s=>exact⟨b,s++w::r,rfl,z5g h b (by rw[e1];simp)⟩
 obtain⟨b,s,e2,hb⟩:=h2;rw[e1,List.cons_append,e2] at hh;exact hh.tail.notT hb
def foS (s:List UInt8):Prop:=(s == [46])=false∧(s == [40])=false∧rowI (strU s)<0
theorem zkj {e:Pt}(h:Ex e){k:Int}{s:List UInt8}{r:List Tok}(hs:foS s)(ts:List Tok)(p:Nat)(hh:Hs ts p (wrP e++tkW k (strU s)::r)):∃ e',smP e e'∧Ev (fun m=>(fns ts m).bin 0 p) (.ok e' (p+(wrP e).length)):=by
 have hc:=hh.right;exact(z5f h).c4 0 (by omega) (by omega) ts p hh.left ⟨hc.not hs.1,hc.not hs.2.1⟩ (zwu hc hs.2.2 (by omega))
def fol (k:Int) (s:List UInt8):Prop:=(k=5∧s=[59])∨(k=4∧s=[125])
theorem zi9 {k:Int}{s:List UInt8}(h:fol k s):foS s:=by
 rcases h with⟨-,rfl⟩ | ⟨-,rfl⟩ <;> exact⟨by decide,by decide,by decide⟩
theorem z0n {a f t:Int}{e:Pt}(he:Ex e){k:Int}{s:List UInt8}{r:List Tok}(hf:fol k s)(ts:List Tok)(p:Nat)(hh:Hs ts p (wrP e++tkW k (strU s)::r)):∃ e',smP (.mk 19 ⟨#[]⟩ 0 a f t [e]) e'∧Ev (fun m=>simP ts (fns ts m) p) (.ok e' (p+(wrP e).length)):=by
 obtain⟨e',h1,h2⟩:=zkj he (zi9 hf) ts p hh;have hc:=hh.right;refine⟨.mk 19 ⟨#[]⟩ 0 (herI ts p) (herI ts p) (behI ts (p+(wrP e).length)) [e'],zbk (zcg h1),?_⟩;unfold simP;refine zat h2 (zav ?_ (zap _));rw[show isT ts (p+(wrP e).length) [61]=false by rcases hf with⟨rfl,rfl⟩ | ⟨rfl,rfl⟩ <;> exact hc.not (by decide)];simp
theorem z0o {a f t:Int}{e d:Pt}(he:Ex e)(hd:Ex d){k:Int}{s:List UInt8}{r:List Tok}(hf:fol k s)(ts:List Tok)(p:Nat)(hh:Hs ts p (wrP e++tkW 4 (strU [61])::(wrP d++tkW k (strU s)::r))):∃ e',smP (.mk 18 ⟨#[]⟩ 0 a f t [e,d]) e'∧Ev (fun m=>simP ts (fns ts m) p) (.ok e' (p+(wrP e).length+1+(wrP d).length)):=by
 obtain⟨e',h1,h2⟩:=zkj he ⟨by decide,by decide,by decide⟩ ts p hh;have hc:=hh.right;obtain⟨d',h3,h4⟩:=zkj hd (zi9 hf) ts (p+(wrP e).length+1) hc.tail;refine⟨.mk 18 ⟨#[]⟩ 0 (herI ts p) (herI ts p) (behI ts (p+(wrP e).length+1+(wrP d).length)) [e',d'],zbk (zbu h1 (zcg h3)),?_⟩;unfold simP;exact zat h2 (zbp hc.is (zat h4 (zap _)))
theorem z0p {a f t:Int}{x:ByteArray}{e:Pt}(hx:kepB x=false)(he:Ex e){k:Int}{s:List UInt8}{r:List Tok}(hf:fol k s)(ts:List Tok)(p:Nat)(hh:Hs ts p (tkW 1 x::tkW 4 (strU [58,61])::(wrP e++tkW k (strU s)::r))):∃ e',smP (.mk 17 x 0 a f t [e]) e'∧Ev (fun m=>shoP ts (fns ts m) p) (.ok e' (p+1+1+(wrP e).length)):=by
 have htx:(nxT ts p).text=x:=hh.one.2;obtain⟨e',h1,h2⟩:=zkj he (zi9 hf) ts (p+1+1) hh.tail.tail;refine⟨.mk 17 x 0 (nxT ts p).pos (herI ts p) (behI ts (p+1+1+(wrP e).length)) [e'],zbk (zcg h1),?_⟩;unfold shoP namP expP;refine za5 (zd9 hh hx) (za5 hh.tail.is (zat h2 ?_));rw[htx];exact zap _
theorem zwx {a f t:Int}{k:Int}{s:List UInt8}{r:List Tok}(hf:fol k s)(ts:List Tok)(p:Nat)(hh:Hs ts p (wdT [114,101,116,117,114,110]::tkW k (strU s)::r)):∃ e',smP (.mk 16 ⟨#[]⟩ 0 a f t []) e'∧Ev (fun m=>resP ts (fns ts m) p) (.ok e' (p+1)):=by
 refine⟨.mk 16 ⟨#[]⟩ 0 (herI ts p) (herI ts p) (behI ts (p+1)) [],zbk zbw,?_⟩;have hk:(nxT ts (p+1)).kind=k:=hh.tail.knd;unfold resP expP;refine za5 hh.is (zav ?_ (zap _));rcases hf with⟨rfl,rfl⟩ | ⟨rfl,rfl⟩
 ·rw[hk];simp
 ·rw[show isT ts (p+1) [125]=true from hh.tail.is];simp
theorem z0q {a f t:Int}{e:Pt}(he:Ex e){k:Int}{s:List UInt8}{r:List Tok}(hf:fol k s)(ts:List Tok)(p:Nat)(hh:Hs ts p (wdT [114,101,116,117,114,110]::(wrP e++tkW k (strU s)::r))):∃ e',smP (.mk 16 ⟨#[]⟩ 0 a f t [e]) e'∧Ev (fun m=>resP ts (fns ts m) p) (.ok e' (p+1+(wrP e).length)):=by
 obtain⟨e',h1,h2⟩:=zkj he (zi9 hf) ts (p+1) hh.tail;refine⟨.mk 16 ⟨#[]⟩ 0 (herI ts p) (herI ts p) (behI ts (p+1+(wrP e).length)) [e'],zbk (zcg h1),?_⟩;obtain⟨b,q,e1,hb⟩:=zs2 he;have hq:Hs ts (p+1) (b::(q++tkW k (strU s)::r)):=by have:=hh.tail;rw[e1,List.cons_append] at this;exact this
 have hk:((nxT ts (p+1)).kind == 5)=false:=by rw[hq.knd];simpa using zki hb
 have hi:isT ts (p+1) [125]=false:=by
  unfold isT;rw[(hq.one (zki hb)).2];exact zs3 hb (by decide) (by decide) (by decide) (by decide)
 unfold resP expP;exact za5 hh.is (zbp (by rw[hk,hi];rfl) (zat h2 (zap _)))
theorem zta {a f t:Int}{x:ByteArray}{v:Pt}(hx:kepB x=false)(hv:Ty v){k:Int}{s:List UInt8}{r:List Tok}(hf:fol k s)(ts:List Tok)(p:Nat)(hh:Hs ts p (wdT [118,97,114]::tkW 1 x::(wrP v++tkW k (strU s)::r))):∃ e',smP (.mk 4 x 0 a f t [v]) e'∧Ev (fun m=>varP ts (fns ts m) p) (.ok e' (p+1+1+(wrP v).length)):=by
 have h2:=hh.tail;have htx:(nxT ts (p+1)).text=x:=h2.one.2;have hc:=h2.tail.right;obtain⟨v',h3,h4⟩:=zww hv ts (p+1+1) h2.tail.left (hc.not (zi9 hf).1);refine⟨.mk 4 x 0 (nxT ts (p+1)).pos (herI ts p) (behI ts (p+1+1+(wrP v).length)) [v'],zbk (zcg h3),?_⟩;unfold varP expP namP;refine za5 hh.is (za5 (zd9 h2 hx) (zat (by rw[h4];exact zap _) (zav ?_ ?_)))
 ·rw[show isT ts (p+1+1+(wrP v).length) [61]=false by rcases hf with⟨rfl,rfl⟩ | ⟨rfl,rfl⟩ <;> exact hc.not (by decide)];simp
 ·rw[htx];exact zap _
theorem ztb {a f t:Int}{x:ByteArray}{v d:Pt}(hx:kepB x=false)(hv:Ty v)(hd:Ex d){k:Int}{s:List UInt8}{r:List Tok}(hf:fol k s)(ts:List Tok)(p:Nat)(hh:Hs ts p (wdT [118,97,114]::tkW 1 x::(wrP v++tkW 4 (strU [61])::(wrP d++tkW k (strU s)::r)))):∃ e',smP (.mk 4 x 0 a f t [v,d]) e'∧Ev (fun m=>varP ts (fns ts m) p) (.ok e' (p+1+1+(wrP v).length+1+(wrP d).length)):=by
 have h2:=hh.tail;have htx:(nxT ts (p+1)).text=x:=h2.one.2;have hc:=h2.tail.right;obtain⟨v',h3,h4⟩:=zww hv ts (p+1+1) h2.tail.left (hc.not (by decide));obtain⟨d',h5,h6⟩:=zkj hd (zi9 hf) ts (p+1+1+(wrP v).length+1) hc.tail;refine⟨.mk 4 x 0 (nxT ts (p+1)).pos (herI ts p) (behI ts (p+1+1+(wrP v).length+1+(wrP d).length)) [v',d'],zbk (zbu h3 (zcg h5)),?_⟩;unfold varP expP namP;refine za5 hh.is (za5 (zd9 h2 hx) (zat (by rw[h4];exact zap _) (zbp hc.is (zat h6 ?_))));rw[htx];exact zap _
end Go.Proofs.YtabiangdmibocaaGreatDoor
