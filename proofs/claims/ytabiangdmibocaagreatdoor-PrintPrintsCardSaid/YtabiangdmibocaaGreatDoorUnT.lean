import Derived.Test.YtabiangdmibocaaGreatDoorUnS
import Derived.Test.YtabiangdmibocaaGreatDoorUnQ
import Derived.Test.YtabiangdmibocaaGreatDoorUnE
import Derived.Test.YtabiangdmibocaaGreatDoorUnD
namespace Go.Proofs.YtabiangdmibocaaGreatDoor
set_option maxRecDepth 100000
open Go.RowKit
theorem zia {k:Int}:∀ (cs bs:List (Int × ByteArray)),(∀ h ∈ cs,h.1=k)->(∀ h ∈ bs,h.1≠k)->cutN k (cs++bs)=cs.length
 | [],[],_,_=>rfl
 | [],b::bs,_,h=>by
  have:=h b (by simp);show cutN k (b::bs)=0;rw[cutN,if_neg (by simpa using this)]
 | a::cs,bs,h,h'=>by
  have:=h a (by simp);rw[List.cons_append,cutN,if_pos (by simpa using this),zia cs bs (fun u hu=>h u (by simp[hu])) h',List.length_cons]
def ReL (rs:List Pt):Prop:=rs=[]∨∃ (y z:ByteArray) (a f t a' f' t':Int),rs=[.mk 8 y 0 a f t [.mk 11 z 0 a' f' t' []]]∧kepB y=false∧kepB z=false
def TyL (ys:List Pt):Prop:=ys=[]∨∃ v,ys=[v]∧Ty v
def Bl (b:Pt):Prop:=∃ (a f t:Int) (l:List Pt),b=.mk 13 ⟨#[]⟩ 0 a f t l∧∀ u ∈ l,St u
inductive Dc:Pt->Prop
 | con {a f t:Int}{x:ByteArray}{v:Pt}:kepB x=false->Vc v->Dc (.mk 3 x 0 a f t [v])
 | var1 {a f t:Int}{x:ByteArray}{v:Pt}:kepB x=false->Ty v->Dc (.mk 4 x 0 a f t [v])
 | var2 {a f t:Int}{x:ByteArray}{v d:Pt}:kepB x=false->Ty v->Ex d->Dc (.mk 4 x 0 a f t [v,d])
 | str {a f t:Int}{x:ByteArray}{l:List Pt}:kepB x=false->(∀ u ∈ l,Pm 6 u)->Dc (.mk 5 x 0 a f t l)
 | fn {a f t:Int}{x:ByteArray}{rs ps ys:List Pt}{b:Pt}:kepB x=false->plF x->ReL rs->(∀ u ∈ ps,Pm 9 u)->TyL ys->Bl b->Dc (.mk 7 x 0 a f t (rs++ps++ys++[b]))
theorem zm0 {v:Pt}(h:Ty v):(hdP v).1≠8∧(hdP v).1≠9:=by
 cases h <;> exact⟨by simp[hdP],by simp[hdP]⟩
theorem zm1 {b:Pt}(h:Bl b):(hdP b).1≠8∧(hdP b).1≠9:=by
 obtain⟨a,f,t,l,rfl,-⟩:=h;exact⟨by simp[hdP],by simp[hdP]⟩
theorem zgr {k:Int}{u:Pt}(h:Pm k u):(hdP u).1=k:=by
 obtain⟨x,v,a,f,t,rfl,-⟩:=h;rfl
theorem z3d (y z:ByteArray)(a f t a' f' t':Int):wrP (.mk 8 y 0 a f t [.mk 11 z 0 a' f' t' []])=[tkW 1 y,tkW 1 z]:=by
 rw[wrP,wrM,wrM,zh7];simp[wrK]
def wRec (rs:List Pt):List Tok:=match rs with | []=>[] | _=>wBrk (rs.map wrP)
theorem z3e {a f t:Int}{x:ByteArray}{rs ps ys:List Pt}{b:Pt}(h1:ReL rs)(h2:∀ u ∈ ps,Pm 9 u)(h3:TyL ys)(h4:Bl b) :
  wrP (.mk 7 x 0 a f t (rs++ps++ys++[b]))=wdT [102,117,110,99]::(wRec rs++tkW 1 x::(wBrk (ps.map wrP)++((ys.map wrP).flatten++wrP b))):=by
 have hr:∀ h ∈ rs.map hdP,h.1=8:=by
  rcases h1 with rfl|⟨y,z,a,f,t,a',f',t',rfl,-⟩
  ·simp
  ·simp[hdP]
 have hy:∀ h ∈ (ys++[b]).map hdP,h.1≠8∧h.1≠9:=by
  intro h hh;obtain⟨u,hu,rfl⟩:=List.mem_map.1 hh;rcases List.mem_append.1 hu with hu|hu
  ·rcases h3 with rfl|⟨v,rfl,hv⟩
   ·simp at hu
   ·obtain rfl:u=v:=by simpa using hu
    exact zm0 hv
  ·obtain rfl:u=b:=by simpa using hu
   exact zm1 h4
 have hp:∀ h ∈ ps.map hdP,h.1=9:=by
  intro h hh;obtain⟨u,hu,rfl⟩:=List.mem_map.1 hh;exact zgr (h2 u hu)
 have c8:cutN 8 ((rs++ps++ys++[b]).map hdP)=rs.length:=by
  rw[show(rs++ps++ys++[b]).map hdP=rs.map hdP++(ps++(ys++[b])).map hdP by simp];rw[zia _ _ hr,List.length_map];intro h hh;rw[List.map_append] at hh;rcases List.mem_append.1 hh with hh|hh
  ·rw[hp h hh];decide
  ·exact(hy h hh).1
 have d8:((rs++ps++ys++[b]).map hdP).drop rs.length=ps.map hdP++(ys++[b]).map hdP:=by
  rw[show(rs++ps++ys++[b]).map hdP=rs.map hdP++(ps++(ys++[b])).map hdP by simp];rw[List.drop_left' (by simp),List.map_append]
 have c9:cutN 9 (((rs++ps++ys++[b]).map hdP).drop rs.length)=ps.length:=by
  rw[d8,zia _ _ hp fun h hh=>(hy h hh).2,List.length_map]
 have d9:((rs++ps++ys++[b]).map wrP).drop rs.length=ps.map wrP++(ys++[b]).map wrP:=by
  rw[show(rs++ps++ys++[b]).map wrP=rs.map wrP++(ps++(ys++[b])).map wrP by simp];rw[List.drop_left' (by simp),List.map_append]
 have t8:((rs++ps++ys++[b]).map wrP).take rs.length=rs.map wrP:=by
  rw[show(rs++ps++ys++[b]).map wrP=rs.map wrP++(ps++(ys++[b])).map wrP by simp];rw[List.take_left' (by simp)]
 rw[wrP,zcn];show wFun x _ _=_;unfold wFun;rw[c8,c9,d9,t8,List.take_left' (by simp),List.drop_left' (by simp)];have hrc:(if 0<rs.length then wBrk (rs.map wrP) else[])=wRec rs:=by
  cases rs with
  | nil=>rfl
  | cons r rr=>simp[wRec]
 rw[hrc];simp
theorem z3f (a f t:Int)(x:ByteArray)(l:List Pt):wrP (.mk 5 x 0 a f t l)=wdT [116,121,112,101]::tkW 1 x::wdT [115,116,114,117,99,116]::(tkW 4 (strU [123])::(wEnd (l.map wrP)++[sgT [125]])):=by
 rw[wrP,zcn];simp[wrK,wBra,sgT]
theorem z3g (a f t:Int)(x:ByteArray)(v:Pt):wrP (.mk 3 x 0 a f t [v])=wdT [99,111,110,115,116]::tkW 1 x::sgT [61]::wrP v:=by
 rw[wrP,zcn];simp[wrK]
theorem z3h {v:Pt}(h:Ty v):∃ (y:ByteArray)(r:List Tok),wrP v=tkW 1 y::r∧plF y:=by
 cases h with
 | basic hx=>
  refine⟨_,_,zyh _ _ _ _,?_⟩;rcases hx with rfl|rfl|rfl
  ·exact⟨105,[110,116],rfl,by decide⟩
  ·exact⟨98,[111,111,108],rfl,by decide⟩
  ·exact⟨115,[116,114,105,110,103],rfl,by decide⟩
 | named _ hp=>exact⟨_,_,zh7 _ _ _ _,hp⟩
 | far _ _ hp=>exact⟨_,_,zlr _ _ _ _ _ _ _ _,hp⟩
theorem z3i {b:Pt}(h:Bl b)(ts:List Tok)(p:Nat)(hh:Hs ts p (wrP b)):isT ts p [123]=true∧isT ts p [46]=false∧∃ b',smP b b'∧Ev (fun m=>bloP ts (fns ts m) p) (.ok b' (p+(wrP b).length)):=by
 obtain⟨a,f,t,l,rfl,hl⟩:=h;rw[zh8] at hh ⊢;have h0:=hh;rw[zjb] at h0;exact⟨h0.is,h0.not (by decide),zja (fun u hu=>z5h (hl u hu)) ts p hh⟩
theorem ztl {a f t fr:Int}{x:ByteArray}{rs rs' ps ys:List Pt}{b:Pt}(hx:kepB x=false)(hr:smL rs rs')(h2:∀ u ∈ ps,Pm 9 u)(h3:TyL ys)(h4:Bl b)(ts:List Tok)(p:Nat)(hh:Hs ts p (tkW 1 x::(wBrk (ps.map wrP)++((ys.map wrP).flatten++wrP b)))) :
  ∃ e',smP (.mk 7 x 0 a f t (rs++ps++ys++[b])) e'∧Ev (fun m=>funR ts (fns ts m) fr rs' p) (.ok e' (p+1+(wBrk (ps.map wrP)).length+(ys.map wrP).flatten.length+(wrP b).length)):=by
 have htx:(nxT ts p).text=x:=hh.one.2;obtain⟨ps',h5,h6⟩:=z0m ps h2 ts (p+1) hh.tail.left;have hz:=hh.tail.right;rcases h3 with rfl|⟨v,rfl,hv⟩
 ·have hz':Hs ts (p+1+(wBrk (ps.map wrP)).length) (wrP b):=by simpa using hz
  obtain⟨g1,-,b',h7,h8⟩:=z3i h4 ts _ hz';refine⟨.mk 7 x 0 (nxT ts p).pos fr (behI ts (p+1+(wBrk (ps.map wrP)).length+(wrP b).length)) (rs'++ps'++[b']),zbk (by rw[List.append_nil];exact zfq (zfq hr h5) (zcg h7)),?_⟩;unfold funR namP;refine za5 (zd9 hh hx) (zat h6 (zbp g1 (zat h8 ?_)));rw[htx];exact zap _
 ·have hz':Hs ts (p+1+(wBrk (ps.map wrP)).length) (wrP v++wrP b):=by simpa using hz
  obtain⟨g1,g2,b',h7,h8⟩:=z3i h4 ts _ hz'.right;obtain⟨v',h9,h10⟩:=zww hv ts _ hz'.left g2;obtain⟨y,r,e1,e2⟩:=z3h hv;have hn:isT ts (p+1+(wBrk (ps.map wrP)).length) [123]=false:=by
   have:=hz';rw[e1] at this;exact Hs.pl this e2 (by decide)
  refine⟨.mk 7 x 0 (nxT ts p).pos fr (behI ts (p+1+(wBrk (ps.map wrP)).length+(wrP v).length+(wrP b).length)) (rs'++ps'++[v']++[b']),zbk (zfq (zfq (zfq hr h5) (zcg h9)) (zcg h7)),?_⟩;unfold funR namP;refine za5 (zd9 hh hx) (zat h6 (zav (bf hn) (zat (by rw[h10];exact zap _) (zat h8 ?_))));rw[htx];simp only[List.map_cons,List.map_nil,List.flatten_cons,List.flatten_nil,List.append_nil];exact zap _
theorem z3j {d:Pt}(h:Dc d){r:List Tok}(ts:List Tok)(p:Nat)(hh:Hs ts p (wrP d++tkW 5 (strU [59])::r)):isT ts p [105,109,112,111,114,116]=false∧∃ d',smP d d'∧Ev (fun m=>decP ts (fns ts m) p) (.ok d' (p+(wrP d).length)):=by
 cases h with
 | @con a f t x v hx hv=>
  rw[z3g] at hh ⊢;obtain⟨e',h1,h2⟩:=z24 (a:=a) (f:=f) (t:=t) hx hv ts p hh.left;have h0:Hs ts p (wdT [99,111,110,115,116]::(tkW 1 x::sgT [61]::wrP v)):=hh.left;refine⟨h0.not (by decide),e',h1,?_⟩;unfold decP;refine zbp h0.is ?_;rw[h2,show p+(wdT [99,111,110,115,116]::tkW 1 x::sgT [61]::wrP v).length=p+1+1+1+(wrP v).length by simp;omega];exact zap _
 | @var1 a f t x v hx hv=>
  rw[ztg] at hh ⊢;have h0:Hs ts p (wdT [118,97,114]::tkW 1 x::(wrP v++tkW 5 (strU [59])::r)):=hh;obtain⟨e',h1,h2⟩:=zta (a:=a) (f:=f) (t:=t) hx hv (.inl ⟨rfl,rfl⟩) ts p h0;refine⟨h0.not (by decide),e',h1,?_⟩;unfold decP;refine zav (bf (h0.not (by decide))) (zbp h0.is ?_);rw[show p+(wdT [118,97,114]::tkW 1 x::wrP v).length=p+1+1+(wrP v).length by simp;omega];exact h2
 | @var2 a f t x v d hx hv hd=>
  rw[zth] at hh ⊢;have h0:Hs ts p (wdT [118,97,114]::tkW 1 x::(wrP v++tkW 4 (strU [61])::(wrP d++tkW 5 (strU [59])::r))):=by simpa using hh
  obtain⟨e',h1,h2⟩:=ztb (a:=a) (f:=f) (t:=t) hx hv hd (.inl ⟨rfl,rfl⟩) ts p h0;refine⟨h0.not (by decide),e',h1,?_⟩;unfold decP;refine zav (bf (h0.not (by decide))) (zbp h0.is ?_);rw[show p+(wdT [118,97,114]::tkW 1 x::(wrP v++tkW 4 (strU [61])::wrP d)).length=p+1+1+(wrP v).length+1+(wrP d).length by simp;omega];exact h2
 | @str a f t x l hx hl=>
  rw[z3f] at hh ⊢;have h0:Hs ts p (wdT [116,121,112,101]::tkW 1 x::wdT [115,116,114,117,99,116]::(tkW 4 (strU [123])::(wEnd (l.map wrP)++[sgT [125]]))):=hh.left;have htx:(nxT ts (p+1)).text=x:=h0.tail.one.2;obtain⟨l',h1,h2⟩:=zs9 l hl ts (p+1+1+1+1) [] h0.tail.tail.tail.tail;have hz:Hs ts (p+1+1+1+1+(wEnd (l.map wrP)).length) (tkW 4 (strU [125])::[]):=h0.tail.tail.tail.tail.right;refine⟨h0.not (by decide),.mk 5 x 0 (nxT ts (p+1)).pos (herI ts p) (behI ts (p+1+1+1+1+(wEnd (l.map wrP)).length+1)) l',zbk h1,?_⟩;unfold decP strP linP expP namP;refine zav (bf (h0.not (by decide))) (zav (bf (h0.not (by decide))) (zbp h0.is (za5 h0.is (za5 (zd9 h0.tail hx) (za5 h0.tail.tail.is (zat (za5 h0.tail.tail.tail.is (zat h2 (za5 hz.is (zap _)))) ?_))))));rw[htx,show p+(wdT [116,121,112,101]::tkW 1 x::wdT [115,116,114,117,99,116]::(tkW 4 (strU [123])::(wEnd (l.map wrP)++[sgT [125]]))).length=p+1+1+1+1+(wEnd (l.map wrP)).length+1 by simp;omega];exact zap _
 | @fn a f t x rs ps ys b hx hp h1 h2 h3 h4=>
  rw[z3e h1 h2 h3 h4] at hh ⊢;have h0:Hs ts p (wdT [102,117,110,99]::(wRec rs++tkW 1 x::(wBrk (ps.map wrP)++((ys.map wrP).flatten++wrP b)))):=hh.left;refine⟨h0.not (by decide),?_⟩;have hz:Hs ts (p+1+(wRec rs).length) (tkW 1 x::(wBrk (ps.map wrP)++((ys.map wrP).flatten++wrP b))):=h0.tail.right;have hlen:p+(wdT [102,117,110,99]::(wRec rs++tkW 1 x::(wBrk (ps.map wrP)++((ys.map wrP).flatten++wrP b)))).length=p+1+(wRec rs).length+1+(wBrk (ps.map wrP)).length+(ys.map wrP).flatten.length+(wrP b).length:=by simp;omega
  rw[hlen];rcases h1 with rfl|⟨y,z,ya,yf,yt,za,zf,zt,rfl,hy,hz1⟩
  ·obtain⟨e',g1,g2⟩:=ztl (a:=a) (f:=f) (t:=t) (fr:=herI ts p) (rs:=[]) hx zbw h2 h3 h4 ts (p+1) hz;refine⟨e',g1,?_⟩;unfold decP funP expP;refine zav (bf (h0.not (by decide))) (zav (bf (h0.not (by decide))) (zav (bf (h0.not (by decide))) (zbp h0.is (za5 h0.is (zav (bf ?_) g2)))));exact Hs.pl (h0.tail:Hs ts (p+1) (tkW 1 x::_)) hp (by decide)
  ·have hw:wRec [.mk 8 y 0 ya yf yt [.mk 11 z 0 za zf zt []]]=[sgT [40],tkW 1 y,tkW 1 z,sgT [41]]:=by
    show wBrk _=_;simp[wBrk,wPar,z3d]
   rw[hw] at h0 hz ⊢;have hr0:Hs ts (p+1) (sgT [40]::tkW 1 y::tkW 1 z::sgT [41]::(tkW 1 x::(wBrk (ps.map wrP)++((ys.map wrP).flatten++wrP b)))):=h0.tail;obtain⟨v',g3,g4⟩:=z2z (a:=ya) (f:=yf) (t:=yt) (a':=za) (f':=zf) (t':=zt) hy hz1 ts (p+1+1) (Hs.left (a:=[tkW 1 y,tkW 1 z]) hr0.tail);obtain⟨e',g1,g2⟩:=ztl (a:=a) (f:=f) (t:=t) (fr:=herI ts p) (rs:=[.mk 8 y 0 ya yf yt [.mk 11 z 0 za zf zt []]]) hx (zcg g3) h2 h3 h4 ts (p+1+1+1+1+1) hr0.tail.tail.tail.tail;refine⟨e',g1,?_⟩;unfold decP funP expP;exact zav (bf (h0.not (by decide))) (zav (bf (h0.not (by decide))) (zav (bf (h0.not (by decide))) (zbp h0.is (za5 h0.is (zbp hr0.is (zat (by rw[g4];exact zap _) (za5 hr0.tail.tail.tail.is g2)))))))
def Im (u:Pt):Prop:=∃ (x:ByteArray) (a f t:Int),u=.mk 2 x 0 a f t []∧∀ v:Tok,v.kind=3->v.text=quoT x->valT v=x
theorem zyn (x:ByteArray)(a f t:Int):wrP (.mk 2 x 0 a f t [])=[wdT [105,109,112,111,114,116],tkW 3 (quoT x)]:=by
 rw[wrP,zcn];simp[wrK]
theorem zfb (u:Pt)(r:List Pt):wEnd ((u::r).map wrP)=wrP u++tkW 5 (strU [59])::wEnd (r.map wrP):=by simp[wEnd,enT]
theorem ztm:∀ (l:List Pt),(∀ u ∈ l,Im u)->∀ (ts:List Tok)(p:Nat)(acc:List Pt),Hs ts p (wEnd (l.map wrP))->isT ts (p+(wEnd (l.map wrP)).length) [105,109,112,111,114,116]=false ->
  ∃ l',smL l l'∧Ev (fun m=>(fns ts m).impL acc p) (.ok (acc++l') (p+(wEnd (l.map wrP)).length))
 | [],_,ts,p,acc,hh,he=>by
  refine⟨[],zbw,zbn ?_⟩;rw[List.append_nil];exact zav (bf he) (zap _)
 | u::r,hl,ts,p,acc,hh,he=>by
  obtain⟨x,a,f,t,rfl,hx⟩:=hl u (by simp);rw[zfb,zyn] at hh he;have h0:Hs ts p (wdT [105,109,112,111,114,116]::tkW 3 (quoT x)::tkW 5 (strU [59])::wEnd (r.map wrP)):=hh;obtain⟨u',h1,h2⟩:=z21 (a:=a) (f:=f) (t:=t) hx ts p (Hs.left (a:=[wdT [105,109,112,111,114,116],tkW 3 (quoT x)]) h0);have hk:(nxT ts (p+1+1)).kind=5:=h0.tail.tail.knd;have hlen:p+([wdT [105,109,112,111,114,116],tkW 3 (quoT x)]++tkW 5 (strU [59])::wEnd (r.map wrP)).length=p+1+1+1+(wEnd (r.map wrP)).length:=by simp;omega
  rw[hlen] at he;obtain⟨l',h3,h4⟩:=ztm r (fun v hv=>hl v (by simp[hv])) ts (p+1+1+1) (acc++[u']) h0.tail.tail.tail he;refine⟨u'::l',zbu h1 h3,zbn ?_⟩;rw[zfb,zyn,hlen,show acc++u'::l'=acc++[u']++l' by simp];refine zbp h0.is (zat (by rw[h2];exact zap _) ?_);unfold kinP;exact za5 (by rw[hk];rfl) h4
theorem ztn:∀ (l:List Pt),(∀ u ∈ l,Dc u)->∀ (ts:List Tok)(p:Nat)(acc:List Pt),Hs ts p (wEnd (l.map wrP))->ts.length=p+(wEnd (l.map wrP)).length ->
  ∃ l',smL l l'∧Ev (fun m=>(fns ts m).decL acc p) (.ok (acc++l') (p+(wEnd (l.map wrP)).length))
 | [],_,ts,p,acc,hh,he=>by
  refine⟨[],zbw,zbn ?_⟩;rw[List.append_nil];have e0:(wEnd (([]:List Pt).map wrP)).length=0:=rfl;exact zav (by omega) (zap _)
 | u::r,hl,ts,p,acc,hh,he=>by
  rw[zfb] at hh he;obtain⟨-,u',h1,h2⟩:=z3j (hl u (by simp)) ts p hh;have hz:=hh.right;have hk:(nxT ts (p+(wrP u).length)).kind=5:=hz.knd;have hlen:p+(wrP u++tkW 5 (strU [59])::wEnd (r.map wrP)).length=p+(wrP u).length+1+(wEnd (r.map wrP)).length:=by simp;omega
  rw[hlen] at he;obtain⟨l',h3,h4⟩:=ztn r (fun v hv=>hl v (by simp[hv])) ts (p+(wrP u).length+1) (acc++[u']) hz.tail he;refine⟨u'::l',zbu h1 h3,zbn ?_⟩;rw[zfb,hlen,show acc++u'::l'=acc++[u']++l' by simp];refine zbp (by omega) (zat h2 ?_);unfold kinP;exact za5 (by rw[hk];rfl) h4
def FiT (t:Pt):Prop:=∃ (x:ByteArray) (a f e:Int) (is ds:List Pt),t=.mk 1 x 0 a f e (is++ds)∧kepB x=false∧(∀ u ∈ is,Im u)∧∀ u ∈ ds,Dc u
theorem zw3 (a b:List (List Tok)):wEnd (a++b)=wEnd a++wEnd b:=by simp[wEnd]
theorem z01 (x:ByteArray)(a f e:Int)(is ds:List Pt):wrP (.mk 1 x 0 a f e (is++ds))=wdT [112,97,99,107,97,103,101]::tkW 1 x::tkW 5 (strU [59])::(wEnd (is.map wrP)++wEnd (ds.map wrP)):=by
 rw[wrP,zcn,List.map_append];simp[wrK,zw3,enT]
theorem z02 {t:Pt}(h:FiT t)(ts:List Tok)(hh:Hs ts 0 (wrP t))(hl:ts.length=(wrP t).length):∃ t',smP t t'∧Ev (fun m=>filP ts m 0) (.ok t' ts.length):=by
 obtain⟨x,a,f,e,is,ds,rfl,hx,hi,hd⟩:=h;rw[z01] at hh hl;have htx:(nxT ts (0+1)).text=x:=hh.tail.one.2;have hk:(nxT ts (0+1+1)).kind=5:=hh.tail.tail.knd;have h3:=hh.tail.tail.tail;have hz:=h3.right;have hlen:ts.length=0+1+1+1+(wEnd (is.map wrP)).length+(wEnd (ds.map wrP)).length:=by rw[hl];simp;omega
 have hni:isT ts (0+1+1+1+(wEnd (is.map wrP)).length) [105,109,112,111,114,116]=false:=by
  cases ds with
  | nil=>
   have e0:(wEnd (([]:List Pt).map wrP)).length=0:=rfl;rw[Bool.eq_false_iff];intro hc;have:=zb5 hc (by simp);omega
  | cons u r=>
   rw[zfb] at hz;exact(z3j (hd u (by simp)) ts _ hz).1
 obtain⟨is',g1,g2⟩:=ztm is hi ts _ [] h3.left hni;obtain⟨ds',g3,g4⟩:=ztn ds hd ts _ is' hz hlen;refine⟨.mk 1 x 0 (nxT ts (0+1)).pos (herI ts 0) (behI ts ts.length) (is'++ds'),zbk (zfq g1 g3),?_⟩;unfold filP expP namP kinP;refine za5 hh.is (za5 (zd9 hh.tail hx) (za5 (by rw[hk];rfl) (zat g2 (zat g4 ?_))));rw[htx,<-hlen];exact zap _
theorem z03 {ts:List Tok}{t':Pt}{q:Nat}(h:Ev (fun m=>filP ts m 0) (.ok t' q)):filO ts=.ok t' q:=by
 obtain⟨n,hn⟩:=h;have h1:=zjw (ts:=ts);have h2:=zw2 (ts:=ts) (n:=12 * ts.length+12) (m:=max n (12 * ts.length+12)) (by omega) h1;have h3:filP ts (max n (12 * ts.length+12)) 0=.ok t' q:=hn (max n (12 * ts.length+12)) (by omega);unfold filO;rw[<-h2,h3]
theorem zto {t:Pt}(h:FiT t)(ts:List Tok)(hh:Hs ts 0 (wrP t))(hl:ts.length=(wrP t).length):∃ t',filO ts=.ok t' ts.length∧smP t t':=by
 obtain⟨t',h1,h2⟩:=z02 h ts hh hl;exact⟨t',z03 h2,h1⟩
def gW (x:ByteArray):Prop:=plF x∧wrA (tkW 1 x)=false∧x.size<=4096
def gI (n:Int):Prop:=(∀ u:Tok,u.kind=2->u.text=⟨(Lib.itoa n).toArray⟩->numT u=n)∧plF ⟨(Lib.itoa n).toArray⟩∧wrA (nuT n)=false∧(Lib.itoa n).length<=4096∧0<=n∧n<=9223372036854775807
def gQ (x:ByteArray):Prop:=(∀ u:Tok,u.kind=3->u.text=quoT x->valT u=x)∧plF (quoT x)∧wrA (tkW 3 (quoT x))=false∧(quoT x).size<=4096∧x.size<=4096
def gS (x:ByteArray):Prop:=wrA (tkW 4 x)=false∧x.size<=4096
theorem ztp {t:Tok}(hb:bareB t=false)(ha:alnB t=true):wrA t=false:=by
 have h:chkO [t,enT]=0:=by
  unfold chkO;rw[if_neg (by simp),chkF,hb,ha];rw[show chkF t [enT]=true by
   rw[chkF,show bareB enT=false by kernel_rfl,show alnB enT=true by kernel_rfl];rfl]
  rfl
 unfold wrA;rw[h];rfl
theorem z04:gW (strU [116,114,117,101]):=⟨⟨116,[114,117,101],rfl,by decide⟩,by kernel_rfl,by decide⟩
theorem zw4:gW (strU [102,97,108,115,101]):=⟨⟨102,[97,108,115,101],rfl,by decide⟩,by kernel_rfl,by decide⟩
theorem z3k:gW (strU [105,110,116]):=⟨⟨105,[110,116],rfl,by decide⟩,by kernel_rfl,by decide⟩
theorem z05:gW (strU [98,111,111,108]):=⟨⟨98,[111,111,108],rfl,by decide⟩,by kernel_rfl,by decide⟩
theorem ztq:gW (strU [115,116,114,105,110,103]):=⟨⟨115,[116,114,105,110,103],rfl,by decide⟩,by kernel_rfl,by decide⟩
theorem zot:gS (strU [45]):=⟨by kernel_rfl,by decide⟩
theorem z3l:gS (strU [33]):=⟨by kernel_rfl,by decide⟩
theorem zlt {x:ByteArray}{s:List UInt8}(h:(x.data.toList == s)=true)(hs:wrA (tkW 4 (strU s))=false∧(strU s).size<=4096):gS x:=by
 have e:x=strU s:=by
  have e2:x.data.toList=s:=eq_of_beq h;rw[<-e2];rfl
 rw[e];exact hs
theorem z3m {x:ByteArray}(h:0<=rowI x):gS x:=by
 unfold rowI at h
 split at h
 ·rename_i e;exact zlt e ⟨by kernel_rfl,by decide⟩
 split at h
 ·rename_i e;exact zlt e ⟨by kernel_rfl,by decide⟩
 split at h
 ·rename_i e
  simp only[Bool.or_eq_true] at e;rcases e with((((e|e) | e) | e) | e) | e
  all_goals exact zlt e ⟨by kernel_rfl,by decide⟩
 split at h
 ·rename_i e
  rw[Bool.or_eq_true] at e;rcases e with e|e
  all_goals exact zlt e ⟨by kernel_rfl,by decide⟩
 split at h
 ·rename_i e
  simp only[Bool.or_eq_true] at e;rcases e with(e|e) | e
  all_goals exact zlt e ⟨by kernel_rfl,by decide⟩
 ·omega
structure NdOk (k:Int) (x:ByteArray) (n:Int):Prop where
 s:x.size<=4096
 r:0<=n∧n<=9223372036854775807
 i:k=20->gI n
 q:k=2∨k=21->gQ x
 g:k=26∨k=27->gS x
 w:k=1∨k=3∨k=4∨k=5∨k=6∨k=7∨k=8∨k=9∨k=10∨k=11∨k=12∨k=17∨k=22∨k=23∨k=24->gW x
mutual
def okP:Pt->Prop | .mk k x n _ _ _ l=>NdOk k x n∧okL l
def okL:List Pt->Prop | []=>True|t::r=>okP t∧okL r
end
theorem zm2:∀ {l:List Pt},okL l ↔ ∀ u ∈ l,okP u
 | []=>by simp[okL]
 | t::r=>by simp[okL,zm2 (l:=r)]
theorem zc5 {k n a f t:Int}{x:ByteArray}{l:List Pt}(h:NdOk k x n)(hl:∀ u ∈ l,okP u):okP (.mk k x n a f t l):=by
 rw[okP];exact⟨h,zm2.2 hl⟩
theorem nk_w {k:Int}{x:ByteArray}(hx:gW x)(h1:k≠20)(h2:¬ (k=2∨k=21))(h3:¬ (k=26∨k=27)):NdOk k x 0:=⟨hx.2.2,by decide,fun h=>(h1 h).elim,fun h=>(h2 h).elim,fun h=>(h3 h).elim,fun _=>hx⟩
theorem nk_e {k:Int}(h1:k=13∨k=14∨k=15∨k=16∨k=18∨k=19∨k=25):NdOk k ⟨#[]⟩ 0:=⟨by decide,by decide,fun h=>by omega,fun h=>by omega,fun h=>by omega,fun h=>by omega⟩
theorem nk_i {n:Int}(h:gI n):NdOk 20 ⟨#[]⟩ n:=⟨by decide,h.2.2.2.2,fun _=>h,fun h=>by omega,fun h=>by omega,fun h=>by omega⟩
theorem nk_q {k:Int}{x:ByteArray}(hk:k=2∨k=21)(h:gQ x):NdOk k x 0:=⟨h.2.2.2.2,by decide,fun h=>by omega,fun _=>h,fun h=>by omega,fun h=>by omega⟩
theorem nk_s {k:Int}{x:ByteArray}(hk:k=26∨k=27)(h:gS x):NdOk k x 0:=⟨h.2,by decide,fun h=>by omega,fun h=>by omega,fun _=>h,fun h=>by omega⟩
def tgood (u:Tok):Prop:=(u.kind=1->gW u.text)∧(u.kind=2->gI (numT u))∧(u.kind=3->gQ (valT u))
def gd {α:Type}(P:α->Prop) (r:Rs α):Prop:=match r with | .ok v _=>P v|_=>True
section
variable {α β:Type}{P:α->Prop}{Q:β->Prop}
theorem zaz {r:Rs α}{f:α->Nat->Rs β}(h:gd P r)(hf:∀ v q,P v->gd Q (f v q)):gd Q (r.bind f):=by
 cases r with
 | ok v q=>exact hf v q h
 | bad s=>trivial
 | out=>trivial
theorem ze0 {b:Bool}{s:Int}{k:Rs α}(h:b=true->gd P k):gd P (Rs.need b s k):=by
 unfold Rs.need
 split
 ·rename_i hb;exact h hb
 ·trivial
theorem zbg {c:Prop} [Decidable c] {a b:Rs α}(h:c->gd P a)(h':¬ c->gd P b):gd P (if c then a else b):=by
 split
 ·rename_i hc;exact h hc
 ·rename_i hc;exact h' hc
theorem ze1 {R:α->Prop}{r:Rs α}(h:gd P r)(hr:∀ v,P v->R v):gd R r:=by
 cases r with
 | ok v q=>exact hr v h
 | bad s=>trivial
 | out=>trivial
end
def XE (v:Pt):Prop:=Ex v∧okP v
def XS (v:Pt):Prop:=St v∧okP v
section
variable {ts:List Tok}
theorem zg5 {p:Nat}{s:List UInt8}(h:isT ts p s=true):(nxT ts p).text=strU s:=by
 have e:(nxT ts p).text.data.toList=s:=eq_of_beq h;rw[<-e];rfl
theorem zkn {p:Nat}(hG:∀ p,tgood (nxT ts p))(h:namB ts p=true):kepB (nxT ts p).text=false∧gW (nxT ts p).text:=by
 unfold namB at h;simp only[Bool.and_eq_true,Bool.not_eq_true'] at h;exact⟨h.2,(hG p).1 (eq_of_beq h.1)⟩
theorem ztr (hG:∀ p,tgood (nxT ts p))(p:Nat):gd (fun v=>Va v∧Ex v∧okP v∧((nxT ts p).kind=2->∃ n a f t,v=.mk 20 ⟨#[]⟩ n a f t []∧gI n)) (va1P ts p):=by
 unfold va1P;refine zbg (fun h=>?_) fun h2=>zbg (fun h=>?_) fun h3=>zbg (fun h=>?_) fun _=>trivial
 ·have g:=(hG p).2.1 (eq_of_beq h);exact⟨.int g.1 g.2.1,.int g.1 g.2.1,zc5 (nk_i g) (by simp),fun _=>⟨_,_,_,_,rfl,g⟩⟩
 ·have g:=(hG p).2.2 (eq_of_beq h);exact⟨.text g.1 g.2.1,.text g.1 g.2.1,zc5 (nk_q (.inr rfl) g) (by simp),fun hk=>absurd hk (by simpa using h2)⟩
 ·rw[Bool.or_eq_true] at h;have hx:(nxT ts p).text=strU [116,114,117,101]∨(nxT ts p).text=strU [102,97,108,115,101]:=h.imp zg5 zg5;refine⟨.bool hx,.bool hx,zc5 (nk_w ?_ (by decide) (by decide) (by decide)) (by simp),fun hk=>absurd hk (by simpa using h2)⟩;rcases hx with hx|hx <;> rw[hx]
  ·exact z04
  ·exact zw4
theorem z3n (hG:∀ p,tgood (nxT ts p))(p:Nat):gd (fun v=>Vc v∧okP v) (valP ts p):=by
 unfold valP;refine zbg (fun h=>zbg (fun hk=>zaz (ztr hG (p+1)) fun v q hv=>?_) fun _=>trivial) fun _=>ze1 (ztr hG p) fun v hv=>⟨.va hv.1,hv.2.2.1⟩;obtain⟨n,a,f,t,rfl,g⟩:=hv.2.2.2 (eq_of_beq hk);have e:=zg5 h;show Vc (.mk 26 (nxT ts p).text 0 _ _ _ _)∧okP (.mk 26 (nxT ts p).text 0 _ _ _ _);rw[e];exact⟨.neg g.1 g.2.1,zc5 (nk_s (.inl rfl) zot) fun u hu=>by obtain rfl:=List.mem_singleton.1 hu;exact hv.2.2.1⟩
theorem zts (hG:∀ p,tgood (nxT ts p)){k:Int}(h1:k≠20)(h2:¬ (k=2∨k=21))(h3:¬ (k=26∨k=27))(p:Nat):gd (fun v=>(∃ x a f t,v=.mk k x 0 a f t []∧kepB x=false∧plF x)∧okP v) (worP ts k p):=by
 unfold worP;refine ze0 fun h=>?_;obtain⟨e1,e2⟩:=zkn hG h;exact⟨⟨_,_,_,_,rfl,e1,e2.1⟩,zc5 (nk_w e2 h1 h2 h3) (by simp)⟩
theorem zfi (hG:∀ p,tgood (nxT ts p)) {β:Type}{Q:β->Prop}{p:Nat}{k:Tok->Nat->Rs β}(h:kepB (nxT ts p).text=false->gW (nxT ts p).text->gd Q (k (nxT ts p) (p+1))):gd Q (namP ts p k):=ze0 fun hb=>h (zkn hG hb).1 (zkn hG hb).2
theorem zc6 {β:Type}{Q:β->Prop}{p:Nat}{s:List UInt8}{k:Nat->Rs β}(h:gd Q (k (p+1))):gd Q (expP ts s p k):=ze0 fun _=>h
theorem ztt (hG:∀ p,tgood (nxT ts p))(p:Nat):gd (fun v=>Ty v∧okP v) (typP ts p):=by
 unfold typP;refine zbg (fun h=>?_) fun _=>zbg (fun _=>zaz (zts hG (by decide) (by decide) (by decide) p) fun v q hv=>zc6 (zfi hG fun e1 e2=>?_)) fun _=>ze1 (zts hG (by decide) (by decide) (by decide) p) fun v hv=>?_
 ·rw[Bool.or_eq_true,Bool.or_eq_true] at h;have hx:(nxT ts p).text=strU [105,110,116]∨(nxT ts p).text=strU [98,111,111,108]∨(nxT ts p).text=strU [115,116,114,105,110,103]:=by
   rcases h with(h|h) | h
   ·exact .inl (zg5 h)
   ·exact .inr (.inl (zg5 h))
   ·exact .inr (.inr (zg5 h))
  refine⟨.basic hx,zc5 (nk_w ?_ (by decide) (by decide) (by decide)) (by simp)⟩;rcases hx with hx|hx|hx <;> rw[hx]
  ·exact z3k
  ·exact z05
  ·exact ztq
 ·obtain⟨⟨x,a,f,t,rfl,h1,h2⟩,h3⟩:=hv;exact⟨.far e1 h1 h2,zc5 (nk_w e2 (by decide) (by decide) (by decide)) fun u hu=>by obtain rfl:=List.mem_singleton.1 hu;exact h3⟩
 ·obtain⟨⟨x,a,f,t,rfl,h1,h2⟩,h3⟩:=hv;exact⟨.named h1 h2,h3⟩
theorem ztu (hG:∀ p,tgood (nxT ts p)){k:Int}(hk:k=6∨k=9)(p:Nat):gd (fun v=>Pm k v∧okP v) (tydP ts k p):=by
 unfold tydP;refine zfi hG fun e1 e2=>zaz (ztt hG _) fun v q hv=>?_;exact⟨⟨_,_,_,_,_,rfl,e1,e2.1,hv.1⟩,zc5 (nk_w e2 (by omega) (by omega) (by omega)) fun u hu=>by obtain rfl:=List.mem_singleton.1 hu;exact hv.2⟩
theorem z3o (hG:∀ p,tgood (nxT ts p))(p:Nat):gd (fun v=>ReL [v]∧okP v) (recP ts p):=by
 unfold recP;refine zfi hG fun e1 e2=>zaz (zts hG (by decide) (by decide) (by decide) _) fun v q hv=>?_;obtain⟨⟨x,a,f,t,rfl,h1,-⟩,h3⟩:=hv;exact⟨.inr ⟨_,_,_,_,_,_,_,_,rfl,e1,h1⟩,zc5 (nk_w e2 (by decide) (by decide) (by decide)) fun u hu=>by obtain rfl:=List.mem_singleton.1 hu;exact h3⟩
theorem z3p (hG:∀ p,tgood (nxT ts p))(p:Nat):gd (fun v=>Im v∧okP v) (impP ts p):=by
 unfold impP kinP;refine zc6 (ze0 fun h=>?_);have g:=(hG (p+1)).2.2 (eq_of_beq h);exact⟨⟨_,_,_,_,rfl,g.1⟩,zc5 (nk_q (.inl rfl) g) (by simp)⟩
theorem z3q (hG:∀ p,tgood (nxT ts p))(p:Nat):gd (fun v=>Dc v∧okP v) (conP ts p):=by
 unfold conP;refine zc6 (zfi hG fun e1 e2=>zc6 (zaz (z3n hG _) fun v q hv=>?_));exact⟨.con e1 hv.1,zc5 (nk_w e2 (by decide) (by decide) (by decide)) fun u hu=>by obtain rfl:=List.mem_singleton.1 hu;exact hv.2⟩
structure GdA (ts:List Tok) (n:Nat):Prop where
 bin:∀ l p,gd XE ((fns ts n).bin l p)
 binL:∀ l fr t p,XE t->gd XE ((fns ts n).binL l fr t p)
 una:∀ p,gd XE ((fns ts n).una p)
 post:∀ p,gd XE ((fns ts n).post p)
 posL:∀ fr t p,XE t->gd XE ((fns ts n).posL fr t p)
 prim:∀ p,gd XE ((fns ts n).prim p)
 argL:∀ l p,(∀ u ∈ l,XE u)->gd (fun l=>∀ u ∈ l,XE u) ((fns ts n).argL l p)
 parL:∀ l p,(∀ u ∈ l,Pm 9 u∧okP u)->gd (fun l=>∀ u ∈ l,Pm 9 u∧okP u) ((fns ts n).parL l p)
 fieL:∀ l p,(∀ u ∈ l,Pm 6 u∧okP u)->gd (fun l=>∀ u ∈ l,Pm 6 u∧okP u) ((fns ts n).fieL l p)
 stmt:∀ p,gd XS ((fns ts n).stmt p)
 bran:∀ p,gd (fun v=>XS v∧(hdP v).1=14) ((fns ts n).bran p)
 stmL:∀ l p,(∀ u ∈ l,XS u)->gd (fun l=>∀ u ∈ l,XS u) ((fns ts n).stmL l p)
 impL:∀ l p,(∀ u ∈ l,Im u∧okP u)->gd (fun l=>∀ u ∈ l,Im u∧okP u) ((fns ts n).impL l p)
 decL:∀ is ds p,(∀ u ∈ ds,Dc u∧okP u)->gd (fun l=>∃ ds,l=is++ds∧∀ u ∈ ds,Dc u∧okP u) ((fns ts n).decL (is++ds) p)
theorem zdi {P:Pt->Prop}{l:List Pt}{t:Pt}(h:∀ u ∈ l,P u)(ht:P t):∀ u ∈ l++[t],P u:=fun u hu=>by
 rcases List.mem_append.1 hu with hu|hu
 ·exact h u hu
 ·obtain rfl:=List.mem_singleton.1 hu;exact ht
theorem zdz {P:Pt->Prop}{s t:Pt}(h:P s)(ht:P t):∀ u ∈ [s,t],P u:=fun u hu=>by
 rcases List.mem_cons.1 hu with rfl|hu
 ·exact h
 ·obtain rfl:=List.mem_singleton.1 hu;exact ht
theorem zcr {P:Pt->Prop}{s:Pt}(h:P s):∀ u ∈ [s],P u:=fun u hu=>by obtain rfl:=List.mem_singleton.1 hu;exact h
theorem zyo {one:Nat->Rs Pt}{more:List Pt->Nat->Rs (List Pt)}{P:Pt->Prop}(h1:∀ q,gd P (one q))(h2:∀ l q,(∀ u ∈ l,P u)->gd (fun l=>∀ u ∈ l,P u) (more l q))(p:Nat):gd (fun l=>∀ u ∈ l,P u) (lisP ts one more p):=by
 unfold lisP;exact zc6 (zbg (fun _=>fun u hu=>by simp at hu) fun _=>zaz (h1 _) fun v q hv=>zaz (h2 _ _ (zcr hv)) fun l q hl=>zc6 hl)
def XB (b:Pt):Prop:=∃ (a f t:Int) (l:List Pt),b=.mk 13 ⟨#[]⟩ 0 a f t l∧∀ u ∈ l,XS u
theorem XB.ok {b:Pt}(h:XB b):okP b:=by
 obtain⟨a,f,t,l,rfl,hl⟩:=h;exact zc5 (nk_e (.inl rfl)) fun u hu=>(hl u hu).2
theorem XB.st {b:Pt}(h:XB b):XS b:=by
 refine⟨?_,h.ok⟩;obtain⟨a,f,t,l,rfl,hl⟩:=h;exact .block fun u hu=>(hl u hu).1
theorem XB.bl {b:Pt}(h:XB b):Bl b:=by
 obtain⟨a,f,t,l,rfl,hl⟩:=h;exact⟨_,_,_,_,rfl,fun u hu=>(hl u hu).1⟩
theorem ztv {n:Nat}(h:GdA ts n)(p:Nat):gd XB (bloP ts (fns ts n) p):=by
 unfold bloP linP;exact zaz (P:=fun l=>∀ u ∈ l,XS u) (zc6 (zaz (h.stmL [] _ (by simp)) fun l q hl=>zc6 hl)) fun l q hl=>⟨_,_,_,_,rfl,hl⟩
theorem zyp (hG:∀ p,tgood (nxT ts p)){n:Nat}(h:GdA ts n)(p:Nat):gd (fun v=>St v∧Dc v∧okP v) (varP ts (fns ts n) p):=by
 unfold varP;refine zc6 (zfi hG fun e1 e2=>zaz (ztt hG _) fun v q hv=>zbg (fun _=>zaz (h.bin _ _) fun x q hx=>?_) fun _=>?_)
 ·exact⟨.var2 e1 hv.1 hx.1,.var2 e1 hv.1 hx.1,zc5 (nk_w e2 (by decide) (by decide) (by decide)) (zdz hv.2 hx.2)⟩
 ·exact⟨.var1 e1 hv.1,.var1 e1 hv.1,zc5 (nk_w e2 (by decide) (by decide) (by decide)) (zcr hv.2)⟩
theorem ztw (hG:∀ p,tgood (nxT ts p)){n:Nat}(h:GdA ts n)(fr:Int)(l:List Pt)(hr:ReL l)(hl:∀ u ∈ l,okP u)(p:Nat):gd (fun v=>Dc v∧okP v) (funR ts (fns ts n) fr l p):=by
 unfold funR;refine zfi hG fun e1 e2=>zaz (zyo (P:=fun u=>Pm 9 u∧okP u) (fun q=>ztu hG (.inr rfl) q) h.parL _) fun ps q hps=>zbg (fun _=>zaz (ztv h _) fun b q hb=>?_) fun _=>zaz (ztt hG _) fun v q hv=>zaz (ztv h _) fun b q hb=>?_
 ·have:=Dc.fn (a:=(nxT ts p).pos) (f:=fr) (t:=behI ts q) e1 e2.1 hr (fun u hu=>(hps u hu).1) (.inl rfl) hb.bl;rw[List.append_nil] at this;refine⟨this,zc5 (nk_w e2 (by decide) (by decide) (by decide)) (zdi (fun u hu=>?_) hb.ok)⟩;rcases List.mem_append.1 hu with hu|hu
  ·exact hl u hu
  ·exact(hps u hu).2
 ·refine⟨.fn e1 e2.1 hr (fun u hu=>(hps u hu).1) (.inr ⟨v,rfl,hv.1⟩) hb.bl,zc5 (nk_w e2 (by decide) (by decide) (by decide)) (zdi (zdi (fun u hu=>?_) hv.2) hb.ok)⟩;rcases List.mem_append.1 hu with hu|hu
  ·exact hl u hu
  ·exact(hps u hu).2
theorem z3r (hG:∀ p,tgood (nxT ts p)){n:Nat}(h:GdA ts n)(p:Nat):gd (fun v=>Dc v∧okP v) (decP ts (fns ts n) p):=by
 unfold decP;refine zbg (fun _=>z3q hG p) fun _=>zbg (fun _=>ze1 (zyp hG h p) fun v hv=>hv.2) fun _=>zbg (fun _=>?_) fun _=>zbg (fun _=>?_) fun _=>trivial
 ·unfold strP linP;refine zc6 (zfi hG fun e1 e2=>zc6 (zaz (P:=fun l=>∀ u ∈ l,Pm 6 u∧okP u) (zc6 (zaz (h.fieL [] _ (by simp)) fun l q hl=>zc6 hl)) fun l q hl=>?_));exact⟨.str e1 fun u hu=>(hl u hu).1,zc5 (nk_w e2 (by decide) (by decide) (by decide)) fun u hu=>(hl u hu).2⟩
 ·unfold funP;exact zc6 (zbg (fun _=>zaz (z3o hG _) fun v q hv=>zc6 (ztw hG h _ _ hv.1 (zcr hv.2) _)) fun _=>ztw hG h _ _ (.inl rfl) (by simp) _)
theorem gdA (hG:∀ p,tgood (nxT ts p))(n:Nat):GdA ts n:=by
 induction n with
 | zero=>constructor <;> (intros;trivial)
 | succ n ih=>
  have hblo:∀ p,gd XB (bloP ts (fns ts n) p):=fun p=>ztv ih p
  constructor
  ·intro l p;exact zbg (fun _=>ih.una p) fun _=>zaz (ih.bin _ _) fun t q ht=>ih.binL _ _ _ _ ht
  ·intro l fr t p ht;refine zbg (fun h=>zaz (ih.bin _ _) fun u q hu=>?_) fun _=>ht;have hr:0<=rowI (nxT ts p).text:=by omega
   have hn:XE (.mk 27 (nxT ts p).text 0 (nxT ts p).pos fr (behI ts q) [t,u]):=⟨.bin hr ht.1 hu.1,zc5 (nk_s (.inr rfl) (z3m hr)) (zdz ht.2 hu.2)⟩;exact zbg (fun _=>hn) fun _=>ih.binL _ _ _ _ hn
  ·intro p;refine zbg (fun h=>zaz (ih.una _) fun u q hu=>?_) fun _=>ih.post p;rw[Bool.or_eq_true] at h;have hx:(nxT ts p).text=strU [45]∨(nxT ts p).text=strU [33]:=h.imp zg5 zg5;refine⟨.una hx hu.1,zc5 (nk_s (.inl rfl) ?_) (zcr hu.2)⟩;rcases hx with hx|hx <;> rw[hx]
   ·exact zot
   ·exact z3l
  ·intro p;exact zaz (ih.prim p) fun t q ht=>ih.posL _ _ _ ht
  ·intro fr t p ht;refine zbg (fun _=>zfi hG fun e1 e2=>ih.posL _ _ _ ?_) fun _=>zbg (fun _=>zaz (zyo (fun q=>ih.bin 0 q) ih.argL p) fun l q hl=>ih.posL _ _ _ ?_) fun _=>ht
   ·exact⟨.dot e1 e2.1 ht.1,zc5 (nk_w e2 (by decide) (by decide) (by decide)) (zcr ht.2)⟩
   ·exact⟨.call ht.1 fun u hu=>(hl u hu).1,zc5 (nk_e (by omega)) fun u hu=>by
     rcases List.mem_cons.1 hu with rfl|hu
     ·exact ht.2
     ·exact(hl u hu).2⟩
  ·intro p;refine zbg (fun _=>zaz (ih.bin _ _) fun t q ht=>zc6 ht) fun _=>zbg (fun h=>?_) fun _=>ze1 (ztr hG p) fun v hv=>⟨hv.2.1,hv.2.2.1⟩;obtain⟨e1,e2⟩:=zkn hG h;exact⟨.name e1 e2.1,zc5 (nk_w e2 (by decide) (by decide) (by decide)) (by simp)⟩
  ·intro l p hl;exact zbg (fun _=>zaz (ih.bin _ _) fun t q ht=>ih.argL _ _ (zdi hl ht)) fun _=>hl
  ·intro l p hl;exact zbg (fun _=>zaz (ztu hG (.inr rfl) _) fun t q ht=>ih.parL _ _ (zdi hl ht)) fun _=>hl
  ·intro l p hl;exact zbg (fun _=>hl) fun _=>zaz (ztu hG (.inl rfl) _) fun t q ht=>zbg (fun _=>ih.fieL _ _ (zdi hl ht)) fun _=>ze0 fun _=>ih.fieL _ _ (zdi hl ht)
  ·intro p;refine zbg (fun _=>ze1 (hblo p) fun v hv=>hv.st) fun _=>zbg (fun _=>ze1 (zyp hG ih p) fun v hv=>⟨hv.1,hv.2.2⟩) fun _=>zbg (fun _=>ze1 (ih.bran p) fun v hv=>hv.1) fun _=>zbg (fun _=>?_) fun _=>zbg (fun _=>?_) fun _=>zbg (fun _=>?_) fun _=>?_
   ·unfold looP;refine zc6 (zaz (ih.bin _ _) fun x q hx=>zaz (hblo _) fun b q hb=>?_);have hbo:=hb.ok;obtain⟨a,f,t,l,rfl,hl⟩:=hb;exact⟨.loop hx.1 fun u hu=>(hl u hu).1,zc5 (nk_e (by omega)) (zdz hx.2 hbo)⟩
   ·unfold resP;exact zc6 (zbg (fun _=>zaz (ih.bin _ _) fun x q hx=>⟨.res1 hx.1,zc5 (nk_e (by omega)) (zcr hx.2)⟩) fun _=>⟨.res0,zc5 (nk_e (by omega)) (by simp)⟩)
   ·unfold shoP;exact zfi hG fun e1 e2=>zc6 (zaz (ih.bin _ _) fun x q hx=>⟨.short e1 e2.1 hx.1,zc5 (nk_w e2 (by decide) (by decide) (by decide)) (zcr hx.2)⟩)
   ·unfold simP;exact zaz (ih.bin _ _) fun x q hx=>zbg (fun _=>zaz (ih.bin _ _) fun y q hy=>⟨.assign hx.1 hy.1,zc5 (nk_e (by omega)) (zdz hx.2 hy.2)⟩) fun _=>⟨.expr hx.1,zc5 (nk_e (by omega)) (zcr hx.2)⟩
  ·intro p;unfold fns
   dsimp only
   refine zc6 (zaz (ih.bin _ _) fun x q hx=>zaz (hblo _) fun b q hb=>zbg (fun _=>zaz (P:=fun c=>XB c∨(XS c∧(hdP c).1=14)) (zbg (fun _=>ze1 (ih.bran _) fun v hv=>.inr hv) fun _=>ze1 (hblo _) fun v hv=>.inl hv) fun c q hc=>?_) fun _=>?_)
   ·have hbo:=hb.ok;obtain⟨a,f,t,l,rfl,hl⟩:=hb;rcases hc with hc|hc
    ·have hco:=hc.ok;obtain⟨a2,f2,t2,m,rfl,hm⟩:=hc;exact⟨⟨.if2 hx.1 (fun u hu=>(hl u hu).1) fun u hu=>(hm u hu).1,zc5 (nk_e (by omega)) fun u hu=>by
      rcases List.mem_cons.1 hu with rfl|hu
      ·exact hx.2
      ·exact zdz hbo hco u hu⟩,rfl⟩
    ·exact⟨⟨.if3 hx.1 (fun u hu=>(hl u hu).1) hc.1.1 hc.2,zc5 (nk_e (by omega)) fun u hu=>by
      rcases List.mem_cons.1 hu with rfl|hu
      ·exact hx.2
      ·exact zdz hbo hc.1.2 u hu⟩,rfl⟩
   ·have hbo:=hb.ok;obtain⟨a,f,t,l,rfl,hl⟩:=hb;exact⟨⟨.if1 hx.1 fun u hu=>(hl u hu).1,zc5 (nk_e (by omega)) (zdz hx.2 hbo)⟩,rfl⟩
  ·intro l p hl;exact zbg (fun _=>hl) fun _=>zaz (ih.stmt _) fun t q ht=>zbg (fun _=>ih.stmL _ _ (zdi hl ht)) fun _=>ze0 fun _=>ih.stmL _ _ (zdi hl ht)
  ·intro l p hl;exact zbg (fun _=>zaz (z3p hG _) fun t q ht=>ze0 fun _=>ih.impL _ _ (zdi hl ht)) fun _=>hl
  ·intro is ds p hl;refine zbg (fun _=>zaz (z3r hG ih p) fun t q ht=>ze0 fun _=>?_) fun _=>⟨ds,rfl,hl⟩;rw[List.append_assoc];exact ih.decL _ _ _ (zdi hl ht)
theorem zou (hG:∀ p,tgood (nxT ts p)){t:Pt}{q:Nat}(h:filO ts=.ok t q):FiT t∧okP t:=by
 have ih:=gdA hG (12 * ts.length+12);have:gd (fun t=>FiT t∧okP t) (filO ts):=by
  unfold filO filP;refine zc6 (zfi hG fun e1 e2=>ze0 fun _=>zaz (ih.impL [] _ (by simp)) fun is q hi=>zaz (by have:=ih.decL is [] q (by simp);rw[List.append_nil] at this;exact this) fun l q hl=>?_);obtain⟨ds,rfl,hd⟩:=hl;refine⟨⟨_,_,_,_,is,ds,rfl,e1,fun u hu=>(hi u hu).1,fun u hu=>(hd u hu).1⟩,zc5 (nk_w e2 (by decide) (by decide) (by decide)) fun u hu=>?_⟩;rcases List.mem_append.1 hu with hu|hu
  ·exact(hi u hu).2
  ·exact(hd u hu).2
 rw[h] at this;exact this
end
theorem zlu (s:ByteArray)(k:Nat):s.extract 0 k=strU (s.data.toList.take k):=by
 have h:(s.extract 0 k).data.toList=s.data.toList.take k:=by
  rw[ByteArray.data_extract,Array.toList_extract];simp
 rw[<-h,zq7]
theorem zov (s:ByteArray)(m:Nat):s.extract 0 (min (s.size:Int) m).toNat=strU (s.data.toList.take m):=by
 rw[zlu]
 congr 1
 by_cases h:s.size<=m
 ·rw[show(min (s.size:Int) m).toNat=s.size by omega,List.take_of_length_le (by simp),List.take_of_length_le (by simpa using h)]
 ·rw[show(min (s.size:Int) m).toNat=m by omega]
theorem zw5 {c:UInt8}(h:c.toNat=34∨c.toNat=92):pairU c=some c:=by unfold pairU;rw[if_pos h]
theorem zw6:∀ (L acc Q:List UInt8),quoG acc L=some Q->∃ E:List UInt8,Q=acc++E++[34]∧E.length<=2 * L.length∧∀ (a:List UInt8)(i:Nat),unqA a i (E++[34])=some (a++L,i+E.length+1):=by
 intro L
 induction L with
 | nil=>
  intro acc Q h;simp only[quoG,Option.some.injEq] at h;refine⟨[],by rw[List.append_nil];exact h.symm,by simp,fun a i=>?_⟩;rw[List.nil_append,zb6,if_pos (by decide),List.append_nil];rfl
 | cons c r ih=>
  intro acc Q h;rw[quoG] at h
  cases hq:quoB c with
  | none=>rw[hq] at h;cases h
  | some x=>
   rw[hq] at h;obtain⟨E,hE,hl,hu⟩:=ih (acc++x) Q h;refine⟨x++E,by rw[hE];simp,?_,fun a i=>?_⟩
   ·have:x.length<=2:=by
     unfold quoB at hq
     repeat' split at hq
     all_goals first|(injection hq with hq;subst hq;simp) | cases hq
    rw[List.length_append,List.length_cons];omega
   ·unfold quoB at hq
    by_cases h1:c.toNat=34∨c.toNat=92
    ·rw[if_pos h1] at hq;injection hq with hq;subst hq;show unqA a i (92::c::(E++[34]))=_;rw[zb6,if_neg (by decide),if_pos (by decide)];simp only[zw5 h1];rw[hu];simp;omega
    ·rw[if_neg h1] at hq
     by_cases h2:c.toNat=10
     ·rw[if_pos h2] at hq;injection hq with hq;subst hq;have hc:c=10:=UInt8.toNat.inj h2;show unqA a i (92::110::(E++[34]))=_;rw[zb6,if_neg (by decide),if_pos (by decide)];have hp:pairU 110=some 10:=by decide
      simp only[hp];rw[hu,hc];simp;omega
     ·rw[if_neg h2] at hq
      by_cases h3:plnB c.toNat=true
      ·rw[if_pos h3] at hq;injection hq with hq;subst hq;show unqA a i (c::(E++[34]))=_;rw[zb6,if_neg (by omega),if_neg (by omega),if_pos h3,hu];simp;omega
      ·rw[if_neg h3] at hq
       cases hq
theorem ztx {L Q:List UInt8}(h:quoO L=some Q):unqO Q=some (L,Q.length)∧Q.length<=2 * L.length+2∧Q.head?=some 34:=by
 obtain⟨E,hE,hl,hu⟩:=zw6 L [34] Q h;have e:Q=34::(E++[34]):=by rw[hE];simp
 refine⟨?_,by rw[e];simp;omega,by rw[e];rfl⟩;rw[e];show(if (34:UInt8).toNat=34 then unqA [] 1 (E++[34]) else none)=_;rw[if_pos (by decide),hu];simp;omega
theorem zhh {p:UInt8->Bool}:∀ (L:List UInt8)(m:Nat),runN p L<=m->runN p (L.take m)=runN p L
 | [],m,_=>by rw[List.take_nil]
 | a::L,0,h=>by rw[List.take_zero,znu];omega
 | a::L,m+1,h=>by
  rw[zc3] at h;rw[List.take_succ_cons,zc3,zc3]
  cases ha:p a with
  | false=>rfl
  | true=>
   rw[ha] at h;simp only[if_true] at h ⊢;rw[zhh L m (by omega)]
theorem zty:∀ (m:Nat) (L acc:List UInt8)(i:Nat)(v:List UInt8)(n:Nat),L.length<=m->unqA acc i L=some (v,n)->i<n∧n - i<=L.length∧unqA acc i (L.take (n - i))=some (v,n):=by
 intro m
 induction m with
 | zero=>
  intro L acc i v n hm h;have:L=[]:=List.eq_nil_of_length_eq_zero (by omega);subst this;rw[unqA] at h
  cases h
 | succ m ih=>
  intro L acc i v n hm h
  cases L with
  | nil=>rw[unqA] at h;cases h
  | cons c r=>
   rw[List.length_cons] at hm ⊢;rw[zb6] at h
   by_cases h1:c.toNat=34
   ·rw[if_pos h1] at h;injection h with h;injection h with h2 h3;subst h2 h3;refine⟨by omega,by omega,?_⟩;rw[show i+1 - i=0+1 by omega,List.take_succ_cons,zb6,if_pos h1]
   ·rw[if_neg h1] at h
    by_cases h2:c.toNat=92
    ·rw[if_pos h2] at h
     cases r with
     | nil=>cases h
     | cons d r'=>
      rw[List.length_cons] at hm ⊢
      cases hp:pairU d with
      | none=>simp only[hp] at h;cases h
      | some x=>
       simp only[hp] at h;obtain⟨q1,q2,q3⟩:=ih r' _ _ _ _ (by omega) h;refine⟨by omega,by omega,?_⟩;rw[show n - i=(n - (i+2))+1+1 by omega,List.take_succ_cons,List.take_succ_cons,zb6,if_neg h1,if_pos h2];simp only[hp];exact q3
    ·rw[if_neg h2] at h
     cases hp:plnB c.toNat with
     | false=>rw[hp] at h;simp at h
     | true=>
      rw[hp] at h;simp only[if_true] at h;obtain⟨q1,q2,q3⟩:=ih r _ _ _ _ (by omega) h;refine⟨by omega,by omega,?_⟩;rw[show n - i=(n - (i+1))+1 by omega,List.take_succ_cons,zb6,if_neg h1,if_neg h2,hp];simp only[if_true];exact q3
theorem zw7 {S:List UInt8}{en:Bool}{k:Int}{n:Nat}(h:lookR S en=(k,n,0))(hk:k≠0)(hn:0<n):lookR (S.take n) false=(k,n,0):=by
 cases S with
 | nil=>
  simp only[lookR,Prod.mk.injEq] at h;omega
 | cons c r=>
  obtain⟨m,rfl⟩:∃ m,n=m+1:=⟨n - 1,by omega⟩;rw[List.take_succ_cons];unfold lookR at h ⊢;simp only at h ⊢
  by_cases c2:clsI c.toNat=2
  ·rw[if_pos c2] at h
   split at h
   ·simp at h
   ·simp only[Prod.mk.injEq] at h;exact absurd h.1.symm hk
  rw[if_neg c2] at h ⊢
  by_cases c1:clsI c.toNat=1
  ·rw[if_pos c1] at h;simp only[Prod.mk.injEq] at h;exact absurd h.1.symm hk
  rw[if_neg c1] at h ⊢
  by_cases c6:clsI c.toNat=6
  ·rw[if_pos c6] at h ⊢;exact h
  rw[if_neg c6] at h ⊢
  by_cases c3:clsI c.toNat=3
  ·rw[if_pos c3] at h ⊢;injection h with h1 h;rw[<-h1]
   congr 1
   unfold wordR at h ⊢
   by_cases hw:runN (inC [3,4]) (c::r) > 24
   ·rw[if_pos hw] at h;injection h with _ h;cases h
   ·rw[if_neg hw] at h;injection h with h _;have e:=zhh (p:=inC [3,4]) (c::r) (m+1) (by omega);rw[List.take_succ_cons] at e;rw[e,if_neg hw,h]
  rw[if_neg c3] at h ⊢
  by_cases c4:clsI c.toNat=4
  ·rw[if_pos c4] at h ⊢;injection h with h1 h;rw[<-h1]
   congr 1
   unfold numR at h ⊢
   split at h
   ·injection h with _ h;cases h
   ·rename_i hq
    injection h with h _;have e:=zhh (p:=inC [4]) (c::r) (m+1) (by omega);rw[List.take_succ_cons] at e;rw[e];rw[h] at hq ⊢;have e2:(c::r.take m).take (m+1)=(c::r).take (m+1):=by rw[List.take_succ_cons,List.take_succ_cons,List.take_take,Nat.min_self]
    have e3:(c::r.take m).drop (m+1)=[]:=by rw[List.drop_succ_cons,List.drop_eq_nil_of_le (by rw[List.length_take];omega)]
    rw[e2,e3,znu];rw[if_neg (fun hh=>hq (hh.elim .inl (fun hh=>absurd hh (by omega))))]
  rw[if_neg c4] at h ⊢
  by_cases c5:clsI c.toNat=5
  ·rw[if_pos c5] at h ⊢;injection h with h1 h;rw[<-h1]
   congr 1
   unfold quoR unqO at h ⊢
   by_cases h34:c.toNat=34
   ·simp only[h34,if_true] at h ⊢
    cases hu:unqA [] 1 r with
    | none=>rw[hu] at h;injection h with _ h;cases h
    | some v=>
     obtain⟨v,nn⟩:=v;rw[hu] at h;injection h with h _;subst h;have:=(zty _ r [] 1 v (m+1) (Nat.le_refl _) hu).2.2;rw[show m+1 - 1=m by omega] at this;rw[this]
   ·simp only[h34,if_false] at h;injection h with _ h
    cases h
  rw[if_neg c5] at h ⊢
  by_cases cp:Lib.hasPrefix (c::r) [47,47]=true
  ·rw[if_pos cp] at h;simp only[Prod.mk.injEq] at h;exact absurd h.1.symm hk
  rw[if_neg cp] at h;injection h with h1 h;rw[<-h1];unfold sigR at h
  by_cases s2:sig2 ((c::r).take 2)=true
  ·rw[if_pos s2] at h;injection h with h _;obtain rfl:m=1:=by omega
   cases r with
   | nil=>simp[sig2] at s2
   | cons d r'=>
    have cp':¬ Lib.hasPrefix (c::(d::r').take 1) [47,47]=true:=by
     intro hh;apply cp;unfold Lib.hasPrefix at hh ⊢;simpa[List.isPrefixOf] using hh
    rw[if_neg cp']
    congr 1
    unfold sigR;have e:(c::(d::r').take 1).take 2=(c::d::r').take 2:=rfl;rw[e,if_pos s2]
  ·rw[if_neg s2] at h;simp only at h
   split at h
   ·rename_i s1
    injection h with h _;obtain rfl:m=0:=by omega
    rw[List.take_zero,if_neg (by simp[Lib.hasPrefix,List.isPrefixOf])]
    congr 1
    unfold sigR;rw[if_neg (by simp[sig2])];simp only;rw[if_pos s1]
   ·injection h with _ h;cases h
theorem zow {S:List UInt8}{en:Bool}{n m:Nat}(h:lookR S en=(0,n,0))(hm:n<=m):lookR (S.take m) false=(0,n,0):=by
 cases S with
 | nil=>simp[lookR] at h
 | cons c r=>
  have hn:=(zdt h (fun e=>by cases e)).2;have hn':0<n:=by
   rcases hn with hn|⟨hn,-⟩
   ·exact hn
   ·exact absurd hn (by decide)
  obtain⟨m,rfl⟩:∃ m',m=m'+1:=⟨m - 1,by omega⟩;rw[List.take_succ_cons];unfold lookR at h ⊢;simp only at h ⊢
  by_cases c2:clsI c.toNat=2
  ·rw[if_pos c2] at h ⊢
   split at h
   ·simp at h
   ·exact h
  rw[if_neg c2] at h ⊢
  by_cases c1:clsI c.toNat=1
  ·rw[if_pos c1] at h ⊢;exact h
  rw[if_neg c1] at h ⊢
  by_cases c6:clsI c.toNat=6
  ·rw[if_pos c6] at h;simp at h
  rw[if_neg c6] at h ⊢
  by_cases c3:clsI c.toNat=3
  ·rw[if_pos c3] at h;simp at h
  rw[if_neg c3] at h ⊢
  by_cases c4:clsI c.toNat=4
  ·rw[if_pos c4] at h;simp at h
  rw[if_neg c4] at h ⊢
  by_cases c5:clsI c.toNat=5
  ·rw[if_pos c5] at h;simp at h
  rw[if_neg c5] at h ⊢
  by_cases cp:Lib.hasPrefix (c::r) [47,47]=true
  ·rw[if_pos cp] at h;simp only[Prod.mk.injEq] at h;have hc:=h.2.1;unfold comN at hc;have hn2:2<=n:=by
    cases r with
    | nil=>simp[Lib.hasPrefix,List.isPrefixOf] at cp
    | cons d r'=>
     simp[Lib.hasPrefix,List.isPrefixOf] at cp;obtain⟨rfl,rfl⟩:=cp;rw[zc3,zc3] at hc;simp at hc;omega
   have cp':Lib.hasPrefix (c::r.take m) [47,47]=true:=by
    cases r with
    | nil=>rw[List.take_nil];exact cp
    | cons d r'=>
     obtain⟨m,rfl⟩:∃ m',m=m'+1:=⟨m - 1,by omega⟩;rw[List.take_succ_cons];unfold Lib.hasPrefix at cp ⊢;simpa[List.isPrefixOf] using cp
   have e:=zhh (p:=fun c=>c != 10) (c::r) (m+1) (by omega);rw[List.take_succ_cons] at e;rw[if_pos cp',comN,e,hc]
  ·rw[if_neg cp] at h;simp at h
inductive GapL:List UInt8->Prop
 | nil:GapL []
 | step {S:List UInt8}{n:Nat}:S≠[]->lookR S false=(0,n,0)->GapL (S.drop n)->GapL S
def StL (L:List UInt8):Nat->List Tok->Prop
 | e,[]=>GapL (L.drop e)
 | e,t::r=>∃ a:Nat,t.pos=a∧e<=a∧a+t.text.data.toList.length<=L.length∧(L.drop a).take t.text.data.toList.length=t.text.data.toList∧GapL ((L.drop e).take (a - e))∧StL L (a+t.text.data.toList.length) r
theorem z06 {L:List UInt8}{p n:Nat}{en:Bool}(h:lookR (L.drop p) en=(0,n,0))(hp:p<L.length):∀ ts:List Tok,StL L (p+n) ts->StL L p ts:=by
 have hne:L.drop p≠[]:=fun e=>by have:=congrArg List.length e;rw[List.length_drop] at this;simp at this;omega
 intro ts hs;have hn0:0<n:=by
  rcases(zdt h (fun e=>absurd e hne)).2 with h|⟨h,-⟩
  ·exact h
  ·exact absurd h (by decide)
 have hnl:=(zdt h (fun e=>absurd e hne)).1
 cases ts with
 | nil=>
  have e:=zow (m:=(L.drop p).length) h hnl;rw[List.take_length] at e;exact .step hne e (by rw[List.drop_drop];exact hs)
 | cons t r=>
  obtain⟨a,h1,h2,h3,h4,h5,h6⟩:=hs;refine⟨a,h1,by omega,h3,h4,?_,h6⟩;have e:=zow (m:=a - p) h (by omega);refine .step (fun e=>?_) e ?_
  ·have:=congrArg List.length e;rw[List.length_take] at this;rw[List.length_drop] at this;simp at this;omega
  ·rw[List.drop_take,List.drop_drop,show a - p - n=a - (p+n) by omega];exact h5
theorem zm3 {S:List UInt8}{k:Int}(h:lookR S false=(k,S.length,0))(hk:k≠0)(hS:0<S.length)(hl:S.length<=4096)(p:Int):alnB ⟨k,strU S,p⟩=true:=by
 unfold alnB lexO;show(match (if 4096<S.length then(([],3,0):List Tok × Int × Nat) else lexG S (2 * S.length+1) 0 []).1 with
  | []=>false
  | x::_=>tkEq x ⟨k,strU S,p⟩)=true
 rw[if_neg (by omega)];have hl0:lookR (S.drop 0) (clo (lastT []))=(k,S.length,0):=h;rw[zd3 (.inl hS) hl0 hk (by simp)];obtain⟨f,hf⟩:∃ f,2 * S.length=f+1+1:=⟨2 * S.length - 2,by omega⟩;rw[hf,Nat.zero_add,List.nil_append,List.drop_zero,List.take_length];have hte:tkEq ⟨k,strU S,((0:Nat):Int)⟩ ⟨k,strU S,p⟩=true:=by simp[tkEq]
 have hlt:lastT [⟨k,strU S,((0:Nat):Int)⟩]=⟨k,strU S,((0:Nat):Int)⟩:=rfl
 cases hc:clo ⟨k,strU S,((0:Nat):Int)⟩ with
 | false=>
  rw[zfy (by omega) (by rw[hlt];exact hc)];exact hte
 | true=>
  have hle:lookR (S.drop S.length) (clo (lastT [⟨k,strU S,((0:Nat):Int)⟩]))=(5,0,0):=by rw[hlt,hc,List.drop_length];rfl
  rw[zd3 (.inr (by rw[hlt];exact hc)) hle (by decide) (by simp)];rw[zfy (by omega) (by rw[zcz];rfl)];exact hte
theorem zqj {L:List UInt8}(hL:L.length<=4096):∀ (f p:Nat)(ds:List Tok),p<=L.length->ds.length<=1024->lexMu L p ds<f ->
  (∃ e q,lexG L f p ds=([],e,q)∧e≠0∧q<=L.length)∨∃ ms,lexG L f p ds=(ds++ms,0,0)∧StL L p ms∧chkF (lastT ds) ms=true∧(ds++ms).length<=1024:=by
 intro f
 induction f with
 | zero=>intro p ds _ _ h;omega
 | succ f ih=>
  intro p ds hp hn hf;obtain⟨k,n,e,hl⟩:∃ k n e,lookR (L.drop p) (clo (lastT ds))=(k,n,e):=⟨_,_,_,rfl⟩
  by_cases h1:p<L.length∨clo (lastT ds)=true
  ·by_cases he:e=0
   ·subst he
    by_cases hk:k=0
    ·subst hk;obtain⟨hm0,hm1⟩:=zny h1 hp hl;have hlt:p<L.length:=by
      by_cases h:p<L.length
      ·exact h
      ·rw[List.drop_eq_nil_of_le (by omega)] at hl;simp[lookR] at hl
     rw[zeu h1 hl];rcases ih (p+n) ds hm0 hn (by omega) with h|⟨ms,g1,g2,g3,g4⟩
     ·exact .inl h
     ·exact .inr ⟨ms,g1,z06 hl hlt ms g2,g3,g4⟩
    ·by_cases ht:ds.length=1024
     ·exact .inl ⟨3,p,zem h1 hl hk ht,by decide,hp⟩
     ·obtain⟨hm0,hm1⟩:=znz h1 hp hl (t:=⟨k,strU ((L.drop p).take n),p⟩) rfl;rw[zd3 h1 hl hk ht];have hsz:=zdt hl (fun e=>by
       rcases h1 with h1|h1
       ·have:=congrArg List.length e;rw[List.length_drop] at this;simp at this;omega
       ·exact h1)
      have hlen:((L.drop p).take n).length=n:=by rw[List.length_take,List.length_drop];omega
      rcases ih (p+n) (ds++[⟨k,strU ((L.drop p).take n),p⟩]) hm0 (by simp;omega) (by omega) with h|⟨ms,g1,g2,g3,g4⟩
      ·exact .inl h
      ·rw[zcz] at g3;refine .inr ⟨⟨k,strU ((L.drop p).take n),p⟩::ms,by rw[g1];simp,⟨p,rfl,Nat.le_refl _,?_,?_,?_,?_⟩,?_,by simpa using g4⟩
       ·rw[zds,hlen];exact hm0
       ·rw[zds,hlen]
       ·rw[Nat.sub_self,List.take_zero];exact .nil
       ·rw[zds,hlen];exact g2
       ·rw[chkF];rcases hsz.2 with h0|⟨hk5,h0,hen⟩
        ·have hb:bareB ⟨k,strU ((L.drop p).take n),p⟩=false:=by
          cases hb:bareB ⟨k,strU ((L.drop p).take n),p⟩ with
          | false=>rfl
          | true=>
           have:=(zn4 hb).2.2;rw[zcw] at this;rw[this] at hlen;simp at hlen;omega
         have hlc:=zw7 hl hk h0;have ha:alnB ⟨k,strU ((L.drop p).take n),p⟩=true:=zm3 (by rw[hlen];exact hlc) hk (by omega) (by omega) _;rw[hb,ha];exact g3
        ·subst hk5 h0;rw[hen];rw[List.take_zero] at g3 ⊢;have hb:bareB ⟨5,strU [],p⟩=true:=by unfold bareB;rw[zcw];rfl
         rw[hb];exact g3
   ·exact .inl ⟨e,p,zet h1 hl he,he,hp⟩
  ·have hc:clo (lastT ds)=false:=by
    cases hc:clo (lastT ds) with
    | false=>rfl
    | true=>exact absurd (.inr hc) h1
   refine .inr ⟨[],?_,?_,by rw[chkF,hc];rfl,by simpa using hn⟩
   ·rw[zfy (fun h=>h1 (.inl h)) hc,List.append_nil]
   ·show GapL (L.drop p);rw[List.drop_eq_nil_of_le (by
     by_cases h:p<L.length
     ·exact absurd (.inl h) h1
     ·omega)]
    exact .nil
theorem zib {L:List UInt8}(hL:L.length<=4096):(∃ e q,lexO L=([],e,q)∧e≠0∧q<=L.length)∨∃ ms,lexO L=(ms,0,0)∧StL L 0 ms∧chkO ms=0∧ms.length<=1024:=by
 have h:=zqj hL (2 * L.length+1) 0 [] (Nat.zero_le _) (by simp) (by unfold lexMu;rw[zhq];simp[clo]);unfold lexO;rw[if_neg (by omega)];rcases h with h|⟨ms,g1,g2,g3,g4⟩
 ·exact .inl h
 ·rw[List.nil_append] at g1 g4;refine .inr ⟨ms,g1,g2,?_,g4⟩;unfold chkO;rw[if_neg (by omega)];rw[zhq] at g3;rw[g3];rfl
end Go.Proofs.YtabiangdmibocaaGreatDoor
