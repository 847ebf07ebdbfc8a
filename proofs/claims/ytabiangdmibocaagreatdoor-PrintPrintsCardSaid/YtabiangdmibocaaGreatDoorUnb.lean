import Derived.Test.YtabiangdmibocaaGreatDoorUnR
import Derived.Test.YtabiangdmibocaaGreatDoorUnPfA
import Derived.Test.YtabiangdmibocaaGreatDoorUnT
import Derived.Lib.ItoaLen
import Derived.Test.YtabiangdmibocaaGreatDoorUnV
import Derived.Test.YtabiangdmibocaaGreatDoorUnO
namespace Go.Proofs.YtabiangdmibocaaGreatDoor
set_option maxRecDepth 100000
set_option maxHeartbeats 4000000
open Go.RowKit
theorem z2g {w:World}{sn:Option Addr}{cn:Nat}{t:Pt}(hP:TabP w)(hE:EnW w (.slice sn (layP 0 t).length cn) (layP 0 t))(hT:TrW t) :
  Calls Tryz.prog 19 #[.agg #[.slice sn (layP 0 t).length cn]] w fun e w'=>e=.returned (.int .i64 0)∧Below w.heap.size w w':=by
 have HC:Hid (∀ W,Below w.heap.size w W->Calls Tryz.prog 43 #[.agg #[.slice sn (layP 0 t).length cn]] W fun e w'=>∃ v',e=.returned (.tuple #[v',.int .i64 0])∧OwnT W.heap.size w' v' (wrP t)∧Below W.heap.size W w'):=fun W hb=>zfr (hP.low hb) (hE.low hb) hT;clear hP hE hT;generalize (layP 0 t).length=nl at *
 go_enter Tryz.func19,Tryz.ntmps19
 go_wp2_with fail
 have b0:Below w.heap.size w (w.alloc (.cells #[.slice sn nl cn] 25)):=(Below.refl _ _).alloc (Nat.le_refl _) _;refine(HC.out _ b0).mono ?_;rintro e W ⟨v',rfl,-,hb⟩;have HB:Hid (Below w.heap.size w W):=b0.trans (hb.mono b0.size);clear hb b0
 go_wp2
 go_ret
 exact⟨rfl,HB.out⟩
theorem zec {w:World}{sn:Option Addr}{cn:Nat}{t:Pt}(hP:TabP w)(hE:EnW w (.slice sn (layP 0 t).length cn) (layP 0 t))(hT:TrW t)(hl:1024<(wrP t).length) :
  Calls Tryz.prog 18 #[.agg #[.slice sn (layP 0 t).length cn]] w fun e w'=>e=.returned (.tuple #[.slice none 0 0,.int .i64 3])∧Below w.heap.size w w':=by
 have HC:Hid (∀ W,Below w.heap.size w W->Calls Tryz.prog 43 #[.agg #[.slice sn (layP 0 t).length cn]] W fun e w'=>∃ v',e=.returned (.tuple #[v',.int .i64 0])∧OwnT W.heap.size w' v' (wrP t)∧Below W.heap.size W w'):=fun W hb=>zfr (hP.low hb) (hE.low hb) hT;clear hP hE hT;generalize (layP 0 t).length=nl at *;have hd:decide (1024<(wrP t).length)=true:=by simp;omega
 have HO:Hid (∀ (B:Nat) (W:World) (v:Value),OwnT B W v (wrP t)->∃ sp cap,v=.slice sp (wrP t).length cap):=fun B W v h=>OwnG.shape h;generalize hwl:(wrP t).length=wl at *;clear hwl
 go_enter Tryz.func18,Tryz.ntmps18
 go_wp2_with fail
 have b0:Below w.heap.size w (w.alloc (.cells #[.slice sn nl cn] 25)):=(Below.refl _ _).alloc (Nat.le_refl _) _;refine(HC.out _ b0).mono ?_;rintro e W ⟨v',rfl,ho,hb⟩;obtain⟨sp,cap,hv⟩:=HO.out _ _ _ ho;subst hv;have HB:Hid (Below w.heap.size w W):=b0.trans (hb.mono b0.size);clear ho hb b0
 go_wp2
 go_ret2
 exact⟨rfl,HB.out⟩
theorem zl9 {w:World}{sn:Option Addr}{cn:Nat}{Z:List NdZ}(hE:EnZ w (.slice sn Z.length cn) Z) :
  Calls Tryz.prog 78 #[.agg #[.slice sn Z.length cn]] w fun e w'=>e=.returned (.bool (ordZ Z))∧Below w.heap.size w w':=by
 have HV:Hid (∀ W,Vis w sn cn Z.length W 0->Calls Tryz.prog 112 #[.int .i64 0,.pointer (some ⟨w.heap.size+1,0,none⟩),.pointer (some ⟨w.heap.size,0,none⟩),.pointer (some ⟨w.heap.size+1+1,0,none⟩)] W fun e w'=>e=.returned (.bool (visZ Z (Z.length+1) 0 0).isSome)∧∃ q',Vis w sn cn Z.length w' q'∧(visZ Z (Z.length+1) 0 0=some q'∨visZ Z (Z.length+1) 0 0=none)∧q'<=Z.length):=fun W h=>
  zqp hE (Z.length+1) 0 0 W (by omega) (Nat.zero_le _) h
 have HO:Hid (ordZ Z=(visZ Z (Z.length+1) 0 0 == some Z.length)):=rfl;have hLl:=hE.l;clear hE;have hmf:∀ (fn:Fn) (first cap:Array Value) (w:World),(Instr.makeFunc fn first cap).run Tryz.prog w=.ok (.func fn first cap) w:=fun _ _ _ _=>rfl;have hcf:=zga;have hsf:∀ (a:Addr) (fn:Fn) (first cap:Array Value) (W:World),(store a (.func fn first cap)).run Tryz.prog W=stored Tryz.prog W a (.func fn first cap) .plain:=fun a fn first cap W=>run_store _ W a _ _ rfl
 generalize Z.length=nl at *;generalize visZ Z (nl+1) 0 0=R at *;generalize ordZ Z=OZ at *
 go_enter Tryz.func78,Tryz.ntmps78
 go_wp2_with fail
 refine zag (fun W=>Vis w sn cn nl W 0) ?_ ?_
 ·have n0:=heap_alloc_new w (.cells #[.slice sn nl cn] 25);have n1:=heap_alloc_new (w.alloc (.cells #[.slice sn nl cn] 25)) (.cells #[.int .i64 0] 3);have n2:=heap_alloc_new ((w.alloc (.cells #[.slice sn nl cn] 25)).alloc (.cells #[.int .i64 0] 3)) (.cells #[.func (.func 112) #[] #[.pointer (some ⟨w.heap.size+1,0,none⟩),.pointer (some ⟨w.heap.size,0,none⟩),.pointer (some ⟨w.heap.size+1+1,0,none⟩)]] 83);simp only[World.size_alloc] at n1 n2;exact⟨(((Below.refl _ _).alloc (Nat.le_refl _) _).alloc (by simp) _).alloc (by simp;try omega) _,(Below.heap_alloc _ _ _ (by simp;try omega)).trans ((Below.heap_alloc _ _ _ (by simp)).trans n0),(Below.heap_alloc _ _ _ (by simp)).trans n1,n2⟩
 intro W hW;refine(HV.out W hW).mono ?_;rintro e W2 ⟨rfl,q',h2,hor,hq⟩;have ct:W2.cell? ⟨w.heap.size,0,none⟩=some (.slice sn nl cn):=(cell_of_row _ _ 0 _ _ _ h2.t).trans rfl;have cq:W2.cell? ⟨w.heap.size+1,0,none⟩=some (.int .i64 q'):=(cell_of_row _ _ 0 _ _ _ h2.n).trans rfl;have HB:Hid (Below w.heap.size w W2):=h2.b;clear hW h2 HV
 cases R with
 | none=>
  have HX:Hid (OZ=false):=by show _=_;rw[HO.out];rfl
  simp only[Option.isSome_none];clear hor
  go_wp2
  go_ret
  exact⟨zal (by rw[HX.out]),HB.out⟩
 | some p=>
  have hpe:p=q':=by
   rcases hor with h|h
   ·injection h
   ·cases h
  subst hpe;have HX:Hid (OZ=(p == nl)):=by
   show _=_;rw[HO.out,Bool.eq_iff_iff,beq_iff_eq,beq_iff_eq];exact⟨fun h=>by injection h,fun h=>by rw[h]⟩
  simp only[Option.isSome_some];clear hor
  cases z1:(p == nl)
  ·have z1':((p:Int) == (nl:Int))=false:=by have h0:¬ p=nl:=(by simpa using z1);simp;omega
   rw[z1] at HX
   go_wp2
   go_ret
   exact⟨zal (by rw[HX.out]),HB.out⟩
  ·have z1':((p:Int) == (nl:Int))=true:=by have h0:p=nl:=(by simpa using z1);simp;omega
   rw[z1] at HX
   go_wp2
   go_ret
   exact⟨zal (by rw[HX.out]),HB.out⟩
def smT (u:Tok):Prop:=u.pos=0∧u.text.size<=100000
def aS (ws:List Tok):Prop:=∀ u ∈ ws,smT u
theorem zma:aS []:=fun u hu=>by simp at hu
theorem zby {a b:List Tok}(h:aS a)(h':aS b):aS (a++b):=fun u hu=>(List.mem_append.1 hu).elim (h u) (h' u)
theorem zb4 {u:Tok}(h:smT u):aS [u]:=fun v hv=>by obtain rfl:=List.mem_singleton.1 hv;exact h
theorem zgw {u:Tok}{a:List Tok}(h:smT u)(h':aS a):aS (u::a):=fun v hv=>(List.mem_cons.1 hv).elim (fun e=>by rw[e];exact h) (h' v)
theorem zd1 {os:List (List Tok)}(h:∀ o ∈ os,aS o):aS os.flatten:=fun u hu=>by
 obtain⟨o,ho,hu⟩:=List.mem_flatten.1 hu;exact h o ho u hu
theorem sm_w {k:Int}{x:ByteArray}(h:x.size<=100000):smT (tkW k x):=⟨rfl,h⟩
theorem sm_s (s:List UInt8)(h:s.length<=100000):smT (sgT s):=⟨rfl,by show(strU s).size<=_;rw[zad];exact h⟩
theorem sm_d (s:List UInt8)(h:s.length<=100000):smT (wdT s):=⟨rfl,by show(strU s).size<=_;rw[zad];exact h⟩
theorem z4x:smT enT:=⟨rfl,by decide⟩
theorem zzl {os:List (List Tok)}(h:∀ o ∈ os,aS o):aS (wEnd os):=zd1 fun o ho=>by
 obtain⟨q,hq,rfl⟩:=List.mem_map.1 ho;exact zby (h q hq) (zb4 z4x)
theorem zu6 {s:List UInt8}(hs:s.length<=100000){os:List (List Tok)}(h:∀ o ∈ os,aS o):aS (wPar s os):=by
 cases os with
 | nil=>exact zma
 | cons o r=>exact zby (h o (by simp)) (zd1 fun q hq=>by
   obtain⟨z,hz,rfl⟩:=List.mem_map.1 hq;exact zgw (sm_s s hs) (h z (by simp[hz])))
theorem zpd {os:List (List Tok)}(h:∀ o ∈ os,aS o):aS (wBrk os):=zby (zby (zb4 (sm_s _ (by decide))) (zu6 (by decide) h)) (zb4 (sm_s _ (by decide)))
theorem zzm {os:List (List Tok)}(h:∀ o ∈ os,aS o):aS (wBra os):=zby (zby (zb4 (sm_s _ (by decide))) (zzl h)) (zb4 (sm_s _ (by decide)))
theorem znc {os:List (List Tok)}(n:Nat)(h:∀ o ∈ os,aS o):∀ o ∈ os.take n,aS o:=fun o ho=>h o (List.mem_of_mem_take ho)
theorem zij {os:List (List Tok)}(n:Nat)(h:∀ o ∈ os,aS o):∀ o ∈ os.drop n,aS o:=fun o ho=>h o (List.mem_of_mem_drop ho)
theorem z56 {os:List (List Tok)}(h:∀ o ∈ os,aS o):aS (wIf os):=by
 unfold wIf;refine zby (zby (zd1 (znc 2 h)) ?_) (zd1 (zij 2 h))
 split
 ·exact zb4 (sm_d _ (by decide))
 ·exact zma
theorem zmb {k:Int}{x:ByteArray}{hs:List (Int × ByteArray)}{os:List (List Tok)}(i:Nat)(h:∀ o ∈ os,aS o):aS (wOpe k x hs os i):=by
 unfold wOpe
 split
 ·rename_i h' o e1 e2
  have ho:=h o (List.mem_of_getElem? e2)
  split
  ·exact zpd fun q hq=>by obtain rfl:=List.mem_singleton.1 hq;exact ho
  ·exact ho
 ·exact zma
theorem zmc {x:ByteArray}(hx:x.size<=40000):(quoT x).size<=100000:=by
 unfold quoT
 split
 ·rename_i q hq
  have:=(ztx hq).2.1;have e:x.data.toList.length=x.size:=by simp
  rw[zad];omega
 ·decide
theorem z4y {x:ByteArray}{hs:List (Int × ByteArray)}{os:List (List Tok)}(hx:x.size<=40000)(h:∀ o ∈ os,aS o):aS (wFun x hs os):=by
 unfold wFun;refine zby (zby (zby (zby (zb4 (sm_d _ (by decide))) ?_) (zb4 (sm_w (by omega)))) (zpd (znc _ (zij _ h)))) (zd1 (zij _ (zij _ h)))
 split
 ·exact zpd (znc _ h)
 ·exact zma
theorem aS_X {k n:Int}{x:ByteArray}{hs:List (Int × ByteArray)}{os:List (List Tok)}(hx:x.size<=40000)(hn:-9223372036854775808<=n∧n<=9223372036854775807)(h:∀ o ∈ os,aS o):aS (wrX k x n hs os):=by
 have h1:smT (nuT n):=⟨rfl,by show(Lib.itoa n).toArray.size<=_;have:=Lib.itoa_length_le n hn.1 hn.2;simp;omega⟩;have h2:smT (tkW 3 (quoT x)):=⟨rfl,zmc hx⟩;unfold wrX
 repeat' split
 ·exact zb4 h1
 ·exact zb4 h2
 ·exact zb4 (sm_w (by omega))
 ·exact zby (zby (zmb 0 h) (zb4 (sm_s _ (by decide)))) (zb4 (sm_w (by omega)))
 ·exact zby (zmb 0 h) (zpd (zij _ h))
 ·exact zby (zb4 (sm_w (by omega))) (zmb 0 h)
 ·exact zby (zby (zmb 0 h) (zb4 (sm_w (by omega)))) (zmb 1 h)
 ·exact zma
theorem aS_S {k n:Int}{x:ByteArray}{hs:List (Int × ByteArray)}{os:List (List Tok)}(hx:x.size<=40000)(hn:-9223372036854775808<=n∧n<=9223372036854775807)(h:∀ o ∈ os,aS o):aS (wrS k x n hs os):=by
 unfold wrS
 repeat' split
 ·exact zzm h
 ·exact zby (zb4 (sm_d _ (by decide))) (z56 h)
 ·exact zby (zb4 (sm_d _ (by decide))) (zd1 h)
 ·exact zby (zb4 (sm_d _ (by decide))) (zd1 h)
 ·exact zby (zby (zb4 (sm_w (by omega))) (zb4 (sm_s _ (by decide)))) (zd1 h)
 ·exact zu6 (by decide) h
 ·exact zd1 h
 ·exact aS_X hx hn h
theorem aS_K {k n:Int}{x:ByteArray}{hs:List (Int × ByteArray)}{os:List (List Tok)}(hx:x.size<=40000)(hn:-9223372036854775808<=n∧n<=9223372036854775807)(h:∀ o ∈ os,aS o):aS (wrK k x n hs os):=by
 have h2:smT (tkW 3 (quoT x)):=⟨rfl,zmc hx⟩;have hw:smT (tkW 1 x):=sm_w (by omega);unfold wrK
 repeat' split
 ·exact zby (zby (zgw (sm_d _ (by decide)) (zb4 hw)) (zb4 z4x)) (zzl h)
 ·exact zby (zb4 (sm_d _ (by decide))) (zb4 h2)
 ·exact zby (zby (zgw (sm_d _ (by decide)) (zb4 hw)) (zb4 (sm_s _ (by decide)))) (zd1 h)
 ·exact zby (zgw (sm_d _ (by decide)) (zb4 hw)) (zu6 (by decide) h)
 ·exact zby (zgw (sm_d _ (by decide)) (zgw hw (zb4 (sm_d _ (by decide))))) (zzm h)
 ·exact z4y hx h
 ·exact zby (zb4 hw) (zd1 h)
 ·exact zb4 hw
 ·exact zby (zby (zd1 h) (zb4 (sm_s _ (by decide)))) (zb4 hw)
 ·exact aS_S hx hn h
mutual
def GsP:Pt->Prop | .mk _ x n _ _ _ l=>x.size<=40000∧(-9223372036854775808<=n∧n<=9223372036854775807)∧GsL l
def GsL:List Pt->Prop | []=>True|t::r=>GsP t∧GsL r
end
mutual
theorem z4z:∀ t:Pt,GsP t->aS (wrP t)
 | .mk k x n a f t l,h=>by
  rw[GsP] at h;rw[wrP];exact aS_K h.1 h.2.1 (zzn l h.2.2)
theorem zzn:∀ l:List Pt,GsL l->∀ o ∈ wrM l,aS o
 | [],_=>fun o ho=>by rw[wrM] at ho;simp at ho
 | t::r,h=>fun o ho=>by
  rw[GsL] at h;rw[wrM] at ho;rcases List.mem_cons.1 ho with rfl|ho
  ·exact z4z t h.1
  ·exact zzn r h.2 o ho
theorem z2b:∀ t:Pt,GsP t->GdP t
 | .mk k x n a f t l,h=>by
  rw[GsP] at h;rw[GdP];exact⟨by omega,h.2.1,zzo l h.2.2⟩
theorem zzo:∀ l:List Pt,GsL l->GdL l
 | [],_=>by rw[GdL];trivial
 | t::r,h=>by
  rw[GsL] at h;rw[GdL];exact⟨z2b t h.1,zzo r h.2⟩
end
mutual
theorem zzp:∀ (t:Pt)(i:Nat),(∀ d ∈ layP i t,d.text.size<=40000∧-9223372036854775808<=d.num∧d.num<=9223372036854775807)->GsP t
 | .mk k x n a f t l,i,h=>by
  rw[layP] at h;rw[GsP];have h0:=h ⟨k,x,n,kidI (i+1) l,a,f,t⟩ (by simp);exact⟨h0.1,h0.2,zu7 l (i+1) fun d hd=>h d (by simp[hd])⟩
theorem zu7:∀ (l:List Pt)(i:Nat),(∀ d ∈ layL i l,d.text.size<=40000∧-9223372036854775808<=d.num∧d.num<=9223372036854775807)->GsL l
 | [],_,_=>by rw[GsL];trivial
 | t::r,i,h=>by
  rw[layL] at h;rw[GsL];exact⟨zzp t i fun d hd=>h d (by simp[hd]),zu7 r (i+cntP t) fun d hd=>h d (by simp[hd])⟩
end
def SmZ (Z:List NdZ):Prop:=∀ d ∈ Z,d.text.size<=40000∧-9223372036854775808<=d.num∧d.num<=9223372036854775807
theorem z41 {Z:List NdZ}{t:Pt}(h:SmZ Z)(e:Z=(layP 0 t).map toZ):GsP t:=zzp t 0 fun d hd=>by
 have:=h (toZ d) (by rw[e];exact List.mem_map_of_mem hd);exact this
theorem EnZ.enw {w:World}{nv:Value}{Z:List NdZ}{t:Pt}(h:EnZ w nv Z)(e:Z=(layP 0 t).map toZ)(hT:Tabl w):EnW w nv (layP 0 t):=by
 obtain⟨sn,cn,N,h1,h2,h3⟩:=h.x;subst e;rw[List.length_map] at h1;exact⟨⟨sn,cn,N,_,h1,h2,h3.rep⟩,hT,by have:=h.l;rw[List.length_map] at this;exact this⟩
theorem znd {w:World}{sn:Option Addr}{cn:Nat}{t:Pt}(hP:TabP w)(hE:EnW w (.slice sn (layP 0 t).length cn) (layP 0 t))(hg:GsP t)(hn0:cntP t<=2048)(hT:¬ TrW t) :
  Calls Tryz.prog 43 #[.agg #[.slice sn (layP 0 t).length cn]] w fun e w'=>e=.returned (.tuple #[.slice none 0 0,.int .i64 211])∧Below w.heap.size w w':=by
 have HORD:Hid (∀ W,Below w.heap.size w W->Calls Tryz.prog 78 #[.agg #[.slice sn (layP 0 t).length cn]] W fun e w'=>e=.returned (.bool true)∧Below W.heap.size W w'):=fun W hb=>zh3 t (hE.low hb);have hbd:=zgp t 0;have hlc:=zbt t 0;have HKD:Hid (∀ d ∈ layP 0 t,d.kids.length<=1000000):=fun d hd=>by have:=(hbd d hd).2;have:=hn0;omega
 have HDEP:Hid (∀ W,Below w.heap.size w W->Calls Tryz.prog 41 #[.agg #[.slice sn (layP 0 t).length cn]] W fun e w'=>e=.returned (.int .i64 (dpF (fun _=>0) 0 0 (layP 0 t)))∧Below W.heap.size W w'):=fun W hb=>by
  obtain⟨s,c,N,S,h1,h2,h3⟩:=(hE.low hb).x;injection h1 with e1 _ e2;subst e1 e2;exact zfp W sn cn N S (layP 0 t) h2 h3 (by have:=hn0;omega) fun d hd=>⟨fun k hk=>by have:=(hbd d hd).1 k hk;omega,by have:=(hbd d hd).2;have:=hn0;omega⟩
 have HWRI:Hid (∀ W,Below w.heap.size w W->Calls Tryz.prog 79 #[.agg #[.slice sn (layP 0 t).length cn]] W fun e w'=>∃ v',e=.returned v'∧OwnT W.heap.size w' v' (wrP t)∧Below W.heap.size W w'):=fun W hb=>zln t (hP.low hb) (hE.low hb) (z2b t hg) (by have:=hn0;omega);have HTB:Hid (∀ W,Below w.heap.size w W->Tabl W):=fun W hb=>(hE.low hb).t;have HE:Hid (∀ W,Below w.heap.size w W->∃ N S,RowsAt W 7 NdM.cells sn N∧Rep W S N (layP 0 t)):=fun W hb=>by
  obtain⟨s,c,N,S,h1,h2,h3⟩:=(hE.low hb).x;injection h1 with e1 _ e2;subst e1 e2;exact⟨N,S,h2,h3⟩
 have HTS:Hid (∀ u ∈ wrP t,-1000000000000000000<=u.pos∧u.pos<=1000000000000000000∧u.text.size<=100000):=fun u hu=>by
  have:=z4z t hg u hu;rw[this.1];exact⟨by decide,by decide,this.2⟩
 have HNT:Hid (dpF (fun _=>0) 0 0 (layP 0 t)<=24->(wrP t).any wrA=false->∀ t' p,filO (wrP t)=.ok t' p->eqAll ndEq (layP 0 t') (layP 0 t)=false):=fun h1 h2 t' p h3=>by
  cases he:eqAll ndEq (layP 0 t') (layP 0 t) with
  | false=>rfl
  | true=>exact absurd ⟨hn0,h1,z2b t hg,h2,HTS.out,t',p,h3,he⟩ hT
 have hwl:=zi4 t;have hn:(layP 0 t).length<=2048:=by rw[hlc];exact hn0
 have hpos:0<(layP 0 t).length:=by rw[hlc];exact zdp t
 have HNE:Hid (eqAll ndEq ([]:List Nd) (layP 0 t)=false):=by
  show _=_
  cases hL:layP 0 t with
  | nil=>rw[hL] at hpos;simp at hpos
  | cons a r=>rfl
 clear hP hE hT hbd hg;generalize hnl:(layP 0 t).length=nl at *;generalize hdp:dpF (fun _=>0) 0 0 (layP 0 t)=dp at *;have hd1:decide (2048<nl)=false:=by simp;omega
 have HNL:Hid _:=hnl;have HWL:Hid _:=hwl;have HLC:Hid _:=hlc;clear hnl hdp hwl hlc
 go_enter Tryz.func43,Tryz.ntmps43
 go_wp2_with fail
 have r0:=heap_alloc_new w (.cells #[.slice sn nl cn] 25);have b0:Below w.heap.size w (w.alloc (.cells #[.slice sn nl cn] 25)):=(Below.refl _ _).alloc (Nat.le_refl _) _;refine(HORD.out _ b0).mono ?_;rintro e W1 ⟨rfl,b1⟩;have B1:Hid (Below w.heap.size w W1):=b0.trans (b1.mono b0.size);have R1:Hid (W1.heap[w.heap.size]?=some (.cells #[.slice sn nl cn] 25 (0,0))):=(b1.block _ (zab r0)).trans r0;have c1:W1.cell? ⟨w.heap.size,0,none⟩=some (.slice sn nl cn):=(cell_of_row _ _ 0 _ _ _ R1.out).trans rfl;clear r0 b0 b1
 go_wp2_with fail
 refine(HDEP.out _ B1.out).mono ?_;rintro e W2 ⟨rfl,b2⟩;have B2:Hid (Below w.heap.size w W2):=B1.out.trans (b2.mono B1.out.size);have R2:Hid (W2.heap[w.heap.size]?=some (.cells #[.slice sn nl cn] 25 (0,0))):=(b2.block _ (zab R1.out)).trans R1.out;have c2:W2.cell? ⟨w.heap.size,0,none⟩=some (.slice sn nl cn):=(cell_of_row _ _ 0 _ _ _ R2.out).trans rfl;clear b2 c1 B1 R1
 cases hd2:decide (24<dp)
 rotate_left
 focus (
  go_wp2
  go_ret2
  exact⟨rfl,B2.out⟩)
 have HD2:Hid (dp<=24):=by show _<=_;have:=of_decide_eq_false hd2;omega
 go_wp2_with fail
 refine(HWRI.out _ B2.out).mono ?_;rintro e W3 ⟨v3,rfl,o3,b3⟩;have B3:Hid (Below w.heap.size w W3):=B2.out.trans (b3.mono B2.out.size);have R3:Hid (W3.heap[w.heap.size]?=some (.cells #[.slice sn nl cn] 25 (0,0))):=(b3.block _ (zab R2.out)).trans R2.out;have O3:Hid (OwnT w.heap.size W3 v3 (wrP t)):=o3.mono B2.out.size;obtain⟨sp,cp,rfl,hrows,-,-,-⟩:=OwnG.rows elT O3.out;have HRO:=hid hrows;have HWN:Hid ((wrP t).length<=100000):=by have:=HWL.out;have:=HLC.out;show _<=_;omega
 clear b3 c2 B2 R2 o3 hrows
 go_wp2_with fail
 refine(zgb sp cp (wrP t) W3 HRO.out (by have:=HWN.out;omega)).mono ?_;rintro e W4 ⟨rfl,b4⟩;have B4:Hid (Below w.heap.size w W4):=B3.out.trans (b4.mono B3.out.size);have R4:Hid (W4.heap[w.heap.size]?=some (.cells #[.slice sn nl cn] 25 (0,0))):=(b4.block _ (zab R3.out)).trans R3.out;have O4:Hid (OwnT w.heap.size W4 (.slice sp (wrP t).length cp) (wrP t)):=O3.out.below b4;have HR4:=hid (HRO.out.below b4);clear b4 B3 R3 O3 HRO
 cases hwa:(wrP t).any wrA
 rotate_left
 focus (
  go_wp2
  go_ret2
  exact⟨rfl,B4.out⟩)
 have HWA:=hid hwa;clear hwa
 go_wp2_with fail
 refine(zj8 W4 sp cp (wrP t) HWN.out HTS.out (fun W h=>⟨zeo h HR4.out,zbj h (HTB.out W4 B4.out)⟩)).mono ?_;rintro e W5 ⟨b5,hrd⟩;have B5:Hid (Below w.heap.size w W5):=B4.out.trans (b5.mono B4.out.size);have R5:Hid (W5.heap[w.heap.size]?=some (.cells #[.slice sn nl cn] 25 (0,0))):=(b5.block _ (zab R4.out)).trans R4.out;have main:∃ (s5:Option Addr) (k5:Nat) (K:List Nd) (er pe:Int),e=.returned (.tuple #[.agg #[.slice s5 K.length k5],.agg #[.int .i64 er,.int .i64 pe]])∧eqAll ndEq K (layP 0 t)=false∧K.length<=1000000∧(∀ d ∈ K,d.kids.length<=1000000)∧∀ W,Below W5.heap.size W5 W->∃ N S,RowsAt W 7 NdM.cells s5 N∧Rep W S N K:=by
  cases hf:filO (wrP t) with
  | out=>rw[hf] at hrd;exact hrd.elim
  | bad s=>
   rw[hf] at hrd;have hrd':e=.returned (.tuple #[.agg #[.slice none 0 0],.agg (wroC s)]):=hrd;exact⟨none,0,[],210,s,hrd',HNE.out,by simp,fun d hd=>by simp at hd,fun W _=>⟨[],fun _=>False,fun hl=>by simp at hl,rfl,fun i m d h1 _=>by simp at h1⟩⟩
  | ok t' p=>
   rw[hf] at hrd;obtain⟨hcn,v5,he,ht5⟩:=hrd;obtain⟨s5,k5,hv5⟩:∃ s5 k5,v5=.slice s5 (layP 0 t').length k5:=by
    obtain⟨N,S,h1,h2,-⟩:=ht5;obtain⟨s,c,e⟩:=OwnG.shape h1;exact⟨s,c,by rw[e,h2.1]⟩
   subst hv5;refine⟨s5,k5,layP 0 t',0,0,he,HNT.out HD2.out HWA.out t' p hf,by rw[zbt];omega,fun d hd=>by have:=(zgp t' 0 d hd).2;omega,fun W hb=>?_⟩;obtain⟨N,S,hO,hNR,hS5⟩:=ht5.below hb;obtain⟨s6,k6,hs6,hrows6,-,-,-⟩:=OwnG.rows elN hO;injection hs6 with e1 _ e2;subst e1 e2;exact⟨N,S,hrows6,hNR⟩
 obtain⟨s5,k5,K,er,pe,rfl,hne,hK1,hK2,hK3⟩:=main;have HNQ:Hid _:=hne;have HK2:Hid _:=hK2;have HK3:Hid _:=hK3;clear b5 hrd hne hK2 hK3 B4 R4 O4 HR4;generalize hkl:K.length=kl at *;have HKL:Hid _:=hkl;clear hkl;have hbA:Below W5.heap.size W5 ((W5.alloc (.cells #[.slice s5 kl k5] 25)).alloc (.cells #[.int .i64 er,.int .i64 pe] 28)):=((Below.refl _ _).alloc (Nat.le_refl _) _).alloc (by simp) _;have c5:W5.cell? ⟨w.heap.size,0,none⟩=some (.slice sn nl cn):=(cell_of_row _ _ 0 _ _ _ R5.out).trans rfl;have cA:((W5.alloc (.cells #[.slice s5 kl k5] 25)).alloc (.cells #[.int .i64 er,.int .i64 pe] 28)).cell? ⟨w.heap.size,0,none⟩=some (.slice sn nl cn):=(cell_of_row _ _ 0 _ _ _ ((hbA.block _ (zab R5.out)).trans R5.out)).trans rfl;have HBA:Hid _:=hbA;clear hbA
 go_wp2_with fail
 have hbw:=B5.out.trans (HBA.out.mono B5.out.size);obtain⟨M,T,hM,hMR⟩:=HE.out _ hbw;obtain⟨N,S,hN,hNR⟩:=HK3.out _ HBA.out;have HSA:=zlf s5 sn k5 cn N M S T K (layP 0 t) _ hN hNR hM hMR (by rw[HKL.out];exact hK1) (by rw[HNL.out];omega) HK2.out HKD.out;rw[HNL.out,HKL.out] at HSA;have HBW:Hid _:=hbw;clear hbw hM hMR hN hNR cA c5;refine HSA.mono ?_;rintro e W6 ⟨rfl,b6⟩;rw[HNQ.out];have B6:=hid (HBW.out.trans (b6.mono HBW.out.size));clear b6 HBW HSA HBA
 go_wp2
 go_ret2
 exact⟨rfl,B6.out⟩
theorem zne {w:World}{sn:Option Addr}{cn:Nat}{Z:List NdZ}(hT:Tabl w)(hP:TabP w)(hE:EnZ w (.slice sn Z.length cn) Z)(hs:SmZ Z)(hb:∀ t,Z=(layP 0 t).map toZ->¬ TrW t) :
  Calls Tryz.prog 43 #[.agg #[.slice sn Z.length cn]] w fun e w'=>e=.returned (.tuple #[.slice none 0 0,.int .i64 211])∧Below w.heap.size w w':=by
 have hl:=hE.l
 by_cases h1:2048<Z.length
 ·have hd1:decide (2048<(Z.length:Int))=true:=by simp;omega
  have hd1':decide (2048<Z.length)=true:=by simp;omega
  have HB:Hid (Below w.heap.size w (w.alloc (.cells #[.slice sn Z.length cn] 25))):=(Below.refl _ _).alloc (Nat.le_refl _) _;clear hT hP hE hs hb
  go_enter Tryz.func43,Tryz.ntmps43
  go_wp2
  go_ret2
  exact⟨rfl,HB.out⟩
 cases ho:ordZ Z with
 | true=>
  obtain⟨t,ht⟩:=zxx ho;have e:Z.length=(layP 0 t).length:=by rw[ht,List.length_map]
  have hE2:=hE.enw ht hT;rw[e] at hE2 h1 ⊢;exact znd hP hE2 (z41 hs ht) (by rw[zbt] at h1;omega) (hb t ht)
 | false=>
  have hd1':decide (2048<Z.length)=false:=by simp;omega
  have hb0:Below w.heap.size w (w.alloc (.cells #[.slice sn Z.length cn] 25)):=(Below.refl _ _).alloc (Nat.le_refl _) _;have HC:=zl9 (hE.below hb0);have HB:Hid _:=hb0;rw[ho] at HC;clear hT hP hE hs hb ho hb0;generalize Z.length=nl at *
  go_enter Tryz.func43,Tryz.ntmps43
  go_wp2_with fail
  refine HC.mono ?_;rintro e W1 ⟨rfl,b1⟩;have HB1:=hid (HB.out.trans (b1.mono HB.out.size));clear b1 HC
  go_wp2
  go_ret2
  exact⟨rfl,HB1.out⟩
theorem zgx {w:World}{sn:Option Addr}{cn:Nat}{Z:List NdZ}(hT:Tabl w)(hP:TabP w)(hE:EnZ w (.slice sn Z.length cn) Z)(hs:SmZ Z)(hb:∀ t,Z=(layP 0 t).map toZ->¬ TrW t) :
  Calls Tryz.prog 18 #[.agg #[.slice sn Z.length cn]] w fun e w'=>e=.returned (.tuple #[.slice none 0 0,.int .i64 211])∧Below w.heap.size w w':=by
 have hb0:Below w.heap.size w (w.alloc (.cells #[.slice sn Z.length cn] 25)):=(Below.refl _ _).alloc (Nat.le_refl _) _;have HC:=zne (zbj hb0.block hT) (hP.low hb0) (hE.below hb0) hs hb;have HB0:Hid _:=hb0;clear hT hP hE hs hb hb0;generalize Z.length=nl at *
 go_enter Tryz.func18,Tryz.ntmps18
 go_wp2_with fail
 refine HC.mono ?_;rintro e W1 ⟨rfl,b1⟩;have HB1:=hid (HB0.out.trans (b1.mono HB0.out.size));clear b1 HC
 go_wp2
 go_ret2
 exact⟨rfl,HB1.out⟩
theorem zxy (x:ByteArray)(w:World):Calls Tryz.prog 231 #[.string x] w fun e w'=>e=.returned (.int .i64 (rowQ x))∧w'=w:=by
 go_enter Tryz.func231,Tryz.ntmps231
 go_wp2
 all_goals (go_ret;refine⟨?_,rfl⟩;simp only[rowQ,<-ByteArray.toList_eq];simp_all)
theorem znf (m n:NdM)(i:Nat)(w:World):Calls Tryz.prog 211 #[.agg m.cells,.agg n.cells,.int .i64 i] w fun e w'=>e=.returned (.bool (nedQ m.k m.x (n.k,n.x) i))∧Below w.heap.size w w':=by
 unfold NdM.cells
 go_enter Tryz.func211,Tryz.ntmps211
 go_wp2_with fail
 refine zdd (fun W=>W.heap[w.heap.size]?=some (.cells m.cells 59 (0,0))∧W.heap[w.heap.size+1]?=some (.cells n.cells 59 (0,0))∧Below w.heap.size w W) ?_ ?_
 ·have n0:=heap_alloc_new w (.cells m.cells 59);have n1:=heap_alloc_new (w.alloc (.cells m.cells 59)) (.cells n.cells 59);simp only[World.size_alloc] at n1;exact⟨(Below.heap_alloc _ _ _ (by simp)).trans n0,n1,((Below.refl _ _).alloc (Nat.le_refl _) _).alloc (by simp) _⟩
 rintro W0 ⟨r0,r1,hB0⟩;have HR:Hid (∀ W,Below W0.heap.size W0 W->W.cell? ⟨w.heap.size,0,none⟩=some (.int .i64 m.k)∧W.cell? ⟨w.heap.size,1,none⟩=some (.string m.x)∧W.cell? ⟨w.heap.size+1,0,none⟩=some (.int .i64 n.k)∧W.cell? ⟨w.heap.size+1,1,none⟩=some (.string n.x)∧Below w.heap.size w W):=fun W hb=>
  ⟨(cell_of_row _ _ 0 _ _ _ ((hb.block _ (zab r0)).trans r0)).trans rfl,(cell_of_row _ _ 1 _ _ _ ((hb.block _ (zab r0)).trans r0)).trans rfl,(cell_of_row _ _ 0 _ _ _ ((hb.block _ (zab r1)).trans r1)).trans rfl,(cell_of_row _ _ 1 _ _ _ ((hb.block _ (zab r1)).trans r1)).trans rfl,hB0.trans (hb.mono hB0.size)⟩
 clear r0 r1 hB0;obtain⟨c0,c1,d0,d1,-⟩:=HR.out W0 (Below.refl _ _)
 go_quiet (fail)
 have HBw:Hid _:=(HR.out (W0.drewN nq) (zb1 _ _)).2.2.2.2
 cases b1:(m.k == 26)
 rotate_left
 focus (
  have HX:Hid (nedQ m.k m.x (n.k,n.x) i=(n.k == 27)):=by
   show nedQ _ _ _ _=_;unfold nedQ;rw[if_pos (by simpa using b1)]
  go_wp2
  go_ret
  exact⟨zal HX.out.symm,HBw.out⟩)
 cases b2:(m.k == 27)
 focus (
  have HX:Hid (nedQ m.k m.x (n.k,n.x) i=((n.k == 26) || (n.k == 27))):=by
   show nedQ _ _ _ _=_;unfold nedQ;rw[if_neg (by simpa using b1),if_neg (by simpa using b2)]
  cases b3:(n.k == 26)
  ·rw[b3] at HX
   go_wp2
   go_ret
   exact⟨zal (by rw[HX.out];rfl),HBw.out⟩
  ·rw[b3] at HX
   go_wp2
   go_ret
   exact⟨zal (by rw[HX.out];rfl),HBw.out⟩)
 have HX:Hid (nedQ m.k m.x (n.k,n.x) i=((n.k == 27) && (decide (rowQ n.x<rowQ m.x) || ((rowQ n.x == rowQ m.x) && (decide (0<i) || (rowQ n.x == 3)))))):=by
  show nedQ _ _ _ _=_;unfold nedQ;rw[if_neg (by simpa using b1),if_pos (by simpa using b2)]
 go_wp2_with fail
 obtain⟨f0,f1,g0,g1,-⟩:=HR.out (W0.drewN nq) (zb1 _ _);have HFB:Hid (∀ W,Below (W0.drewN nq).heap.size (W0.drewN nq) W->Below w.heap.size w W):=fun W hb=>HBw.out.trans (hb.mono HBw.out.size);clear c0 c1 d0 d1 HR HBw;generalize W0.drewN nq=W1 at *
 go_quiet ((go_at_call 231;refine Calls.quiet_of_same (zxy _ _)))
 have HB2:Hid _:=HFB.out _ (zb1 W1 nq);clear HFB f0 f1 g0 g1;generalize rowQ m.x=ra at HX ⊢;generalize rowQ n.x=rb at HX ⊢
 cases b3:(n.k == 27)
 ·rw[b3] at HX
  go_wp2
  go_ret
  exact⟨zal (by rw[HX.out];rfl),HB2.out⟩
 rw[b3] at HX
 cases b4:decide (rb<ra)
 rotate_left
 focus (
  rw[b4] at HX
  go_wp2
  go_ret
  exact⟨zal (by rw[HX.out];rfl),HB2.out⟩)
 rw[b4] at HX
 cases b5:(rb == ra)
 ·rw[b5] at HX
  go_wp2
  go_ret
  exact⟨zal (by rw[HX.out];rfl),HB2.out⟩
 rw[b5] at HX
 cases b6:decide (0<i)
 rotate_left
 focus (
  rw[b6] at HX
  go_wp2
  go_ret
  exact⟨zal (by rw[HX.out];rfl),HB2.out⟩)
 rw[b6] at HX
 go_wp2
 go_ret
 exact⟨zal (by rw[HX.out];simp),HB2.out⟩
theorem zpe {w0 w:World}{g d0:Nat}{nv v:Value}{out:List UInt8}{L:List Nd}(kind:Int)(sk:Option Addr)(ck:Nat)(ks:List Nat)(ts:List Pt)(hE:EnW w0 nv L)(hk:KsP w0 g nv L sk ks ts)(h:Pw w0 g nv d0 w v out)(hc:ks.length<=ck)(hcm:ck<=maxLen)(hz:sk=none->ck=0) :
  Calls Tryz.prog 159 #[.pointer (some ⟨g,0,none⟩),.slice sk ks.length ck,.int .i64 kind] w fun e w'=>(∃ sk2 ck2,e=.returned (.tuple #[.slice sk (cutN kind (ts.map hdP)) ck,.slice sk2 (ks.length - cutN kind (ts.map hdP)) ck2])∧RowsAt w0 1 intC sk2 (ks.drop (cutN kind (ts.map hdP)))∧ks.length - cutN kind (ts.map hdP)<=ck2∧ck2<=maxLen∧(sk2=none->ck2=0))∧∃ n,w'=w.drewN n:=by
 have HW:=hid h;have HK:=hid hk;have HE:=hid hE;have hks:=hk.s;have HLK:Hid (ks.length=ts.length):=hk.l;have hmx:maxLen=9223372036854775807:=rfl;obtain⟨sn,cn,N,S,hnv,hN,hR⟩:=hE.x;have HNL:Hid (N.length=L.length):=hR.1;have hLl:=hE.l;have HN:=hid hN;have HR:=hid hR;have cg:w.cell? ⟨g,2,none⟩=some nv:=h.c2;subst hnv;clear h hk hE hN hR
 go_enter Tryz.func159,Tryz.ntmps159
 go_wp2_with fail
 go_loopw [8] (fun i wr=>∃ q n:Nat,q<=ks.length∧i=.int .i64 q∧wr=w.drewN n∧cutN kind (ts.map hdP)=q+cutN kind ((ts.map hdP).drop q)) (fun i _=>ks.length - (intOf i).toNat)
 case atStart=>exact⟨0,0,Nat.zero_le _,rfl,rfl,by simp⟩
 case round=>
  obtain⟨q,n,hq,rfl,rfl,hcu⟩:=hrel;have HCU:Hid _:=hcu;clear hcu
  by_cases hlt:q<ks.length
  ·have hd:decide ((q:Int)<ks.length)=true:=by simp;omega
   have hd':decide (q<ks.length)=true:=by simp;omega
   obtain⟨k,hk⟩:∃ k,ks[q]?=some k:=⟨_,List.getElem?_eq_getElem hlt⟩;obtain⟨t,ht⟩:∃ t,ts[q]?=some t:=⟨_,List.getElem?_eq_getElem (by have:=HLK.out;omega)⟩;obtain⟨d,hdL,hde⟩:=(HK.out.e q k t hk ht).hd;have hkL:k<L.length:=(List.getElem?_eq_some_iff.1 hdL).1;obtain⟨m,hm⟩:∃ m,N[k]?=some m:=⟨_,List.getElem?_eq_getElem (by have:=HNL.out;omega)⟩;have hrk:=HW.out.env HK.out.r;have hrn:=HW.out.env HN.out;obtain⟨b,o,rfl,-⟩:=hrk (by omega);obtain⟨bn,on,rfl,-⟩:=hrn (by have:=HNL.out;omega);have kc:=za9 hrk q (by simpa using hlt);rw[List.getD_eq_getElem?_getD,List.getElem?_map,hk] at kc;simp only[Option.map_some,Option.getD_some] at kc;have kn:=(zai hrn hm).1;rw[(HR.out.at hm hdL).1.1] at kn;have hh:(ts.map hdP)[q]?=some (hdP t):=by rw[List.getElem?_map,ht];rfl
   have hdk:d.kind=(hdP t).1:=by rw[<-hde]
   rw[hdk] at kn;have hkk:decide ((k:Int)<L.length)=true:=by simp;omega
   have HH:Hid _:=hh;clear hk ht hdL hde hm hrk hrn hdk hh
   cases c1:((hdP t).1 == kind)
   ·have HN2:Hid (cutN kind (ts.map hdP)=q):=by
     show _=_;rw[HCU.out,zsc HH.out c1];rfl
    have hz1:(q:Int)<=ck:=by omega
    have hz2:(q:Int)<=ks.length:=by omega
    have HRD:Hid (RowsAt w0 1 intC (some ⟨b,o+q,none⟩) (ks.drop q)):=zdo HK.out.r q
    go_wp2
    go_quiet (fail)
    go_wp2
    have hcq:¬ ck=q:=by omega
    have hcq':¬ (ck:Int)=q:=by omega
    go_wp2
    go_quiet (fail)
    go_wp2
    go_ret2
    refine⟨⟨some ⟨b,o+q,none⟩,ck - q,by rw[HN2.out];rfl,by rw[HN2.out];exact HRD.out,by rw[HN2.out];omega,by omega,fun h=>by cases h⟩,?_⟩
    first|exact⟨_,zcp _ _ _⟩ | exact⟨_,zcf _ _ _ _⟩
   ·have HN2:Hid (cutN kind (ts.map hdP)=q+1+cutN kind ((ts.map hdP).drop (q+1))):=by
     show _=_;rw[HCU.out,zoi HH.out c1];omega
    go_wp2
    go_quiet (fail)
    go_wp2
    exact⟨⟨q+1,n+nq,by omega,by go_num,rfl,HN2.out⟩,by simp[intOf];omega⟩
  ·have hd:decide ((q:Int)<ks.length)=false:=by simp;omega
   have hd':decide (q<ks.length)=false:=by simp;omega
   have HN2:Hid (cutN kind (ts.map hdP)=q):=by
    show _=_;rw[HCU.out,List.drop_eq_nil_of_le (by rw[List.length_map];have:=HLK.out;omega)];rfl
   go_wp2
   go_quiet (fail)
   go_wp2
   have hz1:(q:Int)<=ck:=by omega
   have hz2:(q:Int)<=ks.length:=by omega
   have HRK:Hid _:=HK.out.r
   by_cases hk0:ks.length=0
   focus (
    have hq0:q=0:=by omega
    subst hq0;have HRD:Hid (∀ sp,RowsAt w0 1 intC sp (ks.drop (cutN kind (ts.map hdP)))):=fun sp hl=>by rw[List.length_drop] at hl;omega
    cases sk with
    | none=>
     have hck:ck=0:=hz rfl;subst hck
     go_wp2
     go_quiet (fail)
     go_wp2
     go_ret2
     refine⟨⟨none,0,by rw[HN2.out,hk0];rfl,HRD.out _,by rw[HN2.out,hk0];exact Nat.le_refl _,by omega,fun _=>rfl⟩,?_⟩
     first|exact⟨_,zcp _ _ _⟩ | exact⟨_,zcf _ _ _ _⟩
    | some a=>
     have HK0:=hid hk0;clear hk0
     go_wp2
     go_quiet (fail)
     go_wp2
     go_ret2
     refine⟨⟨some a,ck,by rw[HN2.out,HK0.out];rfl,HRD.out _,by rw[HN2.out];omega,by omega,fun h=>by cases h⟩,?_⟩
     first|exact⟨_,zcp _ _ _⟩ | exact⟨_,zcf _ _ _ _⟩)
   obtain⟨b,o,rfl,-⟩:=HRK.out (by omega);have HRD:Hid (RowsAt w0 1 intC (some ⟨b,o+q,none⟩) (ks.drop q)):=zdo HRK.out q
   by_cases hcq:ck=q
   ·subst hcq;have HRE:Hid (RowsAt w0 1 intC (some ⟨b,o,none⟩) (ks.drop ck)):=fun hl=>by rw[List.length_drop] at hl;omega
    have hle:ks.length=ck:=by omega
    have HLE:=hid hle;clear hle
    go_wp2
    go_quiet (fail)
    go_wp2
    go_ret2
    refine⟨⟨some ⟨b,o,none⟩,0,by rw[HN2.out,HLE.out,Nat.sub_self];rfl,by rw[HN2.out];exact HRE.out,by rw[HN2.out,HLE.out];omega,by omega,fun h=>by cases h⟩,?_⟩
    first|exact⟨_,zcp _ _ _⟩ | exact⟨_,zcf _ _ _ _⟩
   ·have hcq':¬ (ck:Int)=q:=by omega
    go_wp2
    go_quiet (fail)
    go_wp2
    go_ret2
    refine⟨⟨some ⟨b,o+q,none⟩,ck - q,by rw[HN2.out];rfl,by rw[HN2.out];exact HRD.out,by rw[HN2.out];omega,by omega,fun h=>by cases h⟩,?_⟩
    first|exact⟨_,zcp _ _ _⟩ | exact⟨_,zcf _ _ _ _⟩
section
variable {w0 w:World}{g d:Nat}{nv v:Value}{out:List UInt8}{L:List Nd}
theorem zng (sb:ByteArray)(b kk:Nat)(t:Pt)(hn:NodP w0 g nv L t)(he:Emb L kk t)(hr:w.heap[b]?=some (.cells #[.int .i64 kk] 3 (0,0)))(hbg:b≠g)(h:Pw w0 g nv d w v out)(hd1:d+cntP t<=100000)(hl:out.length+(rn (prP d t)).length<=1000000000000) :
  Calls Tryz.prog 120 #[.pointer (some ⟨g,0,none⟩),.string sb,.slice (some ⟨b,0,none⟩) 1 1] w fun e w'=>e=.returned (.tuple #[])∧Pp w0 g nv d w v (out++rn (prP d t)) w':=by
 have HW:=hid h;have HR:Hid _:=hr;have HC:=hn d kk w v out he h hd1 hl;have HNC:=hid hn;have HEM:=hid he;have HL:Hid _:=hl;have HD:Hid _:=hd1;clear h hn he hr hl hd1
 go_enter Tryz.func120,Tryz.ntmps120
 go_wp2
 go_loopw [10] (fun i wr=>∃ q:Nat,q<=1∧i=.int .i64 q∧Pp w0 g nv d w v (out++rn (if q=0 then[] else prP d t)) wr) (fun i _=>1 - (intOf i).toNat)
 case atStart=>exact⟨0,Nat.zero_le _,rfl,by simpa[rn] using Pp.start HW.out⟩
 case round=>
  obtain⟨q,hq,rfl,v1,h1,o1,q1⟩:=hrel
  by_cases hq0:q=0
  ·subst hq0;rw[if_pos rfl,zcv,List.append_nil] at h1;have rb:=Pp.row HW.out o1 HR.out hbg (by decide);have kc:wr.cell? ⟨b,0,none⟩=some (.int .i64 kk):=(cell_of_row _ _ 0 _ _ _ rb).trans rfl;have HC:=HNC.out d kk wr v1 _ HEM.out h1 HD.out HL.out;have HO:Hid _:=o1;have HQ:Hid _:=q1;clear h1 o1 q1 rb
   go_wp2_with fail
   refine HC.mono ?_;rintro e W ⟨rfl,hp⟩;have HN:Hid (Pp w0 g nv d w v (out++rn (prP d t)) W):=Pp.trans HO.out HQ.out hp;clear hp HC
   go_wp2
   exact⟨⟨1,by omega,by go_num,HN.out⟩,by simp[intOf]⟩
  ·have hq1:q=1:=by omega
   subst hq1;have HP:Hid (Pp w0 g nv d w v (out++rn (prP d t)) wr):=⟨v1,h1,o1,q1⟩;clear h1 o1 q1
   go_wp2
   go_end0
   exact⟨rfl,HP.out⟩
theorem zu8 (b kk:Nat)(t:Pt)(hn:NodP w0 g nv L t)(he:Emb L kk t)(hr:w.heap[b]?=some (.cells #[.int .i64 kk] 3 (0,0)))(hbg:b≠g)(h:Pw w0 g nv d w v out)(hd1:d+cntP t<=100000)(hl:out.length+(rn (pBrk [prP d t])).length<=1000000000000) :
  Calls Tryz.prog 160 #[.pointer (some ⟨g,0,none⟩),.slice (some ⟨b,0,none⟩) 1 1] w fun e w'=>e=.returned (.tuple #[])∧Pp w0 g nv d w v (out++rn (pBrk [prP d t])) w':=by
 have HNC:=hid hn;have HEM:=hid he;have HR:Hid _:=hr;have HD:Hid _:=hd1;have e0:rn (pBrk [prP d t])=[40]++rn (prP d t)++[41]:=by
  simp[pBrk,pPar,rn,sg,sgT,tkW,strU,Pe.bs]
 rw[e0] at hl ⊢;have HL:Hid (out.length+((rn (prP d t)).length+2)<=1000000000000):=by show _<=_;simp at hl;omega
 have HC:=za6 [strU [40]] h (by have:=HL.out;show _+(1:Nat)<=_;omega) (by simp);have HW:Hid _:=h;clear h hn he hr hl hd1 e0
 go_enter Tryz.func160,Tryz.ntmps160
 go_wp2_with fail
 refine HC.mono ?_;rintro e W1 ⟨rfl,v1,h1,o1,q1⟩;have r1:=Pp.row HW.out o1 HR.out hbg (by decide);have HO:Hid _:=o1;have HQ:Hid _:=q1;have HD:=zng (strU [44,32]) b kk t HNC.out HEM.out r1 hbg h1 HD.out (by have:=HL.out;rw[List.length_append];show _+(1:Nat)+_<=_;omega);clear h1 o1 q1 HC r1
 go_wp2_with fail
 refine HD.mono ?_;rintro e W2 ⟨rfl,v2,h2,o2,q2⟩;have HO2:Hid _:=o2;have HQ2:Hid _:=q2;have HE:=za6 [strU [41]] h2 (by have:=HL.out;rw[List.length_append,List.length_append];show _+(1:Nat)+_+(1:Nat)<=_;omega) (by simp);clear h2 o2 q2 HD
 go_wp2_with fail
 refine HE.mono ?_;rintro e W3 ⟨rfl,hp⟩;have HN:Hid (Pp w0 g nv d w v (out++([40]++rn (prP d t)++[41])) W3):=by
  refine Pp.trans HO.out HQ.out (Pp.trans HO2.out HQ2.out ?_);have e:out++([40]++rn (prP d t)++[41])=out++fl [strU [40]]++rn (prP d t)++fl [strU [41]]:=by simp[fl,strU]
  rw[e];exact hp
 clear hp HE
 go_wp2
 go_end0
 exact⟨rfl,HN.out⟩
structure NdP (w0:World) (g:Nat) (nv:Value) (L:List Nd) (m:NdM) (k:Int) (x:ByteArray) (n:Int) (ts:List Pt):Prop where
 e:m.k=k∧m.x=x∧m.n=n
 k:∃ ks,m.kn=ks.length∧KsP w0 g nv L m.ks ks ts
 c:m.kn<=m.kc∧m.kc<=maxLen∧(m.ks=none->m.kc=0)
theorem zdx {m:NdM}{k:Int}{x:ByteArray}{n:Int}{ts:List Pt}(i:Nat)(hi:i<ts.length)(hE:EnW w0 nv L)(hm:NdP w0 g nv L m k x n ts)(h:Pw w0 g nv d w v out)(hd1:d+cntL ts<=100000)(hl:out.length+(rn (pOpe k x (ts.map hdP) (ts.map (prP d)) i)).length<=1000000000000) :
  Calls Tryz.prog 192 #[.pointer (some ⟨g,0,none⟩),.agg m.cells,.int .i64 i] w fun e w'=>e=.returned (.tuple #[])∧Pp w0 g nv d w v (out++rn (pOpe k x (ts.map hdP) (ts.map (prP d)) i)) w':=by
 have HW:=hid h;have HE:=hid hE;obtain⟨ks,hkn,hK⟩:=hm.k;have HM:=hid hm;have HK:=hid hK;have HKN:=hid hkn;have HLK:Hid (ks.length=ts.length):=hK.l;have hks:ks.length<=100000:=hK.s;obtain⟨sn,cn,N,S,hnv,hN,hR⟩:=hE.x;have HN:=hid hN;have HR:=hid hR;have HNV:=hid hnv;have hLl:=hE.l;have HL:Hid _:=hl;have HD1:Hid _:=hd1;obtain⟨kk,hk⟩:∃ kk,ks[i]?=some kk:=⟨_,List.getElem?_eq_getElem (by have:=HLK.out;omega)⟩;obtain⟨t,ht⟩:∃ t,ts[i]?=some t:=⟨_,List.getElem?_eq_getElem hi⟩;obtain⟨b,o,hks1,-⟩:=hK.r (by have:=HLK.out;omega);obtain⟨dd,hdL,hde⟩:=(hK.e i kk t hk ht).hd;have hkL:kk<L.length:=(List.getElem?_eq_some_iff.1 hdL).1;obtain⟨m2,hm2⟩:∃ m2,N[kk]?=some m2:=⟨_,List.getElem?_eq_getElem (by have:=HR.out.1;omega)⟩;have HM2:=hid hm2;have HH:Hid ((m2.k,m2.x)=hdP t):=by
  show _=_;obtain⟨h1,-⟩:=HR.out.2 kk m2 dd hm2 hdL;rw[<-hde,h1.1,h1.2.1]
 have HOPE:Hid (pOpe k x (ts.map hdP) (ts.map (prP d)) i=if nedQ k x (hdP t) i then pBrk [prP d t] else prP d t):=by
  show _=_;unfold pOpe;rw[List.getElem?_map,List.getElem?_map,ht];rfl
 have HNC:Hid (NodP w0 g nv L t):=hK.n t (List.mem_of_getElem? ht);have HEM:Hid (Emb L kk t):=hK.e i kk t hk ht;have HDT:Hid (d+cntP t<=100000):=by show _<=_;have:=zb8 ts i t ht;omega
 have kcw:w.cell? ⟨b,o+i,none⟩=some (.int .i64 kk):=by
  have hrk:=h.env hK.r;rw[hks1] at hrk;have:=za9 hrk i (by simpa using(List.getElem?_eq_some_iff.1 hk).1);rw[List.getD_eq_getElem?_getD,List.getElem?_map,hk] at this;simpa using this
 have ltb:=block_lt_of_cell kcw;have hlk:decide ((i:Int)<(m.kn:Int))=true:=by have:=HLK.out;rw[hkn];simp;omega
 have HKS:=hid hks1;have hil:(i:Int)<(m.kn:Int):=by have:=HLK.out;rw[hkn];omega
 clear h hE hm hK hkn hnv hN hR hdL hde hm2 hk ht hks1 hl hd1 hi;rw[show m.cells=#[.int .i64 m.k,.string m.x,.int .i64 m.n,.slice m.ks m.kn m.kc,.int .i64 m.a,.int .i64 m.f,.int .i64 m.t] from rfl,HKS.out]
 go_enter Tryz.func192,Tryz.ntmps192
 go_wp2_with fail
 refine zdd (fun W=>W.heap[w.heap.size]?=some (.cells m.cells 59 (0,0))∧Below w.heap.size w W) ?_ ?_
 ·rw[show m.cells=#[.int .i64 m.k,.string m.x,.int .i64 m.n,.slice m.ks m.kn m.kc,.int .i64 m.a,.int .i64 m.f,.int .i64 m.t] from rfl,HKS.out];exact⟨heap_alloc_new w _,(Below.refl _ _).alloc (Nat.le_refl _) _⟩
 rintro W0 ⟨r0,hB0⟩;obtain⟨bn,on,hsn,hnc⟩:=HN.out (by have:=HR.out.1;omega);have HF:Hid (∀ W,Below W0.heap.size W0 W->W.heap[w.heap.size]?=some (.cells m.cells 59 (0,0))∧W.cell? ⟨g,2,none⟩=some (.slice (some ⟨bn,on,none⟩) L.length cn)∧W.cell? ⟨b,o+i,none⟩=some (.int .i64 kk)∧(∀ j u,m2.cells[j]?=some u->W.cell? ⟨bn,on+kk * 7+j,none⟩=some u)∧Below w.heap.size w W):=fun W hb=>by
  have hBw:Below w.heap.size w W:=hB0.trans (hb.mono hB0.size);have hWr:=HW.out.low hBw;refine⟨(hb.block _ (zab r0)).trans r0,?_,(hBw.cell ltb).trans kcw,?_,hBw⟩
  ·rw[<-hsn,<-HNV.out];exact hWr.c2
  ·obtain⟨b',o',e,hc⟩:=(hWr.env HN.out) (by have:=HR.out.1;omega);rw[hsn] at e;injection e with e;injection e with e1 e2;subst e1 e2;exact fun j u hu=>hc kk m2 HM2.out j u hu
 clear r0 hB0 hnc kcw;have hkk:decide ((kk:Int)<L.length)=true:=by simp;omega
 have hS0:Below W0.heap.size W0 W0.drew:=(Below.refl _ _).drew;refine zbc (S:=fun w'=>Below W0.heap.size W0 w') 10 rfl (by kernel_rfl) ?_;refine zho 0 12 59 (.tmp 4) rfl (by rfl) w.heap.size 59 m.cells (0,0) rfl (by kernel_rfl) (by kernel_rfl) (by kernel_rfl) (fun _ _ _ h=>h) _ (fun w' hw'=>(HF.out w' hw').1) Tryz.underlying59 rfl (by kernel_rfl) hS0 ?_;simp only[sI,sS,sZ];refine zah 1 13 (.pointer (some ⟨g,0,none⟩)) rfl (by rfl) (by kernel_rfl) (by kernel_rfl) (by kernel_rfl) (fun _ _ _ h=>h) (fun w' hw'=>by obtain⟨-,e1,e2,-⟩:=HF.out w' hw';first|rfl|(go_simp;done)) hS0 ?_;simp only[sI,sS,sZ];refine zah 2 14 (.pointer (some ⟨g,0,none⟩)) rfl (by rfl) (by kernel_rfl) (by kernel_rfl) (by kernel_rfl) (fun _ _ _ h=>h) (fun w' hw'=>by obtain⟨-,e1,e2,-⟩:=HF.out w' hw';first|rfl|(go_simp;done)) hS0 ?_;simp only[sI,sS,sZ];refine zah 3 15 (.pointer (some ⟨g,2,none⟩)) rfl (by rfl) (by kernel_rfl) (by kernel_rfl) (by kernel_rfl) (fun _ _ _ h=>h) (fun w' hw'=>by obtain⟨-,e1,e2,-⟩:=HF.out w' hw';first|rfl|(go_simp;done)) hS0 ?_;simp only[sI,sS,sZ];refine zah 4 16 (.slice (some ⟨bn,on,none⟩) L.length cn) rfl (by rfl) (by kernel_rfl) (by kernel_rfl) (by kernel_rfl) (fun _ _ _ h=>h) (fun w' hw'=>by obtain⟨-,e1,e2,-⟩:=HF.out w' hw';first|rfl|(go_simp;done)) hS0 ?_;simp only[sI,sS,sZ];refine zah 5 17 (.int .i64 kk) rfl (by rfl) (by kernel_rfl) (by kernel_rfl) (by kernel_rfl) (fun _ _ _ h=>h) (fun w' hw'=>by obtain⟨-,e1,e2,-⟩:=HF.out w' hw';first|rfl|(go_simp;done)) hS0 ?_;simp only[sI,sS,sZ];refine zah 6 18 (.pointer (some ⟨bn,on+kk * 7,none⟩)) rfl (by rfl) (by kernel_rfl) (by kernel_rfl) (by kernel_rfl) (fun _ _ _ h=>h) (fun w' hw'=>by obtain⟨-,e1,e2,-⟩:=HF.out w' hw';first|rfl|(go_simp;done)) hS0 ?_;simp only[sI,sS,sZ];refine zn8 7 19 59 (.tmp 18) rfl bn (on+kk * 7) m2.cells rfl (by kernel_rfl) (by kernel_rfl) (by kernel_rfl) (fun _ _ _ h=>h) _ (fun w' hw'=>(HF.out w' hw').2.2.2.1) Tryz.underlying59 rfl (by kernel_rfl) hS0 ?_;simp only[sI,sS,sZ];refine zah 8 20 (.int .i64 i) rfl (by rfl) (by kernel_rfl) (by kernel_rfl) (by kernel_rfl) (fun _ _ _ h=>h) (fun w' hw'=>by obtain⟨-,e1,e2,-⟩:=HF.out w' hw';first|rfl|(go_simp;done)) hS0 ?_
 simp only[sI,sS,sZ];refine zas 9 rfl (by rfl) (by kernel_rfl) ?_
 go_simp
 refine(znf m m2 i W0.drew).mono ?_;rintro e W1 ⟨rfl,b1⟩;have hS1:Below W0.heap.size W0 W1:=hS0.trans (b1.mono hS0.size);refine⟨hS1,?_⟩;refine wpAnyH_done (by kernel_rfl) ?_ _;have HB1:Hid (Below w.heap.size w W1):=(HF.out _ hS1).2.2.2.2;have HW1:=hid (HW.out.low HB1.out);have HX:Hid (nedQ m.k m.x (m2.k,m2.x) i=nedQ k x (hdP t) i):=by show _=_;rw[HH.out,HM.out.e.1,HM.out.e.2.1]
 clear hS0 hS1 b1 HF
 cases hn:nedQ m.k m.x (m2.k,m2.x) i
 ·have HOP:Hid (pOpe k x (ts.map hdP) (ts.map (prP d)) i=prP d t):=by show _=_;rw[HOPE.out,<-HX.out,hn];rfl
  have HD:=HNC.out d kk W1 v out HEM.out HW1.out HDT.out (by have:=HL.out;rw[HOP.out] at this;exact this)
  go_wp2_with fail
  refine HD.mono ?_;rintro e W2 ⟨rfl,hp⟩;have HN2:Hid (Pp w0 g nv d w v (out++rn (pOpe k x (ts.map hdP) (ts.map (prP d)) i)) W2):=by
   show Pp _ _ _ _ _ _ _ _;rw[HOP.out];exact Pp.pre HB1.out hp
  clear hp HD
  go_wp2
  go_end0
  exact⟨rfl,HN2.out⟩
 ·have HOP:Hid (pOpe k x (ts.map hdP) (ts.map (prP d)) i=pBrk [prP d t]):=by show _=_;rw[HOPE.out,<-HX.out,hn];rfl
  have hbA:Below W1.heap.size W1 (W1.alloc (.cells #[.int .i64 kk] 3)):=(Below.refl _ _).alloc (Nat.le_refl _) _;have HD:=zu8 W1.heap.size kk t HNC.out HEM.out (heap_alloc_new W1 (.cells #[.int .i64 kk] 3)) (by have:=HW1.out.lt;omega) (HW1.out.low hbA) HDT.out (by have:=HL.out;rw[HOP.out] at this;exact this);have HBA:Hid _:=hbA;clear hbA
  go_wp2_with fail
  refine HD.mono ?_;rintro e W2 ⟨rfl,hp⟩;have HN2:Hid (Pp w0 g nv d w v (out++rn (pOpe k x (ts.map hdP) (ts.map (prP d)) i)) W2):=by
   show Pp _ _ _ _ _ _ _ _;rw[HOP.out];exact Pp.pre HB1.out (Pp.pre HBA.out hp)
  clear hp HD
  go_wp2
  go_end0
  exact⟨rfl,HN2.out⟩
end
theorem NdP.pre {w0 w:World}{g d:Nat}{nv v:Value}{out:List UInt8}{L:List Nd}{m:NdM}{k:Int}{x:ByteArray}{n:Int}{ts:List Pt}(hm:NdP w0 g nv L m k x n ts)(h:Pw w0 g nv d w v out):∃ ks,m.kn=ks.length∧KsP w0 g nv L m.ks ks ts∧Hid (KsP w0 g nv L m.ks ks ts)∧ks.length<=100000∧ks.length<=m.kc∧Hid (m.kc<=maxLen∧(m.ks=none->m.kc=0))∧Hid (m.cells=#[.int .i64 k,.string x,.int .i64 n,.slice m.ks ks.length m.kc,.int .i64 m.a,.int .i64 m.f,.int .i64 m.t])∧Hid (w.heap.size≠g)∧Hid ((w.alloc (.cells #[.int .i64 k,.string x,.int .i64 n,.slice m.ks ks.length m.kc,.int .i64 m.a,.int .i64 m.f,.int .i64 m.t] 59)).heap[w.heap.size]?=some (.cells #[.int .i64 k,.string x,.int .i64 n,.slice m.ks ks.length m.kc,.int .i64 m.a,.int .i64 m.f,.int .i64 m.t] 59 (0,0)))∧∃ v1,Hid (Pw w0 g nv d (w.alloc (.cells #[.int .i64 k,.string x,.int .i64 n,.slice m.ks ks.length m.kc,.int .i64 m.a,.int .i64 m.f,.int .i64 m.t] 59)) v1 out)∧Hid (∀ W2 (d2:Nat) out2,Pp w0 g nv d2 (w.alloc (.cells #[.int .i64 k,.string x,.int .i64 n,.slice m.ks ks.length m.kc,.int .i64 m.a,.int .i64 m.f,.int .i64 m.t] 59)) v1 out2 W2->Pp w0 g nv d2 w v out2 W2∧∀ (j:Nat)(cs:Array Value)(ty:TypeId)(fr:Nat × Nat),(w.alloc (.cells #[.int .i64 k,.string x,.int .i64 n,.slice m.ks ks.length m.kc,.int .i64 m.a,.int .i64 m.f,.int .i64 m.t] 59)).heap[j]?=some (.cells cs ty fr)->j≠g->5≠ty->W2.heap[j]?=some (.cells cs ty fr)):=by
 obtain⟨ks,hkn,hK⟩:=hm.k;have e:m.cells=#[.int .i64 k,.string x,.int .i64 n,.slice m.ks ks.length m.kc,.int .i64 m.a,.int .i64 m.f,.int .i64 m.t]:=by
  show m.cells=_;rw[<-hkn,<-hm.e.1,<-hm.e.2.1,<-hm.e.2.2];rfl
 have hB0:Below w.heap.size w (w.alloc (.cells #[.int .i64 k,.string x,.int .i64 n,.slice m.ks ks.length m.kc,.int .i64 m.a,.int .i64 m.f,.int .i64 m.t] 59)):=(Below.refl _ _).alloc (Nat.le_refl _) _;obtain⟨v1,w1,s1⟩:=Pp.step (Pp.pre hB0 (Pp.start (h.low hB0)));exact⟨ks,hkn,hK,hK,hK.s,by have:=hm.c.1;omega,hm.c.2,e,by have:=h.lt;show _≠_;omega,heap_alloc_new w _,v1,w1,s1⟩
end Go.Proofs.YtabiangdmibocaaGreatDoor
