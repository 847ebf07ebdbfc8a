import Derived.Test.YtmclgbkijeidaaaGreatDoorUnQ
import Derived.Test.YtmclgbkijeidaaaGreatDoorUnD
import Derived.Deep.DeepCutAuto
import Derived.Deep.Cut
import Derived.Deep.CutRange
import Derived.Deep.CutBlock
import Derived.Test.YtmclgbkijeidaaaGreatDoorUnR
import Derived.Test.YtmclgbkijeidaaaGreatDoorUnY
import Derived.Test.YtmclgbkijeidaaaGreatDoorUnZ
namespace Go.Proofs.YtmclgbkijeidaaaGreatDoor
set_option maxRecDepth 100000
open Go.RowKit
theorem zpx {L:List UInt8}(hL:L.length<=4096):∀ (f p:Nat)(ts:List Tok),p<=L.length->ts.length<=1024->(∀ t ∈ ts,0<=t.pos∧t.pos<=4096∧t.text.size<=4096) ->
  (lexG L f p ts).1.length<=1024∧∀ t ∈ (lexG L f p ts).1,0<=t.pos∧t.pos<=4096∧t.text.size<=4096:=by
 intro f
 induction f with
 | zero=>exact fun p ts _ h1 h2=>⟨h1,h2⟩
 | succ f ih=>
  intro p ts hp h1 h2;rw[lexG];have hn:(p<L.length∨clo (lastT ts)=true)->(lookR (L.drop p) (clo (lastT ts))).2.2=0->p+(lookR (L.drop p) (clo (lastT ts))).2.1<=L.length:=fun hc he=>by
   have h:=(zcs (L:=L.drop p) (en:=clo (lastT ts)) (k:=(lookR (L.drop p) (clo (lastT ts))).1) (n:=(lookR (L.drop p) (clo (lastT ts))).2.1) (by rw[<-he]) fun hd=>by
    rcases hc with hc|hc
    ·have:=List.length_drop (i:=p) (l:=L);rw[hd] at this;simp at this;omega
    ·exact hc).1
   rw[List.length_drop] at h;omega
  generalize lookR (L.drop p) (clo (lastT ts))=r at hn ⊢
  split
  ·rename_i hcond
   split
   ·simp
   ·rename_i he
    have hn:=hn hcond (by simpa using he)
    split
    ·exact ih _ _ hn h1 h2
    ·split
     ·simp
     ·refine ih _ _ hn (by rw[List.length_append];simp;omega) fun t ht=>?_;rcases List.mem_append.1 ht with ht|ht
      ·exact h2 t ht
      ·obtain rfl:=List.mem_singleton.1 ht;refine⟨Int.natCast_nonneg _,by show(p:Int)<=4096;omega,?_⟩;show(strU ((L.drop p).take r.2.1)).size<=4096;have:(strU ((L.drop p).take r.2.1)).size=((L.drop p).take r.2.1).length:=by simp[strU,ByteArray.size]
       rw[this,List.length_take,List.length_drop];omega
  ·exact⟨h1,h2⟩
theorem zlh (L:List UInt8):(lexO L).1.length<=1024∧∀ t ∈ (lexO L).1,0<=t.pos∧t.pos<=4096∧t.text.size<=4096:=by
 unfold lexO
 split
 ·simp
 ·exact zpx (by omega) _ _ _ (Nat.zero_le _) (by simp) (by simp)
theorem zli (w:World)(x:ByteArray)(hT:Tabl w):Calls Tryz.prog 7 #[.string x] w (PrP w (txtO x.data.toList)):=by
 have h:=zlh x.data.toList;exact zpm w x hT (by omega) fun t ht=>by have:=h.2 t ht;omega
def ndEq (a b:Nd):Bool:=(a.kind == b.kind) && (a.text.toList == b.text.toList) && (a.num == b.num) && (a.kids == b.kids)
theorem zj4 {w:World}{b o:Nat}{xs:List Nat}(h:RowsAt w 1 intC (some ⟨b,o,none⟩) xs):∀ j,j<(xs.map fun k:Nat=>(k:Int)).length->w.cell? ⟨b,o+j,none⟩=some (.int .i64 ((xs.map fun k:Nat=>(k:Int)).getD j 0)):=fun j hj=>by
 have hj':j<xs.length:=by simpa using hj
 obtain⟨b',o',e,hc⟩:=h (by omega);injection e with e;injection e with e1 e2;subst e1 e2;have:=hc j _ (List.getElem?_eq_getElem hj') 0 (.int .i64 (xs[j]'hj')) rfl;rw[Nat.mul_one,Nat.add_zero] at this;rw[this,List.getD_eq_getElem?_getD,List.getElem?_map,List.getElem?_eq_getElem hj'];rfl
theorem zgy {B:Nat}(w:World)(n:Nat):Below B w (w.drewN n):=⟨rfl,rfl,rfl,Nat.le_refl _,fun _ _=>rfl⟩
def NdAt (w:World) (m:NdM) (d:Nd):Prop:=(m.k=d.kind∧m.x=d.text∧m.n=d.num∧m.a=d.pos∧m.f=d.frm∧m.t=d.to)∧m.kn=d.kids.length∧RowsAt w 1 intC m.ks d.kids
theorem zf9 {w:World}{b o i:Nat}{N:List NdM}(h:RowsAt w 7 NdM.cells (some ⟨b,o,none⟩) N){m:NdM}(hm:N[i]?=some m):w.cell? ⟨b,o+i * 7,none⟩=some (.int .i64 m.k)∧w.cell? ⟨b,o+i * 7+1,none⟩=some (.string m.x)∧w.cell? ⟨b,o+i * 7+2,none⟩=some (.int .i64 m.n)∧w.cell? ⟨b,o+i * 7+3,none⟩=some (.slice m.ks m.kn m.kc)∧w.cell? ⟨b,o+i * 7+4,none⟩=some (.int .i64 m.a)∧w.cell? ⟨b,o+i * 7+5,none⟩=some (.int .i64 m.f)∧w.cell? ⟨b,o+i * 7+6,none⟩=some (.int .i64 m.t) :=
 ⟨zcb h hm 0 _ rfl,zcb h hm 1 _ rfl,zcb h hm 2 _ rfl,zcb h hm 3 _ rfl,zcb h hm 4 _ rfl,zcb h hm 5 _ rfl,zcb h hm 6 _ rfl⟩
theorem Rep.at {w:World}{S:Nat->Prop}{N:List NdM}{L:List Nd}(h:Rep w S N L){i:Nat}{m:NdM}{d:Nd}(h1:N[i]?=some m)(h2:L[i]?=some d):NdAt w m d:=by
 obtain⟨a,b,c,-⟩:=h.2 i m d h1 h2;exact⟨a,b,c⟩
def trO (r:(Int × Int) ⊕ Pt):List Nd:=match r with | .inl _=>[] | .inr t=>layP 0 t
def spO (r:(Int × Int) ⊕ Pt):Int × Int:=match r with | .inl p=>p | .inr _=>(0,0)
theorem zlj {w w':World}{r:(Int × Int) ⊕ Pt}{e:Ending}(h:PrP w r e w'):Below w.heap.size w w'∧∃ v,e=.returned (.tuple #[.agg #[v],.agg #[.int .i64 (spO r).1,.int .i64 (spO r).2]])∧TrAt w.heap.size w' v (trO r):=by
 obtain⟨h1,h2⟩:=h;refine⟨h1,?_⟩
 cases r with
 | inl p=>exact⟨_,h2,TrAt.nil _ _⟩
 | inr t=>exact h2
theorem zol (ts:List Tok):(trO (parO ts)).length<=2048∧∀ d ∈ trO (parO ts),(∀ k ∈ d.kids,k<(trO (parO ts)).length)∧d.kids.length<=2048:=by
 unfold parO
 split
 ·simp[trO]
 split
 ·simp[trO]
 split
 ·split
  ·simp[trO]
  split
  ·simp[trO]
  ·rename_i t q _ h _
   have e:=ziw t 0;refine⟨by show(layP 0 t).length<=2048;omega,fun d hd=>?_⟩;have hb:=zke t 0 d hd;refine⟨fun k hk=>?_,by omega⟩;show k<(layP 0 t).length;have:=hb.1 k hk;omega
 ·simp[trO]
 ·simp[trO]
theorem zrb (s:List UInt8):(trO (txtO s)).length<=2048∧∀ d ∈ trO (txtO s),(∀ k ∈ d.kids,k<(trO (txtO s)).length)∧d.kids.length<=2048:=by
 unfold txtO
 split
 ·exact zol _
 ·simp[trO]
set_option maxHeartbeats 4000000
def wkB:List UInt8:=[112,97,99,107,97,103,101,32,97,10,102,117,110,99,32,102,40,120,32,105,110,116,41,32,105,110,116,32,123,32,114,101,116,117,114,110,32,120,32,43,32,49,32,125,10]
def wkK:Bool:=match txtO wkB with | .inr t=>(layP 0 t).length == 10 && ((layP 0 t)[7]?.map (·.kind)) == some 27 | .inl _=>false
theorem zrc:wkK=true:=by kernel_rfl
theorem zrd:∃ t d,txtO wkB=.inr t∧(layP 0 t).length=10∧(layP 0 t)[7]?=some d∧d.kind=27:=by
 have h:=zrc;unfold wkK at h
 cases hx:txtO wkB with
 | inl p=>rw[hx] at h;cases h
 | inr t=>
  rw[hx] at h;simp only[Bool.and_eq_true,beq_iff_eq] at h
  cases hd:(layP 0 t)[7]? with
  | none=>rw[hd] at h;simp at h
  | some d=>
   rw[hd] at h;exact⟨t,d,rfl,h.1,hd,by simpa using h.2⟩
theorem zhg (w:World)(hT:Tabl w):Calls Tryz.prog 6 #[] w fun e w'=>e=.returned (.bool true)∧Below w.heap.size w w':=by
 have HT:Hid (∀ W,Below w.heap.size w W->Tabl W):=fun W hb=>zdp hb.block hT;clear hT
 go_enter Tryz.func6,Tryz.ntmps6
 go_wp2_with fail
 refine(zli w ⟨wkB.toArray⟩ (HT.out w (Below.refl _ _))).mono ?_;rintro e W ⟨hB,hm⟩;obtain⟨t,d,ht,hl,hd,hk⟩:=zrd;rw[show txtO (ByteArray.data ⟨wkB.toArray⟩).toList=.inr t from ht] at hm;obtain⟨v,rfl,N,S,hO,hR,-⟩:=hm;obtain⟨sp,cap,rfl,hrows,-⟩:=OwnG.rows elN hO;have hN:N.length=10:=by rw[hR.1,hl]
 obtain⟨b,o,rfl,-⟩:=hrows (by omega);obtain⟨m,hm⟩:∃ m,N[7]?=some m:=⟨_,List.getElem?_eq_getElem (by omega)⟩;have k0:=(zf9 hrows hm).1;rw[(hR.at hm hd).1.1,hk] at k0;have lb:b<W.heap.size:=block_lt_of_cell k0;rw[hN];have HB:=hid hB;clear hO hR hrows hN hm hB ht hl hd hk HT;have hkk:kepB ⟨#[105,102]⟩=true:=by kernel_rfl
 go_wp2_with (go_at_call 11;refine(zii _ _).mono ?_;rintro e W10 ⟨rfl,b10⟩;rw[hkk])
 have hA:Below w.heap.size w ((W.alloc (Obj.cells #[.slice (some ⟨b,o,none⟩) 10 cap] 25)).alloc (Obj.cells #[.int .i64 0,.int .i64 0] 28)):=(HB.out.alloc HB.out.size _).alloc (by simp;exact Nat.le_succ_of_le HB.out.size) _
 go_ret
 exact⟨rfl,hA.trans (b10.mono hA.size)⟩
def ndEqP (pl:Bool) (a b:Nd):Bool:=ndEq a b && (!pl || ((a.pos == b.pos) && (a.frm == b.frm) && (a.to == b.to)))
def ndHd (pl:Bool) (a b:Nd):Bool:=(a.kind == b.kind) && (a.text.toList == b.text.toList) && (a.num == b.num) && (a.kids.length == b.kids.length) && (!pl || ((a.pos == b.pos) && (a.frm == b.frm) && (a.to == b.to)))
section
variable {a b:Nd}(pl:Bool)
theorem zlk:ndEqP pl a b=(ndHd pl a b && (a.kids == b.kids)):=by
 cases hk:(a.kids == b.kids)
 ·simp[ndEqP,ndEq,hk]
 ·have e:a.kids=b.kids:=by simpa using hk
  simp[ndEqP,ndEq,ndHd,e]
theorem nq_d (h:¬ a.kids=b.kids):ndEqP pl a b=false:=by simp[ndEqP,ndEq,(show(a.kids == b.kids)=false by simpa using h)]
theorem hd_k (h:(a.kind != b.kind)=true):ndHd pl a b=false:=by simp[ndHd,(show(a.kind == b.kind)=false by simpa using h)]
theorem hd_x (h:(a.text.toList != b.text.toList)=true):ndHd pl a b=false:=by simp[ndHd,(show(a.text.toList == b.text.toList)=false by simpa using h)]
theorem hd_n (h:(a.num != b.num)=true):ndHd pl a b=false:=by simp[ndHd,(show(a.num == b.num)=false by simpa using h)]
theorem hd_l (h:((a.kids.length:Int) != b.kids.length)=true):ndHd pl a b=false:=by
 have h2:(a.kids.length == b.kids.length)=false:=beq_eq_false_iff_ne.2 fun e=>by rw[e] at h;simp at h
 simp[ndHd,h2]
theorem hd_p (h:(a.pos != b.pos)=true):ndHd true a b=false:=by simp[ndHd,(show(a.pos == b.pos)=false by simpa using h)]
theorem hd_f (h:(a.frm != b.frm)=true):ndHd true a b=false:=by simp[ndHd,(show(a.frm == b.frm)=false by simpa using h)]
theorem hd_t (h:(a.to != b.to)=true):ndHd true a b=false:=by simp[ndHd,(show(a.to == b.to)=false by simpa using h)]
theorem hd_y (h1:(a.kind != b.kind)=false)(h2:(a.text.toList == b.text.toList)=true)(h3:(a.num != b.num)=false)(h4:((a.kids.length:Int) != b.kids.length)=false):ndHd false a b=true:=by
 have e1:(a.kind == b.kind)=true:=by simpa using h1
 have e3:(a.num == b.num)=true:=by simpa using h3
 have e5:(a.kids.length:Int)=b.kids.length:=by simpa using h4
 have e4:(a.kids.length == b.kids.length)=true:=by rw[Int.ofNat.inj e5];simp
 unfold ndHd;rw[e1,h2,e3,e4];rfl
theorem zs1 (h1:(a.kind != b.kind)=false)(h2:(a.text.toList == b.text.toList)=true)(h3:(a.num != b.num)=false)(h4:((a.kids.length:Int) != b.kids.length)=false)(h5:(a.pos != b.pos)=false)(h6:(a.frm != b.frm)=false)(h7:(a.to != b.to)=false):ndHd true a b=true:=by
 have e:=hd_y h1 h2 h3 h4;have e5:(a.pos == b.pos)=true:=by simpa using h5
 have e6:(a.frm == b.frm)=true:=by simpa using h6
 have e7:(a.to == b.to)=true:=by simpa using h7
 unfold ndHd at e ⊢;rw[e5,e6,e7];simpa using e
variable {pl}
theorem zst (h:ndHd pl a b=true):a.kids.length=b.kids.length:=by
 unfold ndHd at h;simp only[Bool.and_eq_true,beq_iff_eq] at h;exact h.1.2
end
set_option maxHeartbeats 40000000 in
theorem zhh (pl:Bool)(sp tp:Option Addr)(c1 c2:Nat) (N M:List NdM) (S T:Nat->Prop) (L K:List Nd)(w:World)(h1:RowsAt w 7 NdM.cells sp N)(r1:Rep w S N L)(h2:RowsAt w 7 NdM.cells tp M)(r2:Rep w T M K)
  (hl:L.length<=1000000) (hk:K.length<=1000000) (kl:∀ d ∈ L,d.kids.length<=1000000) (kk:∀ d ∈ K,d.kids.length<=1000000) :
  Calls Tryz.prog 10 #[.agg #[.slice sp L.length c1],.agg #[.slice tp K.length c2],.bool pl] w fun e w'=>e=.returned (.bool (eqAll (ndEqP pl) L K))∧Below w.heap.size w w':=by
 have H1:=hid h1;have H2:=hid h2;have R1:Hid (Rep w S N L):=r1;have R2:Hid (Rep w T M K):=r2;have KL:Hid (∀ d ∈ L,d.kids.length<=1000000):=kl;have KK:Hid (∀ d ∈ K,d.kids.length<=1000000):=kk;clear h1 h2 r1 r2 kl kk
 by_cases hlen:L.length=K.length
 ·have HIF:Hid (eqAll (ndEqP pl) L K=true ↔ ∀ (i:Nat) a b,L[i]?=some a->K[i]?=some b->ndEqP pl a b=true):=zfh hlen;have hln:((L.length:Int) != (K.length:Int))=false:=by simp;omega
  have HLEN:=hid hlen;clear hlen
  go_enter Tryz.func10,Tryz.ntmps10
  go_wp2
  refine zdd (fun W=>W.heap[w.heap.size]?=some (.cells #[.slice sp L.length c1] 25 (0,0))∧W.heap[w.heap.size+1]?=some (.cells #[.slice tp K.length c2] 25 (0,0))∧Below w.heap.size w W) ?_ ?_
  ·have n0:=heap_alloc_new w (.cells #[.slice sp L.length c1] 25);have n1:=heap_alloc_new (w.alloc (.cells #[.slice sp L.length c1] 25)) (.cells #[.slice tp K.length c2] 25);simp only[World.size_alloc] at n1;exact⟨(Below.heap_alloc _ _ _ (by simp)).trans n0,n1,((Below.refl _ _).alloc (Nat.le_refl _) _).alloc (by simp) _⟩
  rintro W0 ⟨hr0,hr1,hB0⟩;have HR0:Hid (∀ W,Below W0.heap.size W0 W->W.heap[w.heap.size]?=some (.cells #[.slice sp L.length c1] 25 (0,0))∧W.heap[w.heap.size+1]?=some (.cells #[.slice tp K.length c2] 25 (0,0))∧Below w.heap.size w W):=fun W hb=>⟨(hb.block _ (zaa hr0)).trans hr0,(hb.block _ (zaa hr1)).trans hr1,hB0.trans (hb.mono hB0.size)⟩;clear hr0 hr1 hB0
  go_loopw [7] (fun i wr=>∃ t:Nat,t<=L.length∧i=.int .i64 t∧Below W0.heap.size W0 wr∧∀ (j:Nat) (a b:Nd),j<t->L[j]?=some a->K[j]?=some b->ndEqP pl a b=true) (fun i _=>L.length - (intOf i).toNat)
  case atStart=>exact⟨0,Nat.zero_le _,rfl,Below.refl _ _,fun j a b hj=>by omega⟩
  case round=>
   obtain⟨t,ht,rfl,hB,hz⟩:=hrel;have HZ:=hid hz;obtain⟨q0,q1,q2⟩:=HR0.out wr hB;have HB:=hid hB;have p0:wr.cell? ⟨w.heap.size,0,none⟩=some (.slice sp L.length c1):=(cell_of_row _ _ 0 _ _ _ q0).trans rfl;have p1:wr.cell? ⟨w.heap.size+1,0,none⟩=some (.slice tp K.length c2):=(cell_of_row _ _ 0 _ _ _ q1).trans rfl;have s0:w.heap.size<wr.heap.size:=zaa q0;have s1:w.heap.size+1<wr.heap.size:=zaa q1;have HQ2:Hid (Below w.heap.size w wr):=q2;clear hz hB q0 q1 q2
   by_cases hlt:t<L.length
   ·have hlt2:t<K.length:=by have:=HLEN.out;omega
    have hNl:N.length=L.length:=R1.out.1;have hMl:M.length=K.length:=R2.out.1;have hd:decide ((t:Int)<L.length)=true:=by simp;omega
    have hd2:decide ((t:Int)<K.length)=true:=by simp;omega
    obtain⟨b1,f1,rfl,-⟩:=H1.out (by omega);obtain⟨b2,f2,rfl,-⟩:=H2.out (by omega);obtain⟨x,hx⟩:∃ x,N[t]?=some x:=⟨_,List.getElem?_eq_getElem (by omega)⟩;obtain⟨y,hy⟩:∃ y,M[t]?=some y:=⟨_,List.getElem?_eq_getElem (by omega)⟩;obtain⟨a,ha⟩:∃ a,L[t]?=some a:=⟨_,List.getElem?_eq_getElem hlt⟩;obtain⟨b,hb⟩:∃ b,K[t]?=some b:=⟨_,List.getElem?_eq_getElem hlt2⟩;obtain⟨k0,k1,k2,k3,k4,k5,k6⟩:=zf9 (RowsAt.below H1.out HQ2.out) hx;obtain⟨l0,l1,l2,l3,l4,l5,l6⟩:=zf9 (RowsAt.below H2.out HQ2.out) hy;have A1:Hid (NdAt w x a):=R1.out.at hx ha;have A2:Hid (NdAt w y b):=R2.out.at hy hb;have kx:a.kids.length<=1000000:=KL.out a (List.mem_of_getElem? ha);have ky:b.kids.length<=1000000:=KK.out b (List.mem_of_getElem? hb);have HX:=hid ha;have HY:=hid hb;have lt1:b1<wr.heap.size:=block_lt_of_cell k0;have lt2:b2<wr.heap.size:=block_lt_of_cell l0;clear ha hb hx hy;obtain⟨xk,xx,xn,xs,xkn,xkc,xa,xf,xt⟩:=x;obtain⟨yk,yx,yn,ys,ykn,ykc,ya,yf,yt⟩:=y;obtain⟨⟨e1,e2,e3,e4,e5,e6⟩,e7,g1⟩:=A1.out;obtain⟨⟨i1,i2,i3,i4,i5,i6⟩,i7,g2⟩:=A2.out
    dsimp only at e1 e2 e3 e4 e5 e6 e7 i1 i2 i3 i4 i5 i6 i7 g1 g2 k0 k1 k2 k3 k4 k5 k6 l0 l1 l2 l3 l4 l5 l6
    subst e1 e2 e3 e4 e5 e6 e7 i1 i2 i3 i4 i5 i6 i7;have G1:Hid (RowsAt w 1 intC xs a.kids):=g1;have G2:Hid (RowsAt w 1 intC ys b.kids):=g2;clear g1 g2 A1 A2;have HNO:Hid (ndEqP pl a b=false->eqAll (ndEqP pl) L K=false):=fun h=>zkt HX.out HY.out h;have HNX:Hid (ndEqP pl a b=true->∀ (j:Nat) (a b:Nd),j<t+1->L[j]?=some a->K[j]?=some b->ndEqP pl a b=true):=fun hq j a' b' hj ha hb=>by
     by_cases hjt:j<t
     ·exact HZ.out j a' b' hjt ha hb
     ·obtain rfl:j=t:=by omega
      rw[HX.out] at ha;rw[HY.out] at hb;injection ha with ha;injection hb with hb;rw[<-ha,<-hb];exact hq
    go_upto_region 6 with fail
    go_cut [8,9] (fun px py wc=>∃ gx gy:Nat,px=.pointer (some ⟨gx,0,none⟩)∧py=.pointer (some ⟨gy,0,none⟩)∧wc.heap[gx]?=some (.cells #[.int .i64 a.kind,.string a.text,.int .i64 a.num,.slice xs a.kids.length xkc,.int .i64 a.pos,.int .i64 a.frm,.int .i64 a.to] 53 (0,0))∧wc.heap[gy]?=some (.cells #[.int .i64 b.kind,.string b.text,.int .i64 b.num,.slice ys b.kids.length ykc,.int .i64 b.pos,.int .i64 b.frm,.int .i64 b.to] 53 (0,0))∧Below wr.heap.size wr wc)
    case first=>
     go_region
     focus (
      go_wp2_with fail
      go_meet
      case rel=>
       have n0:=heap_alloc_new wr (.cells #[.int .i64 a.kind,.string a.text,.int .i64 a.num,.slice xs a.kids.length xkc,.int .i64 a.pos,.int .i64 a.frm,.int .i64 a.to] 53);have n1:=heap_alloc_new (wr.alloc (.cells #[.int .i64 a.kind,.string a.text,.int .i64 a.num,.slice xs a.kids.length xkc,.int .i64 a.pos,.int .i64 a.frm,.int .i64 a.to] 53)) (.cells #[.int .i64 b.kind,.string b.text,.int .i64 b.num,.slice ys b.kids.length ykc,.int .i64 b.pos,.int .i64 b.frm,.int .i64 b.to] 53);simp only[World.size_alloc] at n1;exact⟨_,_,rfl,rfl,(Below.heap_alloc (wr.alloc (.cells #[.int .i64 a.kind,.string a.text,.int .i64 a.num,.slice xs a.kids.length xkc,.int .i64 a.pos,.int .i64 a.frm,.int .i64 a.to] 53)) (.cells #[.int .i64 b.kind,.string b.text,.int .i64 b.num,.slice ys b.kids.length ykc,.int .i64 b.pos,.int .i64 b.frm,.int .i64 b.to] 53) wr.heap.size (by simp)).trans n0,n1,(((Below.refl wr.heap.size wr).alloc (Nat.le_refl _) (.cells #[.int .i64 a.kind,.string a.text,.int .i64 a.num,.slice xs a.kids.length xkc,.int .i64 a.pos,.int .i64 a.frm,.int .i64 a.to] 53)).alloc (by simp) (.cells #[.int .i64 b.kind,.string b.text,.int .i64 b.num,.slice ys b.kids.length ykc,.int .i64 b.pos,.int .i64 b.frm,.int .i64 b.to] 53)).drew⟩)
     focus (
      go_wp2_with fail
      go_meet
      case rel=>
       have n0:=heap_alloc_new wr (.cells #[.int .i64 b.kind,.string b.text,.int .i64 b.num,.slice ys b.kids.length ykc,.int .i64 b.pos,.int .i64 b.frm,.int .i64 b.to] 53);have n1:=heap_alloc_new (wr.alloc (.cells #[.int .i64 b.kind,.string b.text,.int .i64 b.num,.slice ys b.kids.length ykc,.int .i64 b.pos,.int .i64 b.frm,.int .i64 b.to] 53)) (.cells #[.int .i64 a.kind,.string a.text,.int .i64 a.num,.slice xs a.kids.length xkc,.int .i64 a.pos,.int .i64 a.frm,.int .i64 a.to] 53);simp only[World.size_alloc] at n1;exact⟨_,_,rfl,rfl,n1,(Below.heap_alloc (wr.alloc (.cells #[.int .i64 b.kind,.string b.text,.int .i64 b.num,.slice ys b.kids.length ykc,.int .i64 b.pos,.int .i64 b.frm,.int .i64 b.to] 53)) (.cells #[.int .i64 a.kind,.string a.text,.int .i64 a.num,.slice xs a.kids.length xkc,.int .i64 a.pos,.int .i64 a.frm,.int .i64 a.to] 53) wr.heap.size (by simp)).trans n0,(((Below.refl wr.heap.size wr).alloc (Nat.le_refl _) (.cells #[.int .i64 b.kind,.string b.text,.int .i64 b.num,.slice ys b.kids.length ykc,.int .i64 b.pos,.int .i64 b.frm,.int .i64 b.to] 53)).alloc (by simp) (.cells #[.int .i64 a.kind,.string a.text,.int .i64 a.num,.slice xs a.kids.length xkc,.int .i64 a.pos,.int .i64 a.frm,.int .i64 a.to] 53)).drew⟩)
    case rest=>
     obtain⟨gx,gy,rfl,rfl,hgx,hgy,hbw⟩:=hcut;have HBW:=hid (HB.out.trans (hbw.mono HB.out.size));have HBWw:Hid (Below w.heap.size w wc):=(HR0.out _ HBW.out).2.2;clear k0 k1 k2 k3 k4 k5 k6 l0 l1 l2 l3 l4 l5 l6 p0 p1 hbw;have x0:wc.cell? ⟨gx,0,none⟩=some (.int .i64 a.kind):=(cell_of_row _ _ 0 _ _ _ hgx).trans rfl;have x1:wc.cell? ⟨gx,1,none⟩=some (.string a.text):=(cell_of_row _ _ 1 _ _ _ hgx).trans rfl;have x2:wc.cell? ⟨gx,2,none⟩=some (.int .i64 a.num):=(cell_of_row _ _ 2 _ _ _ hgx).trans rfl;have x3:wc.cell? ⟨gx,3,none⟩=some (.slice xs a.kids.length xkc):=(cell_of_row _ _ 3 _ _ _ hgx).trans rfl;have x4:wc.cell? ⟨gx,4,none⟩=some (.int .i64 a.pos):=(cell_of_row _ _ 4 _ _ _ hgx).trans rfl;have x5:wc.cell? ⟨gx,5,none⟩=some (.int .i64 a.frm):=(cell_of_row _ _ 5 _ _ _ hgx).trans rfl;have x6:wc.cell? ⟨gx,6,none⟩=some (.int .i64 a.to):=(cell_of_row _ _ 6 _ _ _ hgx).trans rfl;have y0:wc.cell? ⟨gy,0,none⟩=some (.int .i64 b.kind):=(cell_of_row _ _ 0 _ _ _ hgy).trans rfl;have y1:wc.cell? ⟨gy,1,none⟩=some (.string b.text):=(cell_of_row _ _ 1 _ _ _ hgy).trans rfl;have y2:wc.cell? ⟨gy,2,none⟩=some (.int .i64 b.num):=(cell_of_row _ _ 2 _ _ _ hgy).trans rfl;have y3:wc.cell? ⟨gy,3,none⟩=some (.slice ys b.kids.length ykc):=(cell_of_row _ _ 3 _ _ _ hgy).trans rfl;have y4:wc.cell? ⟨gy,4,none⟩=some (.int .i64 b.pos):=(cell_of_row _ _ 4 _ _ _ hgy).trans rfl;have y5:wc.cell? ⟨gy,5,none⟩=some (.int .i64 b.frm):=(cell_of_row _ _ 5 _ _ _ hgy).trans rfl;have y6:wc.cell? ⟨gy,6,none⟩=some (.int .i64 b.to):=(cell_of_row _ _ 6 _ _ _ hgy).trans rfl;clear hgx hgy
     go_upto_region 7 with fail
     go_cut [86] (fun z W=>W=wc∧z=.bool (!ndHd pl a b))
     case first=>
      cases c1:(a.kind != b.kind)
      rotate_left
      focus (
       have hz:(!ndHd pl a b)=true:=by rw[hd_k pl c1];rfl
       go_wp2
       go_meet
       case rel=>exact⟨rfl,by rw[hz]⟩)
      cases q2:(a.text.toList == b.text.toList)
      focus (
       have c2:(a.text.toList != b.text.toList)=true:=by rw[bne,q2];rfl
       have hz:(!ndHd pl a b)=true:=by rw[hd_x pl c2];rfl
       go_wp2
       go_meet
       case rel=>exact⟨rfl,by rw[hz]⟩)
      have c2:(a.text.toList != b.text.toList)=false:=by rw[bne,q2];rfl
      cases c3:(a.num != b.num)
      rotate_left
      focus (
       have hz:(!ndHd pl a b)=true:=by rw[hd_n pl c3];rfl
       go_wp2
       go_meet
       case rel=>exact⟨rfl,by rw[hz]⟩)
      cases c4:((a.kids.length:Int) != b.kids.length)
      rotate_left
      focus (
       have hz:(!ndHd pl a b)=true:=by rw[hd_l pl c4];rfl
       go_wp2
       go_meet
       case rel=>exact⟨rfl,by rw[hz]⟩)
      cases pl
      focus (
       have hz:(!ndHd false a b)=false:=by rw[hd_y c1 q2 c3 c4];rfl
       go_wp2
       go_meet
       case rel=>exact⟨rfl,by rw[hz]⟩)
      cases c5:(a.pos != b.pos)
      rotate_left
      focus (
       have hz:(!ndHd true a b)=true:=by rw[hd_p c5];rfl
       go_wp2
       go_meet
       case rel=>exact⟨rfl,by rw[hz]⟩)
      cases c6:(a.frm != b.frm)
      rotate_left
      focus (
       have hz:(!ndHd true a b)=true:=by rw[hd_f c6];rfl
       go_wp2
       go_meet
       case rel=>exact⟨rfl,by rw[hz]⟩)
      cases c7:(a.to != b.to)
      rotate_left
      focus (
       have hz:(!ndHd true a b)=true:=by rw[hd_t c7];rfl
       go_wp2
       go_meet
       case rel=>exact⟨rfl,by rw[hz]⟩)
      have hz:(!ndHd true a b)=false:=by rw[zs1 c1 q2 c3 c4 c5 c6 c7];rfl
      go_wp2
      go_meet
      case rel=>exact⟨rfl,by rw[hz]⟩
     case rest=>
      obtain⟨rfl,rfl⟩:=hcut;clear x0 x1 x2 x4 x5 x6 y0 y1 y2 y4 y5 y6
      cases hh:ndHd pl a b
      ·have HN:Hid (eqAll (ndEqP pl) L K=false):=HNO.out (by rw[zlk,hh];rfl)
       go_wp2
       go_ret
       exact⟨za9 HN.out.symm,HBWw.out⟩
      have HEQ:Hid (a.kids=b.kids->ndEqP pl a b=true):=fun e=>by rw[zlk,hh,e];simp
      have HK4:Hid (a.kids.length=b.kids.length):=zst hh
      go_wp2
      go_loopw [10] (fun k wr'=>∃ q n:Nat,q<=a.kids.length∧k=.int .i64 q∧wr'=wc.drewN n∧∀ j,j<q->a.kids[j]?=b.kids[j]?) (fun k _=>a.kids.length - (intOf k).toNat)
      case atStart=>exact⟨0,0,Nat.zero_le _,rfl,rfl,fun j hj=>by omega⟩
      case round=>
       obtain⟨q,n,hq,rfl,rfl,hz2⟩:=hrel;have HZ2:=hid hz2;clear hz2
       by_cases hlt3:q<a.kids.length
       ·have hlt4:q<b.kids.length:=by have:=HK4.out;omega
        have hd3:decide ((q:Int)<a.kids.length)=true:=by simp;omega
        have hd4:decide ((q:Int)<b.kids.length)=true:=by simp;omega
        have g1:=G1.out.below HBWw.out;have g2:=G2.out.below HBWw.out;obtain⟨bx,ox,rfl,-⟩:=g1 (by omega);obtain⟨by',oy,rfl,-⟩:=g2 (by omega);have z1:=zj4 g1 q (by simpa using hlt3);have z2:=zj4 g2 q (by simpa using hlt4);obtain⟨ka,hka⟩:∃ ka,a.kids[q]?=some ka:=⟨_,List.getElem?_eq_getElem hlt3⟩;obtain⟨kb,hkb⟩:∃ kb,b.kids[q]?=some kb:=⟨_,List.getElem?_eq_getElem hlt4⟩;rw[List.getD_eq_getElem?_getD,List.getElem?_map,hka] at z1;rw[List.getD_eq_getElem?_getD,List.getElem?_map,hkb] at z2;simp only[Option.map_some,Option.getD_some] at z1 z2;have HKA:=hid hka;have HKB:=hid hkb;clear hka hkb g1 g2
        cases c8:((ka:Int) != kb)
        ·have HZ3:Hid (∀ j,j<q+1->a.kids[j]?=b.kids[j]?):=fun j hj=>by
          by_cases hjq:j<q
          ·exact HZ2.out j hjq
          ·obtain rfl:j=q:=by omega
           have h8:(ka:Int)=kb:=by simpa using c8
           have:ka=kb:=Int.ofNat.inj h8;rw[HKA.out,HKB.out,this]
         go_wp2
         go_quiet (fail)
         go_wp2
         exact⟨⟨q+1,n+nq,by omega,by go_num,rfl,HZ3.out⟩,by simp[intOf];omega⟩
        ·have HN:Hid (eqAll (ndEqP pl) L K=false):=HNO.out (nq_d pl fun e=>by
          have h1:=HKA.out;rw[e,HKB.out] at h1;injection h1 with h1;rw[h1] at c8;simp at c8)
         go_wp2
         go_quiet (fail)
         go_wp2
         go_ret
         exact⟨za9 HN.out.symm,HBWw.out.trans (by first|exact zgy _ _|(rw[zmw];exact zgy _ _))⟩
       ·have hd3:decide ((q:Int)<a.kids.length)=false:=by simp;omega
        have HE:Hid (a.kids=b.kids):=List.ext_getElem? fun j=>by
         by_cases hj:j<q
         ·exact HZ2.out j hj
         ·rw[List.getElem?_eq_none (by omega),List.getElem?_eq_none (by have:=HK4.out;omega)]
        have HNX2:Hid (∀ (j:Nat) (a b:Nd),j<t+1->L[j]?=some a->K[j]?=some b->ndEqP pl a b=true):=HNX.out (HEQ.out HE.out)
        go_wp2
        exact⟨⟨t+1,by omega,by go_num,HBW.out.trans (zgy _ _),HNX2.out⟩,by simp[intOf];omega⟩
   ·have hd:decide ((t:Int)<L.length)=false:=by simp;omega
    have HYES:Hid (eqAll (ndEqP pl) L K=true):=HIF.out.2 fun j a b ha hb=>HZ.out j a b (by have:=(List.getElem?_eq_some_iff.1 ha).1;omega) ha hb
    go_wp2
    go_ret
    exact⟨za9 HYES.out.symm,HQ2.out⟩
 ·have hln:((L.length:Int) != (K.length:Int))=true:=by simp;omega
  have HNO:Hid (eqAll (ndEqP pl) L K=false):=zks hlen
  go_enter Tryz.func10,Tryz.ntmps10
  go_wp2
  go_ret
  exact⟨za9 HNO.out.symm,((Below.refl _ _).alloc (Nat.le_refl _) _).alloc (by simp) _⟩
theorem zh8 (w:World)(st:Option Addr)(cap:Nat)(ts:List Tok)(hr:RowsT w st ts)(few:ts.length<=100000)(ok:∀ t ∈ ts,-1000000000000000000<=t.pos∧t.pos<=1000000000000000000∧t.text.size<=100000)(h1:chkO ts=0)(h2:risB (-1) ts=true) :
  Calls Tryz.prog 9 #[.slice st ts.length cap] w (PrP w (parO ts)):=by
 obtain⟨v,s,hf,hb,hg⟩:=zq2 (zsl h1);rw[zq3 h1 h2 hb hg];exact zpp w st cap ts hr few ok v s hf (fun h=>znu (hg h)) fun _ _ _ _ _ _ hq h=>zmj hq h
theorem zhi (pl:Bool) (L:List Nd):eqAll (ndEqP pl) L L=true:=by
 refine zhp (fun a=>?_) L;simp[ndEqP,ndEq]
theorem zom (L:List UInt8):((lexO L).2.1≠0->txtO L=.inl ((lexO L).2.1,(lexO L).2.2))∧((lexO L).2.1=0->txtO L=parO (lexO L).1∧chkO (lexO L).1=0∧risB (-1) (lexO L).1=true):=by
 refine⟨fun h=>by unfold txtO;rw[if_neg h],fun h=>⟨by unfold txtO;rw[if_pos h],?_⟩⟩
 by_cases hL:L.length<=4096
 ·rcases zkf hL with⟨e,q,g,h0,-⟩ | ⟨ms,g,-,g2,-⟩
  ·rw[g] at h;exact absurd h h0
  ·have hr:=zpu g;rw[g];exact⟨g2,hr⟩
 ·unfold lexO at h;rw[if_pos (by omega)] at h;exact absurd h (by decide)
theorem zhn (s:ByteArray)(w:World)(hT:Tabl w):Calls Tryz.prog 3 #[.string s] w fun e w'=>e=.returned (.bool true)∧Below w.heap.size w w':=by
 have HT:Hid (∀ W,Below w.heap.size w W->Tabl W):=hid fun W hb=>zdp hb.block hT;clear hT
 go_enter Tryz.func3,Tryz.ntmps3
 go_wp2_with fail
 refine(zhg w (HT.out w (Below.refl _ _))).mono ?_;rintro e W1 ⟨rfl,b1⟩;have HB1:=hid b1;clear b1
 cases z1:decide ((6000:Int)<s.size)
 rotate_left
 focus (
  go_wp2
  go_ret
  exact⟨rfl,HB1.out⟩)
 have hsz:s.size<=6000:=by have:=of_decide_eq_false z1;omega
 go_wp2_with fail
 refine(zli W1 s (HT.out W1 HB1.out)).mono ?_;rintro e W2 h2;obtain⟨b2,v2,rfl,t2⟩:=zlj h2;obtain⟨s2,c2,rfl⟩:=t2.shape;have HB2:Hid (Below w.heap.size w W2):=hid (HB1.out.trans (b2.mono HB1.out.size));have T2:Hid (TrAt W1.heap.size W2 (.slice s2 (trO (txtO s.data.toList)).length c2) (trO (txtO s.data.toList))):=hid t2;clear h2 b2 t2;have HPT:=hid (zom s.data.toList);have HLB:=hid (zlh s.data.toList);have HTB:=hid (zrb s.data.toList);obtain⟨X,hX⟩:∃ X,txtO s.data.toList=X:=⟨_,rfl⟩;obtain⟨O,hO⟩:∃ O,lexO s.data.toList=O:=⟨_,rfl⟩;rw[hX,hO] at HPT;rw[hO] at HLB;rw[hX] at HTB T2 ⊢;have HO:=hid hO;clear hX hO;obtain⟨ts,er,q⟩:=O
 go_wp2_with fail
 refine zaf (fun W=>W.heap[W2.heap.size]?=some (.cells #[.slice s2 (trO X).length c2] 25 (0,0))∧W.heap[W2.heap.size+1]?=some (.cells #[.int .i64 (spO X).1,.int .i64 (spO X).2] 28 (0,0))∧Below w.heap.size w W∧TrAt W1.heap.size W (.slice s2 (trO X).length c2) (trO X)) ?_ ?_
 ·have n0:=heap_alloc_new W2 (.cells #[.slice s2 (trO X).length c2] 25);have n1:=heap_alloc_new (W2.alloc (.cells #[.slice s2 (trO X).length c2] 25)) (.cells #[.int .i64 (spO X).1,.int .i64 (spO X).2] 28);simp only[World.size_alloc] at n1;have hb:=((Below.refl W2.heap.size W2).alloc (Nat.le_refl _) (.cells #[.slice s2 (trO X).length c2] 25)).alloc (by simp) (.cells #[.int .i64 (spO X).1,.int .i64 (spO X).2] 28);exact⟨(Below.heap_alloc _ _ _ (by simp)).trans n0,n1,HB2.out.trans (hb.mono HB2.out.size),T2.out.below hb⟩
 rintro W3 ⟨hr3,hp3,hB3,hT3⟩;refine(zpw s W3).mono ?_;rintro e W4 ⟨⟨v4,rfl,o4⟩,b4⟩;rw[HO.out] at o4 ⊢
 dsimp only at o4 ⊢
 obtain⟨s4,k4,rfl,R4,-,-,-⟩:=OwnG.rows elT o4;have HR4:=hid ((b4.block _ (zaa hr3)).trans hr3);have HP4:=hid ((b4.block _ (zaa hp3)).trans hp3);have HB4:=hid (hB3.trans (b4.mono hB3.size));have HT4:=hid (hT3.below b4);have HRT:=hid R4;clear hr3 hp3 hB3 hT3 b4 o4 R4 T2 HB2
 by_cases he:er=0
 ·subst he;obtain⟨hx,hck,hri⟩:=HPT.out.2 rfl
  try dsimp only at hx hck hri
  have HXE:=hid hx;have HCK:=hid hck;have HRI:=hid hri;clear hx hck hri HPT
  go_wp2_with fail
  refine zaf (fun W=>W.heap[W2.heap.size]?=some (.cells #[.slice s2 (trO X).length c2] 25 (0,0))∧W.heap[W2.heap.size+1]?=some (.cells #[.int .i64 (spO X).1,.int .i64 (spO X).2] 28 (0,0))∧Below w.heap.size w W∧TrAt W1.heap.size W (.slice s2 (trO X).length c2) (trO X)∧RowsT W s4 ts) ?_ ?_
  ·have ba:Below W4.heap.size W4 (W4.alloc (.cells #[.int .i64 0,.int .i64 q] 28)):=(Below.refl _ _).alloc (Nat.le_refl _) _;exact⟨(ba.block _ (zaa HR4.out)).trans HR4.out,(ba.block _ (zaa HP4.out)).trans HP4.out,HB4.out.trans (ba.mono HB4.out.size),HT4.out.below ba,RowsAt.below HRT.out ba⟩
  rintro W5 ⟨hr5,hp5,hB5,hT5,hR5⟩;refine(zh8 W5 s4 k4 ts hR5 (Nat.le_trans HLB.out.1 (by decide)) (fun t ht=>by have:=HLB.out.2 t ht;omega) HCK.out HRI.out).mono ?_;rintro e W6 h6;rw[<-HXE.out] at h6;obtain⟨b6,v6,rfl,t6⟩:=zlj h6;obtain⟨s6,c6,rfl⟩:=t6.shape;have hr6:=(b6.block _ (zaa hr5)).trans hr5;have hp6:=(b6.block _ (zaa hp5)).trans hp5;have HB6:=hid (hB5.trans (b6.mono hB5.size));have HT6:=hid (hT5.below b6);have HU6:=hid t6;have g0:W6.cell? ⟨W2.heap.size+1,0,none⟩=some (.int .i64 (spO X).1):=(cell_of_row _ _ 0 _ _ _ hp6).trans rfl;have g1:W6.cell? ⟨W2.heap.size+1,1,none⟩=some (.int .i64 (spO X).2):=(cell_of_row _ _ 1 _ _ _ hp6).trans rfl;have g2:W6.cell? ⟨W2.heap.size,0,none⟩=some (.slice s2 (trO X).length c2):=(cell_of_row _ _ 0 _ _ _ hr6).trans rfl;have hl1:=zaa hp6;have hl0:=zaa hr6;have hbl:=HTB.out;obtain⟨L,hL⟩:∃ L,trO X=L:=⟨_,rfl⟩;obtain⟨⟨sa,sb⟩,hS⟩:∃ p,spO X=p:=⟨_,rfl⟩;rw[hL] at HT6 HU6 g2 hbl ⊢;rw[hS] at g0 g1 ⊢;have HBL:=hid hbl;clear hL hS hr5 hp5 hB5 hT5 hR5 h6 b6 t6 hr6 hp6 HR4 HP4 HB4 HT4 HRT HCK HRI HXE HTB HLB HO hbl
  try dsimp only at g0 g1 ⊢
  go_wp2_with fail
  refine zaf (fun W=>Below w.heap.size w W∧TrAt W1.heap.size W (.slice s2 L.length c2) L∧TrAt W5.heap.size W (.slice s6 L.length c6) L) ?_ ?_
  ·have hb:=((Below.refl W6.heap.size W6).alloc (Nat.le_refl _) (.cells #[.slice s6 L.length c6] 25)).alloc (by simp) (.cells #[.int .i64 sa,.int .i64 sb] 28);exact⟨HB6.out.trans (hb.mono HB6.out.size),HT6.out.below hb,HU6.out.below hb⟩
  rintro W7 ⟨hB7,⟨N,S,hO,hRp,-⟩,⟨M,S',hO',hRp',-⟩⟩;obtain⟨sp1,cp1,e1,r1,-⟩:=OwnG.rows elN hO;obtain⟨sp2,cp2,e2,r2,-⟩:=OwnG.rows elN hO';injection e1 with u1 u2 u3;subst u1 u3;injection e2 with u4 u5 u6;subst u4 u6;have HB7:=hid hB7;have hll:=HBL.out.1;refine(zhh true s2 s6 c2 c6 N M S S' L L W7 r1 hRp r2 hRp' (by omega) (by omega) (fun d hd=>by have:=(HBL.out.2 d hd).2;omega) (fun d hd=>by have:=(HBL.out.2 d hd).2;omega)).mono ?_;rintro e W8 ⟨rfl,b8⟩;rw[zhi];have HB8:=hid (HB7.out.trans (b8.mono HB7.out.size));clear u2 u5 hO hO' hRp hRp' r1 r2 b8 hB7 HB7 g0 g1 g2
  go_wp2
  go_ret
  exact⟨rfl,HB8.out⟩
 ·have hx:=HPT.out.1 he
  try dsimp only at hx
  subst hx;have hn:((er:Int) != 0)=true:=by simpa using he
  clear HPT HTB
  dsimp only[spO,trO] at HP4 HR4 HT4
  have hp4:=HP4.out;have hr4:=HR4.out;have g0:W4.cell? ⟨W2.heap.size+1,0,none⟩=some (.int .i64 er):=(cell_of_row _ _ 0 _ _ _ hp4).trans rfl;have g1:W4.cell? ⟨W2.heap.size+1,1,none⟩=some (.int .i64 q):=(cell_of_row _ _ 1 _ _ _ hp4).trans rfl;have g2:W4.cell? ⟨W2.heap.size,0,none⟩=some (.slice s2 0 c2):=(cell_of_row _ _ 0 _ _ _ hr4).trans rfl;have hl1:=zaa hp4;have hl0:=zaa hr4;clear hp4 hr4;have HBZ:Hid (Below w.heap.size w (W4.alloc (.cells #[.int .i64 er,.int .i64 q] 28))):=hid (HB4.out.alloc HB4.out.size _)
  go_wp2
  go_ret
  exact⟨rfl,HBZ.out⟩
end Go.Proofs.YtmclgbkijeidaaaGreatDoor
