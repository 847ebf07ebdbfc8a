import Derived.Test.YtmclgbkijeidaaaGreatDoorUoc
import Derived.Test.YtmclgbkijeidaaaGreatDoorUoQaS
import Derived.Test.YtmclgbkijeidaaaGreatDoorUod
import Derived.Test.YtmclgbkijeidaaaGreatDoorUoQaV
import Derived.Test.YtmclgbkijeidaaaGreatDoorUoY
import Derived.Lib.SlBytesConst
import Derived.Test.YtmclgbkijeidaaaGreatDoorUoD
import Derived.Test.YtmclgbkijeidaaaGreatDoorUoT
import Derived.Test.YtmclgbkijeidaaaGreatDoorUoE
import Derived.Test.YtmclgbkijeidaaaGreatDoorUoR
import Derived.BigQuiet
import Derived.Test.YtmclgbkijeidaaaGreatDoorUoN
import Derived.Deep.DeepCutAuto
import Derived.Deep.Cut
import Derived.Deep.CutRange
import Derived.Deep.CutBlock
import Derived.Test.YtmclgbkijeidaaaGreatDoorUoX
import Derived.Test.YtmclgbkijeidaaaGreatDoorUoV
namespace Go.Proofs.YtmclgbkijeidaaaGreatDoor
open Go.RowKit
structure AllQ (T:Nat) (g:Nat) (st:Option Addr) (cap:Nat) (ts:List Tok) (m:Nat):Prop where
 row:RwQ T g st cap ts m
 una:UnQ T g st cap ts m
 prm:PrQ T g st cap ts m
 exp:ExQ T g st cap ts (dns ts m)
 stm:StQ T g st cap ts m
 brn:BrQ T g st cap ts m
 blo:BlQ T g st cap ts m
section
variable {T:Nat}{g:Nat}{st:Option Addr}{cap:Nat}{ts:List Tok}
theorem zn6 {n:Nat}{w:World}{s:Qs}{r:Qv × Qs}(hU:UnQ T g st cap ts n)(hP:∀ m,m<n->PrQ T g st cap ts m)(hE:∀ m,m<n->ExQ T g st cap ts (dns ts m))(hR:QdS T w g st cap ts s)(hX:(dns ts (n+1)).una s=some r) :
  Calls Tryz.prog 149 #[.pointer (some ⟨g,0,none⟩)] w (QoP T w g st cap ts r):=by
 cases hb:s.bad
 ·exact zqj hb hU hP hE hR hX
 ·exact zn4 hb hU hP hE hR hX
theorem allQ (n:Nat):AllQ T g st cap ts n:=by
 induction n using Nat.strongRecOn with
 | _ n ih=>
  have D:BlQ T g st cap ts n:=fun _ _ _ h hR=>zn3 (fun m A=>(ih m A).stm) hR h
  cases n with
  | zero=>
   exact { row:=(fun _ _ _ _ _ _ _ _ h _=>by cases h),una:=(fun _ _ _ h _=>by cases h),prm:=(fun _ _ _ h _=>by cases h),exp:=(fun _ _ _ h _=>by cases h),stm:=(fun _ _ _ h _=>by cases h),brn:=(fun _ _ _ h _=>by cases h),blo:=D }
  | succ n=>
   have y:=ih n (Nat.lt_succ_self n);have C:RwQ T g st cap ts (n+1):=fun _ _ _ _ I K E F h hR=>zvc I K E F y.una (fun m A=>(ih m (Nat.lt_succ_of_le A)).row) hR h;exact⟨C,fun _ _ _ h hR=>zn6 y.una (fun m A=>(ih m (Nat.lt_succ_of_lt A)).prm) (fun m A=>(ih m (Nat.lt_succ_of_lt A)).exp) hR h,
    fun _ _ _ h hR=>zq8 y.exp hR h,fun _ _ _ h hR=>zq7 C hR h,fun _ _ _ h hR=>zit y.exp y.blo y.brn hR h,
    fun _ _ _ h hR=>zm2 y.exp y.blo y.brn hR h,D⟩
theorem zrb {w:World}{s:Qs}{n:Nat}{r:Qv × Qs}(hR:QdS T w g st cap ts s)(h:filD ts n s=some r):Calls Tryz.prog 24 #[.pointer (some ⟨g,0,none⟩)] w (QoP T w g st cap ts r) :=
 zn5 (fun m _ _ _ _ h hR=>zra (allQ m).exp (fun _ _ _ h hR=>zje (allQ m).blo hR h) hR h) hR h
end
variable {L:List UInt8}{O:List Tok × Int × Nat}{p n:Nat}{ts:List Tok}{k:Int}
set_option maxRecDepth 100000
set_option maxHeartbeats 4000000
def wkB:List UInt8:=[112,97,99,107,97,103,101,32,97,10,102,117,110,99,32,102,40,120,32,105,110,116,41,32,105,110,116,32,123,32,114,101,116,117,114,110,32,120,32,43,32,49,32,125,10]
def wkK:Bool:=match txtO wkB with | .inr t=>(layP 0 t).length == 10 && ((layP 0 t)[7]?.map (·.kind)) == some 27 | .inl _=>false
theorem z0w:wkK=true:=by kernel_rfl
theorem z0x:∃ t d,txtO wkB=.inr t∧(layP 0 t).length=10∧(layP 0 t)[7]?=some d∧d.kind=27:=by
 have h:=z0w;unfold wkK at h
 cases hx:txtO wkB with
 | inl p=>rw[hx] at h;cases h
 | inr t=>
  rw[hx] at h;simp only[Bool.and_eq_true,beq_iff_eq] at h
  cases hd:(layP 0 t)[7]? with
  | none=>rw[hd] at h;simp at h
  | some d=>
   rw[hd] at h;exact⟨t,d,rfl,h.1,hd,by simpa using h.2⟩
theorem zn7 (w:World)(hT:Tabl w):Calls Tryz.prog 6 #[] w fun e w'=>e=.returned (.bool true)∧Below w.heap.size w w':=by
 have U:Hid (∀ W,Below w.heap.size w W->Tabl W):=fun W hb=>zcm hb.block hT;clear hT
 go_enter Tryz.func6,Tryz.ntmps6
 go_wp2_with fail
 refine(zoq w ⟨wkB.toArray⟩ (U w (Yb _ _))).mono ?_;rintro e W ⟨V,y⟩;obtain⟨t,d,D,K,hd,E⟩:=z0x;rw[show txtO (ByteArray.data ⟨wkB.toArray⟩).toList=.inr t from D] at y;obtain⟨v,rfl,N,S,F,hR,-⟩:=y;obtain⟨sp,cap,rfl,C,-⟩:=OwnG.rows elN F;have I:N.length=10:=by rw[hR.1,K]
 obtain⟨b,o,rfl,-⟩:=C (by omega);obtain⟨m,y⟩:∃ m,N[7]?=some m:=⟨_,Yh (by omega)⟩;have M:=(za5 C y).1;rw[(hR.at y hd).1.1,E] at M;have lb:b<W.heap.size:=block_lt_of_cell M;rw[I];have A:=J V;clear F hR C I y V D K hd E U;have Z:kepB ⟨#[105,102]⟩=true:=by kernel_rfl
 go_wp2_with (go_at_call 11;refine(zoi _ _).mono ?_;rintro e aa ⟨rfl,Y⟩;rw[Z])
 have X:Below w.heap.size w ((W.alloc (Obj.cells #[.slice (some ⟨b,o,none⟩) 10 cap] 25)).alloc (Obj.cells #[.int .i64 0,.int .i64 0] 28)):=(A.out.alloc A.out.size _).alloc (by simp;exact Nat.le_succ_of_le A.out.size) _
 go_ret
 exact⟨rfl,X.trans (Y.mono X.size)⟩
def ndEqP (pl:Bool) (a b:Nd):Bool:=ndEq a b && (!pl || ((a.pos == b.pos) && (a.frm == b.frm) && (a.to == b.to)))
theorem zxe (a b:Nd):ndEqP false a b=ndEq a b:=by simp[ndEqP]
theorem zve (L K:List Nd):eqAll (ndEqP false) L K=eqAll ndEq L K:=by
 congr 1
 funext a b
 exact zxe a b
def ndHd (pl:Bool) (a b:Nd):Bool:=(a.kind == b.kind) && (a.text.toList == b.text.toList) && (a.num == b.num) && (a.kids.length == b.kids.length) && (!pl || ((a.pos == b.pos) && (a.frm == b.frm) && (a.to == b.to)))
section
variable {a b:Nd}(pl:Bool)
theorem zpo:ndEqP pl a b=(ndHd pl a b && (a.kids == b.kids)):=by
 cases hk:(a.kids == b.kids)
 ·simp[ndEqP,ndEq,hk]
 ·have e:a.kids=b.kids:=by simpa using hk
  simp[ndEqP,ndEq,ndHd,e]
theorem nq_d (h:¬ a.kids=b.kids):ndEqP pl a b=false:=by simp[ndEqP,ndEq,(show(a.kids == b.kids)=false by simpa using h)]
theorem hd_k (h:(a.kind != b.kind)=true):ndHd pl a b=false:=by simp[ndHd,(show(a.kind == b.kind)=false by simpa using h)]
theorem hd_x (h:(a.text.toList != b.text.toList)=true):ndHd pl a b=false:=by simp[ndHd,(show(a.text.toList == b.text.toList)=false by simpa using h)]
theorem hd_n (h:(a.num != b.num)=true):ndHd pl a b=false:=by simp[ndHd,(show(a.num == b.num)=false by simpa using h)]
theorem hd_l (h:((a.kids.length:Int) != b.kids.length)=true):ndHd pl a b=false:=by
 have y:(a.kids.length == b.kids.length)=false:=beq_eq_false_iff_ne.2 fun e=>by rw[e] at h;simp at h
 simp[ndHd,y]
theorem hd_p (h:(a.pos != b.pos)=true):ndHd true a b=false:=by simp[ndHd,(show(a.pos == b.pos)=false by simpa using h)]
theorem hd_f (h:(a.frm != b.frm)=true):ndHd true a b=false:=by simp[ndHd,(show(a.frm == b.frm)=false by simpa using h)]
theorem hd_t (h:(a.to != b.to)=true):ndHd true a b=false:=by simp[ndHd,(show(a.to == b.to)=false by simpa using h)]
theorem hd_y (h1:(a.kind != b.kind)=false)(h2:(a.text.toList == b.text.toList)=true)(h3:(a.num != b.num)=false)(h4:((a.kids.length:Int) != b.kids.length)=false):ndHd false a b=true:=by
 have A:(a.kind == b.kind)=true:=by simpa using h1
 have y:(a.num == b.num)=true:=by simpa using h3
 have D:(a.kids.length:Int)=b.kids.length:=by simpa using h4
 have C:(a.kids.length == b.kids.length)=true:=by rw[Int.ofNat.inj D];simp
 unfold ndHd;rw[A,h2,y,C];rfl
theorem z4y (h1:(a.kind != b.kind)=false)(h2:(a.text.toList == b.text.toList)=true)(h3:(a.num != b.num)=false)(h4:((a.kids.length:Int) != b.kids.length)=false)(h5:(a.pos != b.pos)=false)(h6:(a.frm != b.frm)=false)(h7:(a.to != b.to)=false):ndHd true a b=true:=by
 have e:=hd_y h1 h2 h3 h4;have C:(a.pos == b.pos)=true:=by simpa using h5
 have y:(a.frm == b.frm)=true:=by simpa using h6
 have A:(a.to == b.to)=true:=by simpa using h7
 unfold ndHd at e ⊢;rw[C,y,A];simpa using e
variable {pl}
theorem z3z (h:ndHd pl a b=true):a.kids.length=b.kids.length:=by
 unfold ndHd at h;simp only[Bool.and_eq_true,beq_iff_eq] at h;exact h.1.2
end
set_option maxHeartbeats 40000000 in
theorem zn8 (pl:Bool)(sp tp:Option Addr)(c1 c2:Nat) (N M:List NdM) (S T:Nat->Prop) (L K:List Nd)(w:World)(h1:RowsAt w 7 NdM.cells sp N)(r1:Rep w S N L)(h2:RowsAt w 7 NdM.cells tp M)(r2:Rep w T M K)
  (hl:L.length<=1000000) (hk:K.length<=1000000) (kl:∀ d ∈ L,d.kids.length<=1000000) (kk:∀ d ∈ K,d.kids.length<=1000000) :
  Calls Tryz.prog 10 #[.agg #[.slice sp L.length c1],.agg #[.slice tp K.length c2],.bool pl] w fun e w'=>e=.returned (.bool (eqAll (ndEqP pl) L K))∧Below w.heap.size w w':=by
 have H1:=J h1;have H2:=J h2;have R1:Hid (Rep w S N L):=r1;have R2:Hid (Rep w T M K):=r2;have KL:Hid (∀ d ∈ L,d.kids.length<=1000000):=kl;have KK:Hid (∀ d ∈ K,d.kids.length<=1000000):=kk;clear h1 h2 r1 r2 kl kk
 by_cases hlen:L.length=K.length
 ·have aw:Hid (eqAll (ndEqP pl) L K=true ↔ ∀ (i:Nat) a b,L[i]?=some a->K[i]?=some b->ndEqP pl a b=true):=zd4 hlen;have aA:((L.length:Int) != (K.length:Int))=false:=by simp;omega
  have av:=J hlen;clear hlen
  go_enter Tryz.func10,Tryz.ntmps10
  go_wp2
  refine zdq (fun W=>W.heap[w.heap.size]?=some (.cells #[.slice sp L.length c1] 25 (0,0))∧W.heap[w.heap.size+1]?=some (.cells #[.slice tp K.length c2] 25 (0,0))∧Below w.heap.size w W) ?_ ?_
  ·have n0:=Yd w (.cells #[.slice sp L.length c1] 25);have Z:=Yd (w.alloc (.cells #[.slice sp L.length c1] 25)) (.cells #[.slice tp K.length c2] 25);simp only[World.size_alloc] at Z;exact⟨(Yn _ _ _ (by simp)).trans n0,Z,((Yb _ _).alloc (Ya _) _).alloc (by simp) _⟩
  rintro W0 ⟨ai,ac,ah⟩;have ak:Hid (∀ W,Below W0.heap.size W0 W->W.heap[w.heap.size]?=some (.cells #[.slice sp L.length c1] 25 (0,0))∧W.heap[w.heap.size+1]?=some (.cells #[.slice tp K.length c2] 25 (0,0))∧Below w.heap.size w W):=fun W C=>⟨(C.block _ (zaa ai)).trans ai,(C.block _ (zaa ac)).trans ac,ah.trans (C.mono ah.size)⟩;clear ai ac ah
  go_loopw [7] (fun i wr=>∃ t:Nat,t<=L.length∧i=.int .i64 t∧Below W0.heap.size W0 wr∧∀ (j:Nat) (a b:Nd),j<t->L[j]?=some a->K[j]?=some b->ndEqP pl a b=true) (fun i _=>L.length - (intOf i).toNat)
  case atStart=>exact⟨0,Yk _,rfl,Yb _ _,fun j a b hj=>by omega⟩
  case round=>
   obtain⟨t,ht,rfl,hB,A⟩:=hrel;have HZ:=J A;obtain⟨q0,q1,q2⟩:=ak.out wr hB;have HB:=J hB;have p0:wr.cell? ⟨w.heap.size,0,none⟩=some (.slice sp L.length c1):=Yp 0 q0 rfl;have p1:wr.cell? ⟨w.heap.size+1,0,none⟩=some (.slice tp K.length c2):=Yp 0 q1 rfl;have s0:w.heap.size<wr.heap.size:=zaa q0;have s1:w.heap.size+1<wr.heap.size:=zaa q1;have af:Hid (Below w.heap.size w wr):=q2;clear A hB q0 q1 q2
   by_cases hlt:t<L.length
   ·have aB:t<K.length:=by have:=av.out;omega
    have aH:N.length=L.length:=R1.out.1;have aI:M.length=K.length:=R2.out.1;have hd:decide ((t:Int)<L.length)=true:=by simp;omega
    have aN:decide ((t:Int)<K.length)=true:=by simp;omega
    obtain⟨b1,f1,rfl,-⟩:=H1.out (by omega);obtain⟨b2,f2,rfl,-⟩:=H2.out (by omega);obtain⟨x,hx⟩:∃ x,N[t]?=some x:=⟨_,Yh (by omega)⟩;obtain⟨y,hy⟩:∃ y,M[t]?=some y:=⟨_,Yh (by omega)⟩;obtain⟨a,D⟩:∃ a,L[t]?=some a:=⟨_,Yh hlt⟩;obtain⟨b,C⟩:∃ b,K[t]?=some b:=⟨_,Yh aB⟩;obtain⟨k0,k1,k2,k3,k4,k5,k6⟩:=za5 (RowsAt.below H1 af) hx;obtain⟨l0,l1,l2,l3,l4,l5,l6⟩:=za5 (RowsAt.below H2 af) hy;have A1:Hid (NdAt w x a):=R1.out.at hx D;have A2:Hid (NdAt w y b):=R2.out.at hy C;have kx:a.kids.length<=1000000:=KL.out a (Ym D);have ky:b.kids.length<=1000000:=KK.out b (Ym C);have HX:=J D;have HY:=J C;have aG:b1<wr.heap.size:=block_lt_of_cell k0;have aK:b2<wr.heap.size:=block_lt_of_cell l0;clear D C hx hy;obtain⟨xk,xx,xn,I,aL,V,xa,xf,xt⟩:=x;obtain⟨yk,yx,yn,ys,aM,U,ya,yf,yt⟩:=y;obtain⟨⟨e1,e2,e3,e4,e5,e6⟩,e7,g1⟩:=A1.out;obtain⟨⟨i1,i2,i3,i4,i5,i6⟩,i7,g2⟩:=A2.out
    dsimp only at e1 e2 e3 e4 e5 e6 e7 i1 i2 i3 i4 i5 i6 i7 g1 g2 k0 k1 k2 k3 k4 k5 k6 l0 l1 l2 l3 l4 l5 l6
    subst e1 e2 e3 e4 e5 e6 e7 i1 i2 i3 i4 i5 i6 i7;have G1:Hid (RowsAt w 1 intC I a.kids):=g1;have G2:Hid (RowsAt w 1 intC ys b.kids):=g2;clear g1 g2 A1 A2;have ab:Hid (ndEqP pl a b=false->eqAll (ndEqP pl) L K=false):=fun h=>zkl HX HY h;have au:Hid (ndEqP pl a b=true->∀ (j:Nat) (a b:Nd),j<t+1->L[j]?=some a->K[j]?=some b->ndEqP pl a b=true):=fun hq j a' b' hj D C=>by
     by_cases hjt:j<t
     ·exact HZ j a' b' hjt D C
     ·obtain rfl:j=t:=by omega
      rw[HX.out] at D;rw[HY.out] at C;injection D with D;injection C with C;rw[<-D,<-C];exact hq
    go_upto_region 6 with fail
    go_cut [8,9] (fun px py wc=>∃ E F:Nat,px=.pointer (some ⟨E,0,none⟩)∧py=.pointer (some ⟨F,0,none⟩)∧wc.heap[E]?=some (.cells #[.int .i64 a.kind,.string a.text,.int .i64 a.num,.slice I a.kids.length V,.int .i64 a.pos,.int .i64 a.frm,.int .i64 a.to] 53 (0,0))∧wc.heap[F]?=some (.cells #[.int .i64 b.kind,.string b.text,.int .i64 b.num,.slice ys b.kids.length U,.int .i64 b.pos,.int .i64 b.frm,.int .i64 b.to] 53 (0,0))∧Below wr.heap.size wr wc)
    case first=>
     go_region
     focus (
      go_wp2_with fail
      go_meet
      case rel=>
       have n0:=Yd wr (.cells #[.int .i64 a.kind,.string a.text,.int .i64 a.num,.slice I a.kids.length V,.int .i64 a.pos,.int .i64 a.frm,.int .i64 a.to] 53);have Z:=Yd (wr.alloc (.cells #[.int .i64 a.kind,.string a.text,.int .i64 a.num,.slice I a.kids.length V,.int .i64 a.pos,.int .i64 a.frm,.int .i64 a.to] 53)) (.cells #[.int .i64 b.kind,.string b.text,.int .i64 b.num,.slice ys b.kids.length U,.int .i64 b.pos,.int .i64 b.frm,.int .i64 b.to] 53);simp only[World.size_alloc] at Z;exact⟨_,_,rfl,rfl,(Yn (wr.alloc (.cells #[.int .i64 a.kind,.string a.text,.int .i64 a.num,.slice I a.kids.length V,.int .i64 a.pos,.int .i64 a.frm,.int .i64 a.to] 53)) (.cells #[.int .i64 b.kind,.string b.text,.int .i64 b.num,.slice ys b.kids.length U,.int .i64 b.pos,.int .i64 b.frm,.int .i64 b.to] 53) wr.heap.size (by simp)).trans n0,Z,(((Yb wr.heap.size wr).alloc (Ya _) (.cells #[.int .i64 a.kind,.string a.text,.int .i64 a.num,.slice I a.kids.length V,.int .i64 a.pos,.int .i64 a.frm,.int .i64 a.to] 53)).alloc (by simp) (.cells #[.int .i64 b.kind,.string b.text,.int .i64 b.num,.slice ys b.kids.length U,.int .i64 b.pos,.int .i64 b.frm,.int .i64 b.to] 53)).drew⟩)
     focus (
      go_wp2_with fail
      go_meet
      case rel=>
       have n0:=Yd wr (.cells #[.int .i64 b.kind,.string b.text,.int .i64 b.num,.slice ys b.kids.length U,.int .i64 b.pos,.int .i64 b.frm,.int .i64 b.to] 53);have Z:=Yd (wr.alloc (.cells #[.int .i64 b.kind,.string b.text,.int .i64 b.num,.slice ys b.kids.length U,.int .i64 b.pos,.int .i64 b.frm,.int .i64 b.to] 53)) (.cells #[.int .i64 a.kind,.string a.text,.int .i64 a.num,.slice I a.kids.length V,.int .i64 a.pos,.int .i64 a.frm,.int .i64 a.to] 53);simp only[World.size_alloc] at Z;exact⟨_,_,rfl,rfl,Z,(Yn (wr.alloc (.cells #[.int .i64 b.kind,.string b.text,.int .i64 b.num,.slice ys b.kids.length U,.int .i64 b.pos,.int .i64 b.frm,.int .i64 b.to] 53)) (.cells #[.int .i64 a.kind,.string a.text,.int .i64 a.num,.slice I a.kids.length V,.int .i64 a.pos,.int .i64 a.frm,.int .i64 a.to] 53) wr.heap.size (by simp)).trans n0,(((Yb wr.heap.size wr).alloc (Ya _) (.cells #[.int .i64 b.kind,.string b.text,.int .i64 b.num,.slice ys b.kids.length U,.int .i64 b.pos,.int .i64 b.frm,.int .i64 b.to] 53)).alloc (by simp) (.cells #[.int .i64 a.kind,.string a.text,.int .i64 a.num,.slice I a.kids.length V,.int .i64 a.pos,.int .i64 a.frm,.int .i64 a.to] 53)).drew⟩)
    case rest=>
     obtain⟨E,F,rfl,rfl,Y,X,ap⟩:=hcut;have ao:=J (HB.out.trans (ap.mono HB.out.size));have aa:Hid (Below w.heap.size w wc):=(ak _ ao).2.2;clear k0 k1 k2 k3 k4 k5 k6 l0 l1 l2 l3 l4 l5 l6 p0 p1 ap;have x0:wc.cell? ⟨E,0,none⟩=some (.int .i64 a.kind):=Yp 0 Y rfl;have x1:wc.cell? ⟨E,1,none⟩=some (.string a.text):=Yp 1 Y rfl;have x2:wc.cell? ⟨E,2,none⟩=some (.int .i64 a.num):=Yp 2 Y rfl;have x3:wc.cell? ⟨E,3,none⟩=some (.slice I a.kids.length V):=Yp 3 Y rfl;have x4:wc.cell? ⟨E,4,none⟩=some (.int .i64 a.pos):=Yp 4 Y rfl;have x5:wc.cell? ⟨E,5,none⟩=some (.int .i64 a.frm):=Yp 5 Y rfl;have x6:wc.cell? ⟨E,6,none⟩=some (.int .i64 a.to):=Yp 6 Y rfl;have y0:wc.cell? ⟨F,0,none⟩=some (.int .i64 b.kind):=Yp 0 X rfl;have y1:wc.cell? ⟨F,1,none⟩=some (.string b.text):=Yp 1 X rfl;have y2:wc.cell? ⟨F,2,none⟩=some (.int .i64 b.num):=Yp 2 X rfl;have y3:wc.cell? ⟨F,3,none⟩=some (.slice ys b.kids.length U):=Yp 3 X rfl;have y4:wc.cell? ⟨F,4,none⟩=some (.int .i64 b.pos):=Yp 4 X rfl;have y5:wc.cell? ⟨F,5,none⟩=some (.int .i64 b.frm):=Yp 5 X rfl;have y6:wc.cell? ⟨F,6,none⟩=some (.int .i64 b.to):=Yp 6 X rfl;clear Y X
     go_upto_region 7 with fail
     go_cut [86] (fun z W=>W=wc∧z=.bool (!ndHd pl a b))
     case first=>
      cases c1:(a.kind != b.kind)
      rotate_left
      focus (
       have A:(!ndHd pl a b)=true:=by rw[hd_k pl c1];rfl
       go_wp2
       go_meet
       case rel=>exact⟨rfl,by rw[A]⟩)
      cases q2:(a.text.toList == b.text.toList)
      focus (
       have c2:(a.text.toList != b.text.toList)=true:=by rw[bne,q2];rfl
       have A:(!ndHd pl a b)=true:=by rw[hd_x pl c2];rfl
       go_wp2
       go_meet
       case rel=>exact⟨rfl,by rw[A]⟩)
      have c2:(a.text.toList != b.text.toList)=false:=by rw[bne,q2];rfl
      cases c3:(a.num != b.num)
      rotate_left
      focus (
       have A:(!ndHd pl a b)=true:=by rw[hd_n pl c3];rfl
       go_wp2
       go_meet
       case rel=>exact⟨rfl,by rw[A]⟩)
      cases c4:((a.kids.length:Int) != b.kids.length)
      rotate_left
      focus (
       have A:(!ndHd pl a b)=true:=by rw[hd_l pl c4];rfl
       go_wp2
       go_meet
       case rel=>exact⟨rfl,by rw[A]⟩)
      cases pl
      focus (
       have A:(!ndHd false a b)=false:=by rw[hd_y c1 q2 c3 c4];rfl
       go_wp2
       go_meet
       case rel=>exact⟨rfl,by rw[A]⟩)
      cases c5:(a.pos != b.pos)
      rotate_left
      focus (
       have A:(!ndHd true a b)=true:=by rw[hd_p c5];rfl
       go_wp2
       go_meet
       case rel=>exact⟨rfl,by rw[A]⟩)
      cases c6:(a.frm != b.frm)
      rotate_left
      focus (
       have A:(!ndHd true a b)=true:=by rw[hd_f c6];rfl
       go_wp2
       go_meet
       case rel=>exact⟨rfl,by rw[A]⟩)
      cases c7:(a.to != b.to)
      rotate_left
      focus (
       have A:(!ndHd true a b)=true:=by rw[hd_t c7];rfl
       go_wp2
       go_meet
       case rel=>exact⟨rfl,by rw[A]⟩)
      have A:(!ndHd true a b)=false:=by rw[z4y c1 q2 c3 c4 c5 c6 c7];rfl
      go_wp2
      go_meet
      case rel=>exact⟨rfl,by rw[A]⟩
     case rest=>
      obtain⟨rfl,rfl⟩:=hcut;clear x0 x1 x2 x4 x5 x6 y0 y1 y2 y4 y5 y6
      cases hh:ndHd pl a b
      ·have HN:Hid (eqAll (ndEqP pl) L K=false):=ab.out (by rw[zpo,hh];rfl)
       go_wp2
       go_ret
       exact⟨zay HN.out.symm,aa.out⟩
      have az:Hid (a.kids=b.kids->ndEqP pl a b=true):=fun e=>by rw[zpo,hh,e];simp
      have ar:Hid (a.kids.length=b.kids.length):=z3z hh
      go_wp2
      go_loopw [10] (fun k aC=>∃ q n:Nat,q<=a.kids.length∧k=.int .i64 q∧aC=wc.drewN n∧∀ j,j<q->a.kids[j]?=b.kids[j]?) (fun k _=>a.kids.length - (intOf k).toNat)
      case atStart=>exact⟨0,0,Yk _,rfl,rfl,fun j hj=>by omega⟩
      case round=>
       obtain⟨q,n,hq,rfl,rfl,al⟩:=hrel;have am:=J al;clear al
       by_cases hlt3:q<a.kids.length
       ·have aj:q<b.kids.length:=by have:=ar.out;omega
        have aE:decide ((q:Int)<a.kids.length)=true:=by simp;omega
        have aF:decide ((q:Int)<b.kids.length)=true:=by simp;omega
        have g1:=G1.out.below aa;have g2:=G2.out.below aa;obtain⟨bx,ox,rfl,-⟩:=g1 (by omega);obtain⟨aJ,oy,rfl,-⟩:=g2 (by omega);have z1:=zda g1 q (by simpa using hlt3);have z2:=zda g2 q (by simpa using aj);obtain⟨ka,ag⟩:∃ ka,a.kids[q]?=some ka:=⟨_,Yh hlt3⟩;obtain⟨kb,ae⟩:∃ kb,b.kids[q]?=some kb:=⟨_,Yh aj⟩;rw[List.getD_eq_getElem?_getD,List.getElem?_map,ag] at z1;rw[List.getD_eq_getElem?_getD,List.getElem?_map,ae] at z2;simp only[Option.map_some,Option.getD_some] at z1 z2;have aq:=J ag;have an:=J ae;clear ag ae g1 g2
        cases c8:((ka:Int) != kb)
        ·have aD:Hid (∀ j,j<q+1->a.kids[j]?=b.kids[j]?):=fun j hj=>by
          by_cases hjq:j<q
          ·exact am j hjq
          ·obtain rfl:j=q:=by omega
           have h8:(ka:Int)=kb:=by simpa using c8
           have:ka=kb:=Int.ofNat.inj h8;rw[aq.out,an.out,this]
         go_wp2
         go_quiet (fail)
         go_wp2
         exact⟨⟨q+1,n+nq,by omega,by go_num,rfl,aD.out⟩,by simp[intOf];omega⟩
        ·have HN:Hid (eqAll (ndEqP pl) L K=false):=ab.out (nq_d pl fun e=>by
          have h1:=aq.out;rw[e,an.out] at h1;injection h1 with h1;rw[h1] at c8;simp at c8)
         go_wp2
         go_quiet (fail)
         go_wp2
         go_ret
         exact⟨zay HN.out.symm,aa.out.trans (by first|exact zc8 _ _|(rw[zd7];exact zc8 _ _))⟩
       ·have aE:decide ((q:Int)<a.kids.length)=false:=by simp;omega
        have HE:Hid (a.kids=b.kids):=List.ext_getElem? fun j=>by
         by_cases hj:j<q
         ·exact am j hj
         ·rw[List.getElem?_eq_none (by omega),List.getElem?_eq_none (by have:=ar.out;omega)]
        have ax:Hid (∀ (j:Nat) (a b:Nd),j<t+1->L[j]?=some a->K[j]?=some b->ndEqP pl a b=true):=au.out (az HE)
        go_wp2
        exact⟨⟨t+1,by omega,by go_num,ao.out.trans (zc8 _ _),ax.out⟩,by simp[intOf];omega⟩
   ·have hd:decide ((t:Int)<L.length)=false:=by simp;omega
    have ay:Hid (eqAll (ndEqP pl) L K=true):=aw.out.2 fun j a b D C=>HZ.out j a b (by have:=(List.getElem?_eq_some_iff.1 D).1;omega) D C
    go_wp2
    go_ret
    exact⟨zay ay.out.symm,af.out⟩
 ·have aA:((L.length:Int) != (K.length:Int))=true:=by simp;omega
  have ab:Hid (eqAll (ndEqP pl) L K=false):=zkk hlen
  go_enter Tryz.func10,Tryz.ntmps10
  go_wp2
  go_ret
  exact⟨zay ab.out.symm,((Yb _ _).alloc (Ya _) _).alloc (by simp) _⟩
theorem zrc (w:World)(st:Option Addr)(cap:Nat)(ts:List Tok)(hr:RowsT w st ts)(few:ts.length<=100000)(ok:∀ t ∈ ts,-1000000000000000000<=t.pos∧t.pos<=1000000000000000000∧t.text.size<=100000)(h1:chkO ts=0)(h2:risB (-1) ts=true) :
  Calls Tryz.prog 9 #[.slice st ts.length cap] w (PrP w (parO ts)):=by
 obtain⟨v,s,A,D,y⟩:=z0f (z3f h1);rw[z0g h1 h2 D y];exact zw9 w st cap ts hr few ok v s A (fun h=>zr9 (y h)) fun _ _ _ _ _ _ C h=>zrb C h
set_option maxHeartbeats 16000000 in
theorem zjh (x:ByteArray)(sp:Option Addr)(cap:Nat)(us:List TuM)(w:World)(hr:RowsAt w 4 TuM.cells sp us)(hlm:us.length<=maxLen)(hus:∀ u ∈ us,u.x.size<=maxLen∧-9223372036854775808<=u.n∧u.n<=9223372036854775807)(hT:Tabl w)(hP:TabP w) :
  Calls Tryz.prog 5 #[.string x,.slice sp us.length cap] w fun e w'=>e=.returned (.bool true)∧Below w.heap.size w w':=by
 have HT:Hid (∀ W,Below w.heap.size w W->Tabl W):=J fun W K=>zcm K.block hT;have HP:Hid (∀ W,Below w.heap.size w W->TabP W):=J fun W K=>hP.low K;have HR:Hid (∀ W,Below w.heap.size w W->RowsAt W 4 TuM.cells sp us):=J fun W K=>zbn K.block hr;have bn:us.length<=9223372036854775807:=hlm;have aQ:=J hus;clear hT hP hr hus hlm
 go_enter Tryz.func5,Tryz.ntmps5
 go_wp2_with fail
 refine(zn7 w (HT w (Yb _ _))).mono ?_;rintro e W1 ⟨rfl,b1⟩;have af:=J b1;clear b1
 by_cases z1:(x.size:Int) > 6000
 ·go_wp2
  go_ret
  exact⟨rfl,af.out⟩
 go_wp2_with fail
 refine(zoq W1 x (HT W1 af)).mono ?_;rintro e y h2;obtain⟨b2,v2,rfl,E⟩:=zxm h2;obtain⟨s2,c2,rfl⟩:=E.shape;have ac:=J (af.out.trans (b2.mono af.out.size));have ar:=J (z0k E);have aD:(trO (txtO x.data.toList)).length=((trO (txtO x.data.toList)).map toZ).length:=by rw[List.length_map]
 rw[aD];generalize (trO (txtO x.data.toList)).map toZ=Z2 at ar ⊢;generalize (spO (txtO x.data.toList)).1=sa;generalize (spO (txtO x.data.toList)).2=sb;have a2:=J ac.out.size;clear h2 b2 E aD af z1
 go_upto_block 0 with fail
 refine zdq (fun W=>Wf w y.heap.size s2 c2 Z2 2048 W) ?_ ?_
 ·have K:=((Yb y.heap.size y).alloc (Ya _) (.cells #[.slice s2 Z2.length c2] 25)).alloc (by simp) (.cells #[.int .i64 sa,.int .i64 sb] 28);exact⟨ac.out.trans (K.mono ac.out.size),zfa _ _ _,ar.out.below K⟩
 intro W3 f3;have ax:=J f3;clear f3 ar ac
 go_cut [] (fun wc=>∃ (s:Option Addr) (c:Nat) (Z:List NdZ),Wf w y.heap.size s c Z 2100 wc)
 case first=>
  go_wp2_with fail
  go_loopw [28] (fun i wr=>∃ (q:Nat) (s:Option Addr) (c:Nat) (Z:List NdZ),q<=us.length∧q<=4∧i=.int .i64 q∧Wf w y.heap.size s c Z (2048+q) wr) (fun i _=>us.length - (intOf i).toNat)
  case atStart=>exact⟨0,s2,c2,Z2,Yk _,Yk _,rfl,ax.out⟩
  case round=>
   clear ax;obtain⟨q,s,c,Z,hq,bo,rfl,X⟩:=hrel;have C:=J X;have lb:=zaa X.r;have c0:wr.cell? ⟨y.heap.size,0,none⟩=some (.slice s Z.length c):=Yp 0 X.r rfl;have z0:wr.frozen? ⟨y.heap.size,0,none⟩=false:=Yj _ _ _ _ _ X.r;clear X
   by_cases hlt:q<us.length
   ·have hd:decide ((q:Int)<us.length)=true:=by simp;omega
    obtain⟨b,o,rfl,-⟩:=HR.out wr C.out.bl (by omega);obtain⟨u,hu⟩:∃ u,us[q]?=some u:=⟨_,Yh (by omega)⟩;obtain⟨k0,k1,k2,k3⟩:=zuv (HR wr C.out.bl) hu;have aw:=aQ.out u (Ym hu);have bs:u.x.size<=9223372036854775807:=aw.1;have a5:=J aw.2;clear hu aw;have aY:Below wr.heap.size wr (wr.alloc (.cells #[.int .i64 u.node,.int .i64 u.field,.int .i64 u.n,.string u.x] 43)):=(Yb _ _).alloc (Ya _) _;have ag:=J (C.out.below aY);clear aY
    by_cases q4:q=4
    ·have a6:((q:Int) == 4)=true:=by rw[q4];rfl
     clear q4
     go_wp2
     go_meet
     case rel=>exact⟨_,_,_,ag.out.mono (by omega)⟩
    ·have a6:((q:Int) == 4)=false:=by rw[beq_eq_false_iff_ne];omega
     by_cases g2:(u.x.size:Int) > 500
     ·go_wp2
      go_meet
      case rel=>exact⟨_,_,_,ag.out.mono (by omega)⟩
     ·go_wp2_with fail
      refine(zqk ag.out.t (by omega) u.node u.field u.n u.x (by omega) a5.out).mono ?_;rintro e W5 ⟨s5,c5,Z5,rfl,h5,I⟩;have ba:=J (ag.out.put a2 I h5);have r5:=(ag.out.below I).r;have l5:=zaa r5;have bl:W5.cell? ⟨y.heap.size,0,none⟩=some (.slice s Z.length c):=Yp 0 r5 rfl;have z5:W5.frozen? ⟨y.heap.size,0,none⟩=false:=Yj _ _ _ _ _ r5;clear I h5 c0 z0 k0 k1 k2 k3 r5 lb
      go_wp2
      exact⟨⟨q+1,s5,c5,Z5,by omega,by omega,by congr 1,ba.out⟩,by simp[intOf];omega⟩
   ·have hd:decide ((q:Int)<us.length)=false:=by simp;omega
    go_wp2
    go_meet
    case rel=>exact⟨_,_,_,C.out.mono (by omega)⟩
 case rest=>
  obtain⟨s,c,Z,X⟩:=hcut;have C:=J X;have lb:=zaa X.r;have c0:wc.cell? ⟨y.heap.size,0,none⟩=some (.slice s Z.length c):=Yp 0 X.r rfl;have bb:Z.length<=2048:=X.t.l;clear X ax
  by_cases hA:∃ t,Z=(layP 0 t).map toZ∧TrW t
  rotate_left
  focus (
   have ao:Hid (∀ t,Z=(layP 0 t).map toZ->¬ TrW t):=J fun t e h=>hA ⟨t,e,h⟩;have ah:Hid (∀ W,Wf w y.heap.size s c Z 2100 W->Calls Tryz.prog 17 #[.agg #[.slice s Z.length c]] W fun e w'=>e=.returned (.int .i64 211)∧Below W.heap.size W w'):=J fun W h=>zmm (HT W h.bl) (HP W h.bl) h.t.e h.t.s ao;have ai:Hid (∀ W,Wf w y.heap.size s c Z 2100 W->Calls Tryz.prog 18 #[.agg #[.slice s Z.length c]] W fun e w'=>e=.returned (.int .i64 0)∧Below W.heap.size W w'):=J fun W h=>zs8 (HT W h.bl) (HP W h.bl) h.t.e h.t.s ao;clear hA
   go_wp2_with fail
   refine(zqq (HT wc C.out.bl) (HP wc C.out.bl) C.out.t.e C.out.t.s ao).mono ?_;rintro e W4 ⟨rfl,b4⟩;have F:Wf w y.heap.size s c Z 2100 W4.drew:=(C.out.below b4).below (Yb _ _).drew;clear b4 c0 lb
   go_upto_region 13 with fail
   refine zbc (S:=Wf w y.heap.size s c Z 2100) 6 rfl (by kernel_rfl) ?_;refine zhv 0 50 25 (.tmp 5) rfl y.heap.size 25 #[.slice s Z.length c] (0,0) rfl (by kernel_rfl) (fun _ _ _ h=>h) _ (fun w' V=>V.r) Tryz.underlying25 rfl (by kernel_rfl) F ?_;simp only[sI,sS,sZ];refine zhv 2 52 25 (.tmp 5) rfl y.heap.size 25 #[.slice s Z.length c] (0,0) rfl (by kernel_rfl) (fun _ _ _ h=>h) _ (fun w' V=>V.r) Tryz.underlying25 rfl (by kernel_rfl) F ?_;simp only[sI,sS,sZ];refine zac 1 rfl (by kernel_rfl) ?_
   go_simp
   refine(ah _ F).mono ?_;rintro e W5 ⟨rfl,I⟩;have U:=F.below I;refine⟨U,?_⟩
   try simp only[Act.put,sI,sS,sZ]
   refine zac 3 rfl (by kernel_rfl) ?_
   go_simp
   refine(ai _ U).mono ?_;rintro e W6 ⟨rfl,Y⟩;have A:=U.below Y;refine⟨A,?_⟩
   try simp only[Act.put,sI,sS,sZ]
   refine zal 4 11 (.int .i64 211) rfl (by kernel_rfl) (fun _ _ _ h=>h) (fun w' _=>by first|rfl|go_simp) A ?_;simp only[sI,sS,sZ];refine zal 5 12 (.int .i64 0) rfl (by kernel_rfl) (fun _ _ _ h=>h) (fun w' _=>by first|rfl|go_simp) A ?_;simp only[sI,sS,sZ];refine wpAnyH_done (by kernel_rfl) ?_ _;have aa:=J A.bl;clear F U A I Y
   go_wp2
   go_ret
   exact⟨rfl,aa.out⟩)
  obtain⟨t,hZ,hW⟩:=hA;have ab:Z.length=(layP 0 t).length:=by rw[hZ,List.length_map]
  have ae:∀ W,Wf w y.heap.size s c Z 2100 W->EnW W (.slice s (layP 0 t).length c) (layP 0 t):=fun W h=>h.enw hZ (HT W h.bl);have be:=J ae;have aK:=J ab;obtain⟨D,hD⟩:∃ D,dpF (fun _=>0) 0 0 (layP 0 t)=D:=⟨_,rfl⟩;have ah:Hid (∀ W,Wf w y.heap.size s c Z 2100 W->Calls Tryz.prog 17 #[.agg #[.slice s Z.length c]] W fun e w'=>e=.returned (.int .i64 0)∧Below W.heap.size W w'):=J fun W h=>by
   rw[ab];exact zjt (HP W h.bl) (ae W h) hW
  have ai:Hid (∀ W,Wf w y.heap.size s c Z 2100 W->Calls Tryz.prog 18 #[.agg #[.slice s Z.length c]] W fun e w'=>e=.returned (.int .i64 D)∧Below W.heap.size W w'):=J fun W h=>by
   rw[ab,<-hD];exact zwm (HP W h.bl) (ae W h) hW
  have aU:Hid (1024<(wrP t).length->Calls Tryz.prog 16 #[.agg #[.slice s Z.length c]] wc fun e w'=>e=.returned (.tuple #[.slice none 0 0,.int .i64 3])∧Below wc.heap.size wc w'):=J fun h=>by
   rw[ab];exact znm (HP wc C.out.bl) (ae wc C) hW h
  have aG:Hid ((wrP t).length<=1024->Calls Tryz.prog 16 #[.agg #[.slice s Z.length c]] wc fun e w'=>∃ v',e=.returned (.tuple #[v',.int .i64 0])∧OwnT wc.heap.size w' v' (wrP t)∧Below wc.heap.size wc w'):=J fun h=>by
   rw[ab];exact zqp (HP wc C.out.bl) (ae wc C) hW h
  have aR:Hid ((wrP t).length<=1024->chkO (p30 0 (wrP t))=0∧risB (-1) (p30 0 (wrP t))=true∧∃ E,parO (p30 0 (wrP t))=.inr E∧eqAll ndEq (layP 0 t) (layP 0 E)=true):=J hW.p30;have au:=J (zza t (zxs C.out.t.s hZ));have a4:Hid (∀ d ∈ layP 0 t,d.kids.length<=1000000):=J fun d hd=>by
   have:=(ze3 t 0 d hd).2;have:=hW.n;omega
  have d1:¬ (D<1):=by have:=z3g t;omega
  have d2:¬ (D > 24):=by have:=hW.d;omega
  have a3:decide (D<1)=false:=decide_eq_false d1;have a9:decide (D > 24)=false:=decide_eq_false d2;have d3:¬ ((Z.length:Int) > 2048):=by omega
  clear hZ hW ab ae hD aQ HR
  go_wp2_with fail
  by_cases hl:(wrP t).length<=1024
  rotate_left
  focus (
   refine(aU (by omega)).mono ?_;rintro e W4 ⟨rfl,b4⟩;have F:Wf w y.heap.size s c Z 2100 W4.drew:=(C.out.below b4).below (Yb _ _).drew;clear b4 c0 lb hl
   go_upto_region 13 with fail
   refine zbc (S:=Wf w y.heap.size s c Z 2100) 6 rfl (by kernel_rfl) ?_;refine zhv 0 50 25 (.tmp 5) rfl y.heap.size 25 #[.slice s Z.length c] (0,0) rfl (by kernel_rfl) (fun _ _ _ h=>h) _ (fun w' V=>V.r) Tryz.underlying25 rfl (by kernel_rfl) F ?_;simp only[sI,sS,sZ];refine zhv 2 52 25 (.tmp 5) rfl y.heap.size 25 #[.slice s Z.length c] (0,0) rfl (by kernel_rfl) (fun _ _ _ h=>h) _ (fun w' V=>V.r) Tryz.underlying25 rfl (by kernel_rfl) F ?_;simp only[sI,sS,sZ];refine zac 1 rfl (by kernel_rfl) ?_
   go_simp
   refine(ah _ F).mono ?_;rintro e W5 ⟨rfl,I⟩;have U:=F.below I;refine⟨U,?_⟩
   try simp only[Act.put,sI,sS,sZ]
   refine zac 3 rfl (by kernel_rfl) ?_
   go_simp
   refine(ai _ U).mono ?_;rintro e W6 ⟨rfl,Y⟩;have A:=U.below Y;refine⟨A,?_⟩
   try simp only[Act.put,sI,sS,sZ]
   refine zal 4 11 (.int .i64 0) rfl (by kernel_rfl) (fun _ _ _ h=>h) (fun w' _=>by first|rfl|go_simp) A ?_;simp only[sI,sS,sZ];refine zal 5 12 (.int .i64 D) rfl (by kernel_rfl) (fun _ _ _ h=>h) (fun w' _=>by first|rfl|go_simp) A ?_;simp only[sI,sS,sZ];refine wpAnyH_done (by kernel_rfl) ?_ _;have aa:=J A.bl;have lb:=zaa A.r;have c0:W6.cell? ⟨y.heap.size,0,none⟩=some (.slice s Z.length c):=Yp 0 A.r rfl;clear F U A I Y
   go_wp2
   go_ret
   exact⟨rfl,aa.out⟩)
  refine(aG hl).mono ?_;rintro e W4 ⟨v4,rfl,o4,b4⟩;obtain⟨s4,c4,rfl⟩:=OwnG.shape o4;have F:Wf w y.heap.size s c Z 2100 W4.drew:=(C.out.below b4).below (Yb _ _).drew;have aO:=J (aR hl);have aA:=J o4;have aj:=J b4;clear b4 c0 lb o4 aR aG aU;generalize wrP t=ws at *
  go_upto_region 13 with fail
  refine zbc (S:=Wf w y.heap.size s c Z 2100) 6 rfl (by kernel_rfl) ?_;refine zhv 0 50 25 (.tmp 5) rfl y.heap.size 25 #[.slice s Z.length c] (0,0) rfl (by kernel_rfl) (fun _ _ _ h=>h) _ (fun w' V=>V.r) Tryz.underlying25 rfl (by kernel_rfl) F ?_;simp only[sI,sS,sZ];refine zhv 2 52 25 (.tmp 5) rfl y.heap.size 25 #[.slice s Z.length c] (0,0) rfl (by kernel_rfl) (fun _ _ _ h=>h) _ (fun w' V=>V.r) Tryz.underlying25 rfl (by kernel_rfl) F ?_;simp only[sI,sS,sZ];refine zac 1 rfl (by kernel_rfl) ?_
  go_simp
  refine(ah _ F).mono ?_;rintro e W5 ⟨rfl,I⟩;have U:=F.below I;refine⟨U,?_⟩
  try simp only[Act.put,sI,sS,sZ]
  refine zac 3 rfl (by kernel_rfl) ?_
  go_simp
  refine(ai _ U).mono ?_;rintro e W6 ⟨rfl,Y⟩;have A:=U.below Y;refine⟨A,?_⟩
  try simp only[Act.put,sI,sS,sZ]
  refine zal 4 11 (.int .i64 0) rfl (by kernel_rfl) (fun _ _ _ h=>h) (fun w' _=>by first|rfl|go_simp) A ?_;simp only[sI,sS,sZ];refine zal 5 12 (.int .i64 D) rfl (by kernel_rfl) (fun _ _ _ h=>h) (fun w' _=>by first|rfl|go_simp) A ?_;simp only[sI,sS,sZ];refine wpAnyH_done (by kernel_rfl) ?_ _;have aV:Below wc.heap.size wc W6:=((aj.out.drew).trans (I.mono aj.out.drew.size)).trans (Y.mono (Yo aj.out.drew.size I.size));have aN:=J aV;have aJ:Hid (OwnT wc.heap.size W6 (.slice s4 ws.length c4) ws):=J (((aA.out.keep fun _ _=>rfl:OwnT wc.heap.size W4.drew _ _).below I).below Y);have lb:=zaa A.r;have c0:W6.cell? ⟨y.heap.size,0,none⟩=some (.slice s Z.length c):=Yp 0 A.r rfl;clear F U A I Y aV aA aj ah ai
  go_wp2_with fail
  clear c0 lb d1 d2 a3 a9 d3
  go_loopw [94] (fun i wr=>∃ q:Nat,q<=ws.length∧i=.int .i64 q∧Below wc.heap.size wc wr∧OwnT wc.heap.size wr (.slice s4 ws.length c4) (mxT q ws)) (fun i _=>ws.length - (intOf i).toNat)
  case atStart=>exact⟨0,Yk _,rfl,aN.out,by rw[zw4];exact aJ.out⟩
  case round=>
   obtain⟨q,hq,rfl,K,ho⟩:=hrel;have HB:=J K;have HO:=J ho;clear K ho aN aJ
   by_cases hlt:q<ws.length
   ·have hd:decide ((q:Int)<ws.length)=true:=by simp;omega
    obtain⟨u,hu⟩:∃ u,ws[q]?=some u:=⟨_,Yh (by omega)⟩;have aT:u.pos=0:=(au u (Ym hu)).1;obtain⟨m1,m2⟩:=z0n hu;obtain⟨g,es,a1,bh,kc,kz,av⟩:=OwnG.put elT HO m1 (j:=2) (x':=⟨u.kind,u.text,30 * (q:Int)⟩) (v:=.int .i64 (30 * (q:Int))) (by omega) rfl;rw[m2] at av;subst es;have bm:wr.cell? ⟨g,q * 3+2,none⟩=some (.int .i64 0):=by rw[kc,<-aT];rfl
    have bf:=J av;have ac:Hid (Below wc.heap.size wc (wr.setCell ⟨g,q * 3+2,none⟩ (.int .i64 (30 * (q:Int))))):=J (HB.out.setCell (p:=⟨g,q * 3+2,none⟩) a1 _);clear hu aT m1 m2 av kc
    go_wp2
    exact⟨⟨q+1,by omega,by congr 1,ac.out,bf.out⟩,by simp[intOf];omega⟩
   ·have hd:decide ((q:Int)<ws.length)=false:=by simp;omega
    obtain rfl:q=ws.length:=by omega
    have ho:=HO.out;rw[z0l] at ho;obtain⟨bj,bk,e4,r4,-⟩:=OwnG.rows elT ho;injection e4 with e1 e2 e3;subst e1 e3;have an:Hid (RowsT wr s4 (p30 0 ws)):=J r4;have az:Hid (∀ u ∈ p30 0 ws,-1000000000000000000<=u.pos∧u.pos<=1000000000000000000∧u.text.size<=100000):=J fun u hu=>by
     obtain⟨j,v,hj,rfl⟩:=z0h hu;have h1:=(List.getElem?_eq_some_iff.1 hj).1;have h2:=(au v (Ym hj)).2;exact⟨by show _<=30 * ((0+j:Nat):Int);omega,by show 30 * ((0+j:Nat):Int)<=_;omega,h2⟩
    have aL:(p30 0 ws).length<=100000:=by omega
    have aq:=J aL;obtain⟨q1,q2,E,q3,q4⟩:=aO.out;have am:=J q1;have aF:=J q2;have aX:=J q4;have aP:=J q3;rw[e2];generalize p30 0 ws=ps at *;clear ho r4 e2 q1 q2 q3 q4 aL aO HO hlt hd
    go_wp2_with fail
    refine(zik s4 c4 ps wr an aq).mono ?_;rintro e W7 ⟨rfl,b7⟩;rw[am.out];have ap:=J (HB.out.trans (b7.mono HB.out.size));have aI:=J (an.out.below b7);clear b7 HB an
    go_wp2_with fail
    refine(zrc W7 s4 c4 ps aI aq az am aF).mono ?_;rintro e W9 h9;rw[aP.out] at h9;obtain⟨b9,v9,rfl,t9⟩:=zxm h9;obtain⟨s9,c9,rfl⟩:=t9.shape;have aa:=J (ap.out.trans (b9.mono ap.out.size));have aE:Hid (TrAt W7.heap.size W9 (.slice s9 (layP 0 E).length c9) (layP 0 E)):=J t9;have r9:=(C.out.below aa).r;have lb:=zaa r9;have c0:W9.cell? ⟨y.heap.size,0,none⟩=some (.slice s Z.length c):=Yp 0 r9 rfl;rw[show(trO (.inr E)).length=(layP 0 E).length from rfl];rw[show spO (.inr E)=((0:Int),(0:Int)) from rfl];clear h9 b9 t9 r9 ap aI az aq am aF aP au;generalize aH:(layP 0 E).length=k2 at aE ⊢;have bc:=J aH;clear aH
    try dsimp only
    go_wp2_with fail
    refine zag (fun W=>Wf w y.heap.size s c Z 2100 W∧TrAt W7.heap.size W (.slice s9 k2 c9) (layP 0 E)) ?_ ?_
    ·have K:=((Yb W9.heap.size W9).alloc (Ya _) (.cells #[.slice s9 k2 c9] 25)).alloc (by simp) (.cells #[.int .i64 0,.int .i64 0] 28);exact⟨(C.out.below aa).below K,aE.out.below K⟩
    rintro ay ⟨ak,⟨M,S',aW,aC,-⟩⟩;obtain⟨br,bi,e2,r2,-⟩:=OwnG.rows elN aW;injection e2 with u4 u5 u6;subst u4 u6;obtain⟨bt,bp,N,S,e1,r1,aM⟩:=(be ay ak).x;injection e1 with u1 u2 u3;subst u1 u3;have a0:(layP 0 t).length<=2048:=by rw[<-aK.out];exact bb
    have a7:=zdt aX;have aB:∀ d ∈ layP 0 E,d.kids.length<=1000000:=fun d hd=>by
     have h1:=(ze3 E 0 d hd).2;have h2:=zco E 0;omega
    have al:=J ak.bl;rw[aK.out,<-bc.out];refine(zn8 false s s9 c c9 N M S S' (layP 0 t) (layP 0 E) ay r1 aM r2 aC (by omega) (by omega) a4.out aB).mono ?_;rintro e bq ⟨rfl,aZ⟩;rw[zve,aX.out];have a8:=J (al.out.trans (aZ.mono al.out.size));clear u2 u5 aW aM aC r1 r2 aZ al c0 lb ak a0 a7 aB
    go_wp2
    go_ret
    exact⟨rfl,a8.out⟩
end Go.Proofs.YtmclgbkijeidaaaGreatDoor
