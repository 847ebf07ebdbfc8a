import Derived.Test.YtabiangdmibocaaGreatDoorUnX
import Derived.Test.YtabiangdmibocaaGreatDoorUnE
import Derived.Test.YtabiangdmibocaaGreatDoorUnD
namespace Go.Proofs.YtabiangdmibocaaGreatDoor
set_option maxRecDepth 100000
set_option maxHeartbeats 4000000
open Go.RowKit
theorem zux (os:List (List UInt8))(o:List UInt8):coD (os++[o])=coD os++(if os=[] then o else[44,32]++o):=by
 cases os with
 | nil=>simp[coD]
 | cons a r=>simp[coD]
theorem z4u (os:List (List UInt8))(p:Nat):(coD (os.take p)).length<=(coD os).length:=by
 cases os with
 | nil=>simp[coD]
 | cons a r=>
  cases p with
  | zero=>simp[coD]
  | succ p=>
   rw[List.take_succ_cons,coD,coD,List.length_append,List.length_append];have:((r.take p).map ([44,32]++·)).flatten.length<=(r.map ([44,32]++·)).flatten.length:=by
    conv=>rhs;rw[<-List.take_append_drop p r]
    simp only[List.map_append,List.flatten_append,List.length_append];omega
   omega
theorem zuy (d:Nat)(os:List (List UInt8))(o:List UInt8):liD d (os++[o])=liD d os++(List.replicate d 9++o++[10]):=by simp[liD]
theorem z4v (d:Nat)(os:List (List UInt8))(p:Nat):(liD d (os.take p)).length<=(liD d os).length:=by
 conv=>rhs;rw[<-List.take_append_drop p os]
 unfold liD;simp only[List.map_append,List.flatten_append,List.length_append];omega
theorem zgi {α:Type}{l:List α}{p:Nat}{z:α}(h:l[p]?=some z):l.take (p+1)=l.take p++[z]:=by
 rw[List.take_add_one,h];rfl
section
variable {w0:World}{bn on cn:Nat}{L:List Nd}
theorem zqk {i:Nat}{n a f e:Int}{x:ByteArray}{l:List Pt}{sk:Option Addr}{kc:Nat}(hE:EnW w0 (.slice (some ⟨bn,on,none⟩) L.length cn) L)(hN:Dn w0 bn on L i 25 x n l sk kc a f e)(hK:∀ (j:Nat)(t:Pt),l[j]?=some t->DtC w0 (some ⟨bn,on,none⟩) cn L t)(hc:cntL l<=100000)(hln:(coD ((l.map (dtP 0)).drop 1)).length<=1000000000000) (W:World)(hW:Below w0.heap.size w0 W) :
  Calls Tryz.prog 53 #[.agg #[.slice (some ⟨bn,on,none⟩) L.length cn],.int .i64 i,.int .i64 1] W fun e w'=>e=.returned (.string (strU (coD ((l.map (dtP 0)).drop 1))))∧Below W.heap.size W w':=by
 have hs:=hN.s;have hiL:=hN.hi;have hLl:=hE.l;obtain⟨os,hos⟩:∃ os,(l.map (dtP 0)).drop 1=os:=⟨_,rfl⟩;have HOS:Hid _:=hos;have hol:os.length=l.length - 1:=by rw[<-hos];simp
 rw[hos] at hln ⊢;have HC:Hid (∀ p,p<os.length->∃ o,os[p]?=some o∧((coD (os.take p)).length+o.length+2<=1000000000000+2)∧∀ W',Below W.heap.size W W'->Calls Tryz.prog 52 #[.agg #[.slice (some ⟨bn,on,none⟩) L.length cn],.int .i64 i,.int .i64 ((p:Int)+1)] W' fun e w'=>e=.returned (.string (strU o))∧Below W'.heap.size W' w'):=fun p hp=>by
  obtain⟨t,ht⟩:∃ t,l[p+1]?=some t:=⟨_,List.getElem?_eq_getElem (by omega)⟩;have ho:os[p]?=some (dtP 0 t):=by rw[<-hos,List.getElem?_drop,List.getElem?_map,Nat.add_comm,ht];rfl
  have h0:nedD 25 x (hdP t) (p+1)=false:=by
   unfold nedD;rw[if_neg (by decide),if_pos (by omega)];simp
  have h1:wiD 25 x (hdP t) (dtP 0 t) (p+1)=dtP 0 t:=by unfold wiD;rw[h0];rfl
  have h2:=z4u os (p+1);rw[zgi ho,zux,List.length_append] at h2;have h3:(dtP 0 t).length<=(if os.take p=[] then dtP 0 t else[44,32]++dtP 0 t).length:=by split <;> simp <;> omega
  refine⟨_,ho,by omega,fun W' hb=>?_⟩;have:=zg7 hE hN ht (hK _ t ht) (by have:=zb8 l _ t ht;omega) (by rw[h1];omega) W' (hW.trans (hb.mono hW.size));rw[h1] at this;simpa using this
 have HM:Hid (∀ W',Below W.heap.size W W'->W'.cell? ⟨bn,on+i * 7+3,none⟩=some (.slice sk l.length kc)):=fun W' hb=>(hN.c W' (hW.trans (hb.mono hW.size))).2.2.2.1;have z1:decide ((i:Int)<L.length)=true:=by simp;omega
 have z3:(i:Int)<L.length:=by omega
 have hll:=hs.1;have hlk:=hs.2.1;have hbn:bn<W.heap.size:=block_lt_of_cell (hN.c W hW).1;clear hN hE hK hln hW hos HOS hs;have hol2:os.length<=100000:=by omega
 generalize L.length=nl at *;generalize l.length=ln at *;have HB0:Hid (Below W.heap.size W (W.alloc (.cells #[.slice (some ⟨bn,on,none⟩) nl cn] 25))):=(Below.refl _ _).alloc (Nat.le_refl _) _;have HR0:Hid _:=heap_alloc_new W (.cells #[.slice (some ⟨bn,on,none⟩) nl cn] 25)
 go_enter Tryz.func53,Tryz.ntmps53
 go_wp2_with fail
 refine zdd (fun W1=>W1.heap[W.heap.size]?=some (.cells #[.slice (some ⟨bn,on,none⟩) nl cn] 25 (0,0))∧Below W.heap.size W W1) ⟨HR0.out,HB0.out⟩ ?_;rintro W1 ⟨r1,hb1⟩;clear HR0 HB0;have HB1:Hid _:=hb1;have R1:Hid _:=r1;clear hb1 r1
 go_loopw [7,8] (fun s k wr=>∃ p:Nat,p<=os.length∧k=.int .i64 ((p:Int)+1)∧s=.string (strU (coD (os.take p)))∧Below W1.heap.size W1 wr) (fun _ k _=>os.length+1 - (intOf k).toNat)
 case atStart=>exact⟨0,Nat.zero_le _,rfl,rfl,Below.refl _ _⟩
 case round=>
  obtain⟨p,hp,rfl,rfl,hb⟩:=hrel;have r2:=(hb.block _ (zab R1.out)).trans R1.out;have hbw:Below W.heap.size W wr:=HB1.out.trans (hb.mono HB1.out.size);have c1:wr.cell? ⟨W.heap.size,0,none⟩=some (.slice (some ⟨bn,on,none⟩) nl cn):=(cell_of_row _ _ 0 _ _ _ r2).trans rfl;have c2:=HM.out wr hbw;have HBW:Hid _:=hbw;have HBR:Hid _:=hb;clear r2 hbw hb
  by_cases hlt:p<os.length
  ·have z5:decide ((p:Int)+1<(ln:Int))=true:=by simp;omega
   obtain⟨o,ho,hsz,hcall⟩:=HC.out p hlt;have hsz2:(strU (coD (os.take p))).size+(strU o).size+2<=1000000000002:=by rw[zad,zad];omega
   have HW:=hid hcall;have HT:Hid (strU (coD (os.take (p+1)))=if p=0 then strU (coD (os.take p))++strU o else strU (coD (os.take p))++⟨#[44,32]⟩++strU o):=by
    show _=_;rw[zgi ho,zux,zan]
    by_cases h0:p=0
    ·rw[if_pos (by rw[h0];rfl),if_pos h0]
    ·rw[if_neg (fun h=>by have:=congrArg List.length h;rw[List.length_take,List.length_nil] at this;omega),if_neg h0,zan,<-ByteArray.append_assoc];rfl
   have HEND:Hid (∀ (S:ByteArray) (w':World) (z:Int),z=(p:Int)+1+1->S=strU (coD (os.take (p+1)))->Below W1.heap.size W1 w'->(∃ p':Nat,p'<=os.length∧Value.int .i64 z=.int .i64 ((p':Int)+1)∧Value.string S=.string (strU (coD (os.take p')))∧Below W1.heap.size W1 w')∧os.length+1 - (intOf (.int .i64 z)).toNat<os.length+1 - (intOf (.int .i64 ((p:Int)+1))).toNat):=fun S w' z hz h1 h2=>⟨⟨p+1,hlt,congrArg (Value.int .i64) (by omega),congrArg Value.string h1,h2⟩,(by show os.length+1 - z.toNat<os.length+1 - ((p:Int)+1).toNat;omega)⟩;clear hcall hsz ho HC;generalize strU (coD (os.take p))=S at *;generalize strU o=O at *;generalize strU (coD (os.take (p+1)))=S' at *
   by_cases h0:p=0
   ·subst h0;have HT':Hid (S'=S++O):=HT.out;have HEND':Hid _:=HEND.out (S++O);clear HEND HT
    go_wp2_with fail
    refine(HW.out _ HBW.out).mono ?_;rintro e W2 ⟨rfl,b2⟩;have HF:Hid _:=HEND'.out W2 2 (by omega) HT'.out.symm (HBR.out.trans (b2.mono HBR.out.size));clear b2 HEND' c1 c2 HT'
    go_wp2
    exact HF.out
   ·have HT':Hid (S'=S++⟨#[44,32]⟩++O):=by show _=_;rw[HT.out,if_neg h0]
    have HEND':Hid _:=HEND.out (S++⟨#[44,32]⟩++O);have z6:decide ((p:Int)+1 > 1)=true:=by simp;omega
    clear HEND HT
    go_wp2_with fail
    refine(HW.out _ HBW.out).mono ?_;rintro e W2 ⟨rfl,b2⟩;have HF:Hid _:=HEND'.out W2 ((p:Int)+1+1) rfl HT'.out.symm (HBR.out.trans (b2.mono HBR.out.size));clear b2 HEND' c1 c2 HT'
    go_wp2
    exact HF.out
  ·have z5:decide ((p:Int)+1<(ln:Int))=false:=by simp;omega
   obtain rfl:p=os.length:=by omega
   rw[List.take_length]
   go_wp2
   go_ret
   exact⟨rfl,HBW.out⟩
theorem zii {i:Nat}{k n a f e:Int}{x:ByteArray}{l:List Pt}{sk:Option Addr}{kc:Nat}(hN:Dn w0 bn on L i k x n l sk kc a f e)(hK:∀ (j:Nat)(t:Pt),l[j]?=some t->DtC w0 (some ⟨bn,on,none⟩) cn L t)(d:Nat)(hc:d+cntL l<=100000)(hln:(liD d (l.map (dtP d))).length<=1000000000000) (W:World)(hW:Below w0.heap.size w0 W) :
  Calls Tryz.prog 54 #[.agg #[.slice (some ⟨bn,on,none⟩) L.length cn],.slice sk l.length kc,.int .i64 d] W fun e w'=>e=.returned (.string (strU (liD d (l.map (dtP d)))))∧Below W.heap.size W w':=by
 have hs:=hN.s;obtain⟨os,hos⟩:∃ os,l.map (dtP d)=os:=⟨_,rfl⟩;have hol:os.length=l.length:=by rw[<-hos];simp
 rw[hos] at hln ⊢;have HC:Hid (∀ p,p<os.length->∃ o b oo kj,os[p]?=some o∧sk=some ⟨b,oo,none⟩∧(liD d (os.take p)).length+d+o.length+1<=1000000000000∧(∀ W',Below W.heap.size W W'->W'.cell? ⟨b,oo+p,none⟩=some (.int .i64 kj))∧∀ W',Below W.heap.size W W'->Calls Tryz.prog 28 #[.agg #[.slice (some ⟨bn,on,none⟩) L.length cn],.int .i64 kj,.int .i64 d] W' fun e w'=>e=.returned (.string (strU o))∧Below W'.heap.size W' w'):=fun p hp=>by
  obtain⟨t,ht⟩:∃ t,l[p]?=some t:=⟨_,List.getElem?_eq_getElem (by omega)⟩;have ho:os[p]?=some (dtP d t):=by rw[<-hos,List.getElem?_map,ht];rfl
  obtain⟨b,oo,kj,hsk,hem,hkl,hkc⟩:=hN.kid p t ht;have h2:=z4v d os (p+1);rw[zgi ho,zuy] at h2;simp only[List.length_append,List.length_replicate,List.length_cons,List.length_nil] at h2;refine⟨_,b,oo,kj,ho,hsk,by omega,fun W' hb=>hkc W' (hW.trans (hb.mono hW.size)),fun W' hb=>?_⟩;exact hK p t ht d kj W' hem (hW.trans (hb.mono hW.size)) (by have:=zb8 l p t ht;omega) (by omega)
 have HTB:Hid (∀ W',Below W.heap.size W W'->Calls Tryz.prog 55 #[.int .i64 d] W' fun e w'=>e=.returned (.string (strU (List.replicate d 9)))∧Below W'.heap.size W' w'):=fun W' hb=>(zgv d W' (by omega)).mono fun e w' ⟨h1,h2⟩=>⟨h1,by rw[h2];exact Below.refl _ _⟩;have hll:=hs.1;have hlk:=hs.2.1;clear hN hK hln hW hos;have HDL:Hid ((strU (List.replicate d 9)).size=d):=by show _=_;rw[zad,List.length_replicate]
 generalize hT9:strU (List.replicate d 9)=T9 at *;have HT9:Hid _:=hT9;clear hT9;generalize L.length=nl at *;generalize l.length=ln at *;subst hol;have HB0:Hid (Below W.heap.size W (W.alloc (.cells #[.slice (some ⟨bn,on,none⟩) nl cn] 25))):=(Below.refl _ _).alloc (Nat.le_refl _) _;have HR0:Hid _:=heap_alloc_new W (.cells #[.slice (some ⟨bn,on,none⟩) nl cn] 25)
 go_enter Tryz.func54,Tryz.ntmps54
 go_wp2_with fail
 refine zdd (fun W1=>W1.heap[W.heap.size]?=some (.cells #[.slice (some ⟨bn,on,none⟩) nl cn] 25 (0,0))∧Below W.heap.size W W1) ⟨HR0.out,HB0.out⟩ ?_;rintro W1 ⟨r1,hb1⟩;clear HR0 HB0;have HB1:Hid _:=hb1;have R1:Hid _:=r1;clear hb1 r1
 go_loopw [7,12] (fun s k wr=>∃ p:Nat,p<=os.length∧k=.int .i64 p∧s=.string (strU (liD d (os.take p)))∧Below W1.heap.size W1 wr) (fun _ k _=>os.length - (intOf k).toNat)
 case atStart=>exact⟨0,Nat.zero_le _,rfl,rfl,Below.refl _ _⟩
 case round=>
  obtain⟨p,hp,rfl,rfl,hb⟩:=hrel;have r2:=(hb.block _ (zab R1.out)).trans R1.out;have HR2:Hid _:=r2;have hbw:Below W.heap.size W wr:=HB1.out.trans (hb.mono HB1.out.size);have HBW:Hid _:=hbw;have HBR:Hid _:=hb;clear r2 hb
  by_cases hlt:p<os.length
  ·have z5:decide ((p:Int)<(os.length:Int))=true:=by simp;omega
   have z7:(p:Int)<(os.length:Int):=by omega
   obtain⟨o,b,oo,kj,ho,hsk,hsz,hcell,hcall⟩:=HC.out p hlt;have c3:=hcell wr hbw;have hsz2:(strU (liD d (os.take p))).size+T9.size+(strU o).size+1<=1000000000000:=by rw[zad,zad,HDL.out];omega
   have HW:Hid _:=hcall;have HT:Hid (strU (liD d (os.take p))++(T9++strU o++⟨#[10]⟩)=strU (liD d (os.take (p+1)))):=by
    show _=_;rw[zgi ho,zuy,<-HT9.out];simp only[zan];rfl
   have HEND:Hid (∀ (S:ByteArray) (w':World),S=strU (liD d (os.take (p+1)))->Below W1.heap.size W1 w'->(∃ p':Nat,p'<=os.length∧Value.int .i64 ((p:Int)+1)=.int .i64 (p':Int)∧Value.string S=.string (strU (liD d (os.take p')))∧Below W1.heap.size W1 w')∧os.length - (intOf (.int .i64 ((p:Int)+1))).toNat<os.length - (intOf (.int .i64 (p:Int))).toNat):=fun S w' h1 h2=>⟨⟨p+1,hlt,congrArg (Value.int .i64) (by omega),congrArg Value.string h1,h2⟩,(by show os.length - ((p:Int)+1).toNat<os.length - (p:Int).toNat;omega)⟩;clear hcall hsz ho HC hcell hbw HDL HT9;subst hsk;generalize strU (liD d (os.take p))=S at *;generalize strU o=O at *;have HEND':Hid _:=fun w' hb=>HEND.out (S++(T9++O++⟨#[10]⟩)) w' HT.out hb;clear HEND HT
   go_wp2_with fail
   refine zdd (fun W2=>W2=wr) rfl ?_;rintro W2 rfl;have CC:Hid (∀ W',Below W2.heap.size W2 W'->True∧True):=fun _ _=>⟨trivial,trivial⟩;have hS0:Below W2.heap.size W2 W2.drew:=(Below.refl _ _).drew;refine zbc (S:=fun w'=>Below W2.heap.size W2 w') 11 rfl (by kernel_rfl) ?_;refine zah 0 16 (.string S) rfl (by rfl) (by kernel_rfl) (by kernel_rfl) (by kernel_rfl) (fun _ _ _ h=>h) (fun w' hw'=>by obtain⟨e1,e2⟩:=CC.out w' hw';first|rfl|(go_simp;done) | (go_simp;omega)) hS0 ?_;simp only[sI,sS,sZ];refine zah 1 17 (.int .i64 d) rfl (by rfl) (by kernel_rfl) (by kernel_rfl) (by kernel_rfl) (fun _ _ _ h=>h) (fun w' hw'=>by obtain⟨e1,e2⟩:=CC.out w' hw';first|rfl|(go_simp;done) | (go_simp;omega)) hS0 ?_;simp only[sI,sS,sZ];refine zho 3 19 25 (.tmp 3) rfl (by rfl) W.heap.size 25 #[.slice (some ⟨bn,on,none⟩) nl cn] (0,0) rfl (by kernel_rfl) (by kernel_rfl) (by kernel_rfl) (fun _ _ _ h=>h) _ (fun w' hw'=>(hw'.block _ (zab HR2.out)).trans HR2.out) Tryz.underlying25 rfl (by kernel_rfl) hS0 ?_;simp only[sI,sS,sZ];refine zah 4 20 (.int .i64 kj) rfl (by rfl) (by kernel_rfl) (by kernel_rfl) (by kernel_rfl) (fun _ _ _ h=>h) (fun w' hw'=>by obtain⟨e1,e2⟩:=CC.out w' hw';first|rfl|(go_simp;done) | (go_simp;omega)) hS0 ?_;simp only[sI,sS,sZ];refine zah 5 21 (.int .i64 d) rfl (by rfl) (by kernel_rfl) (by kernel_rfl) (by kernel_rfl) (fun _ _ _ h=>h) (fun w' hw'=>by obtain⟨e1,e2⟩:=CC.out w' hw';first|rfl|(go_simp;done) | (go_simp;omega)) hS0 ?_;simp only[sI,sS,sZ];refine zas 2 rfl (by rfl) (by kernel_rfl) ?_
   go_simp
   refine(HTB.out _ (HBW.out.trans (hS0.mono HBW.out.size))).mono ?_;rintro e W3 ⟨rfl,b3⟩;have hS1:Below W2.heap.size W2 W3:=hS0.trans (b3.mono hS0.size);refine⟨hS1,?_⟩;refine zas 6 rfl (by rfl) (by kernel_rfl) ?_
   go_simp
   refine(HW.out _ (HBW.out.trans (hS1.mono HBW.out.size))).mono ?_;rintro e W4 ⟨rfl,b4⟩;have hS2:Below W2.heap.size W2 W4:=hS1.trans (b4.mono hS1.size);refine⟨hS2,?_⟩;refine zah 7 23 (.string (T9++O)) rfl (by rfl) (by kernel_rfl) (by kernel_rfl) (by kernel_rfl) (fun _ _ _ h=>h) (fun w' hw'=>by obtain⟨e1,e2⟩:=CC.out w' hw';first|rfl|(go_simp;done) | (go_simp;omega)) hS2 ?_;simp only[sI,sS,sZ];refine zah 8 24 (.string (T9++O++⟨#[10]⟩)) rfl (by rfl) (by kernel_rfl) (by kernel_rfl) (by kernel_rfl) (fun _ _ _ h=>h) (fun w' hw'=>by obtain⟨e1,e2⟩:=CC.out w' hw';first|rfl|(go_simp;done) | (go_simp;omega)) hS2 ?_;simp only[sI,sS,sZ];refine zah 9 25 (.string (S++(T9++O++⟨#[10]⟩))) rfl (by rfl) (by kernel_rfl) (by kernel_rfl) (by kernel_rfl) (fun _ _ _ h=>h) (fun w' hw'=>by obtain⟨e1,e2⟩:=CC.out w' hw';first|rfl|(go_simp;done) | (go_simp;omega)) hS2 ?_;simp only[sI,sS,sZ];refine zah 10 7 (.string (S++(T9++O++⟨#[10]⟩))) rfl (by rfl) (by kernel_rfl) (by kernel_rfl) (by kernel_rfl) (fun _ _ _ h=>h) (fun w' hw'=>by obtain⟨e1,e2⟩:=CC.out w' hw';first|rfl|(go_simp;done) | (go_simp;omega)) hS2 ?_;simp only[sI,sS,sZ];refine wpAnyH_done (by kernel_rfl) ?_ _;have HF:Hid _:=HEND'.out W4 (HBR.out.trans (hS2.mono HBR.out.size));clear hS0 hS1 hS2 b3 b4 HEND' c3
   go_wp2
   exact HF.out
  ·have z5:decide ((p:Int)<(os.length:Int))=false:=by simp;omega
   obtain rfl:p=os.length:=by omega
   rw[List.take_length]
   go_wp2
   go_ret
   exact⟨rfl,HBW.out⟩
theorem z11 (a:List UInt8 × List UInt8 × List UInt8)(h:Int × ByteArray)(o:List UInt8):a.1.length<=(stE a h o).1.length∧a.2.1.length<=(stE a h o).2.1.length∧a.2.2.length<=(stE a h o).2.2.length:=by
 unfold stE
 split
 ·simp
  try omega
 ·split
  ·refine⟨Nat.le_refl _,?_,Nat.le_refl _⟩
   by_cases hz:a.2.1=[]
   ·simp[hz]
   ·rw[if_neg hz];simp
    try omega
  ·simp
theorem zuz:∀ (hs:List (Int × ByteArray))(os:List (List UInt8))(a:List UInt8 × List UInt8 × List UInt8),a.1.length<=(foE a hs os).1.length∧a.2.1.length<=(foE a hs os).2.1.length∧a.2.2.length<=(foE a hs os).2.2.length
 | [],os,a=>⟨Nat.le_refl _,Nat.le_refl _,Nat.le_refl _⟩
 | h::hs,[],a=>⟨Nat.le_refl _,Nat.le_refl _,Nat.le_refl _⟩
 | h::hs,o::os,a=>by
  rw[foE];have h1:=zuz hs os (stE a h o);have h2:=z11 a h o;omega
theorem zpb:∀ (p:Nat)(hs:List (Int × ByteArray))(os:List (List UInt8))(a:List UInt8 × List UInt8 × List UInt8)(h:Int × ByteArray)(o:List UInt8),hs[p]?=some h->os[p]?=some o->foE a (hs.take (p+1)) (os.take (p+1))=stE (foE a (hs.take p) (os.take p)) h o∧foE a hs os=foE (foE a (hs.take (p+1)) (os.take (p+1))) (hs.drop (p+1)) (os.drop (p+1))
 | p,[],os,a,h,o,h1,h2=>by simp at h1
 | p,_::_,[],a,h,o,h1,h2=>by simp at h2
 | 0,x::hs,y::os,a,h,o,h1,h2=>by
  obtain rfl:x=h:=by simpa using h1
  obtain rfl:y=o:=by simpa using h2
  simp[foE]
 | p+1,x::hs,y::os,a,h,o,h1,h2=>by
  have:=zpb p hs os (stE a x y) h o (by simpa using h1) (by simpa using h2);rw[List.take_succ_cons,List.take_succ_cons,List.take_succ_cons,List.take_succ_cons,foE,foE,List.drop_succ_cons,List.drop_succ_cons,foE];exact this
theorem ziv {i:Nat}{n a f e:Int}{x:ByteArray}{l:List Pt}{sk:Option Addr}{kc:Nat}(hE:EnW w0 (.slice (some ⟨bn,on,none⟩) L.length cn) L)(hN:Dn w0 bn on L i 7 x n l sk kc a f e)(hK:∀ (j:Nat)(t:Pt),l[j]?=some t->DtC w0 (some ⟨bn,on,none⟩) cn L t){d:Nat}(hc:d+cntL l<=100000)(hln:(fuD x (l.map hdP) (l.map (dtP d))).length<=1000000000000) (W:World)(hW:Below w0.heap.size w0 W) :
  Calls Tryz.prog 57 #[.agg #[.slice (some ⟨bn,on,none⟩) L.length cn],.int .i64 i,.int .i64 d] W fun e w'=>e=.returned (.string (strU (fuD x (l.map hdP) (l.map (dtP d)))))∧Below W.heap.size W w':=by
 have hs:=hN.s;have hiL:=hN.hi;have hLl:=hE.l;obtain⟨F0,hF0⟩:∃ F0:List UInt8 × List UInt8 × List UInt8,([102,117,110,99,32],[],[])=F0:=⟨_,rfl⟩;obtain⟨os,hos⟩:∃ os,l.map (dtP d)=os:=⟨_,rfl⟩;obtain⟨hh,hhh⟩:∃ hh,l.map hdP=hh:=⟨_,rfl⟩;have hol:os.length=l.length:=by rw[<-hos];simp
 have hhl:hh.length=l.length:=by rw[<-hhh];simp
 have HFU:Hid (strU (fuD x hh os)=strU (foE F0 hh os).1++x++⟨#[40]⟩++strU (foE F0 hh os).2.1++⟨#[41]⟩++strU (foE F0 hh os).2.2):=by
  show _=_;unfold fuD;rw[hF0];simp only[zan,zaw];rfl
 rw[hos,hhh] at hln ⊢;have hsz:(strU (fuD x hh os)).size<=1000000000000:=by rw[zad];exact hln
 rw[HFU.out] at hsz;simp only[ByteArray.size_append,zad,(show(⟨#[40]⟩:ByteArray).size=1 from rfl),(show(⟨#[41]⟩:ByteArray).size=1 from rfl)] at hsz;have HC:Hid (∀ p,p<os.length->∃ (kt:Int) (xt:ByteArray) (nt at_ ft et:Int) (ln2:Nat) (sk2:Option Addr) (kc2:Nat) (o:List UInt8) (b oo kj:Nat),sk=some ⟨b,oo,none⟩∧kj<L.length∧hh[p]?=some (kt,xt)∧os[p]?=some o∧(∀ W',Below W.heap.size W W'->W'.cell? ⟨b,oo+p,none⟩=some (.int .i64 kj)∧W'.cell? ⟨bn,on+kj * 7,none⟩=some (.int .i64 kt)∧W'.cell? ⟨bn,on+kj * 7+1,none⟩=some (.string xt)∧W'.cell? ⟨bn,on+kj * 7+2,none⟩=some (.int .i64 nt)∧W'.cell? ⟨bn,on+kj * 7+3,none⟩=some (.slice sk2 ln2 kc2)∧W'.cell? ⟨bn,on+kj * 7+4,none⟩=some (.int .i64 at_)∧W'.cell? ⟨bn,on+kj * 7+5,none⟩=some (.int .i64 ft)∧W'.cell? ⟨bn,on+kj * 7+6,none⟩=some (.int .i64 et))∧(o.length<=1000000000000->∀ W',Below W.heap.size W W'->Calls Tryz.prog 28 #[.agg #[.slice (some ⟨bn,on,none⟩) L.length cn],.int .i64 kj,.int .i64 d] W' fun e w'=>e=.returned (.string (strU o))∧Below W'.heap.size W' w')):=fun p hp=>by
  obtain⟨t,ht⟩:∃ t,l[p]?=some t:=⟨_,List.getElem?_eq_getElem (by omega)⟩;obtain⟨b,oo,kj,hsk,hem,hkl,hkc⟩:=hN.kid p t ht;have hT:=hK p t ht;have ho:os[p]?=some (dtP d t):=by rw[<-hos,List.getElem?_map,ht];rfl
  have hct:=zb8 l p t ht
  cases t with
  | mk kt xt nt at_ ft et lt=>
  obtain⟨bn',on',sk2,kc2,hsn,hN2⟩:=zft hE hem;injection hsn with hsn;injection hsn with e1 e2;subst e1 e2;refine⟨kt,xt,nt,at_,ft,et,lt.length,sk2,kc2,_,b,oo,kj,hsk,hkl,by rw[<-hhh,List.getElem?_map,ht];rfl,ho,fun W' hb=>⟨hkc W' (hW.trans (hb.mono hW.size)),hN2.c W' (hW.trans (hb.mono hW.size))⟩,fun hl W' hb=>?_⟩;exact hT d kj W' hem (hW.trans (hb.mono hW.size)) (by omega) hl
 obtain⟨m0,m1,m2,m3,m4,m5,m6⟩:=hN.c W hW;have hbn:bn<W.heap.size:=block_lt_of_cell m0;have z1:decide ((i:Int)<L.length)=true:=by simp;omega
 have z3:(i:Int)<L.length:=by omega
 have hll:=hs.1;have hlk:=hs.2.1;rw[HFU.out];clear hN hK hln hW hos hhh hE HFU hs;generalize L.length=nl at *;generalize l.length=ln at *;subst hol;have HBA:Hid (Below W.heap.size W ((W.alloc (.cells #[.slice (some ⟨bn,on,none⟩) nl cn] 25)).alloc (.cells #[.int .i64 7,.string x,.int .i64 n,.slice sk os.length kc,.int .i64 a,.int .i64 f,.int .i64 e] 59))):=((Below.refl _ _).alloc (Nat.le_refl _) _).alloc (by simp) _
 go_enter Tryz.func57,Tryz.ntmps57
 go_wp2_with fail
 clear m0 m1 m2 m3 m4 m5 m6;refine zdd (fun W1=>W1.heap[W.heap.size]?=some (.cells #[.slice (some ⟨bn,on,none⟩) nl cn] 25 (0,0))∧W1.heap[W.heap.size+1]?=some (.cells #[.int .i64 7,.string x,.int .i64 n,.slice sk os.length kc,.int .i64 a,.int .i64 f,.int .i64 e] 59 (0,0))∧Below W.heap.size W W1) (zb9 W _ _ _ _) ?_;rintro W1 ⟨r1,r2,hb1⟩;clear HBA;have HB1:Hid _:=hb1;have R1:Hid _:=r1;have R2:Hid _:=r2;clear hb1 r1 r2
 go_loopw [8,9,10,22] (fun s pr r k wr=>∃ p:Nat,p<=os.length∧k=.int .i64 p∧s=.string (strU (foE F0 (hh.take p) (os.take p)).1)∧pr=.string (strU (foE F0 (hh.take p) (os.take p)).2.1)∧r=.string (strU (foE F0 (hh.take p) (os.take p)).2.2)∧Below W1.heap.size W1 wr) (fun _ _ _ k _=>os.length - (intOf k).toNat)
 case atStart=>exact⟨0,Nat.zero_le _,rfl,by rw[<-hF0];simp[foE,strU],by rw[<-hF0];simp[foE,strU],by rw[<-hF0];simp[foE,strU],Below.refl _ _⟩
 case round=>
  obtain⟨p,hp,rfl,rfl,rfl,rfl,hb⟩:=hrel;have r2:=(hb.block _ (zab R1.out)).trans R1.out;have r3:=(hb.block _ (zab R2.out)).trans R2.out;have c1:wr.cell? ⟨W.heap.size,0,none⟩=some (.slice (some ⟨bn,on,none⟩) nl cn):=(cell_of_row _ _ 0 _ _ _ r2).trans rfl;have hbw:Below W.heap.size W wr:=HB1.out.trans (hb.mono HB1.out.size)
  by_cases hlt:p<os.length
  ·have z5:decide ((p:Int)<(os.length:Int))=true:=by simp;omega
   have z7:(p:Int)<(os.length:Int):=by omega
   obtain⟨kt,xt,nt,at_,ft,et,ln2,sk2,kc2,o,b,oo,kj,hsk,hkl,hhp,hop,hcell,hcall⟩:=HC.out p hlt;obtain⟨c3,m0,m1,m2,m3,m4,m5,m6⟩:=hcell wr hbw;have z8:decide ((kj:Int)<nl)=true:=by simp;omega
   have hfs:=zpb p hh os F0 (kt,xt) o hhp hop;have hfm:=zuz (hh.drop (p+1)) (os.drop (p+1)) (foE F0 (hh.take (p+1)) (os.take (p+1)));rw[<-hfs.2] at hfm;have HST:Hid _:=hfs.1;have HFM:Hid _:=hfm;have hbA:Below wr.heap.size wr (wr.alloc (.cells #[.int .i64 kt,.string xt,.int .i64 nt,.slice sk2 ln2 kc2,.int .i64 at_,.int .i64 ft,.int .i64 et] 59)):=(Below.refl _ _).alloc (Nat.le_refl _) _;have cA:(wr.alloc (.cells #[.int .i64 kt,.string xt,.int .i64 nt,.slice sk2 ln2 kc2,.int .i64 at_,.int .i64 ft,.int .i64 et] 59)).cell? ⟨W.heap.size,0,none⟩=some (.slice (some ⟨bn,on,none⟩) nl cn):=(cell_of_row _ _ 0 _ _ _ ((hbA.block _ (zab r2)).trans r2)).trans rfl;have HBA:Hid _:=hbw.trans (hbA.mono hbw.size);have HBR:Hid _:=hb.trans (hbA.mono hb.size);have HCA:Hid _:=hcall;have HEND:Hid (∀ (S P R:ByteArray) (w':World),S=strU (foE F0 (hh.take (p+1)) (os.take (p+1))).1->P=strU (foE F0 (hh.take (p+1)) (os.take (p+1))).2.1->R=strU (foE F0 (hh.take (p+1)) (os.take (p+1))).2.2->Below W1.heap.size W1 w'->(∃ p':Nat,p'<=os.length∧Value.int .i64 ((p:Int)+1)=.int .i64 (p':Int)∧Value.string S=.string (strU (foE F0 (hh.take p') (os.take p')).1)∧Value.string P=.string (strU (foE F0 (hh.take p') (os.take p')).2.1)∧Value.string R=.string (strU (foE F0 (hh.take p') (os.take p')).2.2)∧Below W1.heap.size W1 w')∧os.length - (intOf (.int .i64 ((p:Int)+1))).toNat<os.length - (intOf (.int .i64 (p:Int))).toNat):=fun S P R w' h1 h2 h3 h4=>⟨⟨p+1,hlt,congrArg (Value.int .i64) (by omega),congrArg Value.string h1,congrArg Value.string h2,congrArg Value.string h3,h4⟩,(by show os.length - ((p:Int)+1).toNat<os.length - (p:Int).toNat;omega)⟩;clear hcall HC hcell hbw hb r2 r3 hbA hfs hfm hhp hop;subst hsk;obtain⟨ST,hST⟩:∃ ST,foE F0 (hh.take p) (os.take p)=ST:=⟨_,rfl⟩;rw[hST] at HST ⊢;clear hST;obtain⟨A,B,C⟩:=ST
   cases t8:(kt == 8)
   rotate_left
   focus
    have hT:foE F0 (hh.take (p+1)) (os.take (p+1))=(A++[40]++o++[41,32],B,C):=by rw[HST.out];unfold stE;rw[if_pos (by simpa using t8)]
    rw[hT] at HFM HEND;have hb1:=HFM.out.1;simp only[List.length_append,List.length_cons,List.length_nil] at hb1;have hz:(strU A).size+(strU o).size+3<=1000000000000:=by rw[zad,zad];omega
    have HC2:=HCA.out (by omega) _ HBA.out;have HEND':Hid _:=fun w' hb=>HEND.out (strU A++(⟨#[40]⟩++strU o++⟨#[41,32]⟩)) (strU B) (strU C) w' (by simp only[zan,ByteArray.append_assoc];rfl) rfl rfl hb;clear HST HFM HEND HCA hb1 hT hsz;generalize strU o=O at *
    go_wp2_with fail
    refine HC2.mono ?_;rintro e W2 ⟨rfl,b2⟩;have HF:Hid _:=HEND'.out W2 (HBR.out.trans (b2.mono HBR.out.size));clear b2 HEND' HC2 c1 cA c3 m0 m1 m2 m3 m4 m5 m6
    go_wp2
    exact HF.out
   cases t9:(kt == 9)
   ·have hT:foE F0 (hh.take (p+1)) (os.take (p+1))=(A,B,C++[32]++o):=by rw[HST.out];unfold stE;rw[if_neg (by simpa using t8),if_neg (by simpa using t9)]
    rw[hT] at HFM HEND;have hb1:=HFM.out.2.2;simp only[List.length_append,List.length_cons,List.length_nil] at hb1;have hz:(strU C).size+(strU o).size+1<=1000000000000:=by rw[zad,zad];omega
    have HC2:=HCA.out (by omega) _ HBA.out;have HEND':Hid _:=fun w' hb=>HEND.out (strU A) (strU B) (strU C++(⟨#[32]⟩++strU o)) w' rfl rfl (by simp only[zan,ByteArray.append_assoc];rfl) hb;clear HST HFM HEND HCA hb1 hT hsz;generalize strU o=O at *
    go_wp2_with fail
    refine HC2.mono ?_;rintro e W2 ⟨rfl,b2⟩;have HF:Hid _:=HEND'.out W2 (HBR.out.trans (b2.mono HBR.out.size));clear b2 HEND' HC2 c1 cA c3 m0 m1 m2 m3 m4 m5 m6
    go_wp2
    exact HF.out
   have hT:foE F0 (hh.take (p+1)) (os.take (p+1))=(A,(if B=[] then[] else B++[44,32])++o,C):=by rw[HST.out];unfold stE;rw[if_neg (by simpa using t8),if_pos (by simpa using t9)]
   rw[hT] at HFM HEND;have HB:Hid _:=HFM.out.2.1;clear HST HFM hT
   by_cases hB:B=[]
   ·subst hB;have hb1:=HB.out;simp only[if_pos,List.length_append,List.length_nil] at hb1;have hz:(strU []).size+(strU o).size<=1000000000000:=by rw[zad,zad,List.length_nil];omega
    have HC2:=HCA.out (by omega) _ HBA.out;have HEND':Hid _:=fun w' hb=>HEND.out (strU A) (strU []++strU o) (strU C) w' rfl (by rw[if_pos rfl,zan]) rfl hb;have hz0:(strU []).toList=[]:=by rw[ByteArray.toList_eq];rfl
    clear HB HEND HCA hb1 hsz;generalize strU o=O at *
    go_wp2_with fail
    refine HC2.mono ?_;rintro e W2 ⟨rfl,b2⟩;have HF:Hid _:=HEND'.out W2 (HBR.out.trans (b2.mono HBR.out.size));clear b2 HEND' HC2 c1 cA c3 m0 m1 m2 m3 m4 m5 m6
    go_wp2
    exact HF.out
   ·have hb1:=HB.out;rw[if_neg hB] at hb1;simp only[List.length_append,List.length_cons,List.length_nil] at hb1;have hz:(strU B).size+2+(strU o).size<=1000000000000:=by rw[zad,zad];omega
    have HC2:=HCA.out (by omega) _ HBA.out;have HEND':Hid _:=fun w' hb=>HEND.out (strU A) (strU B++⟨#[44,32]⟩++strU o) (strU C) w' rfl (by rw[if_neg hB];simp only[zan];rfl) rfl hb;have hz0:((strU B).toList == [])=false:=by rw[ByteArray.toList_eq];simpa[strU] using hB
    have hz1:((strU B).toList != [])=true:=by simp[bne,hz0]
    clear HB HEND HCA hb1 hsz;generalize strU o=O at *
    go_wp2_with fail
    refine HC2.mono ?_;rintro e W2 ⟨rfl,b2⟩;have HF:Hid _:=HEND'.out W2 (HBR.out.trans (b2.mono HBR.out.size));clear b2 HEND' HC2 c1 cA c3 m0 m1 m2 m3 m4 m5 m6
    go_wp2
    exact HF.out
  ·have z5:decide ((p:Int)<(os.length:Int))=false:=by simp;omega
   obtain rfl:p=os.length:=by omega
   have c4:wr.cell? ⟨W.heap.size+1,1,none⟩=some (.string x):=(cell_of_row _ _ 1 _ _ _ r3).trans rfl;have HBW:Hid _:=hbw;have hz:(strU (foE F0 hh os).1).size+x.size+1+(strU (foE F0 hh os).2.1).size+1+(strU (foE F0 hh os).2.2).size<=1000000000000:=by rw[zad,zad,zad];exact hsz
   rw[List.take_length,List.take_of_length_le (by omega)];clear hsz HC hbw r2 r3
   go_wp2
   go_ret
   exact⟨rfl,HBW.out⟩
end
def strB (o:Option (List UInt8)):Value:=match o with|none=>.tuple #[.string ⟨#[]⟩,.bool false] | some x=>.tuple #[.string (strU x),.bool true]
theorem zpc {B:Nat}{w wr:World}{v:Value}{acc:List UInt8}(c d:UInt8)(ho:OwnB B wr v acc)(hb:Below B w wr)(hB:B<=wr.heap.size)(hl:acc.length<=900000) :
    ∃ v' w',(Builtin.append_ #[91,91] 91 #[v,.slice (some ⟨wr.heap.size,0,none⟩) 2 2]).run Tryz.prog (wr.alloc (.cells #[.int .u8 c.toNat,.int .u8 d.toNat] 5))=.ok v' w'∧OwnB B w' v' (acc++[c,d])∧Below B w w':=by
  have ba:Below wr.heap.size wr (wr.alloc (.cells #[.int .u8 c.toNat,.int .u8 d.toNat] 5)):=(Below.refl _ _).alloc (Nat.le_refl _) _;have ho':=ho.below ba;have hr:RowsAt (wr.alloc (.cells #[.int .u8 c.toNat,.int .u8 d.toNat] 5)) 1 byC (some ⟨wr.heap.size,0,none⟩) [c,d]:=BA.rows (fun _=>⟨wr.heap.size,0,rfl,fun i x hi=>by
    rw[cell_of_row _ _ _ _ _ _ (heap_alloc_new wr _),Nat.zero_add]
    match i,hi with
    | 0,hi=>have:c=x:=by simpa using hi
            subst this;rfl
    | 1,hi=>have:d=x:=by simpa using hi
            subst this;rfl
    | k+2,hi=>simp at hi⟩)
  obtain⟨v',w',hr,q1,q2,-⟩:=zdm elB (ys:=[c,d]) (sp:=some ⟨wr.heap.size,0,none⟩) (cap:=2) 91 ho' (fun h=>by cases h) hr (by simp;omega) (by simp;omega);exact⟨v',w',hr,q1,OwnG.grown ho' (Nat.le_refl _) (by simp;omega) (hb.alloc hB _) q2⟩
theorem zje (s:ByteArray)(w:World)(hs:s.size<=100000):Calls Tryz.prog 51 #[.string s] w fun e w'=>e=.returned (strB (quoO s.data.toList))∧Below w.heap.size w w':=by
  have HS:Hid (s.size=s.data.toList.length):=by show s.size=s.data.toList.length;simp
  have hO0:OwnB w.heap.size (w.alloc (.cells #[.int .u8 34] 5)) (.slice (some ⟨w.heap.size,0,none⟩) 1 1) [34]:=by
    refine⟨by simp[flatG,byC],.inr ⟨w.heap.size,1,_,rfl,Nat.le_refl _,heap_alloc_new _ _,by simp,by unfold maxLen;omega,rfl,rfl⟩⟩
  have HI:Hid (OwnB w.heap.size (w.alloc (.cells #[.int .u8 34] 5)) (.slice (some ⟨w.heap.size,0,none⟩) 1 1) [34]∧Below w.heap.size w (w.alloc (.cells #[.int .u8 34] 5))):=⟨hO0,(Below.refl _ _).alloc (Nat.le_refl _) _⟩;clear hO0
  go_enter Tryz.func51,Tryz.ntmps51
  go_wp2
  go_loopw [4,10] (fun u i wr=>∃ (t:Nat) (acc:List UInt8),t<=s.size∧i=.int .i64 t∧OwnB w.heap.size wr u acc∧Below w.heap.size w wr∧acc.length<=1+2 * t∧quoG acc (s.data.toList.drop t)=quoO s.data.toList) (fun _ i _=>s.size - (intOf i).toNat)
  case atStart=>exact⟨0,[34],Nat.zero_le _,rfl,HI.out.1,HI.out.2,by simp,rfl⟩
  case round=>
    clear HI;obtain⟨t,acc,ht,rfl,hown,hbel,hal,hqu⟩:=hrel;have HO:=hid hown;have HB:=hid hbel;have HQU:=hid hqu;clear hown hbel hqu
    by_cases hlt:t<s.size
    . have hd:decide ((t:Int)<s.size)=true:=decide_eq_true (by omega)
      have hB:=zhk hlt;obtain⟨c,HC⟩:∃ c,Hid (s[t]'hlt=c):=⟨_,rfl⟩;rw[HC.out] at hB;have HBY:=hid hB;clear hB;have REL:∀ (x:List UInt8) (v':Value) (w':World),quoB c=some x->x.length<=2->OwnB w.heap.size w' v' (acc++x)->Below w.heap.size w w'->Hid (∃ (t':Nat) (acc:List UInt8),t'<=s.size∧Value.int .i64 ((t:Int)+1)=.int .i64 t'∧OwnB w.heap.size w' v' acc∧Below w.heap.size w w'∧acc.length<=1+2 * t'∧quoG acc (s.data.toList.drop t')=quoO s.data.toList):=fun x v' w' hq hx ho' hb'=>⟨t+1,acc++x,by omega,by go_num,ho',hb',by rw[List.length_append];omega,zn3 HBY.out HQU.out hq⟩
      by_cases h10:c.toNat=10
      . have a10:(((s[t]'hlt).toNat:Int) == 10)=true:=by rw[HC.out,beq_iff_eq];omega
        obtain⟨v',w',hr,ho',hb'⟩:=zpc 92 110 HO.out HB.out HB.out.size (by omega);have RR:=REL [92,110] v' w' (by unfold quoB;rw[if_neg (by omega),if_pos h10]) (by simp) ho' hb';clear REL ho' hb'
        go_wp2_with (at_builtin;refine za2 (.tmp 23) (.tmp 24) 91 (by rfl) (by rfl) (by rfl) (by rfl) hr ?_)
        exact⟨RR.out,by simp[intOf];omega⟩
      . have a10:(((s[t]'hlt).toNat:Int) == 10)=false:=by rw[HC.out,beq_eq_false_iff_ne];omega
        by_cases hq:c.toNat=34∨c.toNat=92
        . obtain⟨v',w',hr,ho',hb'⟩:=zpc 92 c HO.out HB.out HB.out.size (by omega)
          have RR:=REL [92,c] v' w' (by unfold quoB;rw[if_pos hq]) (by simp) ho' hb';rw[<-HC.out] at hr;clear REL ho' hb'
          by_cases h34:c.toNat=34
          . have a34:(((s[t]'hlt).toNat:Int) == 34)=true:=by rw[HC.out,beq_iff_eq];omega
            go_wp2_with (at_builtin;refine za2 (.tmp 33) (.tmp 35) 91 (by rfl) (by rfl) (by rfl) (by rfl) hr ?_)
            exact⟨RR.out,by simp[intOf];omega⟩
          . have a34:(((s[t]'hlt).toNat:Int) == 34)=false:=by rw[HC.out,beq_eq_false_iff_ne];omega
            have a92:(((s[t]'hlt).toNat:Int) == 92)=true:=by rw[HC.out,beq_iff_eq];omega
            go_wp2_with (at_builtin;refine za2 (.tmp 33) (.tmp 35) 91 (by rfl) (by rfl) (by rfl) (by rfl) hr ?_)
            exact⟨RR.out,by simp[intOf];omega⟩
        . have a34:(((s[t]'hlt).toNat:Int) == 34)=false:=by rw[HC.out,beq_eq_false_iff_ne];omega
          have a92:(((s[t]'hlt).toNat:Int) == 92)=false:=by rw[HC.out,beq_eq_false_iff_ne];omega
          cases hpl:plnB c.toNat
          . have HNO:Hid (quoO s.data.toList=none):=zrg HBY.out HQU.out (by unfold quoB;rw[if_neg hq,if_neg h10,hpl];rfl)
            by_cases h32:c.toNat<32
            . have a32:((s[t]'hlt).toNat:Int)<32:=by rw[HC.out];omega
              go_wp2
              go_ret2
              refine⟨?_,HB.out⟩;rw[HNO.out];exact rfl
            . have a32:¬ ((s[t]'hlt).toNat:Int)<32:=by rw[HC.out];omega
              have a126:((s[t]'hlt).toNat:Int) > 126:=by
                rw[HC.out];simp[plnB] at hpl;omega
              go_wp2
              go_ret2
              refine⟨?_,HB.out⟩;rw[HNO.out];exact rfl
          . have hpl':32<=(c.toNat:Int)∧(c.toNat:Int)<=126:=by simpa[plnB] using hpl
            have a32:¬ ((s[t]'hlt).toNat:Int)<32:=by rw[HC.out];omega
            have a126:¬ ((s[t]'hlt).toNat:Int) > 126:=by rw[HC.out];omega
            obtain⟨v',w',hr,ho',hb'⟩:=zfw c HO.out HB.out HB.out.size (by omega);have RR:=REL [c] v' w' (by unfold quoB;rw[if_neg hq,if_neg h10,hpl];rfl) (by simp) ho' hb';rw[<-HC.out] at hr;clear REL ho' hb' hpl hpl'
            go_wp2_with (at_builtin;refine za2 (.tmp 16) (.tmp 18) 91 (by rfl) (by rfl) (by rfl) (by rfl) hr ?_)
            exact⟨RR.out,by simp[intOf];omega⟩
    . have hd:decide ((t:Int)<s.size)=false:=decide_eq_false (by omega)
      have HY:Hid (quoO s.data.toList=some (acc++[34])):=by rw[<-HQU.out,List.drop_eq_nil_of_le (by have:=HS.out;omega)];exact rfl
      obtain⟨v',w',hr,ho',hb'⟩:=zfw 34 HO.out HB.out HB.out.size (by omega);obtain⟨su,cu,rfl,hRu,-,-,-⟩:=OwnG.rows elB ho';have hcv:=zfx (BA.of_rows hRu) cu;have HBB:=hid hb';have hlen:(acc++[(34:UInt8)]).length=acc.length+1:=by simp
      rw[hlen] at hcv hr;clear hRu ho' hb'
      go_wp2_with (at_builtin;refine za2 (.tmp 45) (.tmp 46) 91 (by rfl) (by rfl) (by rfl) (by rfl) hr ?_)
      go_ret2
      refine⟨?_,HBB.out⟩;rw[HY.out];exact rfl
section
variable {P:Program}{ops:Array Oper}{Q:Exit->Act->World->Prop}{md:Region.Mode}{fuel:Nat}{listed:Array Bool}{tm:Array Value}{df:List Deferred}{w:World}
 {op:Op}{ty0:TypeId}{pos:String}{aft:Array Edge}
theorem mvR {S:World->Prop}(i d:Nat)(v:Value)(hi:ops[i]?=some ⟨some d,op,ty0,pos,aft,none⟩)(hk:(Region.noSelect ops && (Region.free md ops listed i && (Region.ready md ops listed).contains i))=true)
  (hQ:∀ c a w,Q (.panic c) (a.put (some d) v) w->Q (.panic c) a w) (hrun:∀ w,S w->(execOp (Act.eval ⟨tm,df⟩) ⟨some d,op,ty0,pos,aft,none⟩).run P w=.ok (.value v) w) (hS:S w)
  (h:wpAnyH P md ops Q S fuel (listed.setIfInBounds i true) ⟨tm.setIfInBounds d v,df⟩ w):wpAnyH P md ops Q S (fuel+1) listed ⟨tm,df⟩ w:=by
 rw[Bool.and_eq_true,Bool.and_eq_true] at hk;exact zrb i d v hi hk.1 hk.2.1 hk.2.2 hQ hrun hS h
theorem mvT {W1:World}{g:Nat}{v0:Value}(i d s:Nat)(hi:ops[i]?=some ⟨some d,.load 25 (.tmp s),ty0,pos,aft,none⟩)(hx:Act.eval ⟨tm,df⟩ (.tmp s)=.pointer (some ⟨g,0,none⟩))(hk:(Region.noSelect ops && (Region.free md ops listed i && (Region.ready md ops listed).contains i))=true)
  (hQ:∀ c a w,Q (.panic c) (a.put (some d) (.agg #[v0])) w->Q (.panic c) a w) (hR:Hid (W1.heap[g]?=some (.cells #[v0] 25 (0,0)))) (hS:Below W1.heap.size W1 w)
  (h:wpAnyH Tryz.prog md ops Q (fun w'=>Below W1.heap.size W1 w') fuel (listed.setIfInBounds i true) ⟨tm.setIfInBounds d (.agg #[v0]),df⟩ w):wpAnyH Tryz.prog md ops Q (fun w'=>Below W1.heap.size W1 w') (fuel+1) listed ⟨tm,df⟩ w:=by
 rw[Bool.and_eq_true,Bool.and_eq_true] at hk;exact z2i i d 25 (.tmp s) hi g 25 #[v0] (0,0) hx hk.1 hk.2.1 hk.2.2 hQ _ (fun w' hw'=>(hw'.block _ (zab hR.out)).trans hR.out) Tryz.underlying25 rfl (by kernel_rfl) hS h
end
theorem zbr {α β:Type}{l:List α}{f:α->β}{q:Nat}{t:α}{z:β}(h:l[q]?=some t):(l.map f).getD q z=f t:=by simp[List.getD_eq_getElem?_getD,h]
theorem zjf {k:Int}{x:ByteArray}{l:List Pt}{q:Nat}{t:Pt}(h:l[q]?=some t):wiL k x (l.map hdP) (l.map (dtP 0)) q=wiD k x (hdP t) (dtP 0 t) q:=by
 unfold wiL;rw[zbr h,zbr h]
theorem zdw {W:World}{c:Code}{Q:Exit->Act->World->Prop}{A:Act}{v0 v2 v4 v5 v6 v7:Value}{x:ByteArray}{v3:Value}(h:∀ W1,Hid (Below W.heap.size W W1)->Hid (W1.heap[W.heap.size]?=some (.cells #[v0] 25 (0,0)))->Hid (∀ W2,Below W1.heap.size W1 W2->W2.cell? ⟨W.heap.size+1,1,none⟩=some (.string x))->Hid (∀ W2,Below W1.heap.size W1 W2->W2.cell? ⟨W.heap.size+1,3,none⟩=some v3)->Code.wp Tryz.prog c Q A W1):Code.wp Tryz.prog c Q A ((W.alloc (.cells #[v0] 25)).alloc (.cells #[v2,.string x,v4,v3,v5,v6,v7] 59)):=by
 obtain⟨r1,r2,hb⟩:=zb9 W #[v0] #[v2,.string x,v4,v3,v5,v6,v7] 25 59;exact h _ hb r1 (fun W2 g=>(cell_of_row _ _ 1 _ _ _ ((g.block _ (zab r2)).trans r2)).trans rfl) (fun W2 g=>(cell_of_row _ _ 3 _ _ _ ((g.block _ (zab r2)).trans r2)).trans rfl)
structure Pre (w0:World) (bn on cn:Nat) (L:List Nd) (i:Nat) (k:Int) (x:ByteArray) (n:Int) (l:List Pt) (sk:Option Addr) (kc:Nat) (a f e:Int) (d:Nat):Prop where
 hE:EnW w0 (.slice (some ⟨bn,on,none⟩) L.length cn) L
 hN:Dn w0 bn on L i k x n l sk kc a f e
 hK:∀ (j:Nat) (t:Pt),l[j]?=some t->DtC w0 (some ⟨bn,on,none⟩) cn L t
 hd:d+1+cntL l<=100000
 hx:x.size<=100000∧0<=n∧n<=9223372036854775807
def TxG (w0:World) (bn on cn:Nat) (L:List Nd) (i:Nat) (k:Int) (x:ByteArray) (n:Int) (l:List Pt) (d:Nat):Prop:=(dtK d k x n (l.map hdP) (l.map (dtP (kdE k d)))).length<=1000000000000->∀ W:World,Below w0.heap.size w0 W ->
 Calls Tryz.prog 28 #[.agg #[.slice (some ⟨bn,on,none⟩) L.length cn],.int .i64 i,.int .i64 d] W fun e w'=>e=.returned (.string (strU (dtK d k x n (l.map hdP) (l.map (dtP (kdE k d))))))∧Below W.heap.size W w'
section
variable {w0:World}{bn on cn:Nat}{L:List Nd}{i:Nat}{k n a f e:Int}{x:ByteArray}{l:List Pt}{sk:Option Addr}{kc:Nat}{d:Nat}
theorem Pre.wi (P:Pre w0 bn on cn L i k x n l sk kc a f e d){W:World}(hW:Below w0.heap.size w0 W){q:Nat}{t:Pt}(ht:l[q]?=some t)(hl:(wiD k x (hdP t) (dtP 0 t) q).length<=1000000000000):Hid (∀ W',Below W.heap.size W W'->Calls Tryz.prog 52 #[.agg #[.slice (some ⟨bn,on,none⟩) L.length cn],.int .i64 i,.int .i64 q] W' fun e w'=>e=.returned (.string (strU (wiD k x (hdP t) (dtP 0 t) q)))∧Below W'.heap.size W' w') :=
 fun W' hb=>zg7 P.hE P.hN ht (P.hK q t ht) (by have:=zb8 l q t ht;have:=P.hd;omega) hl W' (hW.trans (hb.mono hW.size))
theorem Pre.su (P:Pre w0 bn on cn L i k x n l sk kc a f e d){W:World}(hW:Below w0.heap.size w0 W){q:Nat}{t:Pt}(ht:l[q]?=some t)(hl:(dtP d t).length<=1000000000000):Hid (∀ W',Below W.heap.size W W'->Calls Tryz.prog 56 #[.agg #[.slice (some ⟨bn,on,none⟩) L.length cn],.int .i64 i,.int .i64 q,.int .i64 d] W' fun e w'=>e=.returned (.string (strU (dtP d t)))∧Below W'.heap.size W' w') :=
 fun W' hb=>zuv P.hN ht (P.hK q t ht) d (by have:=zb8 l q t ht;have:=P.hd;omega) hl W' (hW.trans (hb.mono hW.size))
theorem Pre.op (P:Pre w0 bn on cn L i k x n l sk kc a f e d){W:World}(hW:Below w0.heap.size w0 W):W.cell? ⟨bn,on+i * 7,none⟩=some (.int .i64 k)∧W.cell? ⟨bn,on+i * 7+1,none⟩=some (.string x)∧W.cell? ⟨bn,on+i * 7+2,none⟩=some (.int .i64 n)∧W.cell? ⟨bn,on+i * 7+3,none⟩=some (.slice sk l.length kc)∧W.cell? ⟨bn,on+i * 7+4,none⟩=some (.int .i64 a)∧W.cell? ⟨bn,on+i * 7+5,none⟩=some (.int .i64 f)∧W.cell? ⟨bn,on+i * 7+6,none⟩=some (.int .i64 e)∧bn<W.heap.size∧decide ((i:Int)<L.length)=true∧(i:Int)<L.length∧l.length<=100000∧l.length<=kc∧L.length<=100000:=by
 obtain⟨m0,m1,m2,m3,m4,m5,m6⟩:=P.hN.c W hW;have hi:=P.hN.hi;exact⟨m0,m1,m2,m3,m4,m5,m6,block_lt_of_cell m0,by simp;omega,by omega,P.hN.s.1,P.hN.s.2.1,P.hE.l⟩
theorem ats {q:Nat}(h:q<l.length):∃ t,l[q]?=some t:=⟨_,List.getElem?_eq_getElem h⟩
end
end Go.Proofs.YtabiangdmibocaaGreatDoor
