import Derived.Test.YtabiangdmibocaaGreatDoorUnY
import Derived.Test.YtabiangdmibocaaGreatDoorUnZ
namespace Go.Proofs.YtabiangdmibocaaGreatDoor
set_option maxRecDepth 100000
set_option maxHeartbeats 4000000
open Go.RowKit
section
variable {w0:World}{bn on cn:Nat}{L:List Nd}{i:Nat}{n a f e:Int}{x:ByteArray}{l:List Pt}{sk:Option Addr}{kc:Nat}{d:Nat}
theorem z19 (P:Pre w0 bn on cn L i 26 x n l sk kc a f e d)(hlen:1<=l.length):TxG w0 bn on cn L i 26 x n l d:=by
 refine fun hln W hW=>?_;have hd:=P.hd;rw[show kdE 26 d=0 by simp[kdE]] at hln ⊢;obtain⟨t0,ht0⟩:=ats (l:=l) (q:=0) (by omega);have HRES:Hid (strU (dtK d 26 x n (l.map hdP) (l.map (dtP 0)))=x++(strU (wiD 26 x (hdP t0) (dtP 0 t0) 0))):=by
  show _=_;rw[show dtK d 26 x n (l.map hdP) (l.map (dtP 0))=x.data.toList++wiL 26 x (l.map hdP) (l.map (dtP 0)) 0 from rfl];rw[zjf ht0]
  try simp only[zan]
  try simp only[zaw]
  try rfl
 have hsz:(x++(strU (wiD 26 x (hdP t0) (dtP 0 t0) 0)):ByteArray).size<=1000000000000:=by rw[<-HRES.out,zad];exact hln
 try simp only[ByteArray.size_append] at hsz
 have HC0:=P.wi hW ht0 (by rw[<-zad];omega);obtain⟨m0,m1,m2,m3,m4,m5,m6,lt1,z1,z3,hs1,hs2,hs3⟩:=P.op hW;rw[HRES.out];clear P HRES hln hW ht0;generalize strU (wiD 26 x (hdP t0) (dtP 0 t0) 0)=S0 at *;generalize L.length=nl at *;generalize l.length=ln at *
 go_enter Tryz.func28,Tryz.ntmps28
 go_wp2_with fail
 clear m0 m1 m2 m3 m4 m5 m6;refine zdw fun W1 HB R1 C1 C3=>?_;have hS0:Below W1.heap.size W1 W1.drew:=(Below.refl _ _).drew;refine zbc (S:=fun w'=>Below W1.heap.size W1 w') 7 rfl (by kernel_rfl) ?_;refine mvR 0 56 (.pointer (some ⟨W.heap.size+1,1,none⟩)) rfl (by kernel_rfl) (fun _ _ _ h=>h) (fun _ _=>rfl) hS0 ?_;simp only[sI,sS,sZ];refine mvR 1 57 (.string x) rfl (by kernel_rfl) (fun _ _ _ h=>h) (fun w' h=>by have e:=C1.out w' h;go_simp) hS0 ?_;simp only[sI,sS,sZ];refine mvT 2 58 3 rfl rfl (by kernel_rfl) (fun _ _ _ h=>h) R1 hS0 ?_;simp only[sI,sS,sZ];refine mvR 3 59 (.int .i64 i) rfl (by kernel_rfl) (fun _ _ _ h=>h) (fun _ _=>rfl) hS0 ?_;simp only[sI,sS,sZ];refine zas 4 rfl (by rfl) (by kernel_rfl) ?_
 go_simp
 refine(HC0.out _ (HB.out.trans (hS0.mono HB.out.size))).mono ?_;rintro e W2 ⟨rfl,b2⟩;have hS1:=hS0.trans (b2.mono hS0.size);refine⟨hS1,?_⟩;refine mvR 5 61 (.string (x++S0)) rfl (by kernel_rfl) (fun _ _ _ h=>h) (fun _ _=>by go_simp;omega) hS1 ?_;simp only[sI,sS,sZ];refine mvR 6 6 (.string (x++S0)) rfl (by kernel_rfl) (fun _ _ _ h=>h) (fun _ _=>rfl) hS1 ?_;simp only[sI,sS,sZ];refine wpAnyH_done (by kernel_rfl) ?_ _;have HBZ:=hid (HB.out.trans (hS1.mono HB.out.size));clear hS0 hS1 b2
 go_wp2
 go_ret
 exact⟨rfl,HBZ.out⟩
theorem zu4 (P:Pre w0 bn on cn L i 6 x n l sk kc a f e d)(hlen:1<=l.length):TxG w0 bn on cn L i 6 x n l d:=by
 refine fun hln W hW=>?_;have hd:=P.hd;rw[show kdE 6 d=d by simp[kdE]] at hln ⊢;obtain⟨t0,ht0⟩:=ats (l:=l) (q:=0) (by omega);have HRES:Hid (strU (dtK d 6 x n (l.map hdP) (l.map (dtP d)))=x++⟨#[32]⟩++(strU (dtP d t0))):=by
  show _=_;rw[show dtK d 6 x n (l.map hdP) (l.map (dtP d))=x.data.toList++[32]++(l.map (dtP d)).getD 0 [] from rfl];rw[zbr ht0]
  try simp only[zan]
  try simp only[zaw]
  try rfl
 have hsz:(x++⟨#[32]⟩++(strU (dtP d t0)):ByteArray).size<=1000000000000:=by rw[<-HRES.out,zad];exact hln
 try simp only[ByteArray.size_append] at hsz
 try simp only[(show(⟨#[32]⟩:ByteArray).size=1 from rfl)] at hsz
 have HC0:=P.su hW ht0 (by rw[<-zad];omega);obtain⟨m0,m1,m2,m3,m4,m5,m6,lt1,z1,z3,hs1,hs2,hs3⟩:=P.op hW;rw[HRES.out];clear P HRES hln hW ht0;generalize strU (dtP d t0)=S0 at *;generalize L.length=nl at *;generalize l.length=ln at *
 go_enter Tryz.func28,Tryz.ntmps28
 go_wp2_with fail
 clear m0 m1 m2 m3 m4 m5 m6;refine zdw fun W1 HB R1 C1 C3=>?_;have hS0:Below W1.heap.size W1 W1.drew:=(Below.refl _ _).drew;refine zbc (S:=fun w'=>Below W1.heap.size W1 w') 9 rfl (by kernel_rfl) ?_;refine mvR 0 110 (.pointer (some ⟨W.heap.size+1,1,none⟩)) rfl (by kernel_rfl) (fun _ _ _ h=>h) (fun _ _=>rfl) hS0 ?_;simp only[sI,sS,sZ];refine mvR 1 111 (.string x) rfl (by kernel_rfl) (fun _ _ _ h=>h) (fun w' h=>by have e:=C1.out w' h;go_simp) hS0 ?_;simp only[sI,sS,sZ];refine mvR 2 112 (.string (x++⟨#[32]⟩)) rfl (by kernel_rfl) (fun _ _ _ h=>h) (fun _ _=>by go_simp;omega) hS0 ?_;simp only[sI,sS,sZ];refine mvT 3 113 3 rfl rfl (by kernel_rfl) (fun _ _ _ h=>h) R1 hS0 ?_;simp only[sI,sS,sZ];refine mvR 4 114 (.int .i64 i) rfl (by kernel_rfl) (fun _ _ _ h=>h) (fun _ _=>rfl) hS0 ?_;simp only[sI,sS,sZ];refine mvR 5 115 (.int .i64 d) rfl (by kernel_rfl) (fun _ _ _ h=>h) (fun _ _=>rfl) hS0 ?_;simp only[sI,sS,sZ];refine zas 6 rfl (by rfl) (by kernel_rfl) ?_
 go_simp
 refine(HC0.out _ (HB.out.trans (hS0.mono HB.out.size))).mono ?_;rintro e W2 ⟨rfl,b2⟩;have hS1:=hS0.trans (b2.mono hS0.size);refine⟨hS1,?_⟩;refine mvR 7 117 (.string ((x++⟨#[32]⟩)++S0)) rfl (by kernel_rfl) (fun _ _ _ h=>h) (fun _ _=>by go_simp;omega) hS1 ?_;simp only[sI,sS,sZ];refine mvR 8 6 (.string ((x++⟨#[32]⟩)++S0)) rfl (by kernel_rfl) (fun _ _ _ h=>h) (fun _ _=>rfl) hS1 ?_;simp only[sI,sS,sZ];refine wpAnyH_done (by kernel_rfl) ?_ _;have HBZ:=hid (HB.out.trans (hS1.mono HB.out.size));clear hS0 hS1 b2
 go_wp2
 go_ret
 exact⟨rfl,HBZ.out⟩
theorem zxt (P:Pre w0 bn on cn L i 4 x n l sk kc a f e d)(hlen:1<l.length):TxG w0 bn on cn L i 4 x n l d:=by
 refine fun hln W hW=>?_;have hd:=P.hd;rw[show kdE 4 d=d by simp[kdE]] at hln ⊢;obtain⟨t0,ht0⟩:=ats (l:=l) (q:=0) (by omega);obtain⟨t1,ht1⟩:=ats (l:=l) (q:=1) (by omega);have HRES:Hid (strU (dtK d 4 x n (l.map hdP) (l.map (dtP d)))=⟨#[118,97,114,32]⟩++x++⟨#[32]⟩++(strU (dtP d t0))++⟨#[32,61,32]⟩++(strU (dtP d t1))):=by
  show _=_;rw[show dtK d 4 x n (l.map hdP) (l.map (dtP d))=[118,97,114,32]++x.data.toList++[32]++(l.map (dtP d)).getD 0 []++[32,61,32]++(l.map (dtP d)).getD 1 [] from(by have hg:(1<(l.map (dtP d)).length)=True:=(eq_true (by rw[List.length_map];omega));unfold dtK;simp only[hg];rfl)];rw[zbr ht0,zbr ht1]
  try simp only[zan]
  try simp only[zaw]
  try rfl
 have hsz:(⟨#[118,97,114,32]⟩++x++⟨#[32]⟩++(strU (dtP d t0))++⟨#[32,61,32]⟩++(strU (dtP d t1)):ByteArray).size<=1000000000000:=by rw[<-HRES.out,zad];exact hln
 try simp only[ByteArray.size_append] at hsz
 try simp only[(show(⟨#[118,97,114,32]⟩:ByteArray).size=4 from rfl)] at hsz
 try simp only[(show(⟨#[32,61,32]⟩:ByteArray).size=3 from rfl)] at hsz
 try simp only[(show(⟨#[32]⟩:ByteArray).size=1 from rfl)] at hsz
 have HC0:=P.su hW ht0 (by rw[<-zad];omega);have HC1:=P.su hW ht1 (by rw[<-zad];omega);have zg:decide ((l.length:Int) > 1)=true:=decide_eq_true (by omega);have zg2:decide (1<(l.length:Int))=true:=decide_eq_true (by omega);obtain⟨m0,m1,m2,m3,m4,m5,m6,lt1,z1,z3,hs1,hs2,hs3⟩:=P.op hW;rw[HRES.out];clear P HRES hln hW ht0 ht1;generalize strU (dtP d t0)=S0 at *;generalize strU (dtP d t1)=S1 at *;generalize L.length=nl at *;generalize l.length=ln at *
 go_enter Tryz.func28,Tryz.ntmps28
 go_wp2_with fail
 clear m0 m1 m2 m3 m4 m5 m6;refine zdw fun W1 HB R1 C1 C3=>?_;have hS0:Below W1.heap.size W1 W1.drew:=(Below.refl _ _).drew;refine zbc (S:=fun w'=>Below W1.heap.size W1 w') 16 rfl (by kernel_rfl) ?_;refine mvR 0 135 (.pointer (some ⟨W.heap.size+1,1,none⟩)) rfl (by kernel_rfl) (fun _ _ _ h=>h) (fun _ _=>rfl) hS0 ?_;simp only[sI,sS,sZ];refine mvR 1 136 (.string x) rfl (by kernel_rfl) (fun _ _ _ h=>h) (fun w' h=>by have e:=C1.out w' h;go_simp) hS0 ?_;simp only[sI,sS,sZ];refine mvR 2 137 (.string (⟨#[118,97,114,32]⟩++x)) rfl (by kernel_rfl) (fun _ _ _ h=>h) (fun _ _=>by go_simp;omega) hS0 ?_;simp only[sI,sS,sZ];refine mvR 3 138 (.string ((⟨#[118,97,114,32]⟩++x)++⟨#[32]⟩)) rfl (by kernel_rfl) (fun _ _ _ h=>h) (fun _ _=>by go_simp;omega) hS0 ?_;simp only[sI,sS,sZ];refine mvT 4 139 3 rfl rfl (by kernel_rfl) (fun _ _ _ h=>h) R1 hS0 ?_;simp only[sI,sS,sZ];refine mvR 5 140 (.int .i64 i) rfl (by kernel_rfl) (fun _ _ _ h=>h) (fun _ _=>rfl) hS0 ?_;simp only[sI,sS,sZ];refine mvR 6 141 (.int .i64 d) rfl (by kernel_rfl) (fun _ _ _ h=>h) (fun _ _=>rfl) hS0 ?_;simp only[sI,sS,sZ];refine mvT 10 145 3 rfl rfl (by kernel_rfl) (fun _ _ _ h=>h) R1 hS0 ?_;simp only[sI,sS,sZ];refine mvR 11 146 (.int .i64 i) rfl (by kernel_rfl) (fun _ _ _ h=>h) (fun _ _=>rfl) hS0 ?_;simp only[sI,sS,sZ];refine mvR 12 147 (.int .i64 d) rfl (by kernel_rfl) (fun _ _ _ h=>h) (fun _ _=>rfl) hS0 ?_;simp only[sI,sS,sZ];refine zas 7 rfl (by rfl) (by kernel_rfl) ?_
 go_simp
 refine(HC0.out _ (HB.out.trans (hS0.mono HB.out.size))).mono ?_;rintro e W2 ⟨rfl,b2⟩;have hS1:=hS0.trans (b2.mono hS0.size);refine⟨hS1,?_⟩;refine mvR 8 143 (.string (((⟨#[118,97,114,32]⟩++x)++⟨#[32]⟩)++S0)) rfl (by kernel_rfl) (fun _ _ _ h=>h) (fun _ _=>by go_simp;omega) hS1 ?_;simp only[sI,sS,sZ];refine mvR 9 144 (.string ((((⟨#[118,97,114,32]⟩++x)++⟨#[32]⟩)++S0)++⟨#[32,61,32]⟩)) rfl (by kernel_rfl) (fun _ _ _ h=>h) (fun _ _=>by go_simp;omega) hS1 ?_;simp only[sI,sS,sZ];refine zas 13 rfl (by rfl) (by kernel_rfl) ?_
 go_simp
 refine(HC1.out _ (HB.out.trans (hS1.mono HB.out.size))).mono ?_;rintro e W3 ⟨rfl,b3⟩;have hS2:=hS1.trans (b3.mono hS1.size);refine⟨hS2,?_⟩;refine mvR 14 149 (.string (((((⟨#[118,97,114,32]⟩++x)++⟨#[32]⟩)++S0)++⟨#[32,61,32]⟩)++S1)) rfl (by kernel_rfl) (fun _ _ _ h=>h) (fun _ _=>by go_simp;omega) hS2 ?_;simp only[sI,sS,sZ];refine mvR 15 6 (.string (((((⟨#[118,97,114,32]⟩++x)++⟨#[32]⟩)++S0)++⟨#[32,61,32]⟩)++S1)) rfl (by kernel_rfl) (fun _ _ _ h=>h) (fun _ _=>rfl) hS2 ?_;simp only[sI,sS,sZ];refine wpAnyH_done (by kernel_rfl) ?_ _;have HBZ:=hid (HB.out.trans (hS2.mono HB.out.size));clear hS0 hS1 hS2 b2 b3
 go_wp2
 go_ret
 exact⟨rfl,HBZ.out⟩
theorem z2a (P:Pre w0 bn on cn L i 14 x n l sk kc a f e d)(hlen:2<=l.length)(hle:¬ 2<l.length):TxG w0 bn on cn L i 14 x n l d:=by
 refine fun hln W hW=>?_;have hd:=P.hd;rw[show kdE 14 d=d by simp[kdE]] at hln ⊢;obtain⟨t0,ht0⟩:=ats (l:=l) (q:=0) (by omega);obtain⟨t1,ht1⟩:=ats (l:=l) (q:=1) (by omega);have HRES:Hid (strU (dtK d 14 x n (l.map hdP) (l.map (dtP d)))=⟨#[105,102,32]⟩++(strU (dtP d t0))++⟨#[32]⟩++(strU (dtP d t1))):=by
  show _=_;rw[show dtK d 14 x n (l.map hdP) (l.map (dtP d))=[105,102,32]++(l.map (dtP d)).getD 0 []++[32]++(l.map (dtP d)).getD 1 [] from(by have hg:(2<(l.map (dtP d)).length)=False:=(eq_false (by rw[List.length_map];omega));unfold dtK;simp only[hg];rfl)];rw[zbr ht0,zbr ht1]
  try simp only[zan]
  try simp only[zaw]
  try rfl
 have hsz:(⟨#[105,102,32]⟩++(strU (dtP d t0))++⟨#[32]⟩++(strU (dtP d t1)):ByteArray).size<=1000000000000:=by rw[<-HRES.out,zad];exact hln
 try simp only[ByteArray.size_append] at hsz
 try simp only[(show(⟨#[105,102,32]⟩:ByteArray).size=3 from rfl)] at hsz
 try simp only[(show(⟨#[32]⟩:ByteArray).size=1 from rfl)] at hsz
 have HC0:=P.su hW ht0 (by rw[<-zad];omega);have HC1:=P.su hW ht1 (by rw[<-zad];omega);have zg:decide ((l.length:Int) > 2)=false:=decide_eq_false (by omega);have zg2:decide (2<(l.length:Int))=false:=decide_eq_false (by omega);obtain⟨m0,m1,m2,m3,m4,m5,m6,lt1,z1,z3,hs1,hs2,hs3⟩:=P.op hW;rw[HRES.out];clear P HRES hln hW ht0 ht1;generalize strU (dtP d t0)=S0 at *;generalize strU (dtP d t1)=S1 at *;generalize L.length=nl at *;generalize l.length=ln at *
 go_enter Tryz.func28,Tryz.ntmps28
 go_wp2_with fail
 clear m0 m1 m2 m3 m4 m5 m6;refine zdw fun W1 HB R1 C1 C3=>?_;have hS0:Below W1.heap.size W1 W1.drew:=(Below.refl _ _).drew;refine zbc (S:=fun w'=>Below W1.heap.size W1 w') 12 rfl (by kernel_rfl) ?_;refine mvT 0 188 3 rfl rfl (by kernel_rfl) (fun _ _ _ h=>h) R1 hS0 ?_;simp only[sI,sS,sZ];refine mvR 1 189 (.int .i64 i) rfl (by kernel_rfl) (fun _ _ _ h=>h) (fun _ _=>rfl) hS0 ?_;simp only[sI,sS,sZ];refine mvR 2 190 (.int .i64 d) rfl (by kernel_rfl) (fun _ _ _ h=>h) (fun _ _=>rfl) hS0 ?_;simp only[sI,sS,sZ];refine mvT 6 194 3 rfl rfl (by kernel_rfl) (fun _ _ _ h=>h) R1 hS0 ?_;simp only[sI,sS,sZ];refine mvR 7 195 (.int .i64 i) rfl (by kernel_rfl) (fun _ _ _ h=>h) (fun _ _=>rfl) hS0 ?_;simp only[sI,sS,sZ];refine mvR 8 196 (.int .i64 d) rfl (by kernel_rfl) (fun _ _ _ h=>h) (fun _ _=>rfl) hS0 ?_;simp only[sI,sS,sZ];refine zas 3 rfl (by rfl) (by kernel_rfl) ?_
 go_simp
 refine(HC0.out _ (HB.out.trans (hS0.mono HB.out.size))).mono ?_;rintro e W2 ⟨rfl,b2⟩;have hS1:=hS0.trans (b2.mono hS0.size);refine⟨hS1,?_⟩;refine mvR 4 192 (.string (⟨#[105,102,32]⟩++S0)) rfl (by kernel_rfl) (fun _ _ _ h=>h) (fun _ _=>by go_simp;omega) hS1 ?_;simp only[sI,sS,sZ];refine mvR 5 193 (.string ((⟨#[105,102,32]⟩++S0)++⟨#[32]⟩)) rfl (by kernel_rfl) (fun _ _ _ h=>h) (fun _ _=>by go_simp;omega) hS1 ?_;simp only[sI,sS,sZ];refine zas 9 rfl (by rfl) (by kernel_rfl) ?_
 go_simp
 refine(HC1.out _ (HB.out.trans (hS1.mono HB.out.size))).mono ?_;rintro e W3 ⟨rfl,b3⟩;have hS2:=hS1.trans (b3.mono hS1.size);refine⟨hS2,?_⟩;refine mvR 10 198 (.string (((⟨#[105,102,32]⟩++S0)++⟨#[32]⟩)++S1)) rfl (by kernel_rfl) (fun _ _ _ h=>h) (fun _ _=>by go_simp;omega) hS2 ?_;simp only[sI,sS,sZ];refine mvR 11 6 (.string (((⟨#[105,102,32]⟩++S0)++⟨#[32]⟩)++S1)) rfl (by kernel_rfl) (fun _ _ _ h=>h) (fun _ _=>rfl) hS2 ?_;simp only[sI,sS,sZ];refine wpAnyH_done (by kernel_rfl) ?_ _;have HBZ:=hid (HB.out.trans (hS2.mono HB.out.size));clear hS0 hS1 hS2 b2 b3
 go_wp2
 go_ret
 exact⟨rfl,HBZ.out⟩
theorem zu5 (P:Pre w0 bn on cn L i 17 x n l sk kc a f e d)(hlen:1<=l.length):TxG w0 bn on cn L i 17 x n l d:=by
 refine fun hln W hW=>?_;have hd:=P.hd;rw[show kdE 17 d=d by simp[kdE]] at hln ⊢;obtain⟨t0,ht0⟩:=ats (l:=l) (q:=0) (by omega);have HRES:Hid (strU (dtK d 17 x n (l.map hdP) (l.map (dtP d)))=x++⟨#[32,58,61,32]⟩++(strU (dtP d t0))):=by
  show _=_;rw[show dtK d 17 x n (l.map hdP) (l.map (dtP d))=x.data.toList++[32,58,61,32]++(l.map (dtP d)).getD 0 [] from rfl];rw[zbr ht0]
  try simp only[zan]
  try simp only[zaw]
  try rfl
 have hsz:(x++⟨#[32,58,61,32]⟩++(strU (dtP d t0)):ByteArray).size<=1000000000000:=by rw[<-HRES.out,zad];exact hln
 try simp only[ByteArray.size_append] at hsz
 try simp only[(show(⟨#[32,58,61,32]⟩:ByteArray).size=4 from rfl)] at hsz
 have HC0:=P.su hW ht0 (by rw[<-zad];omega);obtain⟨m0,m1,m2,m3,m4,m5,m6,lt1,z1,z3,hs1,hs2,hs3⟩:=P.op hW;rw[HRES.out];clear P HRES hln hW ht0;generalize strU (dtP d t0)=S0 at *;generalize L.length=nl at *;generalize l.length=ln at *
 go_enter Tryz.func28,Tryz.ntmps28
 go_wp2_with fail
 clear m0 m1 m2 m3 m4 m5 m6;refine zdw fun W1 HB R1 C1 C3=>?_;have hS0:Below W1.heap.size W1 W1.drew:=(Below.refl _ _).drew;refine zbc (S:=fun w'=>Below W1.heap.size W1 w') 9 rfl (by kernel_rfl) ?_;refine mvR 0 225 (.pointer (some ⟨W.heap.size+1,1,none⟩)) rfl (by kernel_rfl) (fun _ _ _ h=>h) (fun _ _=>rfl) hS0 ?_;simp only[sI,sS,sZ];refine mvR 1 226 (.string x) rfl (by kernel_rfl) (fun _ _ _ h=>h) (fun w' h=>by have e:=C1.out w' h;go_simp) hS0 ?_;simp only[sI,sS,sZ];refine mvR 2 227 (.string (x++⟨#[32,58,61,32]⟩)) rfl (by kernel_rfl) (fun _ _ _ h=>h) (fun _ _=>by go_simp;omega) hS0 ?_;simp only[sI,sS,sZ];refine mvT 3 228 3 rfl rfl (by kernel_rfl) (fun _ _ _ h=>h) R1 hS0 ?_;simp only[sI,sS,sZ];refine mvR 4 229 (.int .i64 i) rfl (by kernel_rfl) (fun _ _ _ h=>h) (fun _ _=>rfl) hS0 ?_;simp only[sI,sS,sZ];refine mvR 5 230 (.int .i64 d) rfl (by kernel_rfl) (fun _ _ _ h=>h) (fun _ _=>rfl) hS0 ?_;simp only[sI,sS,sZ];refine zas 6 rfl (by rfl) (by kernel_rfl) ?_
 go_simp
 refine(HC0.out _ (HB.out.trans (hS0.mono HB.out.size))).mono ?_;rintro e W2 ⟨rfl,b2⟩;have hS1:=hS0.trans (b2.mono hS0.size);refine⟨hS1,?_⟩;refine mvR 7 232 (.string ((x++⟨#[32,58,61,32]⟩)++S0)) rfl (by kernel_rfl) (fun _ _ _ h=>h) (fun _ _=>by go_simp;omega) hS1 ?_;simp only[sI,sS,sZ];refine mvR 8 6 (.string ((x++⟨#[32,58,61,32]⟩)++S0)) rfl (by kernel_rfl) (fun _ _ _ h=>h) (fun _ _=>rfl) hS1 ?_;simp only[sI,sS,sZ];refine wpAnyH_done (by kernel_rfl) ?_ _;have HBZ:=hid (HB.out.trans (hS1.mono HB.out.size));clear hS0 hS1 b2
 go_wp2
 go_ret
 exact⟨rfl,HBZ.out⟩
theorem zxu (P:Pre w0 bn on cn L i 21 x n l sk kc a f e d):TxG w0 bn on cn L i 21 x n l d:=by
 refine fun hln W hW=>?_;have hd:=P.hd;rw[show kdE 21 d=d by simp[kdE]] at hln ⊢;have HRES:Hid (strU (dtK d 21 x n (l.map hdP) (l.map (dtP d)))=quoT x):=by
  show _=_;rw[show dtK d 21 x n (l.map hdP) (l.map (dtP d))=(quoT x).data.toList from rfl]
  try simp only[zan]
  try simp only[zaw]
  try rfl
 have hsz:(quoT x:ByteArray).size<=1000000000000:=by rw[<-HRES.out,zad];exact hln
 try simp only[ByteArray.size_append] at hsz
 have hqv:∃ bl,strB (quoO x.data.toList)=.tuple #[.string (quoT x),.bool bl]:=by
  unfold strB quoT
  cases quoO x.data.toList with
  | none=>exact⟨_,rfl⟩
  | some q=>exact⟨_,rfl⟩
 obtain⟨bl,hqv⟩:=hqv;have HCQ:Hid (∀ W',Below W.heap.size W W'->Calls Tryz.prog 51 #[.string x] W' fun e w'=>e=.returned (.tuple #[.string (quoT x),.bool bl])∧Below W'.heap.size W' w'):=fun W' hb=>by
  rw[<-hqv];exact zje x W' P.hx.1
 clear hqv;obtain⟨m0,m1,m2,m3,m4,m5,m6,lt1,z1,z3,hs1,hs2,hs3⟩:=P.op hW;rw[HRES.out];clear P HRES hln hW;generalize L.length=nl at *;generalize l.length=ln at *;have HBA:Hid (Below W.heap.size W ((W.alloc (.cells #[.slice (some ⟨bn,on,none⟩) nl cn] 25)).alloc (.cells #[.int .i64 21,.string x,.int .i64 n,.slice sk ln kc,.int .i64 a,.int .i64 f,.int .i64 e] 59))):=(zb9 W _ _ _ _).2.2
 go_enter Tryz.func28,Tryz.ntmps28
 go_wp2_with fail
 refine(HCQ.out _ HBA.out).mono ?_;rintro e W2 ⟨rfl,b2⟩;have HB2:=hid (HBA.out.trans (b2.mono HBA.out.size));clear b2 HCQ HBA m0 m1 m2 m3 m4 m5 m6
 go_wp2
 go_ret
 exact⟨rfl,HB2.out⟩
end
def wasP:Bool->List (Int × ByteArray)->Nat->Bool
 | b,_,0=>b
 | b,[],_+1=>b
 | _,h::hs,p+1=>wasP (h.1 == 2) hs p
theorem zl7:∀ (p:Nat)(b:Bool)(hs:List (Int × ByteArray))(os:List (List UInt8))(h:Int × ByteArray)(o:List UInt8),hs[p]?=some h->os[p]?=some o ->
  fiE b (hs.take (p+1)) (os.take (p+1))=fiE b (hs.take p) (os.take p)++((if h.1≠2∨wasP b hs p=false then[10] else[])++(o++[10]))∧wasP b hs (p+1)=(h.1 == 2)∧(fiE b (hs.take (p+1)) (os.take (p+1))).length<=(fiE b hs os).length
 | p,b,[],os,h,o,h1,h2=>by simp at h1
 | p,b,_::_,[],h,o,h1,h2=>by simp at h2
 | 0,b,x::hs,y::os,h,o,h1,h2=>by
  obtain rfl:x=h:=by simpa using h1
  obtain rfl:y=o:=by simpa using h2
  refine⟨by simp[fiE,wasP];try rfl,by simp[wasP],?_⟩;rw[List.take_succ_cons,List.take_succ_cons,fiE,fiE];simp only[List.take_zero,List.length_append,fiE,List.length_nil];omega
 | p+1,b,x::hs,y::os,h,o,h1,h2=>by
  obtain⟨a1,a2,a3⟩:=zl7 p (x.1 == 2) hs os h o (by simpa using h1) (by simpa using h2);refine⟨?_,?_,?_⟩
  ·rw[List.take_succ_cons,List.take_succ_cons,List.take_succ_cons,List.take_succ_cons,fiE,fiE,a1,wasP];simp
  ·rw[wasP];exact a2
  ·rw[List.take_succ_cons,List.take_succ_cons,fiE,fiE,List.length_append,List.length_append (bs:=fiE (x.1 == 2) hs os)];omega
theorem zxv (x:ByteArray):x++strU []=x:=by
 apply ByteArray.ext;simp[strU]
section
variable {w0:World}{bn on cn:Nat}{L:List Nd}
theorem zqo {n a f e:Int}{x:ByteArray}{l:List Pt}{sk:Option Addr}{kc:Nat}(hE:EnW w0 (.slice (some ⟨bn,on,none⟩) L.length cn) L)(hN:Dn w0 bn on L 0 1 x n l sk kc a f e)(hK:∀ (j:Nat)(t:Pt),l[j]?=some t->DtC w0 (some ⟨bn,on,none⟩) cn L t)(hc:cntL l<=100000)(hln:(dtK 0 1 x n (l.map hdP) (l.map (dtP 0))).length<=1000000000000) (W:World)(hW:Below w0.heap.size w0 W) :
  Calls Tryz.prog 58 #[.agg #[.slice (some ⟨bn,on,none⟩) L.length cn]] W fun e w'=>e=.returned (.string (strU (dtK 0 1 x n (l.map hdP) (l.map (dtP 0)))))∧Below W.heap.size W w':=by
 have hs:=hN.s;have hiL:=hN.hi;have hLl:=hE.l;obtain⟨os,hos⟩:∃ os,l.map (dtP 0)=os:=⟨_,rfl⟩;obtain⟨hh,hhh⟩:∃ hh,l.map hdP=hh:=⟨_,rfl⟩;have hol:os.length=l.length:=by rw[<-hos];simp
 have hhl:hh.length=l.length:=by rw[<-hhh];simp
 obtain⟨pre,hpre⟩:∃ pre:ByteArray,⟨#[112,97,99,107,97,103,101,32]⟩++x++⟨#[10]⟩=pre:=⟨_,rfl⟩;have HFU:Hid (strU (dtK 0 1 x n hh os)=pre++strU (fiE false hh os)):=by
  show _=_;rw[<-hpre,show dtK 0 1 x n hh os=[112,97,99,107,97,103,101,32]++x.data.toList++[10]++fiE false hh os from rfl];simp only[zan,zaw];rfl
 rw[hos,hhh] at hln ⊢;have hsz:(strU (dtK 0 1 x n hh os)).size<=1000000000000:=by rw[zad];exact hln
 rw[HFU.out] at hsz;simp only[ByteArray.size_append,zad] at hsz;have hpz:pre.size=9+x.size:=by
  rw[<-hpre];simp only[ByteArray.size_append,(show(⟨#[112,97,99,107,97,103,101,32]⟩:ByteArray).size=8 from rfl),(show(⟨#[10]⟩:ByteArray).size=1 from rfl)];omega
 have HC:Hid (∀ p,p<os.length->∃ (kt:Int) (xt:ByteArray) (o:List UInt8) (b oo kj:Nat),sk=some ⟨b,oo,none⟩∧kj<L.length∧hh[p]?=some (kt,xt)∧os[p]?=some o∧(∀ W',Below W.heap.size W W'->W'.cell? ⟨b,oo+p,none⟩=some (.int .i64 kj)∧W'.cell? ⟨bn,on+kj * 7,none⟩=some (.int .i64 kt))∧(o.length<=1000000000000->∀ W',Below W.heap.size W W'->Calls Tryz.prog 28 #[.agg #[.slice (some ⟨bn,on,none⟩) L.length cn],.int .i64 kj,.int .i64 0] W' fun e w'=>e=.returned (.string (strU o))∧Below W'.heap.size W' w')):=fun p hp=>by
  obtain⟨t,ht⟩:∃ t,l[p]?=some t:=⟨_,List.getElem?_eq_getElem (by omega)⟩;obtain⟨b,oo,kj,hsk,hem,hkl,hkc⟩:=hN.kid p t ht;have hT:=hK p t ht;have ho:os[p]?=some (dtP 0 t):=by rw[<-hos,List.getElem?_map,ht];rfl
  have hct:=zb8 l p t ht
  cases t with
  | mk kt xt nt at_ ft et lt=>
  obtain⟨bn',on',sk2,kc2,hsn,hN2⟩:=zft hE hem;injection hsn with hsn;injection hsn with e1 e2;subst e1 e2;refine⟨kt,xt,_,b,oo,kj,hsk,hkl,by rw[<-hhh,List.getElem?_map,ht];rfl,ho,fun W' hb=>⟨hkc W' (hW.trans (hb.mono hW.size)),(hN2.c W' (hW.trans (hb.mono hW.size))).1⟩,fun hl W' hb=>?_⟩;exact hT 0 kj W' hem (hW.trans (hb.mono hW.size)) (by omega) hl
 have m0':=hN.c W hW;rw[Nat.zero_mul,Nat.add_zero] at m0';obtain⟨m0,m1,m2,m3,m4,m5,m6⟩:=m0';have hbn:bn<W.heap.size:=block_lt_of_cell m0;have z1:decide ((0:Int)<L.length)=true:=by simp;omega
 have z3:(0:Int)<L.length:=by omega
 have hll:=hs.1;have hlk:=hs.2.1;rw[HFU.out];have HPRE:Hid _:=hpre;clear hN hK hln hW hos hhh hE HFU hs hpre;generalize L.length=nl at *;generalize l.length=ln at *;subst hol;have hxz:x.size+9<=1000000000000:=by omega
 have HBA:Hid (Below W.heap.size W ((W.alloc (.cells #[.slice (some ⟨bn,on,none⟩) nl cn] 25)).alloc (.cells #[.int .i64 1,.string x,.int .i64 n,.slice sk os.length kc,.int .i64 a,.int .i64 f,.int .i64 e] 59))):=((Below.refl _ _).alloc (Nat.le_refl _) _).alloc (by simp) _
 go_enter Tryz.func58,Tryz.ntmps58
 go_wp2_with fail
 clear m0 m1 m2 m3 m4 m5 m6;rw[HPRE.out];refine zdd (fun W1=>W1.heap[W.heap.size]?=some (.cells #[.slice (some ⟨bn,on,none⟩) nl cn] 25 (0,0))∧W1.heap[W.heap.size+1]?=some (.cells #[.int .i64 1,.string x,.int .i64 n,.slice sk os.length kc,.int .i64 a,.int .i64 f,.int .i64 e] 59 (0,0))∧Below W.heap.size W W1) (zb9 W _ _ _ _) ?_;rintro W1 ⟨r1,r2,hb1⟩;clear HBA HPRE;have HB1:Hid _:=hb1;have R1:Hid _:=r1;clear hb1 r1 r2
 go_loopw [4,5,20] (fun s ws k wr=>∃ p:Nat,p<=os.length∧k=.int .i64 p∧s=.string (pre++strU (fiE false (hh.take p) (os.take p)))∧ws=.bool (wasP false hh p)∧Below W1.heap.size W1 wr) (fun _ _ k _=>os.length - (intOf k).toNat)
 case atStart=>exact⟨0,Nat.zero_le _,rfl,congrArg Value.string (zxv pre).symm,by cases hh <;> rfl,Below.refl _ _⟩
 case round=>
  obtain⟨p,hp,rfl,rfl,rfl,hb⟩:=hrel;have r2:=(hb.block _ (zab R1.out)).trans R1.out;have c1:wr.cell? ⟨W.heap.size,0,none⟩=some (.slice (some ⟨bn,on,none⟩) nl cn):=(cell_of_row _ _ 0 _ _ _ r2).trans rfl;have hbw:Below W.heap.size W wr:=HB1.out.trans (hb.mono HB1.out.size)
  by_cases hlt:p<os.length
  ·have z5:decide ((p:Int)<(os.length:Int))=true:=by simp;omega
   have z7:(p:Int)<(os.length:Int):=by omega
   obtain⟨kt,xt,o,b,oo,kj,hsk,hkl,hhp,hop,hcell,hcall⟩:=HC.out p hlt;obtain⟨c3,m0⟩:=hcell wr hbw;have z8:decide ((kj:Int)<nl)=true:=by simp;omega
   obtain⟨q1,q2,q3⟩:=zl7 p false hh os (kt,xt) o hhp hop;generalize hJ:(if (kt,xt).1≠2∨wasP false hh p=false then[(10:UInt8)] else[])=J at *;rw[q1] at q3;have hol1:o.length+1+(fiE false (hh.take p) (os.take p)).length+J.length<=(fiE false hh os).length:=by
    simp only[List.length_append,List.length_cons,List.length_nil] at q3;omega
   have hz:pre.size+(strU (fiE false (hh.take p) (os.take p))).size+(strU o).size+1+J.length<=1000000000000:=by rw[zad,zad];omega
   have HC2:=hcall (by omega) _ hbw;have HBR:Hid _:=hb;have HEND:Hid (∀ (S:ByteArray) (bb:Bool) (w':World),S=pre++strU (fiE false (hh.take (p+1)) (os.take (p+1)))->bb=wasP false hh (p+1)->Below W1.heap.size W1 w'->(∃ p':Nat,p'<=os.length∧Value.int .i64 ((p:Int)+1)=.int .i64 (p':Int)∧Value.string S=.string (pre++strU (fiE false (hh.take p') (os.take p')))∧Value.bool bb=.bool (wasP false hh p')∧Below W1.heap.size W1 w')∧os.length - (intOf (.int .i64 ((p:Int)+1))).toNat<os.length - (intOf (.int .i64 (p:Int))).toNat):=fun S bb w' h1 h2 h4=>⟨⟨p+1,hlt,congrArg (Value.int .i64) (by omega),congrArg Value.string h1,congrArg Value.bool h2,h4⟩,(by show os.length - ((p:Int)+1).toNat<os.length - (p:Int).toNat;omega)⟩;have Q1:Hid _:=q1;have Q2:Hid _:=q2;clear hcall HC hcell hbw hb r2 q1 q2 q3 hol1 hhp hop;subst hsk;generalize hF:fiE false (hh.take p) (os.take p)=F at *;generalize wasP false hh p=ws at *
   cases t2:(kt == 2)
   ·have hc1:J=[10]:=by rw[<-hJ];exact if_pos (.inl (by simpa using t2))
    rw[hc1] at hz Q1;simp only[List.length_cons,List.length_nil] at hz;have HEND':Hid _:=fun w' hb=>HEND.out (pre++strU F++⟨#[10]⟩++(strU o++⟨#[10]⟩)) false w' (by rw[Q1.out];simp only[zan,ByteArray.append_assoc];rfl) (by rw[Q2.out];exact t2.symm) hb;clear HEND hc1 hF Q1 Q2 hJ;generalize strU o=O at *;generalize strU F=FF at *
    go_wp2_with fail
    refine HC2.mono ?_;rintro e W2 ⟨rfl,b2⟩;have HF:Hid _:=HEND'.out W2 (HBR.out.trans (b2.mono HBR.out.size));clear b2 HEND' HC2 c1 c3 m0
    go_wp2
    exact HF.out
   cases ws
   ·have hc1:J=[10]:=by rw[<-hJ];exact if_pos (.inr rfl)
    rw[hc1] at hz Q1;simp only[List.length_cons,List.length_nil] at hz;have HEND':Hid _:=fun w' hb=>HEND.out (pre++strU F++⟨#[10]⟩++(strU o++⟨#[10]⟩)) true w' (by rw[Q1.out];simp only[zan,ByteArray.append_assoc];rfl) (by rw[Q2.out];exact t2.symm) hb;clear HEND hc1 hF Q1 Q2 hJ;generalize strU o=O at *;generalize strU F=FF at *
    go_wp2_with fail
    refine HC2.mono ?_;rintro e W2 ⟨rfl,b2⟩;have HF:Hid _:=HEND'.out W2 (HBR.out.trans (b2.mono HBR.out.size));clear b2 HEND' HC2 c1 c3 m0
    go_wp2
    exact HF.out
   ·have hc1:J=[]:=by rw[<-hJ];exact if_neg (fun h=>h.elim (fun h=>h (by simpa using t2)) (fun h=>by cases h))
    rw[hc1] at hz Q1;simp only[List.length_nil] at hz;have HEND':Hid _:=fun w' hb=>HEND.out (pre++strU F++(strU o++⟨#[10]⟩)) true w' (by rw[Q1.out,List.nil_append];simp only[zan,ByteArray.append_assoc];rfl) (by rw[Q2.out];exact t2.symm) hb;clear HEND hc1 hF Q1 Q2 hJ;generalize strU o=O at *;generalize strU F=FF at *
    go_wp2_with fail
    refine HC2.mono ?_;rintro e W2 ⟨rfl,b2⟩;have HF:Hid _:=HEND'.out W2 (HBR.out.trans (b2.mono HBR.out.size));clear b2 HEND' HC2 c1 c3 m0
    go_wp2
    exact HF.out
  ·have z5:decide ((p:Int)<(os.length:Int))=false:=by simp;omega
   obtain rfl:p=os.length:=by omega
   have HBW:Hid _:=hbw;rw[List.take_length,List.take_of_length_le (by omega)];clear hsz HC hbw r2
   go_wp2
   go_ret
   exact⟨rfl,HBW.out⟩
end
end Go.Proofs.YtabiangdmibocaaGreatDoor
