import Derived.Test.YtabiangdmibocaaGreatDoorUnY
namespace Go.Proofs.YtabiangdmibocaaGreatDoor
set_option maxRecDepth 100000
set_option maxHeartbeats 4000000
open Go.RowKit
section
variable {w0:World}{bn on cn:Nat}{L:List Nd}{i:Nat}{n a f e:Int}{x:ByteArray}{l:List Pt}{sk:Option Addr}{kc:Nat}{d:Nat}
theorem z13 (P:Pre w0 bn on cn L i 24 x n l sk kc a f e d)(hlen:1<=l.length):TxG w0 bn on cn L i 24 x n l d:=by
 refine fun hln W hW=>?_;have hd:=P.hd;rw[show kdE 24 d=0 by simp[kdE]] at hln ⊢;obtain⟨t0,ht0⟩:=ats (l:=l) (q:=0) (by omega);have HRES:Hid (strU (dtK d 24 x n (l.map hdP) (l.map (dtP 0)))=(strU (wiD 24 x (hdP t0) (dtP 0 t0) 0))++⟨#[46]⟩++x):=by
  show _=_;rw[show dtK d 24 x n (l.map hdP) (l.map (dtP 0))=wiL 24 x (l.map hdP) (l.map (dtP 0)) 0++[46]++x.data.toList from rfl];rw[zjf ht0]
  try simp only[zan]
  try simp only[zaw]
  try rfl
 have hsz:((strU (wiD 24 x (hdP t0) (dtP 0 t0) 0))++⟨#[46]⟩++x:ByteArray).size<=1000000000000:=by rw[<-HRES.out,zad];exact hln
 try simp only[ByteArray.size_append] at hsz
 try simp only[(show(⟨#[46]⟩:ByteArray).size=1 from rfl)] at hsz
 have HC0:=P.wi hW ht0 (by rw[<-zad];omega);obtain⟨m0,m1,m2,m3,m4,m5,m6,lt1,z1,z3,hs1,hs2,hs3⟩:=P.op hW;rw[HRES.out];clear P HRES hln hW ht0;generalize strU (wiD 24 x (hdP t0) (dtP 0 t0) 0)=S0 at *;generalize L.length=nl at *;generalize l.length=ln at *
 go_enter Tryz.func28,Tryz.ntmps28
 go_wp2_with fail
 clear m0 m1 m2 m3 m4 m5 m6;refine zdw fun W1 HB R1 C1 C3=>?_;have hS0:Below W1.heap.size W1 W1.drew:=(Below.refl _ _).drew;refine zbc (S:=fun w'=>Below W1.heap.size W1 w') 8 rfl (by kernel_rfl) ?_;refine mvT 0 36 3 rfl rfl (by kernel_rfl) (fun _ _ _ h=>h) R1 hS0 ?_;simp only[sI,sS,sZ];refine mvR 1 37 (.int .i64 i) rfl (by kernel_rfl) (fun _ _ _ h=>h) (fun _ _=>rfl) hS0 ?_;simp only[sI,sS,sZ];refine mvR 4 40 (.pointer (some ⟨W.heap.size+1,1,none⟩)) rfl (by kernel_rfl) (fun _ _ _ h=>h) (fun _ _=>rfl) hS0 ?_;simp only[sI,sS,sZ];refine mvR 5 41 (.string x) rfl (by kernel_rfl) (fun _ _ _ h=>h) (fun w' h=>by have e:=C1.out w' h;go_simp) hS0 ?_;simp only[sI,sS,sZ];refine zas 2 rfl (by rfl) (by kernel_rfl) ?_
 go_simp
 refine(HC0.out _ (HB.out.trans (hS0.mono HB.out.size))).mono ?_;rintro e W2 ⟨rfl,b2⟩;have hS1:=hS0.trans (b2.mono hS0.size);refine⟨hS1,?_⟩;refine mvR 3 39 (.string (S0++⟨#[46]⟩)) rfl (by kernel_rfl) (fun _ _ _ h=>h) (fun _ _=>by go_simp;omega) hS1 ?_;simp only[sI,sS,sZ];refine mvR 6 42 (.string ((S0++⟨#[46]⟩)++x)) rfl (by kernel_rfl) (fun _ _ _ h=>h) (fun _ _=>by go_simp;omega) hS1 ?_;simp only[sI,sS,sZ];refine mvR 7 6 (.string ((S0++⟨#[46]⟩)++x)) rfl (by kernel_rfl) (fun _ _ _ h=>h) (fun _ _=>rfl) hS1 ?_;simp only[sI,sS,sZ];refine wpAnyH_done (by kernel_rfl) ?_ _;have HBZ:=hid (HB.out.trans (hS1.mono HB.out.size));clear hS0 hS1 b2
 go_wp2
 go_ret
 exact⟨rfl,HBZ.out⟩
theorem z14 (P:Pre w0 bn on cn L i 27 x n l sk kc a f e d)(hlen:2<=l.length):TxG w0 bn on cn L i 27 x n l d:=by
 refine fun hln W hW=>?_;have hd:=P.hd;rw[show kdE 27 d=0 by simp[kdE]] at hln ⊢;obtain⟨t0,ht0⟩:=ats (l:=l) (q:=0) (by omega);obtain⟨t1,ht1⟩:=ats (l:=l) (q:=1) (by omega);have HRES:Hid (strU (dtK d 27 x n (l.map hdP) (l.map (dtP 0)))=(strU (wiD 27 x (hdP t0) (dtP 0 t0) 0))++⟨#[32]⟩++x++⟨#[32]⟩++(strU (wiD 27 x (hdP t1) (dtP 0 t1) 1))):=by
  show _=_;rw[show dtK d 27 x n (l.map hdP) (l.map (dtP 0))=wiL 27 x (l.map hdP) (l.map (dtP 0)) 0++[32]++x.data.toList++[32]++wiL 27 x (l.map hdP) (l.map (dtP 0)) 1 from rfl];rw[zjf ht0,zjf ht1]
  try simp only[zan]
  try simp only[zaw]
  try rfl
 have hsz:((strU (wiD 27 x (hdP t0) (dtP 0 t0) 0))++⟨#[32]⟩++x++⟨#[32]⟩++(strU (wiD 27 x (hdP t1) (dtP 0 t1) 1)):ByteArray).size<=1000000000000:=by rw[<-HRES.out,zad];exact hln
 try simp only[ByteArray.size_append] at hsz
 try simp only[(show(⟨#[32]⟩:ByteArray).size=1 from rfl)] at hsz
 have HC0:=P.wi hW ht0 (by rw[<-zad];omega);have HC1:=P.wi hW ht1 (by rw[<-zad];omega);obtain⟨m0,m1,m2,m3,m4,m5,m6,lt1,z1,z3,hs1,hs2,hs3⟩:=P.op hW;rw[HRES.out];clear P HRES hln hW ht0 ht1;generalize strU (wiD 27 x (hdP t0) (dtP 0 t0) 0)=S0 at *;generalize strU (wiD 27 x (hdP t1) (dtP 0 t1) 1)=S1 at *;generalize L.length=nl at *;generalize l.length=ln at *
 go_enter Tryz.func28,Tryz.ntmps28
 go_wp2_with fail
 clear m0 m1 m2 m3 m4 m5 m6;refine zdw fun W1 HB R1 C1 C3=>?_;have hS0:Below W1.heap.size W1 W1.drew:=(Below.refl _ _).drew;refine zbc (S:=fun w'=>Below W1.heap.size W1 w') 13 rfl (by kernel_rfl) ?_;refine mvT 0 64 3 rfl rfl (by kernel_rfl) (fun _ _ _ h=>h) R1 hS0 ?_;simp only[sI,sS,sZ];refine mvR 1 65 (.int .i64 i) rfl (by kernel_rfl) (fun _ _ _ h=>h) (fun _ _=>rfl) hS0 ?_;simp only[sI,sS,sZ];refine mvR 4 68 (.pointer (some ⟨W.heap.size+1,1,none⟩)) rfl (by kernel_rfl) (fun _ _ _ h=>h) (fun _ _=>rfl) hS0 ?_;simp only[sI,sS,sZ];refine mvR 5 69 (.string x) rfl (by kernel_rfl) (fun _ _ _ h=>h) (fun w' h=>by have e:=C1.out w' h;go_simp) hS0 ?_;simp only[sI,sS,sZ];refine mvT 8 72 3 rfl rfl (by kernel_rfl) (fun _ _ _ h=>h) R1 hS0 ?_;simp only[sI,sS,sZ];refine mvR 9 73 (.int .i64 i) rfl (by kernel_rfl) (fun _ _ _ h=>h) (fun _ _=>rfl) hS0 ?_;simp only[sI,sS,sZ];refine zas 2 rfl (by rfl) (by kernel_rfl) ?_
 go_simp
 refine(HC0.out _ (HB.out.trans (hS0.mono HB.out.size))).mono ?_;rintro e W2 ⟨rfl,b2⟩;have hS1:=hS0.trans (b2.mono hS0.size);refine⟨hS1,?_⟩;refine mvR 3 67 (.string (S0++⟨#[32]⟩)) rfl (by kernel_rfl) (fun _ _ _ h=>h) (fun _ _=>by go_simp;omega) hS1 ?_;simp only[sI,sS,sZ];refine mvR 6 70 (.string ((S0++⟨#[32]⟩)++x)) rfl (by kernel_rfl) (fun _ _ _ h=>h) (fun _ _=>by go_simp;omega) hS1 ?_;simp only[sI,sS,sZ];refine mvR 7 71 (.string (((S0++⟨#[32]⟩)++x)++⟨#[32]⟩)) rfl (by kernel_rfl) (fun _ _ _ h=>h) (fun _ _=>by go_simp;omega) hS1 ?_;simp only[sI,sS,sZ];refine zas 10 rfl (by rfl) (by kernel_rfl) ?_
 go_simp
 refine(HC1.out _ (HB.out.trans (hS1.mono HB.out.size))).mono ?_;rintro e W3 ⟨rfl,b3⟩;have hS2:=hS1.trans (b3.mono hS1.size);refine⟨hS2,?_⟩;refine mvR 11 75 (.string ((((S0++⟨#[32]⟩)++x)++⟨#[32]⟩)++S1)) rfl (by kernel_rfl) (fun _ _ _ h=>h) (fun _ _=>by go_simp;omega) hS2 ?_;simp only[sI,sS,sZ];refine mvR 12 6 (.string ((((S0++⟨#[32]⟩)++x)++⟨#[32]⟩)++S1)) rfl (by kernel_rfl) (fun _ _ _ h=>h) (fun _ _=>rfl) hS2 ?_;simp only[sI,sS,sZ];refine wpAnyH_done (by kernel_rfl) ?_ _;have HBZ:=hid (HB.out.trans (hS2.mono HB.out.size));clear hS0 hS1 hS2 b2 b3
 go_wp2
 go_ret
 exact⟨rfl,HBZ.out⟩
theorem zxm (P:Pre w0 bn on cn L i 8 x n l sk kc a f e d)(hlen:1<=l.length):TxG w0 bn on cn L i 8 x n l d:=by
 refine fun hln W hW=>?_;have hd:=P.hd;rw[show kdE 8 d=d by simp[kdE]] at hln ⊢;obtain⟨t0,ht0⟩:=ats (l:=l) (q:=0) (by omega);have HRES:Hid (strU (dtK d 8 x n (l.map hdP) (l.map (dtP d)))=x++⟨#[32]⟩++(strU (dtP d t0))):=by
  show _=_;rw[show dtK d 8 x n (l.map hdP) (l.map (dtP d))=x.data.toList++[32]++(l.map (dtP d)).getD 0 [] from rfl];rw[zbr ht0]
  try simp only[zan]
  try simp only[zaw]
  try rfl
 have hsz:(x++⟨#[32]⟩++(strU (dtP d t0)):ByteArray).size<=1000000000000:=by rw[<-HRES.out,zad];exact hln
 try simp only[ByteArray.size_append] at hsz
 try simp only[(show(⟨#[32]⟩:ByteArray).size=1 from rfl)] at hsz
 have HC0:=P.su hW ht0 (by rw[<-zad];omega);obtain⟨m0,m1,m2,m3,m4,m5,m6,lt1,z1,z3,hs1,hs2,hs3⟩:=P.op hW;rw[HRES.out];clear P HRES hln hW ht0;generalize strU (dtP d t0)=S0 at *;generalize L.length=nl at *;generalize l.length=ln at *
 go_enter Tryz.func28,Tryz.ntmps28
 go_wp2_with fail
 clear m0 m1 m2 m3 m4 m5 m6;refine zdw fun W1 HB R1 C1 C3=>?_;have hS0:Below W1.heap.size W1 W1.drew:=(Below.refl _ _).drew;refine zbc (S:=fun w'=>Below W1.heap.size W1 w') 9 rfl (by kernel_rfl) ?_;refine mvR 0 110 (.pointer (some ⟨W.heap.size+1,1,none⟩)) rfl (by kernel_rfl) (fun _ _ _ h=>h) (fun _ _=>rfl) hS0 ?_;simp only[sI,sS,sZ];refine mvR 1 111 (.string x) rfl (by kernel_rfl) (fun _ _ _ h=>h) (fun w' h=>by have e:=C1.out w' h;go_simp) hS0 ?_;simp only[sI,sS,sZ];refine mvR 2 112 (.string (x++⟨#[32]⟩)) rfl (by kernel_rfl) (fun _ _ _ h=>h) (fun _ _=>by go_simp;omega) hS0 ?_;simp only[sI,sS,sZ];refine mvT 3 113 3 rfl rfl (by kernel_rfl) (fun _ _ _ h=>h) R1 hS0 ?_;simp only[sI,sS,sZ];refine mvR 4 114 (.int .i64 i) rfl (by kernel_rfl) (fun _ _ _ h=>h) (fun _ _=>rfl) hS0 ?_;simp only[sI,sS,sZ];refine mvR 5 115 (.int .i64 d) rfl (by kernel_rfl) (fun _ _ _ h=>h) (fun _ _=>rfl) hS0 ?_;simp only[sI,sS,sZ];refine zas 6 rfl (by rfl) (by kernel_rfl) ?_
 go_simp
 refine(HC0.out _ (HB.out.trans (hS0.mono HB.out.size))).mono ?_;rintro e W2 ⟨rfl,b2⟩;have hS1:=hS0.trans (b2.mono hS0.size);refine⟨hS1,?_⟩;refine mvR 7 117 (.string ((x++⟨#[32]⟩)++S0)) rfl (by kernel_rfl) (fun _ _ _ h=>h) (fun _ _=>by go_simp;omega) hS1 ?_;simp only[sI,sS,sZ];refine mvR 8 6 (.string ((x++⟨#[32]⟩)++S0)) rfl (by kernel_rfl) (fun _ _ _ h=>h) (fun _ _=>rfl) hS1 ?_;simp only[sI,sS,sZ];refine wpAnyH_done (by kernel_rfl) ?_ _;have HBZ:=hid (HB.out.trans (hS1.mono HB.out.size));clear hS0 hS1 b2
 go_wp2
 go_ret
 exact⟨rfl,HBZ.out⟩
theorem zxn (P:Pre w0 bn on cn L i 4 x n l sk kc a f e d)(hlen:1<=l.length)(hle:¬ 1<l.length):TxG w0 bn on cn L i 4 x n l d:=by
 refine fun hln W hW=>?_;have hd:=P.hd;rw[show kdE 4 d=d by simp[kdE]] at hln ⊢;obtain⟨t0,ht0⟩:=ats (l:=l) (q:=0) (by omega);have HRES:Hid (strU (dtK d 4 x n (l.map hdP) (l.map (dtP d)))=⟨#[118,97,114,32]⟩++x++⟨#[32]⟩++(strU (dtP d t0))):=by
  show _=_;rw[show dtK d 4 x n (l.map hdP) (l.map (dtP d))=[118,97,114,32]++x.data.toList++[32]++(l.map (dtP d)).getD 0 [] from(by have hg:(1<(l.map (dtP d)).length)=False:=(eq_false (by rw[List.length_map];omega));unfold dtK;simp only[hg];rfl)];rw[zbr ht0]
  try simp only[zan]
  try simp only[zaw]
  try rfl
 have hsz:(⟨#[118,97,114,32]⟩++x++⟨#[32]⟩++(strU (dtP d t0)):ByteArray).size<=1000000000000:=by rw[<-HRES.out,zad];exact hln
 try simp only[ByteArray.size_append] at hsz
 try simp only[(show(⟨#[118,97,114,32]⟩:ByteArray).size=4 from rfl)] at hsz
 try simp only[(show(⟨#[32]⟩:ByteArray).size=1 from rfl)] at hsz
 have HC0:=P.su hW ht0 (by rw[<-zad];omega);have zg:decide ((l.length:Int) > 1)=false:=decide_eq_false (by omega);have zg2:decide (1<(l.length:Int))=false:=decide_eq_false (by omega);obtain⟨m0,m1,m2,m3,m4,m5,m6,lt1,z1,z3,hs1,hs2,hs3⟩:=P.op hW;rw[HRES.out];clear P HRES hln hW ht0;generalize strU (dtP d t0)=S0 at *;generalize L.length=nl at *;generalize l.length=ln at *
 go_enter Tryz.func28,Tryz.ntmps28
 go_wp2_with fail
 clear m0 m1 m2 m3 m4 m5 m6;refine zdw fun W1 HB R1 C1 C3=>?_;have hS0:Below W1.heap.size W1 W1.drew:=(Below.refl _ _).drew;refine zbc (S:=fun w'=>Below W1.heap.size W1 w') 10 rfl (by kernel_rfl) ?_;refine mvR 0 150 (.pointer (some ⟨W.heap.size+1,1,none⟩)) rfl (by kernel_rfl) (fun _ _ _ h=>h) (fun _ _=>rfl) hS0 ?_;simp only[sI,sS,sZ];refine mvR 1 151 (.string x) rfl (by kernel_rfl) (fun _ _ _ h=>h) (fun w' h=>by have e:=C1.out w' h;go_simp) hS0 ?_;simp only[sI,sS,sZ];refine mvR 2 152 (.string (⟨#[118,97,114,32]⟩++x)) rfl (by kernel_rfl) (fun _ _ _ h=>h) (fun _ _=>by go_simp;omega) hS0 ?_;simp only[sI,sS,sZ];refine mvR 3 153 (.string ((⟨#[118,97,114,32]⟩++x)++⟨#[32]⟩)) rfl (by kernel_rfl) (fun _ _ _ h=>h) (fun _ _=>by go_simp;omega) hS0 ?_;simp only[sI,sS,sZ];refine mvT 4 154 3 rfl rfl (by kernel_rfl) (fun _ _ _ h=>h) R1 hS0 ?_;simp only[sI,sS,sZ];refine mvR 5 155 (.int .i64 i) rfl (by kernel_rfl) (fun _ _ _ h=>h) (fun _ _=>rfl) hS0 ?_;simp only[sI,sS,sZ];refine mvR 6 156 (.int .i64 d) rfl (by kernel_rfl) (fun _ _ _ h=>h) (fun _ _=>rfl) hS0 ?_;simp only[sI,sS,sZ];refine zas 7 rfl (by rfl) (by kernel_rfl) ?_
 go_simp
 refine(HC0.out _ (HB.out.trans (hS0.mono HB.out.size))).mono ?_;rintro e W2 ⟨rfl,b2⟩;have hS1:=hS0.trans (b2.mono hS0.size);refine⟨hS1,?_⟩;refine mvR 8 158 (.string (((⟨#[118,97,114,32]⟩++x)++⟨#[32]⟩)++S0)) rfl (by kernel_rfl) (fun _ _ _ h=>h) (fun _ _=>by go_simp;omega) hS1 ?_;simp only[sI,sS,sZ];refine mvR 9 6 (.string (((⟨#[118,97,114,32]⟩++x)++⟨#[32]⟩)++S0)) rfl (by kernel_rfl) (fun _ _ _ h=>h) (fun _ _=>rfl) hS1 ?_;simp only[sI,sS,sZ];refine wpAnyH_done (by kernel_rfl) ?_ _;have HBZ:=hid (HB.out.trans (hS1.mono HB.out.size));clear hS0 hS1 b2
 go_wp2
 go_ret
 exact⟨rfl,HBZ.out⟩
theorem z15 (P:Pre w0 bn on cn L i 15 x n l sk kc a f e d)(hlen:2<=l.length):TxG w0 bn on cn L i 15 x n l d:=by
 refine fun hln W hW=>?_;have hd:=P.hd;rw[show kdE 15 d=d by simp[kdE]] at hln ⊢;obtain⟨t0,ht0⟩:=ats (l:=l) (q:=0) (by omega);obtain⟨t1,ht1⟩:=ats (l:=l) (q:=1) (by omega);have HRES:Hid (strU (dtK d 15 x n (l.map hdP) (l.map (dtP d)))=⟨#[102,111,114,32]⟩++(strU (dtP d t0))++⟨#[32]⟩++(strU (dtP d t1))):=by
  show _=_;rw[show dtK d 15 x n (l.map hdP) (l.map (dtP d))=[102,111,114,32]++(l.map (dtP d)).getD 0 []++[32]++(l.map (dtP d)).getD 1 [] from rfl];rw[zbr ht0,zbr ht1]
  try simp only[zan]
  try simp only[zaw]
  try rfl
 have hsz:(⟨#[102,111,114,32]⟩++(strU (dtP d t0))++⟨#[32]⟩++(strU (dtP d t1)):ByteArray).size<=1000000000000:=by rw[<-HRES.out,zad];exact hln
 try simp only[ByteArray.size_append] at hsz
 try simp only[(show(⟨#[102,111,114,32]⟩:ByteArray).size=4 from rfl)] at hsz
 try simp only[(show(⟨#[32]⟩:ByteArray).size=1 from rfl)] at hsz
 have HC0:=P.su hW ht0 (by rw[<-zad];omega);have HC1:=P.su hW ht1 (by rw[<-zad];omega);obtain⟨m0,m1,m2,m3,m4,m5,m6,lt1,z1,z3,hs1,hs2,hs3⟩:=P.op hW;rw[HRES.out];clear P HRES hln hW ht0 ht1;generalize strU (dtP d t0)=S0 at *;generalize strU (dtP d t1)=S1 at *;generalize L.length=nl at *;generalize l.length=ln at *
 go_enter Tryz.func28,Tryz.ntmps28
 go_wp2_with fail
 clear m0 m1 m2 m3 m4 m5 m6;refine zdw fun W1 HB R1 C1 C3=>?_;have hS0:Below W1.heap.size W1 W1.drew:=(Below.refl _ _).drew;refine zbc (S:=fun w'=>Below W1.heap.size W1 w') 12 rfl (by kernel_rfl) ?_;refine mvT 0 201 3 rfl rfl (by kernel_rfl) (fun _ _ _ h=>h) R1 hS0 ?_;simp only[sI,sS,sZ];refine mvR 1 202 (.int .i64 i) rfl (by kernel_rfl) (fun _ _ _ h=>h) (fun _ _=>rfl) hS0 ?_;simp only[sI,sS,sZ];refine mvR 2 203 (.int .i64 d) rfl (by kernel_rfl) (fun _ _ _ h=>h) (fun _ _=>rfl) hS0 ?_;simp only[sI,sS,sZ];refine mvT 6 207 3 rfl rfl (by kernel_rfl) (fun _ _ _ h=>h) R1 hS0 ?_;simp only[sI,sS,sZ];refine mvR 7 208 (.int .i64 i) rfl (by kernel_rfl) (fun _ _ _ h=>h) (fun _ _=>rfl) hS0 ?_;simp only[sI,sS,sZ];refine mvR 8 209 (.int .i64 d) rfl (by kernel_rfl) (fun _ _ _ h=>h) (fun _ _=>rfl) hS0 ?_;simp only[sI,sS,sZ];refine zas 3 rfl (by rfl) (by kernel_rfl) ?_
 go_simp
 refine(HC0.out _ (HB.out.trans (hS0.mono HB.out.size))).mono ?_;rintro e W2 ⟨rfl,b2⟩;have hS1:=hS0.trans (b2.mono hS0.size);refine⟨hS1,?_⟩;refine mvR 4 205 (.string (⟨#[102,111,114,32]⟩++S0)) rfl (by kernel_rfl) (fun _ _ _ h=>h) (fun _ _=>by go_simp;omega) hS1 ?_;simp only[sI,sS,sZ];refine mvR 5 206 (.string ((⟨#[102,111,114,32]⟩++S0)++⟨#[32]⟩)) rfl (by kernel_rfl) (fun _ _ _ h=>h) (fun _ _=>by go_simp;omega) hS1 ?_;simp only[sI,sS,sZ];refine zas 9 rfl (by rfl) (by kernel_rfl) ?_
 go_simp
 refine(HC1.out _ (HB.out.trans (hS1.mono HB.out.size))).mono ?_;rintro e W3 ⟨rfl,b3⟩;have hS2:=hS1.trans (b3.mono hS1.size);refine⟨hS2,?_⟩;refine mvR 10 211 (.string (((⟨#[102,111,114,32]⟩++S0)++⟨#[32]⟩)++S1)) rfl (by kernel_rfl) (fun _ _ _ h=>h) (fun _ _=>by go_simp;omega) hS2 ?_;simp only[sI,sS,sZ];refine mvR 11 6 (.string (((⟨#[102,111,114,32]⟩++S0)++⟨#[32]⟩)++S1)) rfl (by kernel_rfl) (fun _ _ _ h=>h) (fun _ _=>rfl) hS2 ?_;simp only[sI,sS,sZ];refine wpAnyH_done (by kernel_rfl) ?_ _;have HBZ:=hid (HB.out.trans (hS2.mono HB.out.size));clear hS0 hS1 hS2 b2 b3
 go_wp2
 go_ret
 exact⟨rfl,HBZ.out⟩
theorem zql (P:Pre w0 bn on cn L i 18 x n l sk kc a f e d)(hlen:2<=l.length):TxG w0 bn on cn L i 18 x n l d:=by
 refine fun hln W hW=>?_;have hd:=P.hd;rw[show kdE 18 d=d by simp[kdE]] at hln ⊢;obtain⟨t0,ht0⟩:=ats (l:=l) (q:=0) (by omega);obtain⟨t1,ht1⟩:=ats (l:=l) (q:=1) (by omega);have HRES:Hid (strU (dtK d 18 x n (l.map hdP) (l.map (dtP d)))=(strU (dtP d t0))++⟨#[32,61,32]⟩++(strU (dtP d t1))):=by
  show _=_;rw[show dtK d 18 x n (l.map hdP) (l.map (dtP d))=(l.map (dtP d)).getD 0 []++[32,61,32]++(l.map (dtP d)).getD 1 [] from rfl];rw[zbr ht0,zbr ht1]
  try simp only[zan]
  try simp only[zaw]
  try rfl
 have hsz:((strU (dtP d t0))++⟨#[32,61,32]⟩++(strU (dtP d t1)):ByteArray).size<=1000000000000:=by rw[<-HRES.out,zad];exact hln
 try simp only[ByteArray.size_append] at hsz
 try simp only[(show(⟨#[32,61,32]⟩:ByteArray).size=3 from rfl)] at hsz
 have HC0:=P.su hW ht0 (by rw[<-zad];omega);have HC1:=P.su hW ht1 (by rw[<-zad];omega);obtain⟨m0,m1,m2,m3,m4,m5,m6,lt1,z1,z3,hs1,hs2,hs3⟩:=P.op hW;rw[HRES.out];clear P HRES hln hW ht0 ht1;generalize strU (dtP d t0)=S0 at *;generalize strU (dtP d t1)=S1 at *;generalize L.length=nl at *;generalize l.length=ln at *
 go_enter Tryz.func28,Tryz.ntmps28
 go_wp2_with fail
 clear m0 m1 m2 m3 m4 m5 m6;refine zdw fun W1 HB R1 C1 C3=>?_;have hS0:Below W1.heap.size W1 W1.drew:=(Below.refl _ _).drew;refine zbc (S:=fun w'=>Below W1.heap.size W1 w') 11 rfl (by kernel_rfl) ?_;refine mvT 0 235 3 rfl rfl (by kernel_rfl) (fun _ _ _ h=>h) R1 hS0 ?_;simp only[sI,sS,sZ];refine mvR 1 236 (.int .i64 i) rfl (by kernel_rfl) (fun _ _ _ h=>h) (fun _ _=>rfl) hS0 ?_;simp only[sI,sS,sZ];refine mvR 2 237 (.int .i64 d) rfl (by kernel_rfl) (fun _ _ _ h=>h) (fun _ _=>rfl) hS0 ?_;simp only[sI,sS,sZ];refine mvT 5 240 3 rfl rfl (by kernel_rfl) (fun _ _ _ h=>h) R1 hS0 ?_;simp only[sI,sS,sZ];refine mvR 6 241 (.int .i64 i) rfl (by kernel_rfl) (fun _ _ _ h=>h) (fun _ _=>rfl) hS0 ?_;simp only[sI,sS,sZ];refine mvR 7 242 (.int .i64 d) rfl (by kernel_rfl) (fun _ _ _ h=>h) (fun _ _=>rfl) hS0 ?_;simp only[sI,sS,sZ];refine zas 3 rfl (by rfl) (by kernel_rfl) ?_
 go_simp
 refine(HC0.out _ (HB.out.trans (hS0.mono HB.out.size))).mono ?_;rintro e W2 ⟨rfl,b2⟩;have hS1:=hS0.trans (b2.mono hS0.size);refine⟨hS1,?_⟩;refine mvR 4 239 (.string (S0++⟨#[32,61,32]⟩)) rfl (by kernel_rfl) (fun _ _ _ h=>h) (fun _ _=>by go_simp;omega) hS1 ?_;simp only[sI,sS,sZ];refine zas 8 rfl (by rfl) (by kernel_rfl) ?_
 go_simp
 refine(HC1.out _ (HB.out.trans (hS1.mono HB.out.size))).mono ?_;rintro e W3 ⟨rfl,b3⟩;have hS2:=hS1.trans (b3.mono hS1.size);refine⟨hS2,?_⟩;refine mvR 9 244 (.string ((S0++⟨#[32,61,32]⟩)++S1)) rfl (by kernel_rfl) (fun _ _ _ h=>h) (fun _ _=>by go_simp;omega) hS2 ?_;simp only[sI,sS,sZ];refine mvR 10 6 (.string ((S0++⟨#[32,61,32]⟩)++S1)) rfl (by kernel_rfl) (fun _ _ _ h=>h) (fun _ _=>rfl) hS2 ?_;simp only[sI,sS,sZ];refine wpAnyH_done (by kernel_rfl) ?_ _;have HBZ:=hid (HB.out.trans (hS2.mono HB.out.size));clear hS0 hS1 hS2 b2 b3
 go_wp2
 go_ret
 exact⟨rfl,HBZ.out⟩
theorem zqm (P:Pre w0 bn on cn L i 2 x n l sk kc a f e d):TxG w0 bn on cn L i 2 x n l d:=by
 refine fun hln W hW=>?_;have hd:=P.hd;rw[show kdE 2 d=d by simp[kdE]] at hln ⊢;have HRES:Hid (strU (dtK d 2 x n (l.map hdP) (l.map (dtP d)))=⟨#[105,109,112,111,114,116,32]⟩++quoT x):=by
  show _=_;rw[show dtK d 2 x n (l.map hdP) (l.map (dtP d))=[105,109,112,111,114,116,32]++(quoT x).data.toList from rfl]
  try simp only[zan]
  try simp only[zaw]
  try rfl
 have hsz:(⟨#[105,109,112,111,114,116,32]⟩++quoT x:ByteArray).size<=1000000000000:=by rw[<-HRES.out,zad];exact hln
 try simp only[ByteArray.size_append] at hsz
 try simp only[(show(⟨#[105,109,112,111,114,116,32]⟩:ByteArray).size=7 from rfl)] at hsz
 have hqv:∃ bl,strB (quoO x.data.toList)=.tuple #[.string (quoT x),.bool bl]:=by
  unfold strB quoT
  cases quoO x.data.toList with
  | none=>exact⟨_,rfl⟩
  | some q=>exact⟨_,rfl⟩
 obtain⟨bl,hqv⟩:=hqv;have HCQ:Hid (∀ W',Below W.heap.size W W'->Calls Tryz.prog 51 #[.string x] W' fun e w'=>e=.returned (.tuple #[.string (quoT x),.bool bl])∧Below W'.heap.size W' w'):=fun W' hb=>by
  rw[<-hqv];exact zje x W' P.hx.1
 clear hqv;obtain⟨m0,m1,m2,m3,m4,m5,m6,lt1,z1,z3,hs1,hs2,hs3⟩:=P.op hW;rw[HRES.out];clear P HRES hln hW;generalize L.length=nl at *;generalize l.length=ln at *;have HBA:Hid (Below W.heap.size W ((W.alloc (.cells #[.slice (some ⟨bn,on,none⟩) nl cn] 25)).alloc (.cells #[.int .i64 2,.string x,.int .i64 n,.slice sk ln kc,.int .i64 a,.int .i64 f,.int .i64 e] 59))):=(zb9 W _ _ _ _).2.2
 go_enter Tryz.func28,Tryz.ntmps28
 go_wp2_with fail
 refine(HCQ.out _ HBA.out).mono ?_;rintro e W2 ⟨rfl,b2⟩;have HB2:=hid (HBA.out.trans (b2.mono HBA.out.size));clear b2 HCQ HBA m0 m1 m2 m3 m4 m5 m6
 go_wp2
 go_ret
 exact⟨rfl,HB2.out⟩
end
section
variable {w0:World}{bn on cn:Nat}{L:List Nd}{i:Nat}{n a f e:Int}{x:ByteArray}{l:List Pt}{sk:Option Addr}{kc:Nat}{d:Nat}
theorem z16 (P:Pre w0 bn on cn L i 12 x n l sk kc a f e d)(hlen:1<=l.length):TxG w0 bn on cn L i 12 x n l d:=by
 refine fun hln W hW=>?_;have hd:=P.hd;rw[show kdE 12 d=0 by simp[kdE]] at hln ⊢;obtain⟨t0,ht0⟩:=ats (l:=l) (q:=0) (by omega);have HRES:Hid (strU (dtK d 12 x n (l.map hdP) (l.map (dtP 0)))=(strU (wiD 12 x (hdP t0) (dtP 0 t0) 0))++⟨#[46]⟩++x):=by
  show _=_;rw[show dtK d 12 x n (l.map hdP) (l.map (dtP 0))=wiL 12 x (l.map hdP) (l.map (dtP 0)) 0++[46]++x.data.toList from rfl];rw[zjf ht0]
  try simp only[zan]
  try simp only[zaw]
  try rfl
 have hsz:((strU (wiD 12 x (hdP t0) (dtP 0 t0) 0))++⟨#[46]⟩++x:ByteArray).size<=1000000000000:=by rw[<-HRES.out,zad];exact hln
 try simp only[ByteArray.size_append] at hsz
 try simp only[(show(⟨#[46]⟩:ByteArray).size=1 from rfl)] at hsz
 have HC0:=P.wi hW ht0 (by rw[<-zad];omega);obtain⟨m0,m1,m2,m3,m4,m5,m6,lt1,z1,z3,hs1,hs2,hs3⟩:=P.op hW;rw[HRES.out];clear P HRES hln hW ht0;generalize strU (wiD 12 x (hdP t0) (dtP 0 t0) 0)=S0 at *;generalize L.length=nl at *;generalize l.length=ln at *
 go_enter Tryz.func28,Tryz.ntmps28
 go_wp2_with fail
 clear m0 m1 m2 m3 m4 m5 m6;refine zdw fun W1 HB R1 C1 C3=>?_;have hS0:Below W1.heap.size W1 W1.drew:=(Below.refl _ _).drew;refine zbc (S:=fun w'=>Below W1.heap.size W1 w') 8 rfl (by kernel_rfl) ?_;refine mvT 0 36 3 rfl rfl (by kernel_rfl) (fun _ _ _ h=>h) R1 hS0 ?_;simp only[sI,sS,sZ];refine mvR 1 37 (.int .i64 i) rfl (by kernel_rfl) (fun _ _ _ h=>h) (fun _ _=>rfl) hS0 ?_;simp only[sI,sS,sZ];refine mvR 4 40 (.pointer (some ⟨W.heap.size+1,1,none⟩)) rfl (by kernel_rfl) (fun _ _ _ h=>h) (fun _ _=>rfl) hS0 ?_;simp only[sI,sS,sZ];refine mvR 5 41 (.string x) rfl (by kernel_rfl) (fun _ _ _ h=>h) (fun w' h=>by have e:=C1.out w' h;go_simp) hS0 ?_;simp only[sI,sS,sZ];refine zas 2 rfl (by rfl) (by kernel_rfl) ?_
 go_simp
 refine(HC0.out _ (HB.out.trans (hS0.mono HB.out.size))).mono ?_;rintro e W2 ⟨rfl,b2⟩;have hS1:=hS0.trans (b2.mono hS0.size);refine⟨hS1,?_⟩;refine mvR 3 39 (.string (S0++⟨#[46]⟩)) rfl (by kernel_rfl) (fun _ _ _ h=>h) (fun _ _=>by go_simp;omega) hS1 ?_;simp only[sI,sS,sZ];refine mvR 6 42 (.string ((S0++⟨#[46]⟩)++x)) rfl (by kernel_rfl) (fun _ _ _ h=>h) (fun _ _=>by go_simp;omega) hS1 ?_;simp only[sI,sS,sZ];refine mvR 7 6 (.string ((S0++⟨#[46]⟩)++x)) rfl (by kernel_rfl) (fun _ _ _ h=>h) (fun _ _=>rfl) hS1 ?_;simp only[sI,sS,sZ];refine wpAnyH_done (by kernel_rfl) ?_ _;have HBZ:=hid (HB.out.trans (hS1.mono HB.out.size));clear hS0 hS1 b2
 go_wp2
 go_ret
 exact⟨rfl,HBZ.out⟩
theorem zqn (P:Pre w0 bn on cn L i 5 x n l sk kc a f e d):TxG w0 bn on cn L i 5 x n l d:=by
 refine fun hln W hW=>?_;have hd:=P.hd;rw[show kdE 5 d=d+1 by simp[kdE]] at hln ⊢;have HRES:Hid (strU (dtK d 5 x n (l.map hdP) (l.map (dtP (d+1))))=⟨#[116,121,112,101,32]⟩++x++⟨#[32,115,116,114,117,99,116,32,123,10]⟩++(strU (liD (d+1) (l.map (dtP (d+1)))))++(strU (List.replicate d 9))++⟨#[125]⟩):=by
  show _=_;rw[show dtK d 5 x n (l.map hdP) (l.map (dtP (d+1)))=[116,121,112,101,32]++x.data.toList++[32,115,116,114,117,99,116,32,123,10]++liD (d+1) (l.map (dtP (d+1)))++List.replicate d 9++[125] from rfl]
  try simp only[zan]
  try simp only[zaw]
  try rfl
 have hsz:(⟨#[116,121,112,101,32]⟩++x++⟨#[32,115,116,114,117,99,116,32,123,10]⟩++(strU (liD (d+1) (l.map (dtP (d+1)))))++(strU (List.replicate d 9))++⟨#[125]⟩:ByteArray).size<=1000000000000:=by rw[<-HRES.out,zad];exact hln
 try simp only[ByteArray.size_append] at hsz
 try simp only[(show(⟨#[116,121,112,101,32]⟩:ByteArray).size=5 from rfl)] at hsz
 try simp only[(show(⟨#[125]⟩:ByteArray).size=1 from rfl)] at hsz
 try simp only[(show(⟨#[32,115,116,114,117,99,116,32,123,10]⟩:ByteArray).size=10 from rfl)] at hsz
 have HCL:Hid (∀ W',Below W.heap.size W W'->Calls Tryz.prog 54 #[.agg #[.slice (some ⟨bn,on,none⟩) L.length cn],.slice sk l.length kc,.int .i64 ((d:Int)+1)] W' fun e w'=>e=.returned (.string (strU (liD (d+1) (l.map (dtP (d+1))))))∧Below W'.heap.size W' w'):=fun W' hb=>by
  have:=zii P.hN P.hK (d+1) (by omega) (by rw[<-zad];omega) W' (hW.trans (hb.mono hW.size));simpa using this
 have HCT:Hid (∀ W',Below W.heap.size W W'->Calls Tryz.prog 55 #[.int .i64 d] W' fun e w'=>e=.returned (.string (strU (List.replicate d 9)))∧Below W'.heap.size W' w'):=fun W' hb=>(zgv d W' (by omega)).mono fun e w' ⟨h1,h2⟩=>⟨h1,by rw[h2];exact Below.refl _ _⟩;have hwd:IntKind.i64.wrap ((d:Int)+1)=(d:Int)+1:=by rw[IntKind.wrap_i64];omega
 have hwd2:(d:Int)+1<=9223372036854775807:=by omega
 obtain⟨m0,m1,m2,m3,m4,m5,m6,lt1,z1,z3,hs1,hs2,hs3⟩:=P.op hW;rw[HRES.out];clear P HRES hln hW;generalize strU (liD (d+1) (l.map (dtP (d+1))))=SL at *;generalize strU (List.replicate d 9)=ST at *;generalize L.length=nl at *;generalize l.length=ln at *
 go_enter Tryz.func28,Tryz.ntmps28
 go_wp2_with fail
 clear m0 m1 m2 m3 m4 m5 m6;refine zdw fun W1 HB R1 C1 C3=>?_;have hS0:Below W1.heap.size W1 W1.drew:=(Below.refl _ _).drew;refine zbc (S:=fun w'=>Below W1.heap.size W1 w') 16 rfl (by kernel_rfl) ?_;refine mvR 0 91 (.pointer (some ⟨W.heap.size+1,1,none⟩)) rfl (by kernel_rfl) (fun _ _ _ h=>h) (fun _ _=>rfl) hS0 ?_;simp only[sI,sS,sZ];refine mvR 1 92 (.string x) rfl (by kernel_rfl) (fun _ _ _ h=>h) (fun w' h=>by have e:=C1.out w' h;go_simp) hS0 ?_;simp only[sI,sS,sZ];refine mvR 2 93 (.string (⟨#[116,121,112,101,32]⟩++x)) rfl (by kernel_rfl) (fun _ _ _ h=>h) (fun _ _=>by go_simp;omega) hS0 ?_;simp only[sI,sS,sZ];refine mvR 3 94 (.string ((⟨#[116,121,112,101,32]⟩++x)++⟨#[32,115,116,114,117,99,116,32,123,10]⟩)) rfl (by kernel_rfl) (fun _ _ _ h=>h) (fun _ _=>by go_simp;omega) hS0 ?_;simp only[sI,sS,sZ];refine mvT 4 95 3 rfl rfl (by kernel_rfl) (fun _ _ _ h=>h) R1 hS0 ?_;simp only[sI,sS,sZ];refine mvR 5 96 (.pointer (some ⟨W.heap.size+1,3,none⟩)) rfl (by kernel_rfl) (fun _ _ _ h=>h) (fun _ _=>rfl) hS0 ?_;simp only[sI,sS,sZ];refine mvR 6 97 (.slice sk ln kc) rfl (by kernel_rfl) (fun _ _ _ h=>h) (fun w' h=>by have e:=C3.out w' h;go_simp) hS0 ?_;simp only[sI,sS,sZ];refine mvR 7 98 (.int .i64 d) rfl (by kernel_rfl) (fun _ _ _ h=>h) (fun _ _=>rfl) hS0 ?_;simp only[sI,sS,sZ];refine mvR 8 99 (.int .i64 ((d:Int)+1)) rfl (by kernel_rfl) (fun _ _ _ h=>h) (fun _ _=>by go_simp) hS0 ?_;simp only[sI,sS,sZ];refine mvR 11 102 (.int .i64 d) rfl (by kernel_rfl) (fun _ _ _ h=>h) (fun _ _=>rfl) hS0 ?_;simp only[sI,sS,sZ];refine zas 9 rfl (by rfl) (by kernel_rfl) ?_
 go_simp
 refine(HCL.out _ (HB.out.trans (hS0.mono HB.out.size))).mono ?_;rintro e W2 ⟨rfl,b2⟩;have hS1:=hS0.trans (b2.mono hS0.size);refine⟨hS1,?_⟩;refine mvR 10 101 (.string (((⟨#[116,121,112,101,32]⟩++x)++⟨#[32,115,116,114,117,99,116,32,123,10]⟩)++SL)) rfl (by kernel_rfl) (fun _ _ _ h=>h) (fun _ _=>by go_simp;omega) hS1 ?_;simp only[sI,sS,sZ];refine zas 12 rfl (by rfl) (by kernel_rfl) ?_
 go_simp
 refine(HCT.out _ (HB.out.trans (hS1.mono HB.out.size))).mono ?_;rintro e W3 ⟨rfl,b3⟩;have hS2:=hS1.trans (b3.mono hS1.size);refine⟨hS2,?_⟩;refine mvR 13 104 (.string ((((⟨#[116,121,112,101,32]⟩++x)++⟨#[32,115,116,114,117,99,116,32,123,10]⟩)++SL)++ST)) rfl (by kernel_rfl) (fun _ _ _ h=>h) (fun _ _=>by go_simp;omega) hS2 ?_;simp only[sI,sS,sZ];refine mvR 14 105 (.string (((((⟨#[116,121,112,101,32]⟩++x)++⟨#[32,115,116,114,117,99,116,32,123,10]⟩)++SL)++ST)++⟨#[125]⟩)) rfl (by kernel_rfl) (fun _ _ _ h=>h) (fun _ _=>by go_simp;omega) hS2 ?_;simp only[sI,sS,sZ];refine mvR 15 6 (.string (((((⟨#[116,121,112,101,32]⟩++x)++⟨#[32,115,116,114,117,99,116,32,123,10]⟩)++SL)++ST)++⟨#[125]⟩)) rfl (by kernel_rfl) (fun _ _ _ h=>h) (fun _ _=>rfl) hS2 ?_;simp only[sI,sS,sZ];refine wpAnyH_done (by kernel_rfl) ?_ _;have HBZ:=hid (HB.out.trans (hS2.mono HB.out.size));clear hS0 hS1 hS2 b2 b3
 go_wp2
 go_ret
 exact⟨rfl,HBZ.out⟩
theorem zu0 (P:Pre w0 bn on cn L i 9 x n l sk kc a f e d)(hlen:1<=l.length):TxG w0 bn on cn L i 9 x n l d:=by
 refine fun hln W hW=>?_;have hd:=P.hd;rw[show kdE 9 d=d by simp[kdE]] at hln ⊢;obtain⟨t0,ht0⟩:=ats (l:=l) (q:=0) (by omega);have HRES:Hid (strU (dtK d 9 x n (l.map hdP) (l.map (dtP d)))=x++⟨#[32]⟩++(strU (dtP d t0))):=by
  show _=_;rw[show dtK d 9 x n (l.map hdP) (l.map (dtP d))=x.data.toList++[32]++(l.map (dtP d)).getD 0 [] from rfl];rw[zbr ht0]
  try simp only[zan]
  try simp only[zaw]
  try rfl
 have hsz:(x++⟨#[32]⟩++(strU (dtP d t0)):ByteArray).size<=1000000000000:=by rw[<-HRES.out,zad];exact hln
 try simp only[ByteArray.size_append] at hsz
 try simp only[(show(⟨#[32]⟩:ByteArray).size=1 from rfl)] at hsz
 have HC0:=P.su hW ht0 (by rw[<-zad];omega);obtain⟨m0,m1,m2,m3,m4,m5,m6,lt1,z1,z3,hs1,hs2,hs3⟩:=P.op hW;rw[HRES.out];clear P HRES hln hW ht0;generalize strU (dtP d t0)=S0 at *;generalize L.length=nl at *;generalize l.length=ln at *
 go_enter Tryz.func28,Tryz.ntmps28
 go_wp2_with fail
 clear m0 m1 m2 m3 m4 m5 m6;refine zdw fun W1 HB R1 C1 C3=>?_;have hS0:Below W1.heap.size W1 W1.drew:=(Below.refl _ _).drew;refine zbc (S:=fun w'=>Below W1.heap.size W1 w') 9 rfl (by kernel_rfl) ?_;refine mvR 0 110 (.pointer (some ⟨W.heap.size+1,1,none⟩)) rfl (by kernel_rfl) (fun _ _ _ h=>h) (fun _ _=>rfl) hS0 ?_;simp only[sI,sS,sZ];refine mvR 1 111 (.string x) rfl (by kernel_rfl) (fun _ _ _ h=>h) (fun w' h=>by have e:=C1.out w' h;go_simp) hS0 ?_;simp only[sI,sS,sZ];refine mvR 2 112 (.string (x++⟨#[32]⟩)) rfl (by kernel_rfl) (fun _ _ _ h=>h) (fun _ _=>by go_simp;omega) hS0 ?_;simp only[sI,sS,sZ];refine mvT 3 113 3 rfl rfl (by kernel_rfl) (fun _ _ _ h=>h) R1 hS0 ?_;simp only[sI,sS,sZ];refine mvR 4 114 (.int .i64 i) rfl (by kernel_rfl) (fun _ _ _ h=>h) (fun _ _=>rfl) hS0 ?_;simp only[sI,sS,sZ];refine mvR 5 115 (.int .i64 d) rfl (by kernel_rfl) (fun _ _ _ h=>h) (fun _ _=>rfl) hS0 ?_;simp only[sI,sS,sZ];refine zas 6 rfl (by rfl) (by kernel_rfl) ?_
 go_simp
 refine(HC0.out _ (HB.out.trans (hS0.mono HB.out.size))).mono ?_;rintro e W2 ⟨rfl,b2⟩;have hS1:=hS0.trans (b2.mono hS0.size);refine⟨hS1,?_⟩;refine mvR 7 117 (.string ((x++⟨#[32]⟩)++S0)) rfl (by kernel_rfl) (fun _ _ _ h=>h) (fun _ _=>by go_simp;omega) hS1 ?_;simp only[sI,sS,sZ];refine mvR 8 6 (.string ((x++⟨#[32]⟩)++S0)) rfl (by kernel_rfl) (fun _ _ _ h=>h) (fun _ _=>rfl) hS1 ?_;simp only[sI,sS,sZ];refine wpAnyH_done (by kernel_rfl) ?_ _;have HBZ:=hid (HB.out.trans (hS1.mono HB.out.size));clear hS0 hS1 b2
 go_wp2
 go_ret
 exact⟨rfl,HBZ.out⟩
theorem zxo (P:Pre w0 bn on cn L i 7 x n l sk kc a f e d):TxG w0 bn on cn L i 7 x n l d:=by
 refine fun hln W hW=>?_;have hd:=P.hd;rw[show kdE 7 d=d by simp[kdE]] at hln ⊢;have HRES:Hid (strU (dtK d 7 x n (l.map hdP) (l.map (dtP d)))=(strU (fuD x (l.map hdP) (l.map (dtP d))))):=by
  show _=_;rw[show dtK d 7 x n (l.map hdP) (l.map (dtP d))=fuD x (l.map hdP) (l.map (dtP d)) from rfl]
  try simp only[zan]
  try simp only[zaw]
  try rfl
 have hsz:((strU (fuD x (l.map hdP) (l.map (dtP d)))):ByteArray).size<=1000000000000:=by rw[<-HRES.out,zad];exact hln
 try simp only[ByteArray.size_append] at hsz
 have HCQ:Hid (∀ W',Below W.heap.size W W'->Calls Tryz.prog 57 #[.agg #[.slice (some ⟨bn,on,none⟩) L.length cn],.int .i64 i,.int .i64 d] W' fun e w'=>e=.returned (.string (strU (fuD x (l.map hdP) (l.map (dtP d)))))∧Below W'.heap.size W' w'):=fun W' hb=>ziv P.hE P.hN P.hK (by omega) (by rw[<-zad];omega) W' (hW.trans (hb.mono hW.size));obtain⟨m0,m1,m2,m3,m4,m5,m6,lt1,z1,z3,hs1,hs2,hs3⟩:=P.op hW;rw[HRES.out];clear P HRES hln hW;generalize strU (fuD x (l.map hdP) (l.map (dtP d)))=SF at *;generalize L.length=nl at *;generalize l.length=ln at *;have HBA:Hid (Below W.heap.size W ((W.alloc (.cells #[.slice (some ⟨bn,on,none⟩) nl cn] 25)).alloc (.cells #[.int .i64 7,.string x,.int .i64 n,.slice sk ln kc,.int .i64 a,.int .i64 f,.int .i64 e] 59))):=(zb9 W _ _ _ _).2.2
 go_enter Tryz.func28,Tryz.ntmps28
 go_wp2_with fail
 refine(HCQ.out _ HBA.out).mono ?_;rintro e W2 ⟨rfl,b2⟩;have HB2:=hid (HBA.out.trans (b2.mono HBA.out.size));clear b2 HCQ HBA m0 m1 m2 m3 m4 m5 m6
 go_wp2
 go_ret
 exact⟨rfl,HB2.out⟩
theorem zxp (P:Pre w0 bn on cn L i 16 x n l sk kc a f e d)(hlen:0<l.length):TxG w0 bn on cn L i 16 x n l d:=by
 refine fun hln W hW=>?_;have hd:=P.hd;rw[show kdE 16 d=d by simp[kdE]] at hln ⊢;obtain⟨t0,ht0⟩:=ats (l:=l) (q:=0) (by omega);have HRES:Hid (strU (dtK d 16 x n (l.map hdP) (l.map (dtP d)))=⟨#[114,101,116,117,114,110,32]⟩++(strU (dtP d t0))):=by
  show _=_;rw[show dtK d 16 x n (l.map hdP) (l.map (dtP d))=[114,101,116,117,114,110,32]++(l.map (dtP d)).getD 0 [] from(by have hg:(0<(l.map (dtP d)).length)=True:=(eq_true (by rw[List.length_map];omega));unfold dtK;simp only[hg];rfl)];rw[zbr ht0]
  try simp only[zan]
  try simp only[zaw]
  try rfl
 have hsz:(⟨#[114,101,116,117,114,110,32]⟩++(strU (dtP d t0)):ByteArray).size<=1000000000000:=by rw[<-HRES.out,zad];exact hln
 try simp only[ByteArray.size_append] at hsz
 try simp only[(show(⟨#[114,101,116,117,114,110,32]⟩:ByteArray).size=7 from rfl)] at hsz
 have HC0:=P.su hW ht0 (by rw[<-zad];omega);have zg:decide ((l.length:Int) > 0)=true:=decide_eq_true (by omega);have zg2:decide (0<(l.length:Int))=true:=decide_eq_true (by omega);obtain⟨m0,m1,m2,m3,m4,m5,m6,lt1,z1,z3,hs1,hs2,hs3⟩:=P.op hW;rw[HRES.out];clear P HRES hln hW ht0;generalize strU (dtP d t0)=S0 at *;generalize L.length=nl at *;generalize l.length=ln at *;have HBA:Hid (Below W.heap.size W ((W.alloc (.cells #[.slice (some ⟨bn,on,none⟩) nl cn] 25)).alloc (.cells #[.int .i64 16,.string x,.int .i64 n,.slice sk ln kc,.int .i64 a,.int .i64 f,.int .i64 e] 59))):=(zb9 W _ _ _ _).2.2
 go_enter Tryz.func28,Tryz.ntmps28
 go_wp2_with fail
 refine(HC0.out _ HBA.out).mono ?_;rintro e W2 ⟨rfl,b2⟩;have HB2:=hid (HBA.out.trans (b2.mono HBA.out.size));clear b2 HC0 HBA m0 m1 m2 m3 m4 m5 m6
 go_wp2
 go_ret
 exact⟨rfl,HB2.out⟩
theorem zxq (P:Pre w0 bn on cn L i 19 x n l sk kc a f e d)(hlen:1<=l.length):TxG w0 bn on cn L i 19 x n l d:=by
 refine fun hln W hW=>?_;have hd:=P.hd;rw[show kdE 19 d=d by simp[kdE]] at hln ⊢;obtain⟨t0,ht0⟩:=ats (l:=l) (q:=0) (by omega);have HRES:Hid (strU (dtK d 19 x n (l.map hdP) (l.map (dtP d)))=(strU (dtP d t0))):=by
  show _=_;rw[show dtK d 19 x n (l.map hdP) (l.map (dtP d))=(l.map (dtP d)).getD 0 [] from rfl];rw[zbr ht0]
  try simp only[zan]
  try simp only[zaw]
  try rfl
 have hsz:((strU (dtP d t0)):ByteArray).size<=1000000000000:=by rw[<-HRES.out,zad];exact hln
 try simp only[ByteArray.size_append] at hsz
 have HC0:=P.su hW ht0 (by rw[<-zad];omega);obtain⟨m0,m1,m2,m3,m4,m5,m6,lt1,z1,z3,hs1,hs2,hs3⟩:=P.op hW;rw[HRES.out];clear P HRES hln hW ht0;generalize strU (dtP d t0)=S0 at *;generalize L.length=nl at *;generalize l.length=ln at *;have HBA:Hid (Below W.heap.size W ((W.alloc (.cells #[.slice (some ⟨bn,on,none⟩) nl cn] 25)).alloc (.cells #[.int .i64 19,.string x,.int .i64 n,.slice sk ln kc,.int .i64 a,.int .i64 f,.int .i64 e] 59))):=(zb9 W _ _ _ _).2.2
 go_enter Tryz.func28,Tryz.ntmps28
 go_wp2_with fail
 refine(HC0.out _ HBA.out).mono ?_;rintro e W2 ⟨rfl,b2⟩;have HB2:=hid (HBA.out.trans (b2.mono HBA.out.size));clear b2 HC0 HBA m0 m1 m2 m3 m4 m5 m6
 go_wp2
 go_ret
 exact⟨rfl,HB2.out⟩
theorem zu1 {k:Int}(P:Pre w0 bn on cn L i k x n l sk kc a f e d)(n20:(k == 20)=false)(n21:(k == 21)=false)(n24:(k == 24)=false)(n12:(k == 12)=false)(n25:(k == 25)=false)(n26:(k == 26)=false)(n27:(k == 27)=false)(n13:(k == 13)=false)(n5:(k == 5)=false)(n6:(k == 6)=false)(n8:(k == 8)=false)(n9:(k == 9)=false)(n3:(k == 3)=false)(n4:(k == 4)=false)(n7:(k == 7)=false)(n14:(k == 14)=false)(n15:(k == 15)=false)(n16:(k == 16)=false)(n17:(k == 17)=false)(n18:(k == 18)=false)(n19:(k == 19)=false)(n2:(k == 2)=false)(n1:(k == 1)=false):TxG w0 bn on cn L i k x n l d:=by
 refine fun hln W hW=>?_;have hd:=P.hd;generalize kdE k d=KD at hln ⊢;have HRES:Hid (strU (dtK d k x n (l.map hdP) (l.map (dtP KD)))=x):=by
  show _=_;rw[show dtK d k x n (l.map hdP) (l.map (dtP KD))=x.data.toList from(by simp only[beq_eq_false_iff_ne,ne_eq] at *;unfold dtK;simp[*])]
  try simp only[zan]
  try simp only[zaw]
  try rfl
 have hsz:(x:ByteArray).size<=1000000000000:=by rw[<-HRES.out,zad];exact hln
 try simp only[ByteArray.size_append] at hsz
 obtain⟨m0,m1,m2,m3,m4,m5,m6,lt1,z1,z3,hs1,hs2,hs3⟩:=P.op hW;rw[HRES.out];clear P HRES hln hW;generalize L.length=nl at *;generalize l.length=ln at *;have HBA:Hid (Below W.heap.size W ((W.alloc (.cells #[.slice (some ⟨bn,on,none⟩) nl cn] 25)).alloc (.cells #[.int .i64 k,.string x,.int .i64 n,.slice sk ln kc,.int .i64 a,.int .i64 f,.int .i64 e] 59))):=(zb9 W _ _ _ _).2.2
 go_enter Tryz.func28,Tryz.ntmps28
 go_wp2
 go_ret
 exact⟨rfl,HBA.out⟩
end
section
variable {w0:World}{bn on cn:Nat}{L:List Nd}{i:Nat}{n a f e:Int}{x:ByteArray}{l:List Pt}{sk:Option Addr}{kc:Nat}{d:Nat}
theorem zxr (P:Pre w0 bn on cn L i 25 x n l sk kc a f e d)(hlen:1<=l.length):TxG w0 bn on cn L i 25 x n l d:=by
 refine fun hln W hW=>?_;have hd:=P.hd;rw[show kdE 25 d=0 by simp[kdE]] at hln ⊢;obtain⟨t0,ht0⟩:=ats (l:=l) (q:=0) (by omega);have HRES:Hid (strU (dtK d 25 x n (l.map hdP) (l.map (dtP 0)))=(strU (wiD 25 x (hdP t0) (dtP 0 t0) 0))++⟨#[40]⟩++(strU (coD ((l.map (dtP 0)).drop 1)))++⟨#[41]⟩):=by
  show _=_;rw[show dtK d 25 x n (l.map hdP) (l.map (dtP 0))=wiL 25 x (l.map hdP) (l.map (dtP 0)) 0++[40]++coD ((l.map (dtP 0)).drop 1)++[41] from rfl];rw[zjf ht0]
  try simp only[zan]
  try simp only[zaw]
  try rfl
 have hsz:((strU (wiD 25 x (hdP t0) (dtP 0 t0) 0))++⟨#[40]⟩++(strU (coD ((l.map (dtP 0)).drop 1)))++⟨#[41]⟩:ByteArray).size<=1000000000000:=by rw[<-HRES.out,zad];exact hln
 try simp only[ByteArray.size_append] at hsz
 try simp only[(show(⟨#[40]⟩:ByteArray).size=1 from rfl)] at hsz
 try simp only[(show(⟨#[41]⟩:ByteArray).size=1 from rfl)] at hsz
 have HC0:=P.wi hW ht0 (by rw[<-zad];omega);have HCL:Hid (∀ W',Below W.heap.size W W'->Calls Tryz.prog 53 #[.agg #[.slice (some ⟨bn,on,none⟩) L.length cn],.int .i64 i,.int .i64 1] W' fun e w'=>e=.returned (.string (strU (coD ((l.map (dtP 0)).drop 1))))∧Below W'.heap.size W' w'):=fun W' hb=>zqk P.hE P.hN P.hK (by omega) (by rw[<-zad];omega) W' (hW.trans (hb.mono hW.size));obtain⟨m0,m1,m2,m3,m4,m5,m6,lt1,z1,z3,hs1,hs2,hs3⟩:=P.op hW;rw[HRES.out];clear P HRES hln hW ht0;generalize strU (wiD 25 x (hdP t0) (dtP 0 t0) 0)=S0 at *;generalize strU (coD ((l.map (dtP 0)).drop 1))=SL at *;generalize L.length=nl at *;generalize l.length=ln at *
 go_enter Tryz.func28,Tryz.ntmps28
 go_wp2_with fail
 clear m0 m1 m2 m3 m4 m5 m6;refine zdw fun W1 HB R1 C1 C3=>?_;have hS0:Below W1.heap.size W1 W1.drew:=(Below.refl _ _).drew;refine zbc (S:=fun w'=>Below W1.heap.size W1 w') 10 rfl (by kernel_rfl) ?_;refine mvT 0 45 3 rfl rfl (by kernel_rfl) (fun _ _ _ h=>h) R1 hS0 ?_;simp only[sI,sS,sZ];refine mvR 1 46 (.int .i64 i) rfl (by kernel_rfl) (fun _ _ _ h=>h) (fun _ _=>rfl) hS0 ?_;simp only[sI,sS,sZ];refine mvT 4 49 3 rfl rfl (by kernel_rfl) (fun _ _ _ h=>h) R1 hS0 ?_;simp only[sI,sS,sZ];refine mvR 5 50 (.int .i64 i) rfl (by kernel_rfl) (fun _ _ _ h=>h) (fun _ _=>rfl) hS0 ?_;simp only[sI,sS,sZ];refine zas 2 rfl (by rfl) (by kernel_rfl) ?_
 go_simp
 refine(HC0.out _ (HB.out.trans (hS0.mono HB.out.size))).mono ?_;rintro e W2 ⟨rfl,b2⟩;have hS1:=hS0.trans (b2.mono hS0.size);refine⟨hS1,?_⟩;refine mvR 3 48 (.string (S0++⟨#[40]⟩)) rfl (by kernel_rfl) (fun _ _ _ h=>h) (fun _ _=>by go_simp;omega) hS1 ?_;simp only[sI,sS,sZ];refine zas 6 rfl (by rfl) (by kernel_rfl) ?_
 go_simp
 refine(HCL.out _ (HB.out.trans (hS1.mono HB.out.size))).mono ?_;rintro e W3 ⟨rfl,b3⟩;have hS2:=hS1.trans (b3.mono hS1.size);refine⟨hS2,?_⟩;refine mvR 7 52 (.string ((S0++⟨#[40]⟩)++SL)) rfl (by kernel_rfl) (fun _ _ _ h=>h) (fun _ _=>by go_simp;omega) hS2 ?_;simp only[sI,sS,sZ];refine mvR 8 53 (.string (((S0++⟨#[40]⟩)++SL)++⟨#[41]⟩)) rfl (by kernel_rfl) (fun _ _ _ h=>h) (fun _ _=>by go_simp;omega) hS2 ?_;simp only[sI,sS,sZ];refine mvR 9 6 (.string (((S0++⟨#[40]⟩)++SL)++⟨#[41]⟩)) rfl (by kernel_rfl) (fun _ _ _ h=>h) (fun _ _=>rfl) hS2 ?_;simp only[sI,sS,sZ];refine wpAnyH_done (by kernel_rfl) ?_ _;have HBZ:=hid (HB.out.trans (hS2.mono HB.out.size));clear hS0 hS1 hS2 b2 b3
 go_wp2
 go_ret
 exact⟨rfl,HBZ.out⟩
theorem zu2 (P:Pre w0 bn on cn L i 13 x n l sk kc a f e d):TxG w0 bn on cn L i 13 x n l d:=by
 refine fun hln W hW=>?_;have hd:=P.hd;rw[show kdE 13 d=d+1 by simp[kdE]] at hln ⊢;have HRES:Hid (strU (dtK d 13 x n (l.map hdP) (l.map (dtP (d+1))))=⟨#[123,10]⟩++(strU (liD (d+1) (l.map (dtP (d+1)))))++(strU (List.replicate d 9))++⟨#[125]⟩):=by
  show _=_;rw[show dtK d 13 x n (l.map hdP) (l.map (dtP (d+1)))=[123,10]++liD (d+1) (l.map (dtP (d+1)))++List.replicate d 9++[125] from rfl]
  try simp only[zan]
  try simp only[zaw]
  try rfl
 have hsz:(⟨#[123,10]⟩++(strU (liD (d+1) (l.map (dtP (d+1)))))++(strU (List.replicate d 9))++⟨#[125]⟩:ByteArray).size<=1000000000000:=by rw[<-HRES.out,zad];exact hln
 try simp only[ByteArray.size_append] at hsz
 try simp only[(show(⟨#[123,10]⟩:ByteArray).size=2 from rfl)] at hsz
 try simp only[(show(⟨#[125]⟩:ByteArray).size=1 from rfl)] at hsz
 have HCL:Hid (∀ W',Below W.heap.size W W'->Calls Tryz.prog 54 #[.agg #[.slice (some ⟨bn,on,none⟩) L.length cn],.slice sk l.length kc,.int .i64 ((d:Int)+1)] W' fun e w'=>e=.returned (.string (strU (liD (d+1) (l.map (dtP (d+1))))))∧Below W'.heap.size W' w'):=fun W' hb=>by
  have:=zii P.hN P.hK (d+1) (by omega) (by rw[<-zad];omega) W' (hW.trans (hb.mono hW.size));simpa using this
 have HCT:Hid (∀ W',Below W.heap.size W W'->Calls Tryz.prog 55 #[.int .i64 d] W' fun e w'=>e=.returned (.string (strU (List.replicate d 9)))∧Below W'.heap.size W' w'):=fun W' hb=>(zgv d W' (by omega)).mono fun e w' ⟨h1,h2⟩=>⟨h1,by rw[h2];exact Below.refl _ _⟩;have hwd:IntKind.i64.wrap ((d:Int)+1)=(d:Int)+1:=by rw[IntKind.wrap_i64];omega
 have hwd2:(d:Int)+1<=9223372036854775807:=by omega
 obtain⟨m0,m1,m2,m3,m4,m5,m6,lt1,z1,z3,hs1,hs2,hs3⟩:=P.op hW;rw[HRES.out];clear P HRES hln hW;generalize strU (liD (d+1) (l.map (dtP (d+1))))=SL at *;generalize strU (List.replicate d 9)=ST at *;generalize L.length=nl at *;generalize l.length=ln at *;have HBA:Hid (Below W.heap.size W ((W.alloc (.cells #[.slice (some ⟨bn,on,none⟩) nl cn] 25)).alloc (.cells #[.int .i64 13,.string x,.int .i64 n,.slice sk ln kc,.int .i64 a,.int .i64 f,.int .i64 e] 59))):=(zb9 W _ _ _ _).2.2
 go_enter Tryz.func28,Tryz.ntmps28
 go_wp2_with fail
 refine(HCL.out _ HBA.out).mono ?_;rintro e W2 ⟨rfl,b2⟩;have HB2:=hid (HBA.out.trans (b2.mono HBA.out.size));clear b2 HCL HBA m0 m1 m2 m3 m4 m5 m6
 go_wp2_with fail
 refine(HCT.out _ HB2.out).mono ?_;rintro e W3 ⟨rfl,b3⟩;have HB3:=hid (HB2.out.trans (b3.mono HB2.out.size));clear b3 HCT
 go_wp2
 go_ret
 exact⟨rfl,HB3.out⟩
theorem zu3 (P:Pre w0 bn on cn L i 3 x n l sk kc a f e d)(hlen:1<=l.length):TxG w0 bn on cn L i 3 x n l d:=by
 refine fun hln W hW=>?_;have hd:=P.hd;rw[show kdE 3 d=d by simp[kdE]] at hln ⊢;obtain⟨t0,ht0⟩:=ats (l:=l) (q:=0) (by omega);have HRES:Hid (strU (dtK d 3 x n (l.map hdP) (l.map (dtP d)))=⟨#[99,111,110,115,116,32]⟩++x++⟨#[32,61,32]⟩++(strU (dtP d t0))):=by
  show _=_;rw[show dtK d 3 x n (l.map hdP) (l.map (dtP d))=[99,111,110,115,116,32]++x.data.toList++[32,61,32]++(l.map (dtP d)).getD 0 [] from rfl];rw[zbr ht0]
  try simp only[zan]
  try simp only[zaw]
  try rfl
 have hsz:(⟨#[99,111,110,115,116,32]⟩++x++⟨#[32,61,32]⟩++(strU (dtP d t0)):ByteArray).size<=1000000000000:=by rw[<-HRES.out,zad];exact hln
 try simp only[ByteArray.size_append] at hsz
 try simp only[(show(⟨#[32,61,32]⟩:ByteArray).size=3 from rfl)] at hsz
 try simp only[(show(⟨#[99,111,110,115,116,32]⟩:ByteArray).size=6 from rfl)] at hsz
 have HC0:=P.su hW ht0 (by rw[<-zad];omega);obtain⟨m0,m1,m2,m3,m4,m5,m6,lt1,z1,z3,hs1,hs2,hs3⟩:=P.op hW;rw[HRES.out];clear P HRES hln hW ht0;generalize strU (dtP d t0)=S0 at *;generalize L.length=nl at *;generalize l.length=ln at *
 go_enter Tryz.func28,Tryz.ntmps28
 go_wp2_with fail
 clear m0 m1 m2 m3 m4 m5 m6;refine zdw fun W1 HB R1 C1 C3=>?_;have hS0:Below W1.heap.size W1 W1.drew:=(Below.refl _ _).drew;refine zbc (S:=fun w'=>Below W1.heap.size W1 w') 10 rfl (by kernel_rfl) ?_;refine mvR 0 120 (.pointer (some ⟨W.heap.size+1,1,none⟩)) rfl (by kernel_rfl) (fun _ _ _ h=>h) (fun _ _=>rfl) hS0 ?_;simp only[sI,sS,sZ];refine mvR 1 121 (.string x) rfl (by kernel_rfl) (fun _ _ _ h=>h) (fun w' h=>by have e:=C1.out w' h;go_simp) hS0 ?_;simp only[sI,sS,sZ];refine mvR 2 122 (.string (⟨#[99,111,110,115,116,32]⟩++x)) rfl (by kernel_rfl) (fun _ _ _ h=>h) (fun _ _=>by go_simp;omega) hS0 ?_;simp only[sI,sS,sZ];refine mvR 3 123 (.string ((⟨#[99,111,110,115,116,32]⟩++x)++⟨#[32,61,32]⟩)) rfl (by kernel_rfl) (fun _ _ _ h=>h) (fun _ _=>by go_simp;omega) hS0 ?_;simp only[sI,sS,sZ];refine mvT 4 124 3 rfl rfl (by kernel_rfl) (fun _ _ _ h=>h) R1 hS0 ?_;simp only[sI,sS,sZ];refine mvR 5 125 (.int .i64 i) rfl (by kernel_rfl) (fun _ _ _ h=>h) (fun _ _=>rfl) hS0 ?_;simp only[sI,sS,sZ];refine mvR 6 126 (.int .i64 d) rfl (by kernel_rfl) (fun _ _ _ h=>h) (fun _ _=>rfl) hS0 ?_;simp only[sI,sS,sZ];refine zas 7 rfl (by rfl) (by kernel_rfl) ?_
 go_simp
 refine(HC0.out _ (HB.out.trans (hS0.mono HB.out.size))).mono ?_;rintro e W2 ⟨rfl,b2⟩;have hS1:=hS0.trans (b2.mono hS0.size);refine⟨hS1,?_⟩;refine mvR 8 128 (.string (((⟨#[99,111,110,115,116,32]⟩++x)++⟨#[32,61,32]⟩)++S0)) rfl (by kernel_rfl) (fun _ _ _ h=>h) (fun _ _=>by go_simp;omega) hS1 ?_;simp only[sI,sS,sZ];refine mvR 9 6 (.string (((⟨#[99,111,110,115,116,32]⟩++x)++⟨#[32,61,32]⟩)++S0)) rfl (by kernel_rfl) (fun _ _ _ h=>h) (fun _ _=>rfl) hS1 ?_;simp only[sI,sS,sZ];refine wpAnyH_done (by kernel_rfl) ?_ _;have HBZ:=hid (HB.out.trans (hS1.mono HB.out.size));clear hS0 hS1 b2
 go_wp2
 go_ret
 exact⟨rfl,HBZ.out⟩
theorem z17 (P:Pre w0 bn on cn L i 14 x n l sk kc a f e d)(hlen:2<l.length):TxG w0 bn on cn L i 14 x n l d:=by
 refine fun hln W hW=>?_;have hd:=P.hd;rw[show kdE 14 d=d by simp[kdE]] at hln ⊢;obtain⟨t0,ht0⟩:=ats (l:=l) (q:=0) (by omega);obtain⟨t1,ht1⟩:=ats (l:=l) (q:=1) (by omega);obtain⟨t2,ht2⟩:=ats (l:=l) (q:=2) (by omega);have HRES:Hid (strU (dtK d 14 x n (l.map hdP) (l.map (dtP d)))=⟨#[105,102,32]⟩++(strU (dtP d t0))++⟨#[32]⟩++(strU (dtP d t1))++⟨#[32,101,108,115,101,32]⟩++(strU (dtP d t2))):=by
  show _=_;rw[show dtK d 14 x n (l.map hdP) (l.map (dtP d))=[105,102,32]++(l.map (dtP d)).getD 0 []++[32]++(l.map (dtP d)).getD 1 []++[32,101,108,115,101,32]++(l.map (dtP d)).getD 2 [] from(by have hg:(2<(l.map (dtP d)).length)=True:=(eq_true (by rw[List.length_map];omega));unfold dtK;simp only[hg];rfl)];rw[zbr ht0,zbr ht1,zbr ht2]
  try simp only[zan]
  try simp only[zaw]
  try rfl
 have hsz:(⟨#[105,102,32]⟩++(strU (dtP d t0))++⟨#[32]⟩++(strU (dtP d t1))++⟨#[32,101,108,115,101,32]⟩++(strU (dtP d t2)):ByteArray).size<=1000000000000:=by rw[<-HRES.out,zad];exact hln
 try simp only[ByteArray.size_append] at hsz
 try simp only[(show(⟨#[105,102,32]⟩:ByteArray).size=3 from rfl)] at hsz
 try simp only[(show(⟨#[32,101,108,115,101,32]⟩:ByteArray).size=6 from rfl)] at hsz
 try simp only[(show(⟨#[32]⟩:ByteArray).size=1 from rfl)] at hsz
 have HC0:=P.su hW ht0 (by rw[<-zad];omega);have HC1:=P.su hW ht1 (by rw[<-zad];omega);have HC2:=P.su hW ht2 (by rw[<-zad];omega);have zg:decide ((l.length:Int) > 2)=true:=decide_eq_true (by omega);have zg2:decide (2<(l.length:Int))=true:=decide_eq_true (by omega);obtain⟨m0,m1,m2,m3,m4,m5,m6,lt1,z1,z3,hs1,hs2,hs3⟩:=P.op hW;rw[HRES.out];clear P HRES hln hW ht0 ht1 ht2;generalize strU (dtP d t0)=S0 at *;generalize strU (dtP d t1)=S1 at *;generalize strU (dtP d t2)=S2 at *;generalize L.length=nl at *;generalize l.length=ln at *
 go_enter Tryz.func28,Tryz.ntmps28
 go_wp2_with fail
 clear m0 m1 m2 m3 m4 m5 m6;refine zdw fun W1 HB R1 C1 C3=>?_;have hS0:Below W1.heap.size W1 W1.drew:=(Below.refl _ _).drew;refine zbc (S:=fun w'=>Below W1.heap.size W1 w') 18 rfl (by kernel_rfl) ?_;refine mvT 0 171 3 rfl rfl (by kernel_rfl) (fun _ _ _ h=>h) R1 hS0 ?_;simp only[sI,sS,sZ];refine mvR 1 172 (.int .i64 i) rfl (by kernel_rfl) (fun _ _ _ h=>h) (fun _ _=>rfl) hS0 ?_;simp only[sI,sS,sZ];refine mvR 2 173 (.int .i64 d) rfl (by kernel_rfl) (fun _ _ _ h=>h) (fun _ _=>rfl) hS0 ?_;simp only[sI,sS,sZ];refine mvT 6 177 3 rfl rfl (by kernel_rfl) (fun _ _ _ h=>h) R1 hS0 ?_;simp only[sI,sS,sZ];refine mvR 7 178 (.int .i64 i) rfl (by kernel_rfl) (fun _ _ _ h=>h) (fun _ _=>rfl) hS0 ?_;simp only[sI,sS,sZ];refine mvR 8 179 (.int .i64 d) rfl (by kernel_rfl) (fun _ _ _ h=>h) (fun _ _=>rfl) hS0 ?_;simp only[sI,sS,sZ];refine mvT 12 183 3 rfl rfl (by kernel_rfl) (fun _ _ _ h=>h) R1 hS0 ?_;simp only[sI,sS,sZ];refine mvR 13 184 (.int .i64 i) rfl (by kernel_rfl) (fun _ _ _ h=>h) (fun _ _=>rfl) hS0 ?_;simp only[sI,sS,sZ];refine mvR 14 185 (.int .i64 d) rfl (by kernel_rfl) (fun _ _ _ h=>h) (fun _ _=>rfl) hS0 ?_;simp only[sI,sS,sZ];refine zas 3 rfl (by rfl) (by kernel_rfl) ?_
 go_simp
 refine(HC0.out _ (HB.out.trans (hS0.mono HB.out.size))).mono ?_;rintro e W2 ⟨rfl,b2⟩;have hS1:=hS0.trans (b2.mono hS0.size);refine⟨hS1,?_⟩;refine mvR 4 175 (.string (⟨#[105,102,32]⟩++S0)) rfl (by kernel_rfl) (fun _ _ _ h=>h) (fun _ _=>by go_simp;omega) hS1 ?_;simp only[sI,sS,sZ];refine mvR 5 176 (.string ((⟨#[105,102,32]⟩++S0)++⟨#[32]⟩)) rfl (by kernel_rfl) (fun _ _ _ h=>h) (fun _ _=>by go_simp;omega) hS1 ?_;simp only[sI,sS,sZ];refine zas 9 rfl (by rfl) (by kernel_rfl) ?_
 go_simp
 refine(HC1.out _ (HB.out.trans (hS1.mono HB.out.size))).mono ?_;rintro e W3 ⟨rfl,b3⟩;have hS2:=hS1.trans (b3.mono hS1.size);refine⟨hS2,?_⟩;refine mvR 10 181 (.string (((⟨#[105,102,32]⟩++S0)++⟨#[32]⟩)++S1)) rfl (by kernel_rfl) (fun _ _ _ h=>h) (fun _ _=>by go_simp;omega) hS2 ?_;simp only[sI,sS,sZ];refine mvR 11 182 (.string ((((⟨#[105,102,32]⟩++S0)++⟨#[32]⟩)++S1)++⟨#[32,101,108,115,101,32]⟩)) rfl (by kernel_rfl) (fun _ _ _ h=>h) (fun _ _=>by go_simp;omega) hS2 ?_;simp only[sI,sS,sZ];refine zas 15 rfl (by rfl) (by kernel_rfl) ?_
 go_simp
 refine(HC2.out _ (HB.out.trans (hS2.mono HB.out.size))).mono ?_;rintro e W4 ⟨rfl,b4⟩;have hS3:=hS2.trans (b4.mono hS2.size);refine⟨hS3,?_⟩;refine mvR 16 187 (.string (((((⟨#[105,102,32]⟩++S0)++⟨#[32]⟩)++S1)++⟨#[32,101,108,115,101,32]⟩)++S2)) rfl (by kernel_rfl) (fun _ _ _ h=>h) (fun _ _=>by go_simp;omega) hS3 ?_;simp only[sI,sS,sZ];refine mvR 17 6 (.string (((((⟨#[105,102,32]⟩++S0)++⟨#[32]⟩)++S1)++⟨#[32,101,108,115,101,32]⟩)++S2)) rfl (by kernel_rfl) (fun _ _ _ h=>h) (fun _ _=>rfl) hS3 ?_;simp only[sI,sS,sZ];refine wpAnyH_done (by kernel_rfl) ?_ _;have HBZ:=hid (HB.out.trans (hS3.mono HB.out.size));clear hS0 hS1 hS2 hS3 b2 b3 b4
 go_wp2
 go_ret
 exact⟨rfl,HBZ.out⟩
theorem zxs (P:Pre w0 bn on cn L i 16 x n l sk kc a f e d)(hle:¬ 0<l.length):TxG w0 bn on cn L i 16 x n l d:=by
 refine fun hln W hW=>?_;have hd:=P.hd;rw[show kdE 16 d=d by simp[kdE]] at hln ⊢;have HRES:Hid (strU (dtK d 16 x n (l.map hdP) (l.map (dtP d)))=⟨#[114,101,116,117,114,110]⟩):=by
  show _=_;rw[show dtK d 16 x n (l.map hdP) (l.map (dtP d))=[114,101,116,117,114,110] from(by have hg:(0<(l.map (dtP d)).length)=False:=(eq_false (by rw[List.length_map];omega));unfold dtK;simp only[hg];rfl)]
  try simp only[zan]
  try simp only[zaw]
  try rfl
 have hsz:(⟨#[114,101,116,117,114,110]⟩:ByteArray).size<=1000000000000:=by rw[<-HRES.out,zad];exact hln
 try simp only[ByteArray.size_append] at hsz
 try simp only[(show(⟨#[114,101,116,117,114,110]⟩:ByteArray).size=6 from rfl)] at hsz
 have zg:decide ((l.length:Int) > 0)=false:=decide_eq_false (by omega);have zg2:decide (0<(l.length:Int))=false:=decide_eq_false (by omega);obtain⟨m0,m1,m2,m3,m4,m5,m6,lt1,z1,z3,hs1,hs2,hs3⟩:=P.op hW;rw[HRES.out];clear P HRES hln hW;generalize L.length=nl at *;generalize l.length=ln at *;have HBA:Hid (Below W.heap.size W ((W.alloc (.cells #[.slice (some ⟨bn,on,none⟩) nl cn] 25)).alloc (.cells #[.int .i64 16,.string x,.int .i64 n,.slice sk ln kc,.int .i64 a,.int .i64 f,.int .i64 e] 59))):=(zb9 W _ _ _ _).2.2
 go_enter Tryz.func28,Tryz.ntmps28
 go_wp2
 go_ret
 exact⟨rfl,HBA.out⟩
theorem z18 (P:Pre w0 bn on cn L i 20 x n l sk kc a f e d):TxG w0 bn on cn L i 20 x n l d:=by
 refine fun hln W hW=>?_;have hd:=P.hd;rw[show kdE 20 d=d by simp[kdE]] at hln ⊢;have HRES:Hid (strU (dtK d 20 x n (l.map hdP) (l.map (dtP d)))=strU (Lib.itoa n)):=by
  show _=_;rw[show dtK d 20 x n (l.map hdP) (l.map (dtP d))=Lib.itoa n from rfl]
  try simp only[zan]
  try simp only[zaw]
  try rfl
 have hsz:(strU (Lib.itoa n):ByteArray).size<=1000000000000:=by rw[<-HRES.out,zad];exact hln
 try simp only[ByteArray.size_append] at hsz
 have HCQ:Hid (∀ W',Below W.heap.size W W'->Calls Tryz.prog 50 #[.int .i64 n] W' fun e w'=>e=.returned (.string (strU (Lib.itoa n)))∧Below W'.heap.size W' w'):=fun W' hb=>(zl6 n W' P.hx.2).mono fun e w' ⟨h1,h2⟩=>⟨h1,by rw[h2];exact Below.refl _ _⟩;obtain⟨m0,m1,m2,m3,m4,m5,m6,lt1,z1,z3,hs1,hs2,hs3⟩:=P.op hW;rw[HRES.out];clear P HRES hln hW;generalize L.length=nl at *;generalize l.length=ln at *;have HBA:Hid (Below W.heap.size W ((W.alloc (.cells #[.slice (some ⟨bn,on,none⟩) nl cn] 25)).alloc (.cells #[.int .i64 20,.string x,.int .i64 n,.slice sk ln kc,.int .i64 a,.int .i64 f,.int .i64 e] 59))):=(zb9 W _ _ _ _).2.2
 go_enter Tryz.func28,Tryz.ntmps28
 go_wp2_with fail
 refine(HCQ.out _ HBA.out).mono ?_;rintro e W2 ⟨rfl,b2⟩;have HB2:=hid (HBA.out.trans (b2.mono HBA.out.size));clear b2 HCQ HBA m0 m1 m2 m3 m4 m5 m6
 go_wp2
 go_ret
 exact⟨rfl,HB2.out⟩
end
end Go.Proofs.YtabiangdmibocaaGreatDoor
