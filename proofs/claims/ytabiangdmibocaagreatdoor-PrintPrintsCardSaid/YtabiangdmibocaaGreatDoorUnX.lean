import Derived.Test.YtabiangdmibocaaGreatDoorUnW
import Derived.Test.YtabiangdmibocaaGreatDoorUnC
import Derived.Test.YtabiangdmibocaaGreatDoorUnO
import Derived.Lib.ItoaNum
import Derived.Lib.ItoaLen
namespace Go.Proofs.YtabiangdmibocaaGreatDoor
set_option maxRecDepth 100000
set_option maxHeartbeats 4000000
open Go.RowKit
section
variable {w0:World}{bn on cn:Nat}{L:List Nd}
theorem zuv {i:Nat}{k n a f e:Int}{x:ByteArray}{l:List Pt}{sk:Option Addr}{kc:Nat}(hN:Dn w0 bn on L i k x n l sk kc a f e){q:Nat}{t:Pt}(ht:l[q]?=some t)(hT:DtC w0 (some ⟨bn,on,none⟩) cn L t)(d:Nat)(hd:d+cntP t<=100000)(hln:(dtP d t).length<=1000000000000) (W:World)(hW:Below w0.heap.size w0 W) :
  Calls Tryz.prog 56 #[.agg #[.slice (some ⟨bn,on,none⟩) L.length cn],.int .i64 i,.int .i64 q,.int .i64 d] W fun e w'=>e=.returned (.string (strU (dtP d t)))∧Below W.heap.size W w':=by
 obtain⟨b,o,kj,rfl,hem,hkl,hkc⟩:=hN.kid q t ht;have hq:q<l.length:=(List.getElem?_eq_some_iff.1 ht).1;have hs:=hN.s;have hiL:=hN.hi;have z1:decide ((i:Int)<L.length)=true:=by simp;omega
 have z2:decide ((q:Int)<l.length)=true:=by simp;omega
 have z3:(i:Int)<L.length:=by omega
 have z4:(q:Int)<l.length:=by omega
 have HB:Hid (Below W.heap.size W (W.alloc (.cells #[.slice (some ⟨bn,on,none⟩) L.length cn] 25))):=(Below.refl _ _).alloc (Nat.le_refl _) _;have R1:Hid _:=heap_alloc_new W (.cells #[.slice (some ⟨bn,on,none⟩) L.length cn] 25);have HC:Hid (∀ W',Below W.heap.size W W'->Calls Tryz.prog 28 #[.agg #[.slice (some ⟨bn,on,none⟩) L.length cn],.int .i64 kj,.int .i64 d] W' fun e w'=>e=.returned (.string (strU (dtP d t)))∧Below W'.heap.size W' w'):=fun W' hb=>hT d kj W' hem (hW.trans (hb.mono hW.size)) hd hln;have CC0:Hid (∀ W',Below W.heap.size W W'->W'.cell? ⟨bn,on+i * 7+3,none⟩=some (.slice (some ⟨b,o,none⟩) l.length kc)∧W'.cell? ⟨b,o+q,none⟩=some (.int .i64 kj)):=fun W' hb=>⟨(hN.c W' (hW.trans (hb.mono hW.size))).2.2.2.1,hkc W' (hW.trans (hb.mono hW.size))⟩;clear hN hT hkc hem ht hd hln hW;generalize strU (dtP d t)=S at *;generalize L.length=nl at *;generalize l.length=ln at *
 go_enter Tryz.func56,Tryz.ntmps56
 go_wp2_with fail
 refine zdd (fun W1=>W1.heap[W.heap.size]?=some (.cells #[.slice (some ⟨bn,on,none⟩) nl cn] 25 (0,0))∧Below W.heap.size W W1) ⟨R1.out,HB.out⟩ ?_;rintro W1 ⟨r1,hb⟩;clear R1 HB;have HB:Hid _:=hb;have R1:Hid _:=r1;have CC:Hid (∀ W2,Below W1.heap.size W1 W2->W2.cell? ⟨W.heap.size,0,none⟩=some (.slice (some ⟨bn,on,none⟩) nl cn)∧W2.cell? ⟨bn,on+i * 7+3,none⟩=some (.slice (some ⟨b,o,none⟩) ln kc)∧W2.cell? ⟨b,o+q,none⟩=some (.int .i64 kj)):=fun W2 h=>⟨(cell_of_row _ _ 0 _ _ _ ((h.block _ (zab r1)).trans r1)).trans rfl,CC0.out W2 (hb.trans (h.mono hb.size))⟩;clear r1 hb CC0;have hS0:Below W1.heap.size W1 W1.drew:=(Below.refl _ _).drew;refine zbc (S:=fun w'=>Below W1.heap.size W1 w') 13 rfl (by kernel_rfl) ?_;refine zho 0 9 25 (.tmp 4) rfl (by rfl) W.heap.size 25 #[.slice (some ⟨bn,on,none⟩) nl cn] (0,0) rfl (by kernel_rfl) (by kernel_rfl) (by kernel_rfl) (fun _ _ _ h=>h) _ (fun w' hw'=>(hw'.block _ (zab R1.out)).trans R1.out) Tryz.underlying25 rfl (by kernel_rfl) hS0 ?_;simp only[sI,sS,sZ];refine zah 1 10 (.pointer (some ⟨W.heap.size,0,none⟩)) rfl (by rfl) (by kernel_rfl) (by kernel_rfl) (by kernel_rfl) (fun _ _ _ h=>h) (fun w' hw'=>by obtain⟨e1,e2,e3⟩:=CC.out w' hw';first|rfl|(go_simp;done) | (go_simp;omega)) hS0 ?_;simp only[sI,sS,sZ];refine zah 2 11 (.slice (some ⟨bn,on,none⟩) nl cn) rfl (by rfl) (by kernel_rfl) (by kernel_rfl) (by kernel_rfl) (fun _ _ _ h=>h) (fun w' hw'=>by obtain⟨e1,e2,e3⟩:=CC.out w' hw';first|rfl|(go_simp;done) | (go_simp;omega)) hS0 ?_;simp only[sI,sS,sZ];refine zah 3 12 (.int .i64 i) rfl (by rfl) (by kernel_rfl) (by kernel_rfl) (by kernel_rfl) (fun _ _ _ h=>h) (fun w' hw'=>by obtain⟨e1,e2,e3⟩:=CC.out w' hw';first|rfl|(go_simp;done) | (go_simp;omega)) hS0 ?_;simp only[sI,sS,sZ];refine zah 4 13 (.pointer (some ⟨bn,on+i * 7,none⟩)) rfl (by rfl) (by kernel_rfl) (by kernel_rfl) (by kernel_rfl) (fun _ _ _ h=>h) (fun w' hw'=>by obtain⟨e1,e2,e3⟩:=CC.out w' hw';first|rfl|(go_simp;done) | (go_simp;omega)) hS0 ?_;simp only[sI,sS,sZ];refine zah 5 14 (.pointer (some ⟨bn,on+i * 7+3,none⟩)) rfl (by rfl) (by kernel_rfl) (by kernel_rfl) (by kernel_rfl) (fun _ _ _ h=>h) (fun w' hw'=>by obtain⟨e1,e2,e3⟩:=CC.out w' hw';first|rfl|(go_simp;done) | (go_simp;omega)) hS0 ?_
 simp only[sI,sS,sZ];refine zah 6 15 (.slice (some ⟨b,o,none⟩) ln kc) rfl (by rfl) (by kernel_rfl) (by kernel_rfl) (by kernel_rfl) (fun _ _ _ h=>h) (fun w' hw'=>by obtain⟨e1,e2,e3⟩:=CC.out w' hw';first|rfl|(go_simp;done) | (go_simp;omega)) hS0 ?_;simp only[sI,sS,sZ];refine zah 7 16 (.int .i64 q) rfl (by rfl) (by kernel_rfl) (by kernel_rfl) (by kernel_rfl) (fun _ _ _ h=>h) (fun w' hw'=>by obtain⟨e1,e2,e3⟩:=CC.out w' hw';first|rfl|(go_simp;done) | (go_simp;omega)) hS0 ?_;simp only[sI,sS,sZ];refine zah 8 17 (.pointer (some ⟨b,o+q,none⟩)) rfl (by rfl) (by kernel_rfl) (by kernel_rfl) (by kernel_rfl) (fun _ _ _ h=>h) (fun w' hw'=>by obtain⟨e1,e2,e3⟩:=CC.out w' hw';first|rfl|(go_simp;done) | (go_simp;omega)) hS0 ?_;simp only[sI,sS,sZ];refine zah 9 18 (.int .i64 kj) rfl (by rfl) (by kernel_rfl) (by kernel_rfl) (by kernel_rfl) (fun _ _ _ h=>h) (fun w' hw'=>by obtain⟨e1,e2,e3⟩:=CC.out w' hw';first|rfl|(go_simp;done) | (go_simp;omega)) hS0 ?_;simp only[sI,sS,sZ];refine zah 10 19 (.int .i64 d) rfl (by rfl) (by kernel_rfl) (by kernel_rfl) (by kernel_rfl) (fun _ _ _ h=>h) (fun w' hw'=>by obtain⟨e1,e2,e3⟩:=CC.out w' hw';first|rfl|(go_simp;done) | (go_simp;omega)) hS0 ?_;simp only[sI,sS,sZ];refine zas 11 rfl (by rfl) (by kernel_rfl) ?_
 go_simp
 refine(HC.out _ (HB.out.trans (hS0.mono HB.out.size))).mono ?_;rintro e W2 ⟨rfl,b2⟩;have hS1:Below W1.heap.size W1 W2:=hS0.trans (b2.mono hS0.size);refine⟨hS1,?_⟩;refine zah 12 8 (.string S) rfl (by rfl) (by kernel_rfl) (by kernel_rfl) (by kernel_rfl) (fun _ _ _ h=>h) (fun w' hw'=>by obtain⟨e1,e2,e3⟩:=CC.out w' hw';first|rfl|(go_simp;done) | (go_simp;omega)) hS1 ?_;simp only[sI,sS,sZ];refine wpAnyH_done (by kernel_rfl) ?_ _;have HB3:=hid (HB.out.trans (hS1.mono HB.out.size));clear hS0 hS1 b2
 go_wp2
 go_ret
 exact⟨rfl,HB3.out⟩
theorem zl5 {k:Int}{x:ByteArray}{h:Int × ByteArray}{q:Nat}(h1:¬ k=26)(h2:¬ k=24)(h3:¬ k=25)(h4:¬ k=27):nedD k x h q=false:=by
 unfold nedD;rw[if_neg h1,if_neg (by omega),if_neg h4]
set_option maxHeartbeats 8000000 in
theorem zg7 {i:Nat}{k n a f e:Int}{x:ByteArray}{l:List Pt}{sk:Option Addr}{kc:Nat}(hE:EnW w0 (.slice (some ⟨bn,on,none⟩) L.length cn) L)(hN:Dn w0 bn on L i k x n l sk kc a f e){q:Nat}{t:Pt}(ht:l[q]?=some t)(hT:DtC w0 (some ⟨bn,on,none⟩) cn L t)(hd:cntP t<=100000)(hln:(wiD k x (hdP t) (dtP 0 t) q).length<=1000000000000) (W:World)(hW:Below w0.heap.size w0 W) :
  Calls Tryz.prog 52 #[.agg #[.slice (some ⟨bn,on,none⟩) L.length cn],.int .i64 i,.int .i64 q] W fun e w'=>e=.returned (.string (strU (wiD k x (hdP t) (dtP 0 t) q)))∧Below W.heap.size W w':=by
 obtain⟨b,o,kj,rfl,hem,hkl,hkc⟩:=hN.kid q t ht;have hq:q<l.length:=(List.getElem?_eq_some_iff.1 ht).1;have hs:=hN.s;have hiL:=hN.hi;have hl0:(dtP 0 t).length+2<=1000000000002:=by
  unfold wiD at hln
  split at hln
  ·simp at hln;omega
  ·omega
 have HR:Hid (∀ nb,nedD k x (hdP t) q=nb->strU (wiD k x (hdP t) (dtP 0 t) q)=if nb then⟨#[40]⟩++strU (dtP 0 t)++⟨#[41]⟩ else strU (dtP 0 t)):=fun nb h=>by
  unfold wiD;rw[h]
  cases nb
  ·rfl
  ·rw[if_pos rfl,if_pos rfl,<-zgh,<-zgh];rfl
 have HC:Hid (∀ W',Below W.heap.size W W'->Calls Tryz.prog 28 #[.agg #[.slice (some ⟨bn,on,none⟩) L.length cn],.int .i64 kj,.int .i64 0] W' fun e w'=>e=.returned (.string (strU (dtP 0 t)))∧Below W'.heap.size W' w'):=fun W' hb=>hT 0 kj W' hem (hW.trans (hb.mono hW.size)) (by omega) (by omega);have hsz:(strU (dtP 0 t)).size<=1000000000000:=by rw[zad];omega
 cases t with
 | mk kt xt nt at_ ft et lt=>
 obtain⟨bn',on',sk2,kc2,hsn,hN2⟩:=zft hE hem;injection hsn with hsn;injection hsn with e1 e2;subst e1 e2;have CC0:Hid (∀ W',Below W.heap.size W W'->W'.cell? ⟨b,o+q,none⟩=some (.int .i64 kj)∧(∀ (j:Nat) (u:Value),(#[.int .i64 kt,.string xt,.int .i64 nt,.slice sk2 lt.length kc2,.int .i64 at_,.int .i64 ft,.int .i64 et]:Array Value)[j]?=some u->W'.cell? ⟨bn,on+kj * 7+j,none⟩=some u)):=fun W' hb=>by
  have hb':=hW.trans (hb.mono hW.size);refine⟨hkc W' hb',fun j u hu=>?_⟩;obtain⟨g0,g1,g2,g3,g4,g5,g6⟩:=hN2.c W' hb';have hj:j<7:=(Array.getElem?_eq_some_iff.1 hu).1;rcases j with _|_|_|_|_|_|_|j
  ·obtain rfl:_=u:=by simpa using hu
   exact g0
  ·obtain rfl:_=u:=by simpa using hu
   exact g1
  ·obtain rfl:_=u:=by simpa using hu
   exact g2
  ·obtain rfl:_=u:=by simpa using hu
   exact g3
  ·obtain rfl:_=u:=by simpa using hu
   exact g4
  ·obtain rfl:_=u:=by simpa using hu
   exact g5
  ·obtain rfl:_=u:=by simpa using hu
   exact g6
  ·omega
 obtain⟨m0,m1,m2,m3,m4,m5,m6⟩:=hN.c W hW;have lt1:=block_lt_of_cell m0;have lt2:b<W.heap.size:=block_lt_of_cell (hkc W hW);have z1:decide ((i:Int)<L.length)=true:=by simp;omega
 have z2:decide ((q:Int)<l.length)=true:=by simp;omega
 have z5:decide ((kj:Int)<L.length)=true:=by simp;omega
 have z3:(i:Int)<L.length:=by omega
 have z4:(q:Int)<l.length:=by omega
 have z6:(kj:Int)<L.length:=by omega
 rw[show hdP (Pt.mk kt xt nt at_ ft et lt)=(kt,xt) from rfl] at HR ⊢;have HP:Hid (0<rowD xt):=zhi xt;clear hN hN2 hT hkc hem ht hd hln hW hE hl0;generalize strU (wiD k x (kt,xt) (dtP 0 (Pt.mk kt xt nt at_ ft et lt)) q)=R at *;generalize strU (dtP 0 (Pt.mk kt xt nt at_ ft et lt))=S at *;generalize L.length=nl at *;generalize l.length=ln at *;generalize lt.length=ln2 at *
 go_enter Tryz.func52,Tryz.ntmps52
 go_wp2_with fail
 clear m0 m1 m2 m3 m4 m5 m6;refine zdd (fun W1=>W1.heap[W.heap.size]?=some (.cells #[.slice (some ⟨bn,on,none⟩) nl cn] 25 (0,0))∧W1.heap[W.heap.size+1]?=some (.cells #[.int .i64 k,.string x,.int .i64 n,.slice (some ⟨b,o,none⟩) ln kc,.int .i64 a,.int .i64 f,.int .i64 e] 59 (0,0))∧Below W.heap.size W W1) (zb9 W _ _ _ _) ?_;rintro W1 ⟨r1,r2,hb⟩;have HB:Hid _:=hb;have R1:Hid _:=r1;have R2:Hid _:=r2;have CC:Hid (∀ W2,Below W1.heap.size W1 W2->W2.cell? ⟨W.heap.size,0,none⟩=some (.slice (some ⟨bn,on,none⟩) nl cn)∧W2.cell? ⟨W.heap.size+1,3,none⟩=some (.slice (some ⟨b,o,none⟩) ln kc)∧W2.cell? ⟨b,o+q,none⟩=some (.int .i64 kj)):=fun W2 h=>⟨(cell_of_row _ _ 0 _ _ _ ((h.block _ (zab r1)).trans r1)).trans rfl,(cell_of_row _ _ 3 _ _ _ ((h.block _ (zab r2)).trans r2)).trans rfl,(CC0.out W2 (hb.trans (h.mono hb.size))).1⟩;have CM:Hid (∀ W2,Below W1.heap.size W1 W2->∀ (j:Nat) (u:Value),(#[.int .i64 kt,.string xt,.int .i64 nt,.slice sk2 ln2 kc2,.int .i64 at_,.int .i64 ft,.int .i64 et]:Array Value)[j]?=some u->W2.cell? ⟨bn,on+kj * 7+j,none⟩=some u):=fun W2 h=>(CC0.out W2 (hb.trans (h.mono hb.size))).2;have hs1:W.heap.size+1<W1.heap.size:=zab r2;clear r1 r2 hb CC0;have hS0:Below W1.heap.size W1 W1.drew:=(Below.refl _ _).drew;refine zbc (S:=fun w'=>Below W1.heap.size W1 w') 11 rfl (by kernel_rfl) ?_;refine zah 0 18 (.pointer (some ⟨W.heap.size,0,none⟩)) rfl (by rfl) (by kernel_rfl) (by kernel_rfl) (by kernel_rfl) (fun _ _ _ h=>h) (fun w' hw'=>by obtain⟨e1,e2,e3⟩:=CC.out w' hw';first|rfl|(go_simp;done) | (go_simp;omega)) hS0 ?_;simp only[sI,sS,sZ];refine zah 1 19 (.slice (some ⟨bn,on,none⟩) nl cn) rfl (by rfl) (by kernel_rfl) (by kernel_rfl) (by kernel_rfl) (fun _ _ _ h=>h) (fun w' hw'=>by obtain⟨e1,e2,e3⟩:=CC.out w' hw';first|rfl|(go_simp;done) | (go_simp;omega)) hS0 ?_;simp only[sI,sS,sZ];refine zah 2 20 (.pointer (some ⟨W.heap.size+1,3,none⟩)) rfl (by rfl) (by kernel_rfl) (by kernel_rfl) (by kernel_rfl) (fun _ _ _ h=>h) (fun w' hw'=>by obtain⟨e1,e2,e3⟩:=CC.out w' hw';first|rfl|(go_simp;done) | (go_simp;omega)) hS0 ?_
 simp only[sI,sS,sZ];refine zah 3 21 (.slice (some ⟨b,o,none⟩) ln kc) rfl (by rfl) (by kernel_rfl) (by kernel_rfl) (by kernel_rfl) (fun _ _ _ h=>h) (fun w' hw'=>by obtain⟨e1,e2,e3⟩:=CC.out w' hw';first|rfl|(go_simp;done) | (go_simp;omega)) hS0 ?_;simp only[sI,sS,sZ];refine zah 4 22 (.int .i64 q) rfl (by rfl) (by kernel_rfl) (by kernel_rfl) (by kernel_rfl) (fun _ _ _ h=>h) (fun w' hw'=>by obtain⟨e1,e2,e3⟩:=CC.out w' hw';first|rfl|(go_simp;done) | (go_simp;omega)) hS0 ?_;simp only[sI,sS,sZ];refine zah 5 23 (.pointer (some ⟨b,o+q,none⟩)) rfl (by rfl) (by kernel_rfl) (by kernel_rfl) (by kernel_rfl) (fun _ _ _ h=>h) (fun w' hw'=>by obtain⟨e1,e2,e3⟩:=CC.out w' hw';first|rfl|(go_simp;done) | (go_simp;omega)) hS0 ?_;simp only[sI,sS,sZ];refine zah 6 24 (.int .i64 kj) rfl (by rfl) (by kernel_rfl) (by kernel_rfl) (by kernel_rfl) (fun _ _ _ h=>h) (fun w' hw'=>by obtain⟨e1,e2,e3⟩:=CC.out w' hw';first|rfl|(go_simp;done) | (go_simp;omega)) hS0 ?_;simp only[sI,sS,sZ];refine zah 7 25 (.pointer (some ⟨bn,on+kj * 7,none⟩)) rfl (by rfl) (by kernel_rfl) (by kernel_rfl) (by kernel_rfl) (fun _ _ _ h=>h) (fun w' hw'=>by obtain⟨e1,e2,e3⟩:=CC.out w' hw';first|rfl|(go_simp;done) | (go_simp;omega)) hS0 ?_;simp only[sI,sS,sZ];refine zn8 8 26 59 (.tmp 25) rfl bn (on+kj * 7) #[.int .i64 kt,.string xt,.int .i64 nt,.slice sk2 ln2 kc2,.int .i64 at_,.int .i64 ft,.int .i64 et] rfl (by kernel_rfl) (by kernel_rfl) (by kernel_rfl) (fun _ _ _ h=>h) _ (fun w' hw'=>CM.out w' hw') Tryz.underlying59 rfl (by kernel_rfl) hS0 ?_;simp only[sI,sS,sZ];refine zas 9 rfl (by rfl) (by kernel_rfl) ?_
 go_simp
 have hZ:Below W1.heap.size W1 (W1.alloc (.cells #[.int .i64 0,.string ⟨#[]⟩,.int .i64 0,.slice none 0 0,.int .i64 0,.int .i64 0,.int .i64 0] 59)).drew:=((Below.refl _ _).alloc (Nat.le_refl _) _).drew;have hZr:(W1.alloc (.cells #[.int .i64 0,.string ⟨#[]⟩,.int .i64 0,.slice none 0 0,.int .i64 0,.int .i64 0,.int .i64 0] 59)).drew.heap[W1.heap.size]?=some (.cells #[.int .i64 0,.string ⟨#[]⟩,.int .i64 0,.slice none 0 0,.int .i64 0,.int .i64 0,.int .i64 0] 59 (0,0)):=heap_alloc_new W1 _;refine⟨hZ,?_⟩;generalize (W1.alloc (.cells #[.int .i64 0,.string ⟨#[]⟩,.int .i64 0,.slice none 0 0,.int .i64 0,.int .i64 0,.int .i64 0] 59)).drew=WA at *;have hS1:Below W1.heap.size W1 (WA.setRow W1.heap.size #[.int .i64 kt,.string xt,.int .i64 nt,.slice sk2 ln2 kc2,.int .i64 at_,.int .i64 ft,.int .i64 et]):=zar hZ (Nat.le_refl _) _;have hZ3:(WA.setRow W1.heap.size #[.int .i64 kt,.string xt,.int .i64 nt,.slice sk2 ln2 kc2,.int .i64 at_,.int .i64 ft,.int .i64 et]).heap[W1.heap.size]?=some (.cells #[.int .i64 kt,.string xt,.int .i64 nt,.slice sk2 ln2 kc2,.int .i64 at_,.int .i64 ft,.int .i64 et] 59 (0,0)):=zam hZr;refine zjp 10 59 (.tmp 8) (.tmp 26) rfl (by kernel_rfl) W1.heap.size 59 #[.int .i64 kt,.string xt,.int .i64 nt,.slice sk2 ln2 kc2,.int .i64 at_,.int .i64 ft,.int .i64 et] #[.int .i64 0,.string ⟨#[]⟩,.int .i64 0,.slice none 0 0,.int .i64 0,.int .i64 0,.int .i64 0] rfl rfl hZr (by kernel_rfl) rfl (by simp[Value.oneCell']) hS1 ?_;refine wpAnyH_done (by kernel_rfl) ?_ _;have R1':=(hS1.block _ (zab R1.out)).trans R1.out;have R2':=(hS1.block _ (zab R2.out)).trans R2.out;have HB':Below W.heap.size W (WA.setRow W1.heap.size #[.int .i64 kt,.string xt,.int .i64 nt,.slice sk2 ln2 kc2,.int .i64 at_,.int .i64 ft,.int .i64 et]):=HB.out.trans (hS1.mono HB.out.size);have CC':∀ W2,Below (WA.setRow W1.heap.size #[.int .i64 kt,.string xt,.int .i64 nt,.slice sk2 ln2 kc2,.int .i64 at_,.int .i64 ft,.int .i64 et]).heap.size (WA.setRow W1.heap.size #[.int .i64 kt,.string xt,.int .i64 nt,.slice sk2 ln2 kc2,.int .i64 at_,.int .i64 ft,.int .i64 et]) W2->W2.cell? ⟨b,o+q,none⟩=some (.int .i64 kj):=fun W2 h=>(CC.out W2 (hS1.trans (h.mono hS1.size))).2.2
 generalize WA.setRow W1.heap.size #[.int .i64 kt,.string xt,.int .i64 nt,.slice sk2 ln2 kc2,.int .i64 at_,.int .i64 ft,.int .i64 et]=W3 at *;clear R1 R2 HB CC CM hS0 hZ hZr;have HB:Hid _:=HB';have R1:Hid _:=R1';have R2:Hid _:=R2';have R3:Hid _:=hZ3;have CC:Hid (∀ W2,Below W3.heap.size W3 W2->W2.cell? ⟨W.heap.size,0,none⟩=some (.slice (some ⟨bn,on,none⟩) nl cn)∧W2.cell? ⟨W.heap.size+1,3,none⟩=some (.slice (some ⟨b,o,none⟩) ln kc)∧W2.cell? ⟨b,o+q,none⟩=some (.int .i64 kj)):=fun W2 h=>⟨(cell_of_row _ _ 0 _ _ _ ((h.block _ (zab R1')).trans R1')).trans rfl,(cell_of_row _ _ 3 _ _ _ ((h.block _ (zab R2')).trans R2')).trans rfl,CC' W2 h⟩;clear HB' R1' R2' hZ3 CC' hS1
 go_wp2_with fail
 have hS0:Below W3.heap.size W3 W3.drew:=(Below.refl _ _).drew;refine zbc (S:=fun w'=>Below W3.heap.size W3 w') 8 rfl (by kernel_rfl) ?_;refine zho 0 27 25 (.tmp 3) rfl (by rfl) W.heap.size 25 #[.slice (some ⟨bn,on,none⟩) nl cn] (0,0) rfl (by kernel_rfl) (by kernel_rfl) (by kernel_rfl) (fun _ _ _ h=>h) _ (fun w' hw'=>(hw'.block _ (zab R1.out)).trans R1.out) Tryz.underlying25 rfl (by kernel_rfl) hS0 ?_;simp only[sI,sS,sZ];refine zah 1 28 (.pointer (some ⟨W.heap.size+1,3,none⟩)) rfl (by rfl) (by kernel_rfl) (by kernel_rfl) (by kernel_rfl) (fun _ _ _ h=>h) (fun w' hw'=>by obtain⟨e1,e2,e3⟩:=CC.out w' hw';first|rfl|(go_simp;done) | (go_simp;omega)) hS0 ?_;simp only[sI,sS,sZ];refine zah 2 29 (.slice (some ⟨b,o,none⟩) ln kc) rfl (by rfl) (by kernel_rfl) (by kernel_rfl) (by kernel_rfl) (fun _ _ _ h=>h) (fun w' hw'=>by obtain⟨e1,e2,e3⟩:=CC.out w' hw';first|rfl|(go_simp;done) | (go_simp;omega)) hS0 ?_;simp only[sI,sS,sZ];refine zah 3 30 (.int .i64 q) rfl (by rfl) (by kernel_rfl) (by kernel_rfl) (by kernel_rfl) (fun _ _ _ h=>h) (fun w' hw'=>by obtain⟨e1,e2,e3⟩:=CC.out w' hw';first|rfl|(go_simp;done) | (go_simp;omega)) hS0 ?_;simp only[sI,sS,sZ];refine zah 4 31 (.pointer (some ⟨b,o+q,none⟩)) rfl (by rfl) (by kernel_rfl) (by kernel_rfl) (by kernel_rfl) (fun _ _ _ h=>h) (fun w' hw'=>by obtain⟨e1,e2,e3⟩:=CC.out w' hw';first|rfl|(go_simp;done) | (go_simp;omega)) hS0 ?_;simp only[sI,sS,sZ];refine zah 5 32 (.int .i64 kj) rfl (by rfl) (by kernel_rfl) (by kernel_rfl) (by kernel_rfl) (fun _ _ _ h=>h) (fun w' hw'=>by obtain⟨e1,e2,e3⟩:=CC.out w' hw';first|rfl|(go_simp;done) | (go_simp;omega)) hS0 ?_;simp only[sI,sS,sZ];refine zas 6 rfl (by rfl) (by kernel_rfl) ?_
 go_simp
 refine(HC.out _ (HB.out.trans (hS0.mono HB.out.size))).mono ?_;rintro e W4 ⟨rfl,b4⟩;have hS1:Below W3.heap.size W3 W4:=hS0.trans (b4.mono hS0.size);refine⟨hS1,?_⟩;refine zah 7 9 (.string S) rfl (by rfl) (by kernel_rfl) (by kernel_rfl) (by kernel_rfl) (fun _ _ _ h=>h) (fun w' hw'=>by obtain⟨e1,e2,e3⟩:=CC.out w' hw';first|rfl|(go_simp;done) | (go_simp;omega)) hS1 ?_;simp only[sI,sS,sZ];refine wpAnyH_done (by kernel_rfl) ?_ _;have HB4:=hid (HB.out.trans (hS1.mono HB.out.size));have R2':=(hS1.block _ (zab R2.out)).trans R2.out;have R3':=(hS1.block _ (zab R3.out)).trans R3.out;have c20:W4.cell? ⟨W.heap.size+1,0,none⟩=some (.int .i64 k):=(cell_of_row _ _ 0 _ _ _ R2').trans rfl;have c21:W4.cell? ⟨W.heap.size+1,1,none⟩=some (.string x):=(cell_of_row _ _ 1 _ _ _ R2').trans rfl;have c30:W4.cell? ⟨W1.heap.size,0,none⟩=some (.int .i64 kt):=(cell_of_row _ _ 0 _ _ _ R3').trans rfl;have c31:W4.cell? ⟨W1.heap.size,1,none⟩=some (.string xt):=(cell_of_row _ _ 1 _ _ _ R3').trans rfl;clear R1 R2 R3 R2' R3' CC HC hS0 hS1 b4 HB z1 z2 z3 z4 z5 z6
 cases b27:(kt == 27)
 focus
  have e27:¬ kt=27:=by simpa using b27
  cases k26:(k == 26)
  rotate_left
  focus
   have e26:k=26:=by simpa using k26
   have HX:Hid (nedD k x (kt,xt) q=false):=by
    show _=_;rw[e26];unfold nedD;rw[if_pos rfl];show decide (0<if kt=27 then rowD xt else 0)=false;rw[if_neg e27];rfl
   clear e27 e26
   go_wp2
   go_ret
   exact⟨by rw[HR.out _ HX.out];rfl,HB4.out⟩
  have e26:¬ k=26:=by simpa using k26
  have KQ:(k=24∨k=25)->nedD k x (kt,xt) q=((q == 0) && (kt == 26)):=fun h=>by
   unfold nedD;rw[if_neg e26,if_pos h];show((q == 0) && (decide (0<if kt=27 then rowD xt else 0) || (kt == 26)))=_;rw[if_neg e27];simp
  cases k24:(k == 24)
  rotate_left
  focus
   have HX0:Hid _:=KQ (.inl (by simpa using k24));clear KQ e27 e26
   cases q0:((q:Int) == 0)
   ·have HX:Hid (nedD k x (kt,xt) q=false):=by show _=_;rw[HX0.out,show(q == 0)=false by simpa using q0];rfl
    clear HX0
    go_wp2
    go_ret
    exact⟨by rw[HR.out _ HX.out];rfl,HB4.out⟩
   ·have hq0:(q == 0)=true:=by simpa using q0
    cases t26:(kt == 26)
    ·have HX:Hid (nedD k x (kt,xt) q=false):=by show _=_;rw[HX0.out,hq0,t26];rfl
     clear HX0 hq0
     go_wp2
     go_ret
     exact⟨by rw[HR.out _ HX.out];rfl,HB4.out⟩
    ·have HX:Hid (nedD k x (kt,xt) q=true):=by show _=_;rw[HX0.out,hq0,t26];rfl
     clear HX0 hq0
     go_wp2
     go_ret
     exact⟨by rw[HR.out _ HX.out];rfl,HB4.out⟩
  cases k25:(k == 25)
  rotate_left
  focus
   have HX0:Hid _:=KQ (.inr (by simpa using k25));clear KQ e27 e26
   cases q0:((q:Int) == 0)
   ·have HX:Hid (nedD k x (kt,xt) q=false):=by show _=_;rw[HX0.out,show(q == 0)=false by simpa using q0];rfl
    clear HX0
    go_wp2
    go_ret
    exact⟨by rw[HR.out _ HX.out];rfl,HB4.out⟩
   ·have hq0:(q == 0)=true:=by simpa using q0
    cases t26:(kt == 26)
    ·have HX:Hid (nedD k x (kt,xt) q=false):=by show _=_;rw[HX0.out,hq0,t26];rfl
     clear HX0 hq0
     go_wp2
     go_ret
     exact⟨by rw[HR.out _ HX.out];rfl,HB4.out⟩
    ·have HX:Hid (nedD k x (kt,xt) q=true):=by show _=_;rw[HX0.out,hq0,t26];rfl
     clear HX0 hq0
     go_wp2
     go_ret
     exact⟨by rw[HR.out _ HX.out];rfl,HB4.out⟩
  clear KQ;have e24:¬ k=24:=by simpa using k24
  have e25:¬ k=25:=by simpa using k25
  cases k27:(k == 27)
  ·have e27':¬ k=27:=by simpa using k27
   have HX:Hid (nedD k x (kt,xt) q=false):=zl5 e26 e24 e25 e27';clear e24 e25 e26 e27 e27'
   go_wp2
   go_ret
   exact⟨by rw[HR.out _ HX.out];rfl,HB4.out⟩
  ·have e27':k=27:=by simpa using k27
   have HX:Hid (nedD k x (kt,xt) q=false):=by
    show _=_;rw[e27'];unfold nedD;rw[if_neg (by decide),if_neg (by decide),if_pos rfl];show(decide (0<if kt=27 then rowD xt else 0) && _)=false;rw[if_neg e27];rfl
   clear e24 e25 e26 e27 e27'
   go_wp2_with fail
   refine(zih x _).mono ?_;rintro e W5 ⟨rfl,rfl⟩
   go_wp2
   go_ret
   exact⟨by rw[HR.out _ HX.out];rfl,HB4.out⟩
 have e27:kt=27:=by simpa using b27
 obtain⟨rt,hrt⟩:∃ rt,rowD xt=rt:=⟨_,rfl⟩;have HRT:Hid _:=hrt;have hr0:0<rt:=by rw[<-hrt];exact HP.out
 have zr:decide (rt > 0)=true:=by simp;omega
 have NED:nedD k x (kt,xt) q=if k=26 then true else if k=24∨k=25 then(q == 0) else if k=27 then(decide (rt<rowD x) || ((rt == rowD x) && ((q == 1) || (rowD x == 3)))) else false:=by
  unfold nedD;rw[e27];simp[hrt,hr0]
 have HND:Hid _:=NED;clear NED hrt HP
 go_wp2_with fail
 refine(zih xt _).mono ?_;rintro e W5 ⟨rfl,rfl⟩;rw[HRT.out];clear HRT
 cases k26:(k == 26)
 rotate_left
 focus
  have HX:Hid (nedD k x (kt,xt) q=true):=by show _=_;rw[HND.out,if_pos (by simpa using k26)]
  clear HND e27
  go_wp2
  go_ret
  exact⟨by rw[HR.out _ HX.out];rfl,HB4.out⟩
 have e26:¬ k=26:=by simpa using k26
 cases k24:(k == 24)
 rotate_left
 focus
  have HX0:Hid (nedD k x (kt,xt) q=(q == 0)):=by show _=_;rw[HND.out,if_neg e26,if_pos (.inl (by simpa using k24))]
  clear HND e27 e26
  cases q0:((q:Int) == 0)
  ·have HX:Hid (nedD k x (kt,xt) q=false):=by show _=_;rw[HX0.out];simpa using q0
   clear HX0
   go_wp2
   go_ret
   exact⟨by rw[HR.out _ HX.out];rfl,HB4.out⟩
  ·have HX:Hid (nedD k x (kt,xt) q=true):=by show _=_;rw[HX0.out];simpa using q0
   clear HX0
   go_wp2
   go_ret
   exact⟨by rw[HR.out _ HX.out];rfl,HB4.out⟩
 cases k25:(k == 25)
 rotate_left
 focus
  have HX0:Hid (nedD k x (kt,xt) q=(q == 0)):=by show _=_;rw[HND.out,if_neg e26,if_pos (.inr (by simpa using k25))]
  clear HND e27 e26
  cases q0:((q:Int) == 0)
  ·have HX:Hid (nedD k x (kt,xt) q=false):=by show _=_;rw[HX0.out];simpa using q0
   clear HX0
   go_wp2
   go_ret
   exact⟨by rw[HR.out _ HX.out];rfl,HB4.out⟩
  ·have HX:Hid (nedD k x (kt,xt) q=true):=by show _=_;rw[HX0.out];simpa using q0
   clear HX0
   go_wp2
   go_ret
   exact⟨by rw[HR.out _ HX.out];rfl,HB4.out⟩
 have e24:¬ k=24:=by simpa using k24
 have e25:¬ k=25:=by simpa using k25
 cases k27:(k == 27)
 ·have e27':¬ k=27:=by simpa using k27
  have HX:Hid (nedD k x (kt,xt) q=false):=zl5 e26 e24 e25 e27';clear HND e24 e25 e26 e27 e27'
  go_wp2
  go_ret
  exact⟨by rw[HR.out _ HX.out];rfl,HB4.out⟩
 have HX0:Hid (nedD k x (kt,xt) q=(decide (rt<rowD x) || ((rt == rowD x) && ((q == 1) || (rowD x == 3))))):=by show _=_;rw[HND.out,if_neg e26,if_neg (by omega),if_pos (by simpa using k27)]
 clear HND e24 e25 e26 e27;obtain⟨ro,hro⟩:∃ ro,rowD x=ro:=⟨_,rfl⟩;rw[hro] at HX0;have HRO:Hid _:=hro;clear hro
 go_wp2_with fail
 refine(zih x _).mono ?_;rintro e W5 ⟨rfl,rfl⟩;rw[HRO.out];clear HRO
 cases y1:decide (rt<ro)
 rotate_left
 focus
  have HX:Hid (nedD k x (kt,xt) q=true):=by show _=_;rw[HX0.out,y1];rfl
  clear HX0
  go_wp2
  go_ret
  exact⟨by rw[HR.out _ HX.out];rfl,HB4.out⟩
 cases y2:(rt == ro)
 ·have HX:Hid (nedD k x (kt,xt) q=false):=by show _=_;rw[HX0.out,y1,y2];rfl
  clear HX0
  go_wp2
  go_ret
  exact⟨by rw[HR.out _ HX.out];rfl,HB4.out⟩
 cases y3:((q:Int) == 1)
 rotate_left
 focus
  have HX:Hid (nedD k x (kt,xt) q=true):=by show _=_;rw[HX0.out,y1,y2,show(q == 1)=true by simp at y3 ⊢;omega];rfl
  clear HX0
  go_wp2
  go_ret
  exact⟨by rw[HR.out _ HX.out];rfl,HB4.out⟩
 have y3':(q == 1)=false:=by simp at y3 ⊢;omega
 cases y4:(ro == 3)
 ·have HX:Hid (nedD k x (kt,xt) q=false):=by show _=_;rw[HX0.out,y1,y2,y3',y4];rfl
  clear HX0 y3'
  go_wp2
  go_ret
  exact⟨by rw[HR.out _ HX.out];rfl,HB4.out⟩
 ·have HX:Hid (nedD k x (kt,xt) q=true):=by show _=_;rw[HX0.out,y1,y2,y3',y4];rfl
  clear HX0 y3'
  go_wp2
  go_ret
  exact⟨by rw[HR.out _ HX.out];rfl,HB4.out⟩
end
theorem zxl {u y:Nat}{T:List UInt8}(h:if y=0 then T=Lib.decDigits u else Lib.decDigits y++T=Lib.decDigits u)(hy:0<y) :
  if y / 10=0 then UInt8.ofNat (48+y % 10)::T=Lib.decDigits u else Lib.decDigits (y / 10)++(UInt8.ofNat (48+y % 10)::T)=Lib.decDigits u:=by
 rw[if_neg (by omega)] at h
 by_cases h10:y<10
 ·rw[if_pos (by omega),<-h,Lib.decDigits,dif_pos h10,Nat.mod_eq_of_lt h10];rfl
 ·rw[if_neg (by omega),<-h]
  conv=>rhs;rw[Lib.decDigits,dif_neg h10]
  simp
theorem zuw (u:Nat):if u / 10=0 then[UInt8.ofNat (48+u % 10)]=Lib.decDigits u else Lib.decDigits (u / 10)++[UInt8.ofNat (48+u % 10)]=Lib.decDigits u:=by
 by_cases h10:u<10
 ·rw[if_pos (by omega),Lib.decDigits,dif_pos h10,Nat.mod_eq_of_lt h10]
 ·rw[if_neg (by omega)]
  conv=>rhs;rw[Lib.decDigits,dif_neg h10]
theorem z1z {u y:Nat}{T:List UInt8}(h:if y=0 then T=Lib.decDigits u else Lib.decDigits y++T=Lib.decDigits u):T.length<=(Lib.decDigits u).length:=by
 split at h
 ·rw[h];exact Nat.le_refl _
 ·rw[<-h,List.length_append];omega
theorem z10:∀ c:Fin 10,Utf8.encode (48+((c.val:Nat):Int))=strU [UInt8.ofNat (48+c.val)]:=by decide +kernel
theorem znb (u:Nat):Utf8.encode (48+(u:Int) % 10)=strU [UInt8.ofNat (48+u % 10)]:=by
 have e:(u:Int) % 10=((u % 10:Nat):Int):=by omega
 rw[e];exact z10 ⟨u % 10,by omega⟩
set_option pp.deepTerms.threshold 2000 in
theorem zl6 (n:Int)(w:World)(hn:0<=n∧n<=9223372036854775807):Calls Tryz.prog 50 #[.int .i64 n] w fun e w'=>e=.returned (.string (strU (Lib.itoa n)))∧w'=w:=by
 obtain⟨u,rfl⟩:∃ u:Nat,n=u:=⟨n.toNat,by omega⟩;have hu:u<=9223372036854775807:=by omega
 have HI:Hid (Lib.itoa (u:Int)=Lib.decDigits u):=by show _=_;unfold Lib.itoa;rw[if_neg (by omega)];simp
 have HL:Hid ((Lib.decDigits u).length<=21):=by
  have:=Lib.itoa_length_le (u:Int) (by omega) (by omega);rw[HI.out] at this;exact this
 have HF:Hid _:=zuw u;rw[HI.out];clear hn HI
 go_enter Tryz.func50,Tryz.ntmps50
 go_wp2
 rw[znb]
 go_loopw [3,4] (fun x s wr=>∃ (y:Nat) (T:List UInt8),x=.int .u64 y∧s=.string (strU T)∧y<=9223372036854775807∧(if y=0 then T=Lib.decDigits u else Lib.decDigits y++T=Lib.decDigits u)∧wr=w) (fun x _ _=>(intOf x).toNat)
 case atStart=>exact⟨u / 10,_,congrArg _ (by omega),rfl,by omega,HF.out,rfl⟩
 case round=>
  obtain⟨y,T,rfl,rfl,hy,hT,rfl⟩:=hrel;have hTl:(strU T).size<=21:=by rw[zad];exact Nat.le_trans (z1z hT) HL.out
  by_cases h0:0<y
  ·have z1:decide ((y:Int) > 0)=true:=by simp;omega
   have RR:Hid ((∃ (y':Nat) (T':List UInt8),Value.int .u64 ((y:Int) / 10)=.int .u64 y'∧Value.string (Utf8.encode (48+(y:Int) % 10)++strU T)=.string (strU T')∧y'<=9223372036854775807∧(if y'=0 then T'=Lib.decDigits u else Lib.decDigits y'++T'=Lib.decDigits u)∧True)∧(intOf (.int .u64 ((y:Int) / 10))).toNat<(intOf (.int .u64 (y:Int))).toNat):=by
    refine⟨⟨y / 10,_,congrArg _ (by omega),?_,by omega,zxl hT h0,trivial⟩,by simp[intOf];omega⟩;rw[znb,zgh];rfl
   have hes:(Utf8.encode (48+(y:Int) % 10)).size=1:=by rw[znb,zad];rfl
   generalize strU T=S at *;clear hT HF HL
   go_wp2
   exact RR.out
  ·have z1:decide ((y:Int) > 0)=false:=by simp;omega
   obtain rfl:y=0:=by omega
   rw[if_pos rfl] at hT;subst hT
   go_wp2
   go_ret
   exact⟨rfl,rfl⟩
end Go.Proofs.YtabiangdmibocaaGreatDoor
