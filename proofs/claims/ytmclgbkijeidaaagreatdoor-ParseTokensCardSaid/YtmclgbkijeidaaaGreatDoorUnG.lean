import Derived.Test.YtmclgbkijeidaaaGreatDoorUnE
import Derived.Test.YtmclgbkijeidaaaGreatDoorUnF
namespace Go.Proofs.YtmclgbkijeidaaaGreatDoor
set_option maxRecDepth 100000
set_option maxHeartbeats 4000000
open Go.RowKit
theorem Rdr.went {T:Nat}{w:World}{g:Nat}{st:Option Addr}{cap:Nat}{ts:List Tok}{p:Nat}(h:Rdr T w g st cap ts p)(hp:p+1<=ts.length):w.grownBy (w.setCell ⟨g,1,none⟩ (.int .i64 ((p:Int)+1))) (some g)∧Rdr T (w.setCell ⟨g,1,none⟩ (.int .i64 ((p:Int)+1))) g st cap ts (p+1):=by
 have hb:=(Below.refl 0 w).setCell (p:=⟨g,1,none⟩) (Nat.zero_le _) (.int .i64 ((p:Int)+1));exact⟨⟨hb.os,hb.tape,hb.output,hb.size,fun k hk hkg=>heap_setCell_other _ _ _ _ fun e=>hkg (by rw[show k=g from e])⟩,h.go (q:=p+1) hp⟩
section
variable {T:Nat}{w:World}{g:Nat}{st:Option Addr}{cap:Nat}{ts:List Tok}{p:Nat}
theorem zfm (hR:Rdr T w g st cap ts p) :
  Calls Tryz.prog 104 #[.pointer (some ⟨g,0,none⟩)] w fun e w'=>e=.returned (.bool (namB ts p))∧Below w.heap.size w w':=by
 have HR:=hid hR;clear hR;have HX:Hid (namB ts p=(((nxT ts p).kind == 1) && !kepB (nxT ts p).text)):=rfl
 go_enter Tryz.func104,Tryz.ntmps104
 go_wp2_with fail
 refine(zc8 HR.out).mono ?_;rintro e W1 ⟨rfl,b1⟩;have HB1:Hid (Below w.heap.size w W1):=b1;clear HR b1
 by_cases hn:(nxT ts p).kind=1
 rotate_left
 ·have hk:((nxT ts p).kind == 1)=false:=by rw[beq_eq_false_iff_ne];exact hn
  go_wp2_with (refine zb0 (by rfl) (.tmp 3) (.tmp 5) (by rfl) (t:=nxT ts p) (z:=tokZ) (by rfl) (by rfl) (heap_alloc_new _ _) ?_;refine zcc (fun W=>Below w.heap.size w W∧W.heap[W1.heap.size]?=some (.cells (nxT ts p).cells 38 (0,0))) ⟨zai (HB1.out.alloc HB1.out.size _) HB1.out.size _,zad (heap_alloc_new _ _)⟩ ?_;rintro W2 ⟨hB2,hz2⟩;have HB2:Hid _:=hB2;have k0:W2.cell? ⟨W1.heap.size,0,none⟩=some (.int .i64 (nxT ts p).kind):=(cell_of_row _ _ 0 _ _ _ hz2).trans rfl;have k1:W2.cell? ⟨W1.heap.size,1,none⟩=some (.string (nxT ts p).text):=(cell_of_row _ _ 1 _ _ _ hz2).trans rfl;clear hB2 hz2)
  go_ret
  exact⟨by rw[HX.out,hk];rfl,HB2.out⟩
 ·have hk:((nxT ts p).kind == 1)=true:=by rw[hn];rfl
  go_wp2_with (refine zb0 (by rfl) (.tmp 3) (.tmp 5) (by rfl) (t:=nxT ts p) (z:=tokZ) (by rfl) (by rfl) (heap_alloc_new _ _) ?_;refine zcc (fun W=>Below w.heap.size w W∧W.heap[W1.heap.size]?=some (.cells (nxT ts p).cells 38 (0,0))) ⟨zai (HB1.out.alloc HB1.out.size _) HB1.out.size _,zad (heap_alloc_new _ _)⟩ ?_;rintro W2 ⟨hB2,hz2⟩;have HB2:Hid _:=hB2;have k0:W2.cell? ⟨W1.heap.size,0,none⟩=some (.int .i64 (nxT ts p).kind):=(cell_of_row _ _ 0 _ _ _ hz2).trans rfl;have k1:W2.cell? ⟨W1.heap.size,1,none⟩=some (.string (nxT ts p).text):=(cell_of_row _ _ 1 _ _ _ hz2).trans rfl;clear hB2 hz2)
  refine(zii _ W2).mono ?_;rintro e W3 ⟨rfl,b3⟩
  go_wp2
  go_ret
  exact⟨by rw[HX.out,hk];rfl,HB2.out.trans (b3.mono HB2.out.size)⟩
def TakP (T:Nat) (w:World) (g:Nat) (st:Option Addr) (cap:Nat) (ts:List Tok) (p:Nat) (e:Ending) (w':World):Prop :=
 e=.returned (.agg (nxT ts p).cells)∧w.grownBy w' (some g)∧Rdr T w' g st cap ts (p+1)
theorem zez (hR:Rdr T w g st cap ts p)(hp:p<ts.length):Calls Tryz.prog 130 #[.pointer (some ⟨g,0,none⟩)] w (TakP T w g st cap ts p):=by
 have HR:=hid hR;have hfe:=hR.few;have hg:=hR.lt;clear hR
 go_enter Tryz.func130,Tryz.ntmps130
 go_wp2_with fail
 refine zaf (fun W=>Below w.heap.size w W∧W.heap[w.heap.size]?=some (.cells tokZ.cells 38 (0,0))) ⟨(Below.refl _ _).alloc (Nat.le_refl _) _,heap_alloc_new _ _⟩ ?_;rintro W ⟨hB,hz⟩;refine(zc8 (HR.out.low hB)).mono ?_;rintro e W1 ⟨rfl,b1⟩;have HZ1:Hid (W1.heap[w.heap.size]?=some (.cells tokZ.cells 38 (0,0))):=(b1.block _ (zaa hz)).trans hz;have HB1:Hid (Below w.heap.size w W1):=hB.trans (b1.mono hB.size);have hl1:w.heap.size<W1.heap.size:=zaa HZ1.out;clear hB b1 hz
 go_wp2_with (first
  | (refine zb0 (by rfl) (.tmp 3) (.tmp 5) (by rfl) (t:=nxT ts p) (z:=tokZ) (by rfl) (by rfl) (heap_alloc_new _ _) ?_;refine zcc (fun W=>Below w.heap.size w W∧W.heap[w.heap.size]?=some (.cells tokZ.cells 38 (0,0))∧W.heap[W1.heap.size]?=some (.cells (nxT ts p).cells 38 (0,0))) ⟨zai (HB1.out.alloc HB1.out.size _) HB1.out.size _,(setRow_other _ _ _ _ (by omega)).trans ((Below.heap_alloc _ _ _ hl1).trans HZ1.out),zad (heap_alloc_new _ _)⟩ ?_;rintro W2 ⟨hB2,hz2,ht2⟩;have HB2:Hid _:=hB2;have HZ2:Hid _:=hz2;have HT2:Hid _:=ht2;have HR2:Hid (Rdr T W2 g st cap ts p):=HR.out.low hB2;have c1:=HR2.out.c1;have z1:=HR2.out.z 1;clear hB2 hz2 ht2)
  | (refine zcc (fun W=>w.grownBy W (some g)∧Rdr T W g st cap ts (p+1)∧W.heap[w.heap.size]?=some (.cells tokZ.cells 38 (0,0))∧W.heap[W1.heap.size]?=some (.cells (nxT ts p).cells 38 (0,0))) ⟨zab (zae HB2.out) (HR2.out.went (by omega)).1,(HR2.out.went (by omega)).2,(heap_setCell_other _ _ _ _ (show w.heap.size≠g by omega)).trans HZ2.out,(heap_setCell_other _ _ _ _ (show W1.heap.size≠g by omega)).trans HT2.out⟩ ?_;rintro W3 ⟨hG3,hR3,hz3,ht3⟩;have HG3:Hid _:=hG3;have HR3:Hid _:=hR3;have HZ3:Hid _:=hz3;have HT3:Hid _:=ht3;clear hG3 hR3 hz3 ht3;refine zjd (by rfl) (.tmp 3) (by rfl) (t:=nxT ts p) (by rfl) HT3.out ?_)
  | (refine zb0 (by rfl) (.tmp 2) (.tmp 13) (by rfl) (t:=nxT ts p) (z:=tokZ) (by rfl) (by rfl) HZ3.out ?_))
 have hb:Below w.heap.size W3 (W3.setRow w.heap.size (nxT ts p).cells):=zai (Below.refl _ _) (Nat.le_refl _) _;exact zbq Tryz.results130 rfl (zad HZ3.out) ⟨rfl,zav HG3.out hb,HR.out.keep (zav HG3.out hb) ((hb.block _ hg).trans HR3.out.row) (by omega)⟩
def MusP (T:Nat) (w:World) (g:Nat) (st:Option Addr) (cap:Nat) (ts:List Tok) (p:Nat) (b:Bool) (e:Ending) (w':World):Prop :=
 w.grownBy w' (some g)∧if b then e=.returned (.agg (nxT ts p).cells)∧Rdr T w' g st cap ts (p+1) else e=wroE (herI ts p)
theorem zil (b:Bool)(hR:Rdr T w g st cap ts p)(hb:b=true->p<ts.length):Calls Tryz.prog 103 #[.pointer (some ⟨g,0,none⟩),.bool b] w (MusP T w g st cap ts p b):=by
 have HR:=hid hR;have hg:=hR.lt;clear hR
 cases b
 ·go_enter Tryz.func103,Tryz.ntmps103
  go_wp2_with fail
  refine zaf (fun W=>Below w.heap.size w W) ((Below.refl _ _).alloc (Nat.le_refl _) _) ?_;intro W hB;refine(zep (HR.out.low hB)).mono ?_;rintro e W1 ⟨rfl,b1⟩;have HP:Hid (MusP T w g st cap ts p false (wroE (herI ts p)) W1):=⟨zae (hB.trans (b1.mono hB.size)),rfl⟩;clear HR hB b1
  go_wp2
  exact⟨rfl,HP.out⟩
 ·have hp:=hb rfl
  go_enter Tryz.func103,Tryz.ntmps103
  go_wp2_with fail
  refine zaf (fun W=>Below w.heap.size w W∧W.heap[w.heap.size]?=some (.cells tokZ.cells 38 (0,0))) ⟨(Below.refl _ _).alloc (Nat.le_refl _) _,heap_alloc_new _ _⟩ ?_;rintro W ⟨hB,hz⟩;refine(zez (HR.out.low hB) hp).mono ?_;rintro e W1 ⟨rfl,g1,r1⟩;have hlt:=zaa hz;have HG1:=hid (zab (zae hB) g1);have HZ1:Hid (W1.heap[w.heap.size]?=some (.cells tokZ.cells 38 (0,0))):=(g1.block _ hlt (fun e=>by injection e with e;omega)).trans hz;have HW1:Hid _:=r1.row;clear hB hz g1 r1
  go_wp2_with (refine zb0 (by rfl) (.tmp 4) (.tmp 11) (by rfl) (t:=nxT ts p) (z:=tokZ) (by rfl) (by rfl) HZ1.out ?_)
  have hb:Below w.heap.size W1 (W1.setRow w.heap.size (nxT ts p).cells):=zai (Below.refl _ _) (Nat.le_refl _) _;exact zbq Tryz.results103 rfl (zad HZ1.out) ⟨zav HG1.out hb,rfl,HR.out.keep (zav HG1.out hb) ((hb.block _ hg).trans HW1.out) (by omega)⟩
theorem zc9 (hR:Rdr T w g st cap ts p):Calls Tryz.prog 77 #[.pointer (some ⟨g,0,none⟩)] w (MusP T w g st cap ts p (namB ts p)):=by
 have HR:=hid hR;have hg:=hR.lt;clear hR;have hfd:∀ (a b c:Value) (W:World),(Instr.field 38 (.agg #[a,b,c]) 0).run Tryz.prog W=.ok a W:=fun _ _ _ _=>rfl
 go_enter Tryz.func77,Tryz.ntmps77
 go_wp2_with fail
 refine zaf (fun W=>Below w.heap.size w W∧W.heap[w.heap.size]?=some (.cells tokZ.cells 38 (0,0))) ⟨(Below.refl _ _).alloc (Nat.le_refl _) _,heap_alloc_new _ _⟩ ?_;rintro W ⟨hB,hz⟩;refine(zfm (HR.out.low hB)).mono ?_;rintro e W0 ⟨rfl,b0⟩;have hB0:Hid (Below w.heap.size w W0):=hB.trans (b0.mono hB.size);have hz0:Hid (W0.heap[w.heap.size]?=some (.cells tokZ.cells 38 (0,0))):=(b0.block _ (zaa hz)).trans hz;clear hB hz b0
 try unfold Tok.cells
 go_wp2_with fail
 refine(zil _ (HR.out.low hB0.out) zdq).mono ?_;rintro e W1 ⟨g1,hm⟩;have hlt:=zaa hz0.out;have HG1:=hid (zab (zae hB0.out) g1);have HZ1:Hid (W1.heap[w.heap.size]?=some (.cells tokZ.cells 38 (0,0))):=(g1.block _ hlt (fun e=>by injection e with e;omega)).trans hz0.out;clear hB0 hz0 g1 hlt;obtain⟨bb,hb⟩:∃ bb,(namB ts p)=bb:=⟨_,rfl⟩;have HBB:=hid hb
 cases bb
 ·rw[hb] at hm;simp only[Bool.false_eq_true,if_false] at hm;subst hm;have HP:Hid (MusP T w g st cap ts p (namB ts p) (wroE (herI ts p)) W1):=⟨HG1.out,by rw[hb];rfl⟩;clear hb;unfold wroE;clear HG1 HZ1 HR
  go_wp2
  exact⟨rfl,HP.out⟩
 ·rw[hb] at hm;simp only[if_true] at hm;obtain⟨rfl,r1⟩:=hm;have hle:=r1.le;have HW1:Hid _:=r1.row;clear r1 hb
  go_wp2_with (refine zb0 (by rfl) (.tmp 2) (.tmp 6) (by rfl) (t:=nxT ts p) (z:=tokZ) (by rfl) (by rfl) HZ1.out ?_)
  have hb:Below w.heap.size W1 (W1.setRow w.heap.size (nxT ts p).cells):=zai (Below.refl _ _) (Nat.le_refl _) _;exact zbq Tryz.results77 rfl (zad HZ1.out) ⟨zav HG1.out hb,by rw[HBB.out];exact⟨rfl,HR.out.keep (zav HG1.out hb) ((hb.block _ hg).trans HW1.out) hle⟩⟩
theorem zfn (n:Int)(hn:n≠0)(hR:Rdr T w g st cap ts p):Calls Tryz.prog 78 #[.pointer (some ⟨g,0,none⟩),.int .i64 n] w (MusP T w g st cap ts p ((nxT ts p).kind == n)):=by
 have HR:=hid hR;have hg:=hR.lt;clear hR;have hfd:∀ (a b c:Value) (W:World),(Instr.field 38 (.agg #[a,b,c]) 0).run Tryz.prog W=.ok a W:=fun _ _ _ _=>rfl
 go_enter Tryz.func78,Tryz.ntmps78
 go_wp2_with fail
 refine zaf (fun W=>Below w.heap.size w W∧W.heap[w.heap.size]?=some (.cells tokZ.cells 38 (0,0))) ⟨(Below.refl _ _).alloc (Nat.le_refl _) _,heap_alloc_new _ _⟩ ?_;rintro W ⟨hB,hz⟩;refine(zc8 (HR.out.low hB)).mono ?_;rintro e W0 ⟨rfl,b0⟩;have hB0:Hid (Below w.heap.size w W0):=hB.trans (b0.mono hB.size);have hz0:Hid (W0.heap[w.heap.size]?=some (.cells tokZ.cells 38 (0,0))):=(b0.block _ (zaa hz)).trans hz;clear hB hz b0
 try unfold Tok.cells
 go_wp2_with fail
 refine(zil _ (HR.out.low hB0.out) (fun h=>zfl h hn)).mono ?_;rintro e W1 ⟨g1,hm⟩;have hlt:=zaa hz0.out;have HG1:=hid (zab (zae hB0.out) g1);have HZ1:Hid (W1.heap[w.heap.size]?=some (.cells tokZ.cells 38 (0,0))):=(g1.block _ hlt (fun e=>by injection e with e;omega)).trans hz0.out;clear hB0 hz0 g1 hlt;obtain⟨bb,hb⟩:∃ bb,((nxT ts p).kind == n)=bb:=⟨_,rfl⟩;have HBB:=hid hb
 cases bb
 ·rw[hb] at hm;simp only[Bool.false_eq_true,if_false] at hm;subst hm;have HP:Hid (MusP T w g st cap ts p ((nxT ts p).kind == n) (wroE (herI ts p)) W1):=⟨HG1.out,by rw[hb];rfl⟩;clear hb;unfold wroE;clear HG1 HZ1 HR
  go_wp2
  exact⟨rfl,HP.out⟩
 ·rw[hb] at hm;simp only[if_true] at hm;obtain⟨rfl,r1⟩:=hm;have hle:=r1.le;have HW1:Hid _:=r1.row;clear r1 hb
  go_wp2_with (refine zb0 (by rfl) (.tmp 4) (.tmp 11) (by rfl) (t:=nxT ts p) (z:=tokZ) (by rfl) (by rfl) HZ1.out ?_)
  have hb:Below w.heap.size W1 (W1.setRow w.heap.size (nxT ts p).cells):=zai (Below.refl _ _) (Nat.le_refl _) _;exact zbq Tryz.results78 rfl (zad HZ1.out) ⟨zav HG1.out hb,by rw[HBB.out];exact⟨rfl,HR.out.keep (zav HG1.out hb) ((hb.block _ hg).trans HW1.out) hle⟩⟩
def ExpP (T:Nat) (w:World) (g:Nat) (st:Option Addr) (cap:Nat) (ts:List Tok) (p:Nat) (b:Bool) (e:Ending) (w':World):Prop :=
 w.grownBy w' (some g)∧if b then e=.returned (.tuple #[])∧Rdr T w' g st cap ts (p+1) else e=wroE (herI ts p)
theorem zbd (s:ByteArray)(hs:s.data.toList≠[])(hR:Rdr T w g st cap ts p):Calls Tryz.prog 75 #[.pointer (some ⟨g,0,none⟩),.string s] w (ExpP T w g st cap ts p (isT ts p s.data.toList)):=by
 have HR:=hid hR;clear hR
 go_enter Tryz.func75,Tryz.ntmps75
 go_wp2_with fail
 refine(zd8 s HR.out).mono ?_;rintro e W ⟨rfl,hB⟩
 go_wp2_with fail
 refine(zil _ (HR.out.low hB) (fun h=>zcg h hs)).mono ?_;rintro e W1 ⟨g1,hm⟩;have HG1:=hid (zab (zae hB) g1);clear hB g1;obtain⟨bb,hb⟩:∃ bb,(isT ts p s.data.toList)=bb:=⟨_,rfl⟩;have HBB:=hid hb
 cases bb
 ·rw[hb] at hm;simp only[Bool.false_eq_true,if_false] at hm;subst hm;have HP:Hid (ExpP T w g st cap ts p (isT ts p s.data.toList) (wroE (herI ts p)) W1):=⟨HG1.out,by rw[hb];rfl⟩;clear hb;unfold wroE;clear HG1 HR
  go_wp2
  exact⟨rfl,HP.out⟩
 ·rw[hb] at hm;simp only[if_true] at hm;obtain⟨rfl,r1⟩:=hm;have HP:Hid (ExpP T w g st cap ts p (isT ts p s.data.toList) (.returned (.tuple #[])) W1):=⟨HG1.out,by rw[hb];exact⟨rfl,r1⟩⟩;clear r1 HG1 HR hb
  go_wp2
  go_end0
  exact HP.out
def SkiP (T:Nat) (w:World) (g:Nat) (st:Option Addr) (cap:Nat) (ts:List Tok) (p:Nat) (b:Bool) (e:Ending) (w':World):Prop :=
 e=.returned (.bool b)∧w.grownBy w' (some g)∧Rdr T w' g st cap ts (if b then p+1 else p)
theorem zdx (s:ByteArray)(hs:s.data.toList≠[])(hR:Rdr T w g st cap ts p):Calls Tryz.prog 134 #[.pointer (some ⟨g,0,none⟩),.string s] w (SkiP T w g st cap ts p (isT ts p s.data.toList)):=by
 have HR:=hid hR;have hfe:=hR.few;clear hR
 go_enter Tryz.func134,Tryz.ntmps134
 go_wp2_with fail
 refine(zd8 s HR.out).mono ?_;rintro e W ⟨rfl,hB⟩;have HB:=hid hB;have HRW:=hid (HR.out.low hB);clear hB;obtain⟨bb,hb⟩:∃ bb,isT ts p s.data.toList=bb:=⟨_,rfl⟩;rw[hb];have HBB:=hid hb
 cases bb
 ·go_wp2
  go_ret
  rw[HBB.out];exact⟨rfl,zae HB.out,HRW.out⟩
 ·have hp:=zcg hb hs;have c1:=HRW.out.c1;have z1:=HRW.out.z 1
  go_wp2
  go_ret
  rw[HBB.out];exact⟨rfl,zab (zae HB.out) (HRW.out.went hp).1,(HRW.out.went hp).2⟩
end
inductive QAt (w:World) (S:Nat->Prop):Pt->Qe->Prop
 | mk (k:Int) (x:ByteArray) (n a f t:Int) (l:List Pt) (bg:Int) (es:List Qe) (sp:Option Addr) (cap:Nat)
  (hr:RowsAt w 9 Qe.cells sp es) (hs:∀ q,sp=some q->S q.block) (hl:es.length=l.length)
  (hk:∀ (i:Nat) (e':Qe) (t':Pt),es[i]?=some e'->l[i]?=some t'->QAt w S t' e'):QAt w S (.mk k x n a f t l) ⟨k,x,n,a,f,t,bg,sp,es.length,cap⟩
theorem QAt.keep {w w':World}{S S':Nat->Prop}{e:Qe}{t:Pt}(h:QAt w S t e)(hS:∀ k,S k->S' k)(hh:∀ k,S k->w'.heap[k]?=w.heap[k]?):QAt w' S' t e:=by
 induction h with
 | mk k x n a f t l bg es sp cap hr hs hl hk ih=>
  exact .mk k x n a f t l bg es sp cap (hr.stay fun q e=>hh _ (hs q e)) (fun q e=>hS _ (hs q e)) hl ih
theorem QAt.fresh {w:World}{S:Nat->Prop}(k:Int)(x:ByteArray)(n a f t bg:Int):QAt w S (.mk k x n a f t []) ⟨k,x,n,a,f,t,bg,none,0,0⟩ :=
 .mk k x n a f t [] bg [] none 0 (fun h=>absurd h (by simp)) (fun q e=>by cases e) rfl fun i e' t' h=>by simp at h
theorem QAt.ends {w:World}{S:Nat->Prop}{k:Int}{x:ByteArray}{n a f t t2:Int}{l:List Pt}{e:Qe}(h:QAt w S (.mk k x n a f t l) e):QAt w S (.mk k x n a f t2 l) { e with t:=t2 }:=by
 cases h with
 | mk _ _ _ _ _ _ _ bg es sp cap hr hs hl hk=>exact .mk k x n a f t2 l bg es sp cap hr hs hl hk
theorem QAt.begs {w:World}{S:Nat->Prop}{t:Pt}{e:Qe}(h:QAt w S t e)(b2:Int):QAt w S t { e with bg:=b2 }:=by
 cases h with
 | mk k x n a f t l bg es sp cap hr hs hl hk=>exact .mk k x n a f t l b2 es sp cap hr hs hl hk
structure QV (w:World) (S:Nat->Prop) (v:Qv) (e:Qe):Prop where
 is:QAt w S v.pt e
 bg:e.bg=v.bg
def QsAt (w:World) (S:Nat->Prop) (es:List Qe) (l:List Pt):Prop:=es.length=l.length∧∀ (i:Nat) (e:Qe) (t:Pt),es[i]?=some e->l[i]?=some t->QAt w S t e
theorem QsAt.keep {w w':World}{S S':Nat->Prop}{es:List Qe}{l:List Pt}(h:QsAt w S es l)(hS:∀ k,S k->S' k)(hh:∀ k,S k->w'.heap[k]?=w.heap[k]?):QsAt w' S' es l :=
 ⟨h.1,fun i e t h1 h2=>(h.2 i e t h1 h2).keep hS hh⟩
theorem QsAt.nil (w:World) (S:Nat->Prop):QsAt w S [] []:=⟨rfl,fun i e t h=>by simp at h⟩
theorem QsAt.snoc {w:World}{S:Nat->Prop}{es:List Qe}{l:List Pt}{e:Qe}{t:Pt}(h:QsAt w S es l)(h':QAt w S t e):QsAt w S (es++[e]) (l++[t]) :=
 ⟨by rw[List.length_append,List.length_append,h.1];rfl,fun i e' t' h1 h2=>by
  by_cases hi:i<es.length
  ·rw[List.getElem?_append_left hi] at h1;rw[List.getElem?_append_left (by rw[<-h.1];exact hi)] at h2;exact h.2 i e' t' h1 h2
  ·rw[List.getElem?_append_right (by omega)] at h1;rw[List.getElem?_append_right (by rw[<-h.1];omega),<-h.1] at h2;have hz:i - es.length=0:=by have:=(List.getElem?_eq_some_iff.1 h1).1;simp at this;omega
   rw[hz] at h1 h2;have e1:e=e':=by simpa using h1
   have e2:t=t':=by simpa using h2
   rw[<-e1,<-e2];exact h'⟩
abbrev OwnQ:=OwnG 63 9 Qe.cells
structure Qk (B z:Nat) (w:World) (b:Nat) (k:Int) (x:ByteArray) (n a f t bg:Int) (v:Value) (l:List Pt):Prop where
 hB:B<=b
 row:w.heap[b]?=some (.cells (paQ k x n a f t bg v) 63 (0,0))
 hz:z<w.heap.size
 ob:v.ownBlock≠some b
 oz:v.ownBlock≠some z
 ex:∃ (es:List Qe) (S:Nat->Prop),OwnQ B w v es∧QsAt w S es l∧∀ j,S j->B<=j∧j<w.heap.size∧j≠b∧j≠z∧v.ownBlock≠some j
section
variable {B z:Nat}{w w':World}{b:Nat}{k:Int}{x:ByteArray}{n a f t bg:Int}{v:Value}{l:List Pt}
theorem Qk.lt (h:Qk B z w b k x n a f t bg v l):b<w.heap.size:=zaa h.row
theorem Qk.own (h:Qk B z w b k x n a f t bg v l){q:Nat}(hq:v.ownBlock=some q):B<=q∧q<w.heap.size:=by
 obtain⟨es,S,h2,-⟩:=h.ex;exact h2.lt hq
theorem Qk.len (h:Qk B z w b k x n a f t bg v l):∃ sp cap,v=.slice sp l.length cap:=by
 obtain⟨es,S,h2,h3,-⟩:=h.ex;obtain⟨sp,cap,e⟩:=h2.shape;exact⟨sp,cap,by rw[e,h3.1]⟩
theorem Qk.sl (h:Qk B z w b k x n a f t bg v l):∃ sp n cap,v=.slice sp n cap:=by
 obtain⟨sp,cap,e⟩:=h.len;exact⟨sp,_,cap,e⟩
theorem Qk.keep (h:Qk B z w b k x n a f t bg v l)(hs:w.heap.size<=w'.heap.size)(hh:∀ j,B<=j->j<w.heap.size->w'.heap[j]?=w.heap[j]?):Qk B z w' b k x n a f t bg v l:=by
 have hb:=h.lt;obtain⟨hB,h1,hz,ho,hoz,es,S,h2,h3,h4⟩:=h;refine⟨hB,(hh _ hB hb).trans h1,by omega,ho,hoz,es,S,h2.keep fun q hq=>hh _ (h2.lt hq).1 (h2.lt hq).2,h3.keep (fun _ h=>h) fun j hj=>hh _ (h4 j hj).1 (h4 j hj).2.1,fun j hj=>?_⟩;obtain⟨c1,c2,c3,c4⟩:=h4 j hj;exact⟨c1,by omega,c3,c4⟩
theorem Qk.grow {g:Nat}(h:Qk B z w b k x n a f t bg v l)(hg:g<B)(hw:w.grownBy w' (some g)):Qk B z w' b k x n a f t bg v l :=
 h.keep hw.size fun j hj hl=>hw.block j hl (fun e=>by injection e with e;omega)
theorem Qk.below (h:Qk B z w b k x n a f t bg v l)(hw:Below w.heap.size w w'):Qk B z w' b k x n a f t bg v l :=
 h.keep hw.size fun j _ hl=>hw.block j hl
theorem Qk.turn {k':Int}{x':ByteArray}{n' a' f' t' bg':Int}(h:Qk B z w b k x n a f t bg v l)(hs:w.heap.size<=w'.heap.size)(hh:∀ j,j≠b->j<w.heap.size->w'.heap[j]?=w.heap[j]?)
  (hr:w'.heap[b]?=some (.cells (paQ k' x' n' a' f' t' bg' v) 63 (0,0))):Qk B z w' b k' x' n' a' f' t' bg' v l:=by
 obtain⟨hB,h1,hz,ho,hoz,es,S,h2,h3,h4⟩:=h;refine⟨hB,hr,by omega,ho,hoz,es,S,h2.keep fun q hq=>hh _ (fun e=>ho (by rw[hq,e])) (h2.lt hq).2,h3.keep (fun _ h=>h) fun j hj=>hh _ (h4 j hj).2.2.1 (h4 j hj).2.1,fun j hj=>?_⟩;obtain⟨c1,c2,c3,c4⟩:=h4 j hj;exact⟨c1,by omega,c3,c4⟩
theorem Qk.fin (h:Qk B z w b k x n a f t bg v l):∃ sp len cap,v=.slice sp len cap∧QAt w (fun j=>B<=j∧j<w.heap.size∧j≠z) (.mk k x n a f t l) ⟨k,x,n,a,f,t,bg,sp,len,cap⟩:=by
 obtain⟨hB,h1,hz,ho,hoz,es,S,h2,h3,h4⟩:=h;obtain⟨sp,cap,rfl,hr,-⟩:=OwnG.rows elQ h2;refine⟨sp,es.length,cap,rfl,.mk k x n a f t l bg es sp cap hr (fun q hq=>?_) h3.1 fun i e' t' e1 e2=>(h3.2 i e' t' e1 e2).keep (fun j hj=>⟨(h4 j hj).1,(h4 j hj).2.1,(h4 j hj).2.2.2.1⟩) fun _ _=>rfl⟩;subst hq;exact⟨(h2.lt rfl).1,(h2.lt rfl).2,fun e=>hoz (by rw[<-e];rfl)⟩
theorem Qk.new (hB:B<=b)(hz:z<w.heap.size)(hr:w.heap[b]?=some (.cells (⟨k,x,n,a,f,t,bg,none,0,0⟩:Qe).cells 63 (0,0))):Qk B z w b k x n a f t bg (.slice none 0 0) [] :=
 ⟨hB,hr,hz,by simp[Value.ownBlock],by simp[Value.ownBlock],[],fun _=>False,zbv _ _,QsAt.nil _ _,fun _ h=>h.elim⟩
theorem Qk.one {c:Nat}{e:Qe}{tx:Pt}{S:Nat->Prop}{bs:Value}{l0:List Pt}(h:Qk B z w b k x n a f t bg bs l0)(hs:w.heap.size<=w'.heap.size)(hh:∀ j,j≠b->j<w.heap.size->w'.heap[j]?=w.heap[j]?)
  (hc:w'.heap[c]?=some (.cells e.cells 63 (0,0))) (hcB:B<=c) (hcb:c≠b) (hcz:c≠z) (hx:QAt w S tx e) (hS:∀ j,S j->B<=j∧j<w.heap.size∧j≠b∧j≠z∧j≠c)
  (hr:w'.heap[b]?=some (.cells (paQ k x n a f t bg (.slice (some ⟨c,0,none⟩) 1 1)) 63 (0,0))):Qk B z w' b k x n a f t bg (.slice (some ⟨c,0,none⟩) 1 1) [tx]:=by
 have hz:=h.hz;refine⟨h.hB,hr,by omega,fun e=>hcb (by injection e),fun e=>hcz (by injection e),[e],S,⟨by simp[flatG,Qe.cells,paQ],.inr ⟨c,1,e.cells,rfl,hcB,hc,Nat.le_refl _,by decide,rfl,by simp[flatG,Qe.cells,paQ]⟩⟩,?_,fun j hj=>?_⟩
 ·exact(QsAt.nil w' S).snoc (hx.keep (fun _ h=>h) fun j hj=>hh _ (hS j hj).2.2.1 (hS j hj).2.1)
 ·obtain⟨c1,c2,c3,c5,c4⟩:=hS j hj;exact⟨c1,by omega,c3,c5,fun e=>c4 (by injection e with e;exact e.symm)⟩
theorem Qk.app {c:Nat}{e:Qe}{tx:Pt}{S:Nat->Prop}(ty:TypeId)(h:Qk B z w b k x n a f t bg v l)(hc:w.heap[c]?=some (.cells e.cells 63 (0,0)))(hx:QAt w S tx e)
  (hS:∀ j,S j->B<=j∧j<w.heap.size∧j≠b∧j≠z∧v.ownBlock≠some j) (hl:l.length<=200000) :
  ∃ v' w1,(Builtin.append_ #[61,61] ty #[v,.slice (some ⟨c,0,none⟩) 1 1]).run Tryz.prog w=.ok v' w1∧w1.heap[b]?=some (.cells (paQ k x n a f t bg v) 63 (0,0)) ∧
   Below B w (w1.setCell ⟨b,8,none⟩ v')∧Qk B z (w1.setCell ⟨b,8,none⟩ v') b k x n a f t bg v' (l++[tx])∧w.grownBy w1 v.ownBlock∧(v'.ownBlock=v.ownBlock∨v'.ownBlock=some w.heap.size):=by
 have hb:=h.lt;obtain⟨hB,h1,hz,ho,hoz,es,S0,h2,h3,h4⟩:=h;obtain⟨v',w1,q1,q2,q3,q4⟩:=zdi (E:=elQ) ty h2 (sp:=some ⟨c,0,none⟩) (ys:=[e]) (cap:=1) (fun h=>by cases h) (zau hc) (by rw[h3.1];simp;omega) (by omega);have hrow:w1.heap[b]?=some (.cells (paQ k x n a f t bg v) 63 (0,0)):=(q3.block b hb (fun e=>ho e.symm)).trans h1;have hB1:Below B w w1:=⟨q3.os,q3.tape,q3.output,q3.size,fun j hj=>q3.block j (by omega) fun e=>by have:=(h2.lt e.symm).1;omega⟩;have hne:∀ q,v.ownBlock≠some q->q<w.heap.size->v'.ownBlock≠some q:=fun q hq hl=>by
  rcases q4 with q4|q4
  ·rw[q4];exact hq
  ·rw[q4];intro e;injection e with e;omega
 have hset:∀ j,j≠b->(w1.setCell ⟨b,8,none⟩ v').heap[j]?=w1.heap[j]?:=fun j hj=>heap_setCell_other _ _ _ _ hj;have hsz:w1.heap.size<=(w1.setCell ⟨b,8,none⟩ v').heap.size:=((Below.refl 0 w1).setCell (p:=⟨b,8,none⟩) (Nat.zero_le _) v').size;have hsz1:=q3.size;have hr2:(w1.setCell ⟨b,8,none⟩ v').heap[b]?=some (.cells (paQ k x n a f t bg v') 63 (0,0)):=heap_setCell_same _ _ 8 _ _ _ hrow;have hob:=hne b ho hb;refine⟨v',w1,q1,hrow,hB1.setCell hB _,⟨hB,hr2,by omega,hob,hne z hoz hz,es++[e],fun j=>S0 j∨S j,q2.keep fun q hq=>hset q fun e=>hob (by rw[hq,e]),?_,?_⟩,q3,q4⟩
 ·have hk:∀ j,(S0 j∨S j)->(w1.setCell ⟨b,8,none⟩ v').heap[j]?=w.heap[j]?:=fun j hj=>by
   have hj':j<w.heap.size∧j≠b∧j≠z∧v.ownBlock≠some j:=hj.elim (fun h=>(h4 j h).2) fun h=>(hS j h).2;exact(hset j hj'.2.1).trans (q3.block j hj'.1 fun e=>hj'.2.2.2 e.symm)
  exact(h3.keep (fun _ h=>.inl h) fun j hj=>hk j (.inl hj)).snoc (hx.keep (fun _ h=>.inr h) fun j hj=>hk j (.inr hj))
 ·intro j hj;have hj':B<=j∧j<w.heap.size∧j≠b∧j≠z∧v.ownBlock≠some j:=hj.elim (fun h=>h4 j h) fun h=>hS j h;exact⟨hj'.1,Nat.lt_of_lt_of_le (Nat.lt_of_lt_of_le hj'.2.1 q3.size) hsz,hj'.2.2.1,hj'.2.2.2.1,hne j hj'.2.2.2.2 hj'.2.1⟩
end
abbrev QdS (T:Nat) (w:World) (g:Nat) (st:Option Addr) (cap:Nat) (ts:List Tok) (s:Qs):Prop:=Qdr T w g st cap ts s.p s.bad
def QoP (T:Nat) (w:World) (g:Nat) (st:Option Addr) (cap:Nat) (ts:List Tok) (r:Qv × Qs) (e:Ending) (w':World):Prop :=
 ∃ q:Qe,e=.returned (.agg q.cells)∧QV w' (fun j=>w.heap.size<=j∧j<w'.heap.size) r.1 q∧w.grownBy w' (some g)∧QdS T w' g st cap ts r.2
section
variable {T:Nat}{w w':World}{g:Nat}{st:Option Addr}{cap:Nat}{ts:List Tok}{p q:Nat}{bad bd:Bool}
theorem zan {fn:Func}{q:Tmp}(h:fn.results=#[.cell q 63]){R:Ending->World->Prop}{tm:Array Value}{W:World}{k:Nat}{e:Qe}(hp:tm.getD q undef=.pointer (some ⟨k,0,none⟩))
  (hg:W.heap[k]?=some (.cells e.cells 63 (0,0))) (hR:R (.returned (.agg e.cells)) W):bodyPost Tryz.prog fn R .ret ⟨tm,[]⟩ W :=
 bodyPost_ret (v:=.agg e.cells) (zdv h _ _ k 63 e.cells (0,0) _ hp hg Tryz.underlying63 rfl (by kernel_rfl)) rfl hR
theorem zfo (w:World) (A B:Obj):((w.alloc A).alloc B).heap[w.heap.size]?=some A:=by
 have h:=(Below.heap_alloc (w.alloc A) B w.heap.size (by rw[World.size_alloc];omega));exact h.trans (heap_alloc_new _ _)
theorem zdr (w:World) (A B:Obj):Below w.heap.size w ((w.alloc A).alloc B):=((Below.refl _ _).alloc (Nat.le_refl _) _).alloc (by rw[World.size_alloc];omega) _
theorem zfp (w:World) (A B:Obj):((w.alloc A).alloc B).heap[w.heap.size+1]?=some B:=by
 have h:=heap_alloc_new (w.alloc A) B;rw[World.size_alloc] at h;exact h
theorem zdj {ops:Array Oper}{rest:List Oper}{o:Oper}{a:Act}{w:World}{Q:Exit->Act->World->Prop}(hgd:o.guard=none)(x y:Operand)(ho:o.op=.store 63 x y){k:Nat}{z:Array Value}(e:Qe)
  (hx:a.eval x=.pointer (some ⟨k,0,none⟩)) (hy:a.eval y=.agg e.cells) (hz:w.heap[k]?=some (.cells z 63 (0,0))) (hs:z.size=9) (h:wpList Tryz.prog ops Q rest (a.put o.dst undef) (w.setRow k e.cells)):wpList Tryz.prog ops Q (o::rest) a w :=
 wpList_store_row hgd 63 x y ho k e.cells hx hy 63 z hz (by kernel_rfl) hs e.one h
structure Row9 (W:World) (b:Nat) (c0 c1 c2 c3 c4 c5 c6 c7 c8:Value):Prop where
 h0:W.cell? ⟨b,0,none⟩=some c0
 h1:W.cell? ⟨b,1,none⟩=some c1
 h2:W.cell? ⟨b,2,none⟩=some c2
 h3:W.cell? ⟨b,3,none⟩=some c3
 h4:W.cell? ⟨b,4,none⟩=some c4
 h5:W.cell? ⟨b,5,none⟩=some c5
 h6:W.cell? ⟨b,6,none⟩=some c6
 h7:W.cell? ⟨b,7,none⟩=some c7
 h8:W.cell? ⟨b,8,none⟩=some c8
 z:∀ i,W.frozen? ⟨b,i,none⟩=false
theorem row9 {W:World}{b:Nat}{ty:TypeId}{c0 c1 c2 c3 c4 c5 c6 c7 c8:Value}(h:W.heap[b]?=some (.cells #[c0,c1,c2,c3,c4,c5,c6,c7,c8] ty (0,0))):Row9 W b c0 c1 c2 c3 c4 c5 c6 c7 c8 :=
 ⟨(cell_of_row _ _ 0 _ _ _ h).trans rfl,(cell_of_row _ _ 1 _ _ _ h).trans rfl,(cell_of_row _ _ 2 _ _ _ h).trans rfl,(cell_of_row _ _ 3 _ _ _ h).trans rfl,(cell_of_row _ _ 4 _ _ _ h).trans rfl,(cell_of_row _ _ 5 _ _ _ h).trans rfl,(cell_of_row _ _ 6 _ _ _ h).trans rfl,(cell_of_row _ _ 7 _ _ _ h).trans rfl,(cell_of_row _ _ 8 _ _ _ h).trans rfl,fun _=>frozen_of_row _ _ _ _ _ h⟩
def begE (k:Int) (t:Tok) (x:ByteArray):Qe:=⟨k,x,0,t.pos,t.pos,0,t.pos,none,0,0⟩
theorem zat (k:Int)(t:Tok)(x:ByteArray)(w:World) :
  Calls Tryz.prog 47 #[.int .i64 k,.agg t.cells,.string x] w fun e w'=>e=.returned (.agg (begE k t x).cells)∧Below w.heap.size w w':=by
 obtain⟨tk,tx,tp⟩:=t;unfold Tok.cells
 go_enter Tryz.func47,Tryz.ntmps47
 go_wp2
 refine zan (k:=w.heap.size+1) (e:=begE k ⟨tk,tx,tp⟩ x) Tryz.results47 rfl ?_ ⟨rfl,zdr _ _ _⟩;exact zfp _ _ _
def endE (e:Qe) (t:Int):Qe:={ e with t:=t }
theorem ze0 (e:Qe)(hR:Qdr T w g st cap ts p bad) :
  Calls Tryz.prog 49 #[.pointer (some ⟨g,0,none⟩),.agg e.cells] w fun r w'=>r=.returned (.agg (endE e (behI ts p)).cells)∧Below w.heap.size w w':=by
 have HR:=hid hR;clear hR;obtain⟨k,x,n,a,f,t,bg,sp,len,cap⟩:=e;unfold Qe.cells paQ
 go_enter Tryz.func49,Tryz.ntmps49
 go_wp2_with fail
 refine zaf (fun W=>Below w.heap.size w W∧W.heap[w.heap.size]?=some (.cells (paQ k x n a f t bg (.slice sp len cap)) 63 (0,0))∧W.heap[w.heap.size+1]?=some (.cells (paQ 0 ⟨#[]⟩ 0 0 0 0 0 (.slice none 0 0)) 63 (0,0)))
  ⟨zdr _ _ _,zfo _ _ _,zfp _ _ _⟩ ?_
 rintro W ⟨hB,hb,hz⟩;refine(zje (HR.out.low hB)).mono ?_;rintro e W1 ⟨rfl,b1⟩;have HB:Hid (Below w.heap.size w W1):=hB.trans (b1.mono hB.size);have HP:Hid (W1.heap[w.heap.size]?=some (.cells (paQ k x n a f t bg (.slice sp len cap)) 63 (0,0))):=(b1.block _ (zaa hb)).trans hb;have HZ:Hid (W1.heap[w.heap.size+1]?=some (.cells (paQ 0 ⟨#[]⟩ 0 0 0 0 0 (.slice none 0 0)) 63 (0,0))):=(b1.block _ (zaa hz)).trans hz;clear hB hb hz b1 HR;have c6:W1.cell? ⟨w.heap.size,6,none⟩=some (.int .i64 t):=(cell_of_row _ _ 6 _ _ _ HP.out).trans rfl;have f6:W1.frozen? ⟨w.heap.size,6,none⟩=false:=frozen_of_row _ _ _ _ _ HP.out;obtain⟨W2,hw2,hB2,hP2,hZ2⟩:∃ W2,W1.setCell ⟨w.heap.size,6,none⟩ (.int .i64 (behI ts p))=W2∧Below w.heap.size w W2∧W2.heap[w.heap.size]?=some (.cells (paQ k x n a f (behI ts p) bg (.slice sp len cap)) 63 (0,0))∧W2.heap[w.heap.size+1]?=some (.cells (paQ 0 ⟨#[]⟩ 0 0 0 0 0 (.slice none 0 0)) 63 (0,0)) :=
  ⟨_,rfl,HB.out.setCell (Nat.le_refl _) _,heap_setCell_same _ _ 6 _ _ _ HP.out,(heap_setCell_other _ _ _ _ (Nat.succ_ne_self _)).trans HZ.out⟩
 obtain⟨h0,h1,h2,h3,h4,h5,h6,h7,h8,-⟩:=row9 hP2;have HB2:=hid hB2;have HZ2:=hid hZ2;clear HB HP HZ hB2 hP2 hZ2
 go_wp2_with (refine zdj (by rfl) (.tmp 4) (.tmp 9) (by rfl) ⟨k,x,n,a,f,behI ts p,bg,sp,len,cap⟩ (by rfl) (by rfl) HZ2.out (by rfl) ?_)
 exact zan Tryz.results49 rfl (zad HZ2.out) ⟨rfl,zai HB2.out (Nat.le_succ _) _⟩
end
section
variable {T:Nat}{w w':World}{g:Nat}{st:Option Addr}{cap:Nat}{ts:List Tok}{p q:Nat}{bad bd:Bool}
theorem zar (s:ByteArray)(hR:Qdr T w g st cap ts p bad) :
  Calls Tryz.prog 46 #[.pointer (some ⟨g,0,none⟩),.string s] w fun e w'=>e=.returned (.bool (isQ ts p s))∧Below w.heap.size w w':=by
 have HR:=hid hR;clear hR;have hX:isQ ts p s=(((nxQ ts p).text.toList == s.toList) && (((nxQ ts p).kind == 4) || (((nxQ ts p).kind == 1) && kepB s))):=by
  unfold isQ;rw[ByteArray.toList_eq,ByteArray.toList_eq]
 have hN:=zbe HR.out;obtain⟨u,hu⟩:∃ u,isQ ts p s=u:=⟨_,rfl⟩;obtain⟨t,ht⟩:∃ t,nxQ ts p=t:=⟨_,rfl⟩;rw[hu,ht] at hX;rw[hu];rw[ht] at hN;have HX:=hid hX;have HN:=hid hN;clear hX hu ht hN
 go_enter Tryz.func46,Tryz.ntmps46
 go_wp2_with fail
 refine HN.out.mono ?_;rintro e W1 ⟨rfl,b1⟩;have HB1:Hid (Below w.heap.size w W1):=b1;clear HR b1 HN;obtain⟨W2,hst,hb2,hz2⟩:=zfc W1 t;have hB2:Below w.heap.size w W2:=HB1.out.trans (hb2.mono HB1.out.size);clear hb2;have HB2:Hid _:=hB2;have k0:W2.cell? ⟨W1.heap.size,0,none⟩=some (.int .i64 (t).kind):=(cell_of_row _ _ 0 _ _ _ hz2).trans rfl;have k1:W2.cell? ⟨W1.heap.size,1,none⟩=some (.string (t).text):=(cell_of_row _ _ 1 _ _ _ hz2).trans rfl;clear hB2 hz2;obtain⟨hEb,hE⟩:∃ b,((t).text.toList == s.toList)=b:=⟨_,rfl⟩;rcases hEb with _|_
 ·go_wp2
  go_ret
  exact⟨by rw[HX.out,hE];rfl,HB2.out⟩
 obtain⟨h4b,h4⟩:∃ b,((t).kind == 4)=b:=⟨_,rfl⟩;rcases h4b with _|_
 rotate_left
 ·go_wp2
  go_ret
  exact⟨by rw[HX.out,hE,h4];rfl,HB2.out⟩
 obtain⟨h1b,h1⟩:∃ b,((t).kind == 1)=b:=⟨_,rfl⟩;rcases h1b with _|_
 ·go_wp2
  go_ret
  exact⟨by rw[HX.out,hE,h4,h1];rfl,HB2.out⟩
 ·go_wp2_with fail
  refine(zey _ _).mono ?_;rintro e W3 ⟨rfl,b3⟩;have HB3:Hid _:=HB2.out.trans (b3.mono HB2.out.size);clear b3
  go_wp2
  go_ret
  exact⟨by rw[HX.out,hE,h4,h1];rfl,HB3.out⟩
end
end Go.Proofs.YtmclgbkijeidaaaGreatDoor
