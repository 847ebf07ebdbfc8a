import Derived.Test.YtabiangdmibocaaGreatDoorUnG
namespace Go.Proofs.YtabiangdmibocaaGreatDoor
set_option maxRecDepth 100000
set_option maxHeartbeats 4000000
open Go.RowKit
section
variable {T:Nat}{w:World}{g:Nat}{st:Option Addr}{cap:Nat}{ts:List Tok}{p:Nat}
theorem zfm (hR:Rdr T w g st cap ts p):Calls Tryz.prog 197 #[.pointer (some ⟨g,0,none⟩)] w (PtP T w g st cap ts (va1P ts p)):=by
 have HR0:=hid hR;have hT:=hR.hT;have hgT:=hR.hg;have HG0:Hid (w.grownBy w (some g)):=zb0 _ _;clear hR;obtain⟨r,hX⟩:∃ r,va1P ts p=r:=⟨_,rfl⟩;rw[hX];have HX0:=hid hX;clear hX;unfold va1P at HX0
 go_enter Tryz.func197,Tryz.ntmps197
 have HE:Hid (∀ q (s:List UInt8),((nxT ts q).text.toList == s)=isT ts q s):=fun q s=>by unfold isT;rw[ByteArray.toList_eq]
 obtain⟨-,-,htz⟩:=HR0.out.bound p
 go_wp2_with fail
 refine(zde HR0.out).mono ?_;rintro e W1 ⟨rfl,b1⟩;have HR1:=hid (HR0.out.low b1);have HB1:Hid (Below w.heap.size w W1):=b1;clear b1 HR0 HG0;have HSZ:Hid (w.heap.size<=W1.heap.size):=HB1.out.size
 by_cases hk2:(nxT ts p).kind=2
 ·have hk:((nxT ts p).kind == 2)=true:=by rw[hk2];rfl
  have hp:=zf1 hk (by decide);have HX1:Hid _:=za8 hk HX0.out;clear HX0 HE
  go_wp2_with (refine zef (by rfl) (.tmp 3) (.tmp 7) (by rfl) (t:=nxT ts p) (z:=tokZ) (by rfl) (by rfl) (heap_alloc_new _ _) ?_;refine zci (fun W=>Below W1.heap.size W1 W∧W.heap[W1.heap.size]?=some (.cells (nxT ts p).cells 38 (0,0))) ⟨zar ((Below.refl _ _).alloc (Nat.le_refl _) _) (Nat.le_refl _) _,zam (heap_alloc_new _ _)⟩ ?_;rintro W2 ⟨hB2,hz2⟩;have HB2:Hid (Below w.heap.size w W2):=HB1.out.trans (hB2.mono HB1.out.size);have HR2:Hid (Rdr T W2 g st cap ts p):=HR1.out.low hB2;have HZ2:Hid (W2.heap[W1.heap.size]?=some (.cells (nxT ts p).cells 38 (0,0))):=hz2;have k0:W2.cell? ⟨W1.heap.size,0,none⟩=some (.int .i64 (nxT ts p).kind):=(cell_of_row _ _ 0 _ _ _ hz2).trans rfl;have k1:W2.cell? ⟨W1.heap.size,1,none⟩=some (.string (nxT ts p).text):=(cell_of_row _ _ 1 _ _ _ hz2).trans rfl;clear hB2 hz2 HR1 HB1)
  refine(zey 20 HR2.out hp).mono ?_;rintro e W3 ⟨g3,b,v,rfl,hM,r3⟩;have hK:W1.heap.size<W2.heap.size:=zab HZ2.out;have hbK:W1.heap.size≠b:=by have:=hM.hB;omega
  have hgK:g<W1.heap.size:=Nat.lt_of_lt_of_le hgT (Nat.le_trans hT HSZ.out);have HM3:Hid _:=hM.mono HB2.out.size;have HG3:=hid (zaa (zae HB2.out) g3);have HZ3:Hid (W3.heap[W1.heap.size]?=some (.cells (nxT ts p).cells 38 (0,0))):=(g3.block _ hK (fun e=>by injection e with e;omega)).trans HZ2.out;have HR3:Hid (Rdr T W3 g st cap ts (p+1)):=r3;clear hM g3 r3 HB2 HZ2 HR2 k0 k1;obtain⟨hM4,b4,c1,z1⟩:=HM3.out.text ⟨#[]⟩;have HM4:Hid _:=hM4;have HB4:Hid _:=b4;have HZ4:Hid ((W3.setCell ⟨b,1,none⟩ (.string ⟨#[]⟩)).heap[W1.heap.size]?=some (.cells (nxT ts p).cells 38 (0,0))):=(heap_setCell_other _ _ _ _ hbK).trans HZ3.out;clear hM4 b4
  go_wp2_with (refine zci (fun W=>Mk w.heap.size W b 20 ⟨#[]⟩ 0 (nxT ts p).pos (herI ts p) (behI ts (p+1)) v []∧w.grownBy W (some g)∧Rdr T W g st cap ts (p+1)∧W.heap[W1.heap.size]?=some (.cells (nxT ts p).cells 38 (0,0))) ⟨HM4.out,za3 HG3.out HB4.out,HR3.out.below hT HB4.out,HZ4.out⟩ ?_;clear HM4 HB4 HZ4 HM3 HG3 HR3 HZ3 c1 z1;rintro W4 ⟨hM4,hG4,hR4,hz4⟩;have HM4:Hid _:=hM4;have HG4:Hid _:=hG4;have HR4:Hid _:=hR4;have HZ4:Hid _:=hz4;clear hM4 hG4 hR4 hz4;refine zk4 (by rfl) (.tmp 3) (by rfl) (t:=nxT ts p) (by rfl) HZ4.out ?_)
  refine(zrh (nxT ts p) W4).mono ?_;rintro e W5 ⟨rfl,b5⟩;have HM5:Hid _:=HM4.out.below b5;have HG5:=hid (zaa HG4.out (zae b5));have HR5:=hid (HR4.out.low b5);clear b5 HM4 HG4 HR4 HZ4;have HNT:Hid (∀ n,numT (nxT ts p)=n->Rs.ok (.mk 20 ⟨#[]⟩ n (nxT ts p).pos (herI ts p) (behI ts (p+1)) []) (p+1)=r):=fun n hn=>by rw[<-hn];exact HX1.out
  obtain⟨n,hn1,hn2⟩:∃ (n:Int) (ee:Int),numV (numO (nxT ts p)) 201=.tuple #[.int .i64 n,.int .i64 ee]∧numT (nxT ts p)=n:=by
   unfold numV numT
   cases numO (nxT ts p) with
   | none=>exact⟨_,_,rfl,rfl⟩
   | some n=>exact⟨_,_,rfl,rfl⟩
  obtain⟨hn1,hn3⟩:=hn2;rw[hn1];obtain⟨hM6,b6,c2,z2⟩:=HM5.out.nums n;have HP:Hid (PtP T w g st cap ts r (.returned (.pointer (some ⟨b,0,none⟩))) (W5.setCell ⟨b,2,none⟩ (.int .i64 n))):=zbi (za3 HG5.out b6) (HNT.out n hn3) hM6.fin (HR5.out.below hT b6);clear hM6 b6 HM5 HG5 HR5 HNT HX1 hn1 hn3
  go_wp2
  go_ret
  exact HP.out
 have hk2':((nxT ts p).kind == 2)=false:=by rw[beq_eq_false_iff_ne];exact hk2
 have HX1:Hid _:=zbo hk2' HX0.out;clear HX0
 by_cases hk3:(nxT ts p).kind=3
 ·have hk:((nxT ts p).kind == 3)=true:=by rw[hk3];rfl
  have hp:=zf1 hk (by decide);have HX2:Hid _:=za8 hk HX1.out;clear HX1 HE
  go_wp2_with (refine zef (by rfl) (.tmp 3) (.tmp 7) (by rfl) (t:=nxT ts p) (z:=tokZ) (by rfl) (by rfl) (heap_alloc_new _ _) ?_;refine zci (fun W=>Below W1.heap.size W1 W∧W.heap[W1.heap.size]?=some (.cells (nxT ts p).cells 38 (0,0))) ⟨zar ((Below.refl _ _).alloc (Nat.le_refl _) _) (Nat.le_refl _) _,zam (heap_alloc_new _ _)⟩ ?_;rintro W2 ⟨hB2,hz2⟩;have HB2:Hid (Below w.heap.size w W2):=HB1.out.trans (hB2.mono HB1.out.size);have HR2:Hid (Rdr T W2 g st cap ts p):=HR1.out.low hB2;have HZ2:Hid (W2.heap[W1.heap.size]?=some (.cells (nxT ts p).cells 38 (0,0))):=hz2;have k0:W2.cell? ⟨W1.heap.size,0,none⟩=some (.int .i64 (nxT ts p).kind):=(cell_of_row _ _ 0 _ _ _ hz2).trans rfl;have k1:W2.cell? ⟨W1.heap.size,1,none⟩=some (.string (nxT ts p).text):=(cell_of_row _ _ 1 _ _ _ hz2).trans rfl;clear hB2 hz2 HR1 HB1)
  refine(zey 21 HR2.out hp).mono ?_;rintro e W3 ⟨g3,b,v,rfl,hM,r3⟩;have hK:W1.heap.size<W2.heap.size:=zab HZ2.out;have hbK:W1.heap.size≠b:=by have:=hM.hB;omega
  have hgK:g<W1.heap.size:=Nat.lt_of_lt_of_le hgT (Nat.le_trans hT HSZ.out);have HM3:Hid _:=hM.mono HB2.out.size;have HG3:=hid (zaa (zae HB2.out) g3);have HZ3:Hid (W3.heap[W1.heap.size]?=some (.cells (nxT ts p).cells 38 (0,0))):=(g3.block _ hK (fun e=>by injection e with e;omega)).trans HZ2.out;have HR3:Hid (Rdr T W3 g st cap ts (p+1)):=r3;clear hM g3 r3 HB2 HZ2 HR2 k0 k1
  go_wp2_with (refine zk4 (by rfl) (.tmp 3) (by rfl) (t:=nxT ts p) (by rfl) HZ3.out ?_)
  refine(zn5 (nxT ts p) W3 htz).mono ?_;rintro e W5 ⟨rfl,b5⟩;have HM5:Hid _:=HM3.out.below b5;have HG5:=hid (zaa HG3.out (zae b5));have HR5:=hid (HR3.out.low b5);clear b5 HM3 HG3 HR3 HZ3;obtain⟨n,ee,hn1,hn3⟩:∃ (n:ByteArray) (ee:Int),strV (valO (nxT ts p)) 200=.tuple #[.string n,.int .i64 ee]∧valT (nxT ts p)=n:=by
   unfold strV valT
   cases valO (nxT ts p) with
   | none=>exact⟨_,_,rfl,rfl⟩
   | some n=>exact⟨_,_,rfl,rfl⟩
  rw[hn1];rw[hn3] at HX2;obtain⟨hM6,b6,c2,z2⟩:=HM5.out.text n;have HP:Hid (PtP T w g st cap ts r (.returned (.pointer (some ⟨b,0,none⟩))) (W5.setCell ⟨b,1,none⟩ (.string n))):=zbi (za3 HG5.out b6) HX2.out hM6.fin (HR5.out.below hT b6);clear hM6 b6 HM5 HG5 HR5 HX2 hn1 hn3
  go_wp2
  go_ret
  exact HP.out
 have hk3':((nxT ts p).kind == 3)=false:=by rw[beq_eq_false_iff_ne];exact hk3
 have HX2:Hid _:=zbo hk3' HX1.out;clear HX1;have HEt:Hid _:=HE.out p [116,114,117,101];have HEf:Hid _:=HE.out p [102,97,108,115,101];obtain⟨bt,hbt⟩:∃ bt,isT ts p [116,114,117,101]=bt:=⟨_,rfl⟩;obtain⟨bf,hbf⟩:∃ bf,isT ts p [102,97,108,115,101]=bf:=⟨_,rfl⟩;rw[hbt] at HEt;rw[hbf] at HEf;rw[hbt,hbf] at HX2;clear HE
 cases bt
 ·cases bf
  ·have h1:((nxT ts p).text.toList == [116,114,117,101])=false:=HEt.out;have h2:((nxT ts p).text.toList == [102,97,108,115,101])=false:=HEf.out;have HX3:Hid _:=zbo rfl HX2.out;clear HX2 HEt HEf hbt hbf
   go_wp2_with (refine zef (by rfl) (.tmp 3) (.tmp 7) (by rfl) (t:=nxT ts p) (z:=tokZ) (by rfl) (by rfl) (heap_alloc_new _ _) ?_;refine zci (fun W=>Below W1.heap.size W1 W∧W.heap[W1.heap.size]?=some (.cells (nxT ts p).cells 38 (0,0))) ⟨zar ((Below.refl _ _).alloc (Nat.le_refl _) _) (Nat.le_refl _) _,zam (heap_alloc_new _ _)⟩ ?_;rintro W2 ⟨hB2,hz2⟩;have HB2:Hid (Below w.heap.size w W2):=HB1.out.trans (hB2.mono HB1.out.size);have HR2:Hid (Rdr T W2 g st cap ts p):=HR1.out.low hB2;have HZ2:Hid (W2.heap[W1.heap.size]?=some (.cells (nxT ts p).cells 38 (0,0))):=hz2;have k0:W2.cell? ⟨W1.heap.size,0,none⟩=some (.int .i64 (nxT ts p).kind):=(cell_of_row _ _ 0 _ _ _ hz2).trans rfl;have k1:W2.cell? ⟨W1.heap.size,1,none⟩=some (.string (nxT ts p).text):=(cell_of_row _ _ 1 _ _ _ hz2).trans rfl;clear hB2 hz2 HR1 HB1)
   refine(ze5 HR2.out).mono ?_;rintro e W3 ⟨rfl,b3⟩;have HP:Hid (PtP T w g st cap ts r (wroE (herI ts p)) W3):=zaj (zae (HB2.out.trans (b3.mono HB2.out.size))) HX3.out.symm;clear HX3 HR2 HB2 b3 HZ2
   go_wp2
   exact⟨rfl,HP.out⟩
  ·have hp:=zb5 hbf (by simp);have HX3:Hid _:=za8 rfl HX2.out;have h1:((nxT ts p).text.toList == [116,114,117,101])=false:=HEt.out;have h2:((nxT ts p).text.toList == [102,97,108,115,101])=true:=HEf.out;clear HX2 HEt HEf hbt hbf
   go_wp2_with (refine zef (by rfl) (.tmp 3) (.tmp 7) (by rfl) (t:=nxT ts p) (z:=tokZ) (by rfl) (by rfl) (heap_alloc_new _ _) ?_;refine zci (fun W=>Below W1.heap.size W1 W∧W.heap[W1.heap.size]?=some (.cells (nxT ts p).cells 38 (0,0))) ⟨zar ((Below.refl _ _).alloc (Nat.le_refl _) _) (Nat.le_refl _) _,zam (heap_alloc_new _ _)⟩ ?_;rintro W2 ⟨hB2,hz2⟩;have HB2:Hid (Below w.heap.size w W2):=HB1.out.trans (hB2.mono HB1.out.size);have HR2:Hid (Rdr T W2 g st cap ts p):=HR1.out.low hB2;have HZ2:Hid (W2.heap[W1.heap.size]?=some (.cells (nxT ts p).cells 38 (0,0))):=hz2;have k0:W2.cell? ⟨W1.heap.size,0,none⟩=some (.int .i64 (nxT ts p).kind):=(cell_of_row _ _ 0 _ _ _ hz2).trans rfl;have k1:W2.cell? ⟨W1.heap.size,1,none⟩=some (.string (nxT ts p).text):=(cell_of_row _ _ 1 _ _ _ hz2).trans rfl;clear hB2 hz2 HR1 HB1)
   refine(zey 22 HR2.out hp).mono ?_;rintro e W3 ⟨g3,b,v,rfl,hM,r3⟩;have HP:Hid (PtP T w g st cap ts r (.returned (.pointer (some ⟨b,0,none⟩))) W3):=zbi (zaa (zae HB2.out) g3) HX3.out (hM.mono HB2.out.size).fin r3;clear HX3 HR2 HB2 hM g3 r3 HZ2
   go_wp2
   go_ret
   exact HP.out
 ·have hp:=zb5 hbt (by simp);have HX3:Hid _:=za8 rfl HX2.out;have h1:((nxT ts p).text.toList == [116,114,117,101])=true:=HEt.out;clear HX2 HEt HEf hbt hbf
  go_wp2_with (refine zef (by rfl) (.tmp 3) (.tmp 7) (by rfl) (t:=nxT ts p) (z:=tokZ) (by rfl) (by rfl) (heap_alloc_new _ _) ?_;refine zci (fun W=>Below W1.heap.size W1 W∧W.heap[W1.heap.size]?=some (.cells (nxT ts p).cells 38 (0,0))) ⟨zar ((Below.refl _ _).alloc (Nat.le_refl _) _) (Nat.le_refl _) _,zam (heap_alloc_new _ _)⟩ ?_;rintro W2 ⟨hB2,hz2⟩;have HB2:Hid (Below w.heap.size w W2):=HB1.out.trans (hB2.mono HB1.out.size);have HR2:Hid (Rdr T W2 g st cap ts p):=HR1.out.low hB2;have HZ2:Hid (W2.heap[W1.heap.size]?=some (.cells (nxT ts p).cells 38 (0,0))):=hz2;have k0:W2.cell? ⟨W1.heap.size,0,none⟩=some (.int .i64 (nxT ts p).kind):=(cell_of_row _ _ 0 _ _ _ hz2).trans rfl;have k1:W2.cell? ⟨W1.heap.size,1,none⟩=some (.string (nxT ts p).text):=(cell_of_row _ _ 1 _ _ _ hz2).trans rfl;clear hB2 hz2 HR1 HB1)
  refine(zey 22 HR2.out hp).mono ?_;rintro e W3 ⟨g3,b,v,rfl,hM,r3⟩;have HP:Hid (PtP T w g st cap ts r (.returned (.pointer (some ⟨b,0,none⟩))) W3):=zbi (zaa (zae HB2.out) g3) HX3.out (hM.mono HB2.out.size).fin r3;clear HX3 HR2 HB2 hM g3 r3 HZ2
  go_wp2
  go_ret
  exact HP.out
theorem zpt (hR:Rdr T w g st cap ts p):Calls Tryz.prog 172 #[.pointer (some ⟨g,0,none⟩)] w (PtP T w g st cap ts (valP ts p)):=by
 have HR0:=hid hR;have hT:=hR.hT;have hgT:=hR.hg;have HG0:Hid (w.grownBy w (some g)):=zb0 _ _;clear hR;obtain⟨r,hX⟩:∃ r,valP ts p=r:=⟨_,rfl⟩;rw[hX];have HX0:=hid hX;clear hX;unfold valP at HX0
 go_enter Tryz.func172,Tryz.ntmps172
 have hfd:∀ (a b c:Value) (W:World),(Instr.field 38 (.agg #[a,b,c]) 0).run Tryz.prog W=.ok a W:=fun _ _ _ _=>rfl
 go_wp2_with fail
 refine(zen ⟨#[45]⟩ HR0.out).mono ?_;rintro e W1 ⟨rfl,b1⟩;have HR1:=hid (HR0.out.low b1);have HG1:Hid (w.grownBy W1 (some g)):=zae b1;clear b1 HR0 HG0;obtain⟨bb,hb⟩:∃ bb,isT ts p [45]=bb:=⟨_,rfl⟩;rw[show isT ts p (⟨#[45]⟩:ByteArray).data.toList=bb from hb];rw[hb] at HX0
 cases bb
 ·have HX1:Hid _:=zbo rfl HX0.out;clear HX0 hb
  go_wp2_with fail
  refine((zfm HR1.out).mono fun e W h=>PtP.from HG1.out h).mono ?_;rintro e W2 hP;rw[HX1.out] at hP;have HP:=hid hP;rcases r with⟨t3,q3⟩ | s3|_
  ·obtain⟨-,b3,rfl,-⟩:=hP;clear HX1 HR1 HG1
   go_wp2
   go_ret
   exact HP.out
  ·obtain⟨-,hm'⟩:=hP;have hm2:e=wroE s3:=hm';subst hm2;clear hm' HX1 HR1 HG1;unfold wroE at HP ⊢
   go_wp2
   exact⟨rfl,HP.out⟩
  ·exact hP.2.elim
 have HX1:Hid _:=za8 rfl HX0.out;have hp:=zb5 hb (by simp);clear HX0 hb
 go_wp2_with fail
 refine(zbh 26 HR1.out).mono ?_;rintro e W11 ⟨bk11,rfl,hM,b1⟩;have HM11:Hid (Mk w.heap.size W11 bk11 26 ⟨#[]⟩ 0 (herI ts p) (herI ts p) 0 (.slice none 0 0) []):=hM.mono HG1.out.size;have HG11:=hid (zaa HG1.out (zae b1));have HR11:=hid (HR1.out.low b1);clear hM b1 HG1 HR1
 go_wp2_with fail
 refine(zff HR11.out hp).mono ?_;rintro e W12 ⟨rfl,g1,r1⟩;have HG13:=hid (zaa HG11.out g1);have HM13:=hid (HM11.out.grow (Nat.lt_of_lt_of_le hgT hT) g1);have HR12:Hid (Rdr T W12 g st cap ts (p+1)):=r1;clear g1 r1 HR11 HG11 HM11
 go_wp2_with fail
 refine(zcu (nxT ts p) HM13.out).mono ?_;rintro e W14 ⟨rfl,hM,b1⟩;have HM14:=hid hM;have HG15:=hid (za3 HG13.out b1);have HR15:=hid (HR12.out.below hT b1);clear hM b1 HM13 HG13 HR12
 go_wp2_with fail
 refine(zde HR15.out).mono ?_;rintro e Wn ⟨rfl,bn⟩;have HRn:=hid (HR15.out.low bn);have HGn:=hid (zaa HG15.out (zae bn));have HMn:=hid (HM14.out.below bn);clear bn HR15 HG15 HM14;unfold Tok.cells;obtain⟨bb,hb⟩:∃ bb,((nxT ts (p+1)).kind == 2)=bb:=⟨_,rfl⟩;rw[hb] at HX1
 cases bb
 ·have hne:¬ (nxT ts (p+1)).kind=2:=by rw[beq_eq_false_iff_ne] at hb;exact hb
  have hne':((nxT ts (p+1)).kind != 2)=true:=by rw[bne,hb];rfl
  have HX2:Hid _:=zbo rfl HX1.out;clear HX1 hb
  go_wp2_with fail
  refine(ze5 HRn.out).mono ?_;rintro e W3 ⟨rfl,b3⟩;have HP:Hid (PtP T w g st cap ts r (wroE (herI ts (p+1))) W3):=zaj (zaa HGn.out (zae b3)) HX2.out.symm;clear HX2 HRn HGn b3 HMn
  go_wp2
  exact⟨rfl,HP.out⟩
 have heq:(nxT ts (p+1)).kind=2:=by rw[beq_iff_eq] at hb;exact hb
 have hne':((nxT ts (p+1)).kind != 2)=false:=by rw[bne,hb];rfl
 have HX2:Hid _:=za8 rfl HX1.out;clear HX1 hb;have HL16:Hid ((bk11<Wn.heap.size∧∀ q,((.slice none 0 0):Value).ownBlock=some q->q<Wn.heap.size)∧w.heap.size<=Wn.heap.size∧g<Wn.heap.size):=⟨HMn.out.at,HGn.out.size,HRn.out.lt⟩
 go_wp2_with fail
 refine(zfm HRn.out).mono ?_;rintro e W16 ⟨g1,hm⟩;rcases hx:va1P ts (p+1) with⟨t16,q16⟩ | s16|_
 rotate_left
 ·rw[hx] at hm;have hm':e=wroE s16:=hm;subst hm';have HP:Hid (PtP T w g st cap ts r (wroE (s16)) W16):=zaj (zaa HGn.out g1) (zak hx HX2.out);clear HGn HRn HX2 HMn HL16;unfold wroE
  go_wp2
  exact⟨rfl,HP.out⟩
 ·rw[hx] at hm;exact hm.elim
 rw[hx] at hm;obtain⟨bk16,rfl,hpt,r1⟩:=hm;have HX16:Hid _:=za0 hx HX2.out;have hsz16:=g1.size;have HG17:=hid (zaa HGn.out g1);have HM17:=hid (HMn.out.grow (Nat.lt_of_lt_of_le hgT hT) g1);have HK16:=hid hpt;have HR16:Hid (Rdr T W16 g st cap ts q16):=r1;clear g1 r1 hpt hx HX2 HRn HGn HMn
 try clear heq hne'
 go_wp2_with fail
 refine zag (fun W=>Below W16.heap.size W16 W∧W.heap[W16.heap.size]?=some (.cells #[.pointer (some ⟨bk16,0,none⟩)] 112 (0,0))) ⟨(Below.refl _ _).alloc (Nat.le_refl _) _,heap_alloc_new _ _⟩ ?_;rintro Wa18 ⟨ba,ra⟩;refine(za4 (bs2:=[bk16]) (l2:=[t16]) (S2:=fun j=>Wn.heap.size<=j∧j<W16.heap.size) (HR16.out.low ba) hT (HM17.out.below ba) (zao ra) (fun h=>by cases h) (PsAt.one (HK16.out.low (Nat.le_refl _) ba)) (zb7 HL16.out.1 HL16.out.2.1 ba.size) (by simp)).mono ?_;rintro e W18 ⟨rfl,⟨v18,hM⟩,b1⟩;have HM18:=hid hM;have HGa18:=hid (zaa HG17.out (zae ba));have HRa18:=hid (HR16.out.low ba);have HG19:=hid (za3 HGa18.out b1);have HR19:=hid (HRa18.out.below hT b1);clear hM b1 ba ra HM17 HL16 HG17 HR16 HGa18 HRa18 HK16
 go_wp2
 go_ret
 exact zbi HG19.out HX16.out HM18.out.fin HR19.out
theorem zj2 (hR:Rdr T w g st cap ts p):Calls Tryz.prog 139 #[.pointer (some ⟨g,0,none⟩)] w (PtP T w g st cap ts (conP ts p)):=by
 have HR0:=hid hR;have hT:=hR.hT;have hgT:=hR.hg;have HG0:Hid (w.grownBy w (some g)):=zb0 _ _;clear hR;obtain⟨r,hX⟩:∃ r,conP ts p=r:=⟨_,rfl⟩;rw[hX];have HX0:=hid hX;clear hX;unfold conP at HX0
 go_enter Tryz.func139,Tryz.ntmps139
 go_wp2_with fail
 refine(zbh 3 HR0.out).mono ?_;rintro e W1 ⟨bk1,rfl,hM,b1⟩;have HM1:Hid (Mk w.heap.size W1 bk1 3 ⟨#[]⟩ 0 (herI ts p) (herI ts p) 0 (.slice none 0 0) []):=hM.mono HG0.out.size;have HG1:=hid (zaa HG0.out (zae b1));have HR1:=hid (HR0.out.low b1);clear hM b1 HG0 HR0
 go_wp2_with fail
 refine(zba ⟨#[99,111,110,115,116]⟩ (by simp) HR1.out).mono ?_;rintro e W2 ⟨g1,hm0⟩;have hm:(if isT ts p [99,111,110,115,116] then e=.returned (.tuple #[])∧Rdr T W2 g st cap ts (p+1) else e=wroE (herI ts p)):=hm0;clear hm0;obtain⟨bb,hb⟩:∃ bb,isT ts p [99,111,110,115,116]=bb:=⟨_,rfl⟩;rw[hb] at hm
 cases bb
 ·simp only[Bool.false_eq_true,if_false] at hm;subst hm;have HP:Hid (PtP T w g st cap ts r (wroE (herI ts p)) W2):=zaj (zaa HG1.out g1) (zdg hb HX0.out);clear HG1 HR1 HX0 HM1;unfold wroE
  go_wp2
  exact⟨rfl,HP.out⟩
 simp only[if_true] at hm;obtain⟨rfl,r1⟩:=hm;have HX2:Hid _:=zcl hb HX0.out;have HG3:=hid (zaa HG1.out g1);have HM3:=hid (HM1.out.grow (Nat.lt_of_lt_of_le hgT hT) g1);have HR2:Hid (Rdr T W2 g st cap ts (p+1)):=r1;clear g1 r1 hb HX0 HR1 HG1 HM1
 go_wp2_with fail
 refine(zdf HR2.out).mono ?_;rintro e W4 ⟨g1,hm⟩;obtain⟨bb,hb⟩:∃ bb,namB ts (p+1)=bb:=⟨_,rfl⟩;rw[hb] at hm
 cases bb
 ·simp only[Bool.false_eq_true,if_false] at hm;subst hm;have HP:Hid (PtP T w g st cap ts r (wroE (herI ts (p+1))) W4):=zaj (zaa HG3.out g1) (ze6 hb HX2.out);clear HG3 HR2 HX2 HM3;unfold wroE
  go_wp2
  exact⟨rfl,HP.out⟩
 simp only[if_true] at hm;obtain⟨rfl,r1⟩:=hm;have HX4:Hid _:=zd6 hb HX2.out;have HG5:=hid (zaa HG3.out g1);have HM5:=hid (HM3.out.grow (Nat.lt_of_lt_of_le hgT hT) g1);have HR4:Hid (Rdr T W4 g st cap ts ((p+1)+1)):=r1;clear g1 r1 hb HX2 HR2 HG3 HM3
 go_wp2_with fail
 refine(zcu (nxT ts (p+1)) HM5.out).mono ?_;rintro e W6 ⟨rfl,hM,b1⟩;have HM6:=hid hM;have HG7:=hid (za3 HG5.out b1);have HR7:=hid (HR4.out.below hT b1);clear hM b1 HM5 HG5 HR4
 go_wp2_with fail
 refine(zba ⟨#[61]⟩ (by simp) HR7.out).mono ?_;rintro e W8 ⟨g1,hm0⟩;have hm:(if isT ts ((p+1)+1) [61] then e=.returned (.tuple #[])∧Rdr T W8 g st cap ts (((p+1)+1)+1) else e=wroE (herI ts ((p+1)+1))):=hm0;clear hm0;obtain⟨bb,hb⟩:∃ bb,isT ts ((p+1)+1) [61]=bb:=⟨_,rfl⟩;rw[hb] at hm
 cases bb
 ·simp only[Bool.false_eq_true,if_false] at hm;subst hm;have HP:Hid (PtP T w g st cap ts r (wroE (herI ts ((p+1)+1))) W8):=zaj (zaa HG7.out g1) (zdg hb HX4.out);clear HG7 HR7 HX4 HM6;unfold wroE
  go_wp2
  exact⟨rfl,HP.out⟩
 simp only[if_true] at hm;obtain⟨rfl,r1⟩:=hm;have HX8:Hid _:=zcl hb HX4.out;have HG9:=hid (zaa HG7.out g1);have HM9:=hid (HM6.out.grow (Nat.lt_of_lt_of_le hgT hT) g1);have HR8:Hid (Rdr T W8 g st cap ts (((p+1)+1)+1)):=r1;clear g1 r1 hb HX4 HR7 HG7 HM6;have HL10:Hid ((bk1<W8.heap.size∧∀ q,((.slice none 0 0):Value).ownBlock=some q->q<W8.heap.size)∧w.heap.size<=W8.heap.size∧g<W8.heap.size):=⟨HM9.out.at,HG9.out.size,HR8.out.lt⟩
 go_wp2_with fail
 refine(zpt HR8.out).mono ?_;rintro e W10 ⟨g1,hm⟩;rcases hx:valP ts (((p+1)+1)+1) with⟨t10,q10⟩ | s10|_
 rotate_left
 ·rw[hx] at hm;have hm':e=wroE s10:=hm;subst hm';have HP:Hid (PtP T w g st cap ts r (wroE (s10)) W10):=zaj (zaa HG9.out g1) (zak hx HX8.out);clear HG9 HR8 HX8 HM9 HL10;unfold wroE
  go_wp2
  exact⟨rfl,HP.out⟩
 ·rw[hx] at hm;exact hm.elim
 rw[hx] at hm;obtain⟨bk10,rfl,hpt,r1⟩:=hm;have HX10:Hid _:=za0 hx HX8.out;have hsz10:=g1.size;have HG11:=hid (zaa HG9.out g1);have HM11:=hid (HM9.out.grow (Nat.lt_of_lt_of_le hgT hT) g1);have HK10:=hid hpt;have HR10:Hid (Rdr T W10 g st cap ts q10):=r1;clear g1 r1 hpt hx HX8 HR8 HG9 HM9
 go_wp2_with fail
 refine zag (fun W=>Below W10.heap.size W10 W∧W.heap[W10.heap.size]?=some (.cells #[.pointer (some ⟨bk10,0,none⟩)] 112 (0,0))) ⟨(Below.refl _ _).alloc (Nat.le_refl _) _,heap_alloc_new _ _⟩ ?_;rintro Wa12 ⟨ba,ra⟩;refine(za4 (bs2:=[bk10]) (l2:=[t10]) (S2:=fun j=>W8.heap.size<=j∧j<W10.heap.size) (HR10.out.low ba) hT (HM11.out.below ba) (zao ra) (fun h=>by cases h) (PsAt.one (HK10.out.low (Nat.le_refl _) ba)) (zb7 HL10.out.1 HL10.out.2.1 ba.size) (by simp)).mono ?_;rintro e W12 ⟨rfl,⟨v12,hM⟩,b1⟩;have HM12:=hid hM;have HGa12:=hid (zaa HG11.out (zae ba));have HRa12:=hid (HR10.out.low ba);have HG13:=hid (za3 HGa12.out b1);have HR13:=hid (HRa12.out.below hT b1);clear hM b1 ba ra HM11 HL10 HG11 HR10 HGa12 HRa12 HK10
 go_wp2
 go_ret
 exact zbi HG13.out HX10.out HM12.out.fin HR13.out
theorem zj3 (hR:Rdr T w g st cap ts p):Calls Tryz.prog 109 #[.pointer (some ⟨g,0,none⟩)] w (PtP T w g st cap ts (impP ts p)):=by
 have HR0:=hid hR;have hT:=hR.hT;have hgT:=hR.hg;have HG0:Hid (w.grownBy w (some g)):=zb0 _ _;clear hR;obtain⟨r,hX⟩:∃ r,impP ts p=r:=⟨_,rfl⟩;rw[hX];have HX0:=hid hX;clear hX;unfold impP at HX0
 go_enter Tryz.func109,Tryz.ntmps109
 go_wp2_with fail
 refine(zbh 2 HR0.out).mono ?_;rintro e W1 ⟨bk1,rfl,hM,b1⟩;have HM1:Hid (Mk w.heap.size W1 bk1 2 ⟨#[]⟩ 0 (herI ts p) (herI ts p) 0 (.slice none 0 0) []):=hM.mono HG0.out.size;have HG1:=hid (zaa HG0.out (zae b1));have HR1:=hid (HR0.out.low b1);clear hM b1 HG0 HR0
 go_wp2_with fail
 refine(zba ⟨#[105,109,112,111,114,116]⟩ (by simp) HR1.out).mono ?_;rintro e W2 ⟨g1,hm0⟩;have hm:(if isT ts p [105,109,112,111,114,116] then e=.returned (.tuple #[])∧Rdr T W2 g st cap ts (p+1) else e=wroE (herI ts p)):=hm0;clear hm0;obtain⟨bb,hb⟩:∃ bb,isT ts p [105,109,112,111,114,116]=bb:=⟨_,rfl⟩;rw[hb] at hm
 cases bb
 ·simp only[Bool.false_eq_true,if_false] at hm;subst hm;have HP:Hid (PtP T w g st cap ts r (wroE (herI ts p)) W2):=zaj (zaa HG1.out g1) (zdg hb HX0.out);clear HG1 HR1 HX0 HM1;unfold wroE
  go_wp2
  exact⟨rfl,HP.out⟩
 simp only[if_true] at hm;obtain⟨rfl,r1⟩:=hm;have HX2:Hid _:=zcl hb HX0.out;have HG3:=hid (zaa HG1.out g1);have HM3:=hid (HM1.out.grow (Nat.lt_of_lt_of_le hgT hT) g1);have HR2:Hid (Rdr T W2 g st cap ts (p+1)):=r1;clear g1 r1 hb HX0 HR1 HG1 HM1
 go_wp2_with fail
 refine(zf3 3 (by decide) HR2.out).mono ?_;rintro e W4 ⟨g1,hm⟩;obtain⟨bb,hb⟩:∃ bb,((nxT ts (p+1)).kind == 3)=bb:=⟨_,rfl⟩;rw[hb] at hm
 cases bb
 ·simp only[Bool.false_eq_true,if_false] at hm;subst hm;have HP:Hid (PtP T w g st cap ts r (wroE (herI ts (p+1))) W4):=zaj (zaa HG3.out g1) (zk6 hb HX2.out);clear HG3 HR2 HX2 HM3;unfold wroE
  go_wp2
  exact⟨rfl,HP.out⟩
 simp only[if_true] at hm;obtain⟨rfl,r1⟩:=hm;have HX4:Hid _:=zht hb HX2.out;have HG5:=hid (zaa HG3.out g1);have HM5:=hid (HM3.out.grow (Nat.lt_of_lt_of_le hgT hT) g1);have HR4:Hid (Rdr T W4 g st cap ts ((p+1)+1)):=r1;clear g1 r1 hb HX2 HR2 HG3 HM3;obtain⟨-,-,htz⟩:=HR4.out.bound (p+1);have hbK:bk1<W4.heap.size:=HM5.out.lt;have hgK:g<W4.heap.size:=HR4.out.lt
 go_wp2_with (first
  | (refine zef (by rfl) (.tmp 4) (.tmp 10) (by rfl) (t:=nxT ts (p+1)) (z:=tokZ) (by rfl) (by rfl) (heap_alloc_new _ _) ?_;refine zci (fun W=>Below W4.heap.size W4 W∧W.heap[W4.heap.size]?=some (.cells (nxT ts (p+1)).cells 38 (0,0))) ⟨zar ((Below.refl _ _).alloc (Nat.le_refl _) _) (Nat.le_refl _) _,zam (heap_alloc_new _ _)⟩ ?_;rintro Wx ⟨hBx,hzx⟩;have HRx:Hid (Rdr T Wx g st cap ts ((p+1)+1)):=HR4.out.low hBx;have HGx:Hid (w.grownBy Wx (some g)):=zaa HG5.out (zae hBx);have HMx:Hid (Mk w.heap.size Wx bk1 2 ⟨#[]⟩ 0 (herI ts p) (herI ts p) 0 (.slice none 0 0) []):=HM5.out.below hBx;have HZx:Hid (Wx.heap[W4.heap.size]?=some (.cells (nxT ts (p+1)).cells 38 (0,0))):=hzx;clear hBx hzx HR4 HG5 HM5)
  | (refine zk4 (by rfl) (.tmp 4) (by rfl) (t:=nxT ts (p+1)) (by rfl) HZx.out ?_))
 refine(zf5 (nxT ts (p+1)) HMx.out).mono ?_;rintro e W6 ⟨rfl,hM,b1,ho⟩;have HM6:=hid hM;have HG7:=hid (za3 HGx.out b1);have HR7:=hid (HRx.out.below hT b1);have HZ6:Hid (W6.heap[W4.heap.size]?=some (.cells (nxT ts (p+1)).cells 38 (0,0))):=(ho _ (by omega) (zab HZx.out)).trans HZx.out;clear hM b1 ho HMx HZx HGx HRx
 go_wp2_with (refine zk4 (by rfl) (.tmp 4) (by rfl) (t:=nxT ts (p+1)) (by rfl) HZ6.out ?_)
 refine(zn5 (nxT ts (p+1)) W6 htz).mono ?_;rintro e Wv ⟨rfl,bv⟩;have HMv:=hid (HM6.out.below bv);have HGv:=hid (zaa HG7.out (zae bv));have HRv:=hid (HR7.out.low bv);clear bv HM6 HG7 HR7 HZ6;obtain⟨n,ee,hn1,hn3⟩:∃ (n:ByteArray) (ee:Int),strV (valO (nxT ts (p+1))) 200=.tuple #[.string n,.int .i64 ee]∧valT (nxT ts (p+1))=n:=by
  unfold strV valT
  cases valO (nxT ts (p+1)) with
  | none=>exact⟨_,_,rfl,rfl⟩
  | some n=>exact⟨_,_,rfl,rfl⟩
 rw[hn1];rw[hn3] at HX4;obtain⟨hM6,b6,c2,z2⟩:=HMv.out.text n;have HM6:Hid _:=hM6;have HB6:Hid _:=b6;clear hM6 b6 hn1 hn3
 go_wp2_with fail
 refine zag (fun W=>Mk w.heap.size W bk1 2 n 0 (nxT ts (p+1)).pos (herI ts p) 0 (.slice none 0 0) []∧w.grownBy W (some g)∧Rdr T W g st cap ts ((p+1)+1)) ⟨HM6.out,za3 HGv.out HB6.out,HRv.out.below hT HB6.out⟩ ?_;clear HM6 HB6 HMv HGv HRv c2 z2;rintro Wy ⟨hMy,hGy,hRy⟩;refine(za4 (bs2:=[]) (l2:=[]) (S2:=fun _=>False) hRy hT hMy RowsAt.none (fun _=>⟨rfl,rfl⟩) (PsAt.nil _ _) (fun _ h=>h.elim) (by simp)).mono ?_;rintro e Wz ⟨rfl,⟨vz,hMz⟩,bz⟩;have HP:Hid (PtP T w g st cap ts r (.returned (.pointer (some ⟨bk1,0,none⟩))) Wz):=zbi (za3 hGy bz) HX4.out hMz.fin (hRy.below hT bz);clear hMy hGy hRy hMz bz HX4
 go_wp2
 go_ret
 exact HP.out
end
structure Gth (w W:World) (v:Value) (l:List Pt):Prop where
 ex:∃ (bs:List Nat) (S:Nat->Prop),OwnP w.heap.size W v bs∧PsAt W S bs l∧∀ j,S j->w.heap.size<=j∧j<W.heap.size∧v.ownBlock≠some j
section
variable {w W W':World}{v:Value}{l:List Pt}{g:Nat}
theorem Gth.none (w W:World):Gth w W (.slice none 0 0) []:=⟨[],fun _=>False,zcy _ _,PsAt.nil _ _,fun _ h=>h.elim⟩
theorem Gth.grow (h:Gth w W v l)(hg:g<w.heap.size)(hw:W.grownBy W' (some g)):Gth w W' v l:=by
 obtain⟨bs,S,h1,h2,h3⟩:=h.ex;refine⟨bs,S,h1.keep fun q hq=>hw.block q (h1.lt hq).2 (fun e=>by injection e with e;have:=(h1.lt hq).1;omega),h2.keep (fun _ h=>h) fun j hj=>hw.block j (h3 j hj).2.1 (fun e=>by injection e with e;have:=(h3 j hj).1;omega),fun j hj=>?_⟩;obtain⟨a,b,c⟩:=h3 j hj;exact⟨a,Nat.lt_of_lt_of_le b hw.size,c⟩
theorem Gth.own (h:Gth w W v l){q:Nat}(hq:v.ownBlock=some q):q<W.heap.size:=by
 obtain⟨bs,S,h1,-⟩:=h.ex;exact(h1.lt hq).2
theorem Gth.first {b lo:Nat}{t:Pt}(h:PtAt W (fun j=>lo<=j∧j<W.heap.size) b t)(hlo:w.heap.size<=lo)(hw:w.heap.size<=W.heap.size):Gth w (W.alloc (.cells #[.pointer (some ⟨b,0,Option.none⟩)] 112)) (.slice (some ⟨W.heap.size,0,Option.none⟩) 1 1) [t]:=by
 refine⟨[b],fun j=>lo<=j∧j<W.heap.size,⟨rfl,.inr ⟨W.heap.size,1,_,rfl,hw,heap_alloc_new _ _,Nat.le_refl _,by decide,rfl,rfl⟩⟩,PsAt.one (h.keep (fun _ h=>h) fun j hj=>Below.heap_alloc _ _ _ hj.2),fun j hj=>⟨by omega,by simp;omega,fun e=>?_⟩⟩;have e':W.heap.size=j:=by injection e
 omega
theorem Gth.add {b lo:Nat}{t:Pt}(h:Gth w W v l)(hk:PtAt W (fun j=>lo<=j∧j<W.heap.size) b t)(hlo:w.heap.size<=lo)(hv:∀ q,v.ownBlock=some q->q<lo)(hw:w.heap.size<=W.heap.size)(hl:l.length+1<=1000000) :
  ∃ s0 n0 c0 s1 n1 c1 W2,v=.slice s0 n0 c0∧(Builtin.append_ #[139,139] 139 #[v,.slice (some ⟨W.heap.size,0,Option.none⟩) 1 1]).run Tryz.prog (W.alloc (.cells #[.pointer (some ⟨b,0,Option.none⟩)] 112))=.ok (.slice s1 n1 c1) W2 ∧
   Gth w W2 (.slice s1 n1 c1) (l++[t])∧Below w.heap.size W W2:=by
 obtain⟨bs,S,h1,h2,h3⟩:=h.ex;obtain⟨s0,c0,rfl⟩:=OwnG.shape h1;have hb:Below W.heap.size W (W.alloc (.cells #[.pointer (some ⟨b,0,Option.none⟩)] 112)):=(Below.refl _ _).alloc (Nat.le_refl _) _;have hrow:=heap_alloc_new W (.cells #[.pointer (some ⟨b,0,Option.none⟩)] 112);have hsz:(W.alloc (.cells #[.pointer (some ⟨b,0,Option.none⟩)] 112)).heap.size=W.heap.size+1:=by simp
 generalize W.alloc (.cells #[.pointer (some ⟨b,0,Option.none⟩)] 112)=X at hb hrow hsz ⊢;have k1:OwnP w.heap.size X (.slice s0 bs.length c0) bs:=h1.below hb;obtain⟨v',W2,hrun,ho,hg,hq⟩:=zdm (ys:=[b]) (cap:=1) elP 139 k1 (fun e=>by cases e) (zao hrow) (by rw[h2.1];exact hl) (by omega);obtain⟨s1,c1,rfl⟩:=OwnG.shape ho;have hne:∀ j,j<W.heap.size->(Value.slice s0 bs.length c0).ownBlock≠some j->W2.heap[j]?=W.heap[j]?:=fun j hj hn=>(hg.block j (by omega) fun e=>hn e.symm).trans (hb.block j hj);have hnew:∀ j,j<W.heap.size->(Value.slice s0 bs.length c0).ownBlock≠some j->(Value.slice s1 (bs++[b]).length c1).ownBlock≠some j:=fun j hj hn e=>by
  rcases hq with hq|hq
  ·exact hn (hq.symm.trans e)
  ·rw[hq] at e;injection e with e;omega
 have hkv:∀ j,(lo<=j∧j<W.heap.size)->(Value.slice s0 bs.length c0).ownBlock≠some j:=fun j hj e=>by have:=hv j e;omega
 have hle:=hg.size;refine⟨s0,_,c0,s1,_,c1,W2,rfl,hrun,⟨bs++[b],fun j=>S j∨(lo<=j∧j<W.heap.size),ho,PsAt.app (h2.keep (fun _ h=>.inl h) fun j hj=>hne j (h3 j hj).2.1 (h3 j hj).2.2) (PsAt.one (hk.keep (fun _ h=>.inr h) fun j hj=>hne j hj.2 (hkv j hj))),?_⟩,?_⟩
 ·rintro j (hj|hj)
  ·obtain⟨q1,q2,q3⟩:=h3 j hj;exact⟨q1,by omega,hnew j q2 q3⟩
  ·exact⟨by omega,by omega,hnew j hj.2 (hkv j hj)⟩
 ·exact⟨hg.os.trans hb.os,hg.tape.trans hb.tape,hg.output.trans hb.output,by omega,fun j hj=>hne j (by omega) fun e=>by have:=(h1.lt e).1;omega⟩
theorem Gth.rows (h:Gth w W v l):∃ bs sp cp,v=.slice sp bs.length cp∧RowsP W sp bs∧(sp=Option.none->bs.length=0∧cp=0)∧PsAt W (fun j=>w.heap.size<=j∧j<W.heap.size) bs l:=by
 obtain⟨bs,S,h1,h2,h3⟩:=h.ex;obtain⟨sp,cp,rfl,hr,hn,-⟩:=OwnG.rows elP h1;exact⟨bs,sp,cp,rfl,hr,hn,h2.keep (fun j hj=>⟨(h3 j hj).1,(h3 j hj).2.1⟩) fun _ _=>rfl⟩
end
def LsP (T:Nat) (w:World) (g:Nat) (st:Option Addr) (cap:Nat) (ts:List Tok) (r:Rs (List Pt)) (e:Ending) (w':World):Prop :=
 w.grownBy w' (some g)∧match r with
 | .ok l q=>∃ bs sp cp,e=.returned (.slice sp bs.length cp)∧RowsP w' sp bs∧(sp=none->bs.length=0∧cp=0)∧PsAt w' (fun j=>w.heap.size<=j∧j<w'.heap.size) bs l∧l.length<=q∧Rdr T w' g st cap ts q
 | .bad s=>e=wroE s
 | .out=>False
theorem ze7 {T:Nat}{w W:World}{g:Nat}{st:Option Addr}{cap:Nat}{ts:List Tok}{r:Rs (List Pt)}{s:Int}(hG:w.grownBy W (some g))(hr:r=.bad s):LsP T w g st cap ts r (wroE s) W:=by subst hr;exact⟨hG,rfl⟩
theorem zrr {T:Nat}{w W:World}{g:Nat}{st:Option Addr}{cap:Nat}{ts:List Tok}{r:Rs (List Pt)}{l:List Pt}{q:Nat}{v:Value}(hG:w.grownBy W (some g))(hr:Rs.ok l q=r)(h:Gth w W v l)(hl:l.length<=q)(hR:Rdr T W g st cap ts q):LsP T w g st cap ts r (.returned v) W:=by
 subst hr;obtain⟨bs,sp,cp,rfl,h1,h2,h3⟩:=h.rows;exact⟨hG,bs,sp,cp,rfl,h1,h2,h3,hl,hR⟩
def posW (g:Nat) (w:World):Nat:=match w.cell? ⟨g,1,none⟩ with
 | some (.int _ n)=>n.toNat
 | _=>0
theorem Rdr.pos {T:Nat}{w:World}{g:Nat}{st:Option Addr}{cap:Nat}{ts:List Tok}{p:Nat}(h:Rdr T w g st cap ts p):posW g w=p:=by unfold posW;rw[h.c1];rfl
structure Rnd (ts:List Tok) (T:Nat) (g:Nat) (st:Option Addr) (cap:Nat) (F:Nat) (on:Nat->Nat->Rs Pt) (n k:Nat):Prop where
 call:∀ m,m<=n->∀ (W:World) (q:Nat),Rdr T W g st cap ts q->on m q≠.out->Calls Tryz.prog F #[.pointer (some ⟨g,0,none⟩)] W (PtP T W g st cap ts (on m q))
 adv:∀ m p t q,on m p=.ok t q->p+k<=q
theorem zj4 {T:Nat}{w:World}{g:Nat}{st:Option Addr}{cap:Nat}{ts:List Tok}{p:Nat}(F:Nat)(on:Nat->Nat->Rs Pt)(mor:Nat->List Pt->Nat->Rs (List Pt))(n:Nat)
  (h0:∀ l q,mor 0 l q=.out) (h1:∀ m l q,mor (m+1) l q=if isT ts q [44] then(on m (q+1)).bind fun t q=>mor m (l++[t]) q else .ok l q) (hF:Rnd ts T g st cap F on n 0) (hcf:∀ args W,(callFunc F args).run Tryz.prog W=.ok (.enter F args) W)
  (hR:Rdr T w g st cap ts p) (ho:lisP ts (on n) (mor n) p≠.out):Calls Tryz.prog 179 #[.pointer (some ⟨g,0,none⟩),.func (Fn.func F) #[.pointer (some ⟨g,0,none⟩)] #[]] w (LsP T w g st cap ts (lisP ts (on n) (mor n) p)):=by
 have HF:=hid hF;have HM0:=hid h0;have HM1:=hid h1;have HR0:=hid hR;have hT:=hR.hT;have hgT:=hR.hg;have hfe:=hR.few;obtain⟨r,hX⟩:∃ r,lisP ts (on n) (mor n) p=r:=⟨_,rfl⟩;rw[hX] at ho ⊢;have HX0:=hid hX;have HO:=hid ho;clear hX hR h0 h1 hF ho;unfold lisP at HX0
 go_enter Tryz.func179,Tryz.ntmps179
 go_wp2_with fail
 refine(zba ⟨#[40]⟩ (by simp) HR0.out).mono ?_;rintro e W1 ⟨g1,hm0⟩;have hm:(if isT ts p [40] then e=.returned (.tuple #[])∧Rdr T W1 g st cap ts (p+1) else e=wroE (herI ts p)):=hm0;clear hm0;obtain⟨bb,hb⟩:∃ bb,isT ts p [40]=bb:=⟨_,rfl⟩;rw[hb] at hm
 cases bb
 ·simp only[Bool.false_eq_true,if_false] at hm;subst hm;have HP:Hid (LsP T w g st cap ts r (wroE (herI ts p)) W1):=ze7 g1 (zdg hb HX0.out);clear HX0 HR0 HF HM0 HM1 HO;unfold wroE
  go_wp2
  exact⟨rfl,HP.out⟩
 simp only[if_true] at hm;obtain⟨rfl,r1⟩:=hm;have HX1:Hid _:=zcl hb HX0.out;have HG1:Hid (w.grownBy W1 (some g)):=g1;have HR1:Hid (Rdr T W1 g st cap ts (p+1)):=r1;clear hb g1 r1 HX0 HR0
 go_wp2_with fail
 refine(zeg ⟨#[41]⟩ (by simp) HR1.out).mono ?_;rintro e W2 ⟨he,g2,r2⟩;obtain⟨bb,hb⟩:∃ bb,isT ts (p+1) [41]=bb:=⟨_,rfl⟩;rw[show isT ts (p+1) (⟨#[41]⟩:ByteArray).data.toList=bb from hb] at he r2;subst he;have HG2:=hid (zaa HG1.out g2);rw[hb] at HX1
 cases bb
 rotate_left
 ·have HP:Hid (LsP T w g st cap ts r (.returned (.slice none 0 0)) W2):=zrr HG2.out (za8 rfl HX1.out) (Gth.none w W2) (Nat.zero_le _) r2;clear HX1 HG1 HR1 HF HM0 HM1 HO g2 r2 HG2
  go_wp2
  go_ret
  exact HP.out
 have HX2:Hid _:=zbo rfl HX1.out;have HR2:Hid (Rdr T W2 g st cap ts (p+1)):=r2;clear HX1 HG1 HR1 g2 r2 hb
 go_wp2_with fail
 refine(HF.out.call n (Nat.le_refl _) W2 _ HR2.out (zau HX2.out HO.out)).mono ?_;rintro e W3 ⟨g3,hm⟩;rcases hx:on n (p+1) with⟨t3,q3⟩ | s3|_
 rotate_left
 ·rw[hx] at hm;have hm':e=wroE s3:=hm;subst hm';have HP:Hid (LsP T w g st cap ts r (wroE s3) W3):=ze7 (zaa HG2.out g3) (zak hx HX2.out);clear HX2 HR2 HF HM0 HM1 HO HG2;unfold wroE
  go_wp2
  exact⟨rfl,HP.out⟩
 ·rw[hx] at hm;exact hm.elim
 rw[hx] at hm;obtain⟨b3,rfl,hpt,r3⟩:=hm;have hq3:=HF.out.adv _ _ _ _ hx;have HX3:Hid _:=za0 hx HX2.out;have HG3:=hid (zaa HG2.out g3);have HT3:Hid (Gth w (W3.alloc (.cells #[.pointer (some ⟨b3,0,none⟩)] 112)) (.slice (some ⟨W3.heap.size,0,none⟩) 1 1) [t3]):=Gth.first hpt HG2.out.size HG3.out.size;have HR3:Hid (Rdr T W3 g st cap ts q3):=r3;clear g3 hpt r3 HX2 HR2 HG2 hx;obtain⟨rm,hrm⟩:∃ rm,mor n [t3] q3=rm:=⟨_,rfl⟩;have HRM:Hid ((rm.bind fun l q=>expP ts [41] q fun q=>.ok l q)=r):=by show _=_;rw[<-hrm];exact HX3.out
 have HRN:=hid hrm;have HOM:Hid (rm≠.out):=zau HRM.out HO.out;clear hrm HX3 HO
 go_wp2
 go_loopw [5] (fun v wr=>∃ (l:List Pt) (q m:Nat),Gth w wr v l∧w.grownBy wr (some g)∧Rdr T wr g st cap ts q∧mor m l q=rm∧m<=n∧l.length<=q) (fun _ wr=>ts.length - posW g wr)
 case atStart=>exact⟨[t3],q3,n,HT3.out,zaa HG3.out (zae ((Below.refl _ _).alloc (Nat.le_refl _) _)),HR3.out.low ((Below.refl _ _).alloc (Nat.le_refl _) _),HRN.out,Nat.le_refl _,by simp;omega⟩
 case round=>
  obtain⟨l,q,m,hGt,hG,hR,hm,hmn,hlq⟩:=hrel;have HGT:=hid hGt;have HG:=hid hG;have HR:=hid hR;have HMM:=hid hm;have hle:=hR.le;clear hGt hG hR hm HT3 HR3 HRN HG3 hq3
  cases m with
  | zero=>exact(HOM.out (by rw[<-HMM.out,HM0.out])).elim
  | succ m=>
  have HPQ:Hid (posW g wr=q):=HR.out.pos
  go_wp2_with fail
  refine(zeg ⟨#[44]⟩ (by simp) HR.out).mono ?_;rintro e W4 ⟨he,g4,r4⟩;obtain⟨bb,hb⟩:∃ bb,isT ts q [44]=bb:=⟨_,rfl⟩;rw[show isT ts q (⟨#[44]⟩:ByteArray).data.toList=bb from hb] at he r4;subst he;have HG4:=hid (zaa HG.out g4);have HGT4:=hid (HGT.out.grow (Nat.lt_of_lt_of_le hgT hT) g4);have HX4:Hid ((if bb then(on m (q+1)).bind fun t q=>mor m (l++[t]) q else .ok l q)=rm):=by show _=_;rw[<-hb,<-HM1.out];exact HMM.out
  clear HGT HG HR HMM g4
  cases bb
  ·have HX5:Hid (expP ts [41] q (fun q=>Rs.ok l q)=r):=by
    show _=_;have h:=HRM.out;rw[<-(zbo rfl HX4.out:Rs.ok l q=rm)] at h;exact h
   have HR4:Hid (Rdr T W4 g st cap ts q):=r4;clear HX4 r4 hb HRM HOM HM1 HM0 HF
   go_wp2_with fail
   refine(zba ⟨#[41]⟩ (by simp) HR4.out).mono ?_;rintro e W5 ⟨g5,hm0⟩;have hm:(if isT ts q [41] then e=.returned (.tuple #[])∧Rdr T W5 g st cap ts (q+1) else e=wroE (herI ts q)):=hm0;clear hm0;obtain⟨bb,hb⟩:∃ bb,isT ts q [41]=bb:=⟨_,rfl⟩;rw[hb] at hm
   cases bb
   ·simp only[Bool.false_eq_true,if_false] at hm;subst hm;have HP:Hid (LsP T w g st cap ts r (wroE (herI ts q)) W5):=ze7 (zaa HG4.out g5) (zdg hb HX5.out);clear HX5 HR4 HG4 HGT4;unfold wroE
    go_wp2
    exact⟨rfl,HP.out⟩
   simp only[if_true] at hm;obtain⟨rfl,r5⟩:=hm;have HP:Hid (LsP T w g st cap ts r (.returned u5) W5):=zrr (zaa HG4.out g5) (zcl hb HX5.out) (HGT4.out.grow (Nat.lt_of_lt_of_le hgT hT) g5) (by omega) r5;clear HX5 HR4 HG4 HGT4 g5 r5 hb
   go_wp2
   go_ret
   exact HP.out
  have HX5:Hid _:=za8 rfl HX4.out;have HR4:Hid (Rdr T W4 g st cap ts (q+1)):=r4;clear HX4 r4 hb HM1 HM0
  go_wp2_with fail
  refine(HF.out.call m (by omega) W4 _ HR4.out (zau HX5.out HOM.out)).mono ?_;rintro e W5 ⟨g5,hm⟩;rcases hx:on m (q+1) with⟨t5,q5⟩ | s5|_
  rotate_left
  ·rw[hx] at hm;have hm':e=wroE s5:=hm;subst hm';have HP:Hid (LsP T w g st cap ts r (wroE s5) W5):=ze7 (zaa HG4.out g5) (zak (zak hx HX5.out) HRM.out);clear HX5 HR4 HF HOM HG4 HGT4;unfold wroE
   go_wp2
   exact⟨rfl,HP.out⟩
  ·rw[hx] at hm;exact hm.elim
  rw[hx] at hm;obtain⟨b5,rfl,hpt,r5⟩:=hm;have hq5:=HF.out.adv _ _ _ _ hx;have HX6:Hid _:=za0 hx HX5.out;have HG5:=hid (zaa HG4.out g5);obtain⟨s0,n0,c0,s1,n1,c1,W6,rfl,hrun,hG6,b6⟩:=(HGT4.out.grow (Nat.lt_of_lt_of_le hgT hT) g5).add hpt HG4.out.size (fun _ h=>HGT4.out.own h) HG5.out.size (by have:=r5.le;omega);have HGT6:Hid _:=hG6;have HG6:=hid (za3 HG5.out b6);have HR6:Hid (Rdr T W6 g st cap ts q5):=r5.below hT b6;have hle5:=r5.le;clear g5 hpt r5 hx HX5 hG6 b6 HG5 HR4 HGT4 HG4
  go_wp2_with (refine za2 (.tmp 15) (.tmp 18) 139 (by rfl) (by rfl) (by rfl) (by rfl) hrun ?_)
  exact⟨⟨l++[t5],q5,m,HGT6.out,HG6.out,HR6.out,HX6.out,by omega,by simp;omega⟩,by rw[HR6.out.pos,HPQ.out];omega⟩
theorem zk7 {T:Nat}{w:World}{g:Nat}{st:Option Addr}{cap:Nat}{ts:List Tok}{p:Nat}(F:Nat)(on:Nat->Nat->Rs Pt)(mor:Nat->List Pt->Nat->Rs (List Pt))(n:Nat)
  (h0:∀ l q,mor 0 l q=.out) (h1:∀ m l q,mor (m+1) l q=if isT ts q [125] then .ok l q else(on m q).bind fun t q=>if isT ts q [125] then mor m (l++[t]) q else kinP ts 5 q fun _ q=>mor m (l++[t]) q) (hF:Rnd ts T g st cap F on n 1) (hcf:∀ args W,(callFunc F args).run Tryz.prog W=.ok (.enter F args) W)
  (hR:Rdr T w g st cap ts p) (ho:linP ts (mor n) p≠.out):Calls Tryz.prog 176 #[.pointer (some ⟨g,0,none⟩),.func (Fn.func F) #[.pointer (some ⟨g,0,none⟩)] #[]] w (LsP T w g st cap ts (linP ts (mor n) p)):=by
 have HF:=hid hF;have HM0:=hid h0;have HM1:=hid h1;have HR0:=hid hR;have hT:=hR.hT;have hgT:=hR.hg;have hfe:=hR.few;obtain⟨r,hX⟩:∃ r,linP ts (mor n) p=r:=⟨_,rfl⟩;rw[hX] at ho ⊢;have HX0:=hid hX;have HO:=hid ho;clear hX hR h0 h1 hF ho;unfold linP at HX0
 go_enter Tryz.func176,Tryz.ntmps176
 go_wp2_with fail
 refine(zba ⟨#[123]⟩ (by simp) HR0.out).mono ?_;rintro e W1 ⟨g1,hm0⟩;have hm:(if isT ts p [123] then e=.returned (.tuple #[])∧Rdr T W1 g st cap ts (p+1) else e=wroE (herI ts p)):=hm0;clear hm0;obtain⟨bb,hb⟩:∃ bb,isT ts p [123]=bb:=⟨_,rfl⟩;rw[hb] at hm
 cases bb
 ·simp only[Bool.false_eq_true,if_false] at hm;subst hm;have HP:Hid (LsP T w g st cap ts r (wroE (herI ts p)) W1):=ze7 g1 (zdg hb HX0.out);clear HX0 HR0 HF HM0 HM1 HO;unfold wroE
  go_wp2
  exact⟨rfl,HP.out⟩
 simp only[if_true] at hm;obtain⟨rfl,r1⟩:=hm;have HX1:Hid _:=zcl hb HX0.out;have HG1:Hid (w.grownBy W1 (some g)):=g1;have HR1:Hid (Rdr T W1 g st cap ts (p+1)):=r1;clear hb g1 r1 HX0 HR0;obtain⟨rm,hrm⟩:∃ rm,mor n [] (p+1)=rm:=⟨_,rfl⟩;have HRM:Hid ((rm.bind fun l q=>expP ts [125] q fun q=>.ok l q)=r):=by show _=_;rw[<-hrm];exact HX1.out
 have HRN:=hid hrm;have HOM:Hid (rm≠.out):=zau HRM.out HO.out;clear hrm HX1 HO
 go_wp2
 go_loopw [5] (fun v wr=>∃ (l:List Pt) (q m:Nat),Gth w wr v l∧w.grownBy wr (some g)∧Rdr T wr g st cap ts q∧mor m l q=rm∧m<=n∧l.length<=q) (fun _ wr=>ts.length - posW g wr)
 case atStart=>exact⟨[],p+1,n,Gth.none _ _,HG1.out,HR1.out,HRN.out,Nat.le_refl _,by simp⟩
 case round=>
  obtain⟨l,q,m,hGt,hG,hR,hm,hmn,hlq⟩:=hrel;have HGT:=hid hGt;have HG:=hid hG;have HR:=hid hR;have HMM:=hid hm;have hle:=hR.le;clear hGt hG hR hm HR1 HRN HG1
  cases m with
  | zero=>exact(HOM.out (by rw[<-HMM.out,HM0.out])).elim
  | succ m=>
  have HPQ:Hid (posW g wr=q):=HR.out.pos
  go_wp2_with fail
  refine(zen ⟨#[125]⟩ HR.out).mono ?_;rintro e W4 ⟨he,b4⟩;obtain⟨bb,hb⟩:∃ bb,isT ts q [125]=bb:=⟨_,rfl⟩;rw[show isT ts q (⟨#[125]⟩:ByteArray).data.toList=bb from hb] at he;subst he;have HG4:=hid (zaa HG.out (zae b4));have HGT4:=hid (HGT.out.grow (Nat.lt_of_lt_of_le hgT hT) (zae b4));have HR4:=hid (HR.out.low b4);have HX4:Hid ((if bb then .ok l q else(on m q).bind fun t q=>if isT ts q [125] then mor m (l++[t]) q else kinP ts 5 q fun _ q=>mor m (l++[t]) q)=rm):=by show _=_;rw[<-hb,<-HM1.out];exact HMM.out
  clear HGT HG HR HMM b4 hb HM1 HM0
  cases bb
  rotate_left
  ·have HX5:Hid (expP ts [125] q (fun q=>Rs.ok l q)=r):=by
    show _=_;have h:=HRM.out;rw[<-(za8 rfl HX4.out:Rs.ok l q=rm)] at h;exact h
   clear HX4 HRM HOM HF
   go_wp2_with fail
   refine(zba ⟨#[125]⟩ (by simp) HR4.out).mono ?_;rintro e W5 ⟨g5,hm0⟩;have hm:(if isT ts q [125] then e=.returned (.tuple #[])∧Rdr T W5 g st cap ts (q+1) else e=wroE (herI ts q)):=hm0;clear hm0;obtain⟨bb,hb⟩:∃ bb,isT ts q [125]=bb:=⟨_,rfl⟩;rw[hb] at hm
   cases bb
   ·simp only[Bool.false_eq_true,if_false] at hm;subst hm;have HP:Hid (LsP T w g st cap ts r (wroE (herI ts q)) W5):=ze7 (zaa HG4.out g5) (zdg hb HX5.out);clear HX5 HR4 HG4 HGT4;unfold wroE
    go_wp2
    exact⟨rfl,HP.out⟩
   simp only[if_true] at hm;obtain⟨rfl,r5⟩:=hm;have HP:Hid (LsP T w g st cap ts r (.returned u5) W5):=zrr (zaa HG4.out g5) (zcl hb HX5.out) (HGT4.out.grow (Nat.lt_of_lt_of_le hgT hT) g5) (by omega) r5;clear HX5 HR4 HG4 HGT4 g5 r5 hb
   go_wp2
   go_ret
   exact HP.out
  have HX5:Hid _:=zbo rfl HX4.out;clear HX4
  go_wp2_with fail
  refine(HF.out.call m (by omega) W4 _ HR4.out (zau HX5.out HOM.out)).mono ?_;rintro e W5 ⟨g5,hm⟩;rcases hx:on m q with⟨t5,q5⟩ | s5|_
  rotate_left
  ·rw[hx] at hm;have hm':e=wroE s5:=hm;subst hm';have HP:Hid (LsP T w g st cap ts r (wroE s5) W5):=ze7 (zaa HG4.out g5) (zak (zak hx HX5.out) HRM.out);clear HX5 HR4 HF HOM HG4 HGT4;unfold wroE
   go_wp2
   exact⟨rfl,HP.out⟩
  ·rw[hx] at hm;exact hm.elim
  rw[hx] at hm;obtain⟨b5,rfl,hpt,r5⟩:=hm;have hq5:=HF.out.adv _ _ _ _ hx;have HX6:Hid _:=za0 hx HX5.out;have HG5:=hid (zaa HG4.out g5);obtain⟨s0,n0,c0,s1,n1,c1,W6,rfl,hrun,hG6,b6⟩:=(HGT4.out.grow (Nat.lt_of_lt_of_le hgT hT) g5).add hpt HG4.out.size (fun _ h=>HGT4.out.own h) HG5.out.size (by have:=r5.le;omega);have HGT6:Hid _:=hG6;have HG6:=hid (za3 HG5.out b6);have HR6:Hid (Rdr T W6 g st cap ts q5):=r5.below hT b6;have hle5:=r5.le;clear g5 hpt r5 hx HX5 hG6 b6 HG5 HR4 HGT4 HG4
  go_wp2_with (refine za2 (.tmp 11) (.tmp 14) 139 (by rfl) (by rfl) (by rfl) (by rfl) hrun ?_)
  refine(zen ⟨#[125]⟩ HR6.out).mono ?_;rintro e W7 ⟨he,b7⟩;obtain⟨bb,hb⟩:∃ bb,isT ts q5 [125]=bb:=⟨_,rfl⟩;rw[show isT ts q5 (⟨#[125]⟩:ByteArray).data.toList=bb from hb] at he;subst he;rw[hb] at HX6;have HG7:=hid (zaa HG6.out (zae b7));have HGT7:=hid (HGT6.out.grow (Nat.lt_of_lt_of_le hgT hT) (zae b7));have HR7:=hid (HR6.out.low b7);clear HG6 HGT6 HR6 b7 hb hrun
  cases bb
  rotate_left
  ·have HX7:Hid _:=za8 rfl HX6.out;clear HX6
   go_wp2
   exact⟨⟨l++[t5],q5,m,HGT7.out,HG7.out,HR7.out,HX7.out,by omega,by simp;omega⟩,by rw[HR7.out.pos,HPQ.out];omega⟩
  have HX7:Hid _:=zbo rfl HX6.out;clear HX6
  go_wp2_with fail
  refine(zf3 5 (by decide) HR7.out).mono ?_;rintro e W8 ⟨g8,hm⟩;obtain⟨bb,hb⟩:∃ bb,((nxT ts q5).kind == 5)=bb:=⟨_,rfl⟩;rw[hb] at hm
  cases bb
  ·simp only[Bool.false_eq_true,if_false] at hm;subst hm;have HP:Hid (LsP T w g st cap ts r (wroE (herI ts q5)) W8):=ze7 (zaa HG7.out g8) (zak (zk6 hb HX7.out) HRM.out);clear HX7 HR7 HF HOM HG7 HGT7;unfold wroE
   go_wp2
   exact⟨rfl,HP.out⟩
  simp only[if_true] at hm;obtain⟨rfl,r8⟩:=hm;have HX8:Hid _:=zht hb HX7.out;have HG8:=hid (zaa HG7.out g8);have HGT8:=hid (HGT7.out.grow (Nat.lt_of_lt_of_le hgT hT) g8);have HR8:Hid (Rdr T W8 g st cap ts (q5+1)):=r8;have hle8:=r8.le;clear HX7 HG7 HGT7 HR7 g8 r8 hb
  go_wp2
  exact⟨⟨l++[t5],q5+1,m,HGT8.out,HG8.out,HR8.out,HX8.out,by omega,by simp;omega⟩,by rw[HR8.out.pos,HPQ.out];omega⟩
end Go.Proofs.YtabiangdmibocaaGreatDoor
