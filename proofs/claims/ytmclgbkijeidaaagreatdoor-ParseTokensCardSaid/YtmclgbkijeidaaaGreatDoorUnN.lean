import Derived.Test.YtmclgbkijeidaaaGreatDoorUnPaO
namespace Go.Proofs.YtmclgbkijeidaaaGreatDoor
set_option maxRecDepth 100000
set_option maxHeartbeats 4000000
open Go.RowKit
section
variable {T:Nat}{w:World}{g:Nat}{st:Option Addr}{cap:Nat}{ts:List Tok}{p:Nat}
theorem zjm (n:Nat):Rnd ts T g st cap 140 (fun _ q=>tydP ts 9 q) n 0 :=
 ⟨fun m hm W q hR ho=>zl2 hR,fun m p t q hx=>by
  have:=zh0 (ts:=ts) 9 p;rw[hx] at this;have h2:p+2<=q:=this;omega⟩
theorem znr (n:Nat):Rnd ts T g st cap 137 (fun _ q=>tydP ts 6 q) n 1 :=
 ⟨fun m hm W q hR ho=>zl1 hR,fun m p t q hx=>by
  have:=zh0 (ts:=ts) 6 p;rw[hx] at this;have h2:p+2<=q:=this;omega⟩
theorem zg9 (args:Array Value) (W:World):(callFunc 140 args).run Tryz.prog W=.ok (.enter 140 args) W:=by rfl
theorem zka (args:Array Value) (W:World):(callFunc 137 args).run Tryz.prog W=.ok (.enter 137 args) W:=by rfl
theorem ziu (n:Nat)(hR:Rdr T w g st cap ts p)(ho:strP ts (fns ts n) p≠.out):Calls Tryz.prog 109 #[.pointer (some ⟨g,0,none⟩)] w (PtP T w g st cap ts (strP ts (fns ts n) p)):=by
 have HR0:=hid hR;have hT:=hR.hT;have hgT:=hR.hg;have HG0:Hid (w.grownBy w (some g)):=zbp _ _;clear hR;obtain⟨r,hX⟩:∃ r,strP ts (fns ts n) p=r:=⟨_,rfl⟩;rw[hX] at ho ⊢;have HX0:=hid hX;have HO:=hid ho;clear hX ho;unfold strP at HX0;have hmf:∀ (fn:Fn) (first cap:Array Value) (w:World),(Instr.makeFunc fn first cap).run Tryz.prog w=.ok (.func fn first cap) w:=fun _ _ _ _=>rfl
 go_enter Tryz.func109,Tryz.ntmps109
 go_wp2_with fail
 refine(zbi 5 HR0.out).mono ?_;rintro e W1 ⟨bk1,rfl,hM,b1⟩;have HM1:Hid (Mk w.heap.size W1 bk1 5 ⟨#[]⟩ 0 (herI ts p) (herI ts p) 0 (.slice none 0 0) []):=hM.mono HG0.out.size;have HG1:=hid (zab HG0.out (zae b1));have HR1:=hid (HR0.out.low b1);clear hM b1 HG0 HR0
 go_wp2_with fail
 refine(zbd ⟨#[116,121,112,101]⟩ (by simp) HR1.out).mono ?_;rintro e W2 ⟨g1,hm0⟩;have hm:(if isT ts p [116,121,112,101] then e=.returned (.tuple #[])∧Rdr T W2 g st cap ts (p+1) else e=wroE (herI ts p)):=hm0;clear hm0;obtain⟨bb,hb⟩:∃ bb,isT ts p [116,121,112,101]=bb:=⟨_,rfl⟩;rw[hb] at hm
 cases bb
 ·simp only[Bool.false_eq_true,if_false] at hm;subst hm;have HP:Hid (PtP T w g st cap ts r (wroE (herI ts p)) W2):=zap (zab HG1.out g1) (zda hb HX0.out);clear HG1 HR1 HX0 HM1;unfold wroE
  go_wp2
  exact⟨rfl,HP.out⟩
 simp only[if_true] at hm;obtain⟨rfl,r1⟩:=hm;have HX2:Hid _:=zcl hb HX0.out;have HG3:=hid (zab HG1.out g1);have HM3:=hid (HM1.out.grow (Nat.lt_of_lt_of_le hgT hT) g1);have HR2:Hid (Rdr T W2 g st cap ts (p+1)):=r1;clear g1 r1 hb HX0 HR1 HG1 HM1
 go_wp2_with fail
 refine(zc9 HR2.out).mono ?_;rintro e W4 ⟨g1,hm⟩;obtain⟨bb,hb⟩:∃ bb,namB ts (p+1)=bb:=⟨_,rfl⟩;rw[hb] at hm
 cases bb
 ·simp only[Bool.false_eq_true,if_false] at hm;subst hm;have HP:Hid (PtP T w g st cap ts r (wroE (herI ts (p+1))) W4):=zap (zab HG3.out g1) (zeq hb HX2.out);clear HG3 HR2 HX2 HM3;unfold wroE
  go_wp2
  exact⟨rfl,HP.out⟩
 simp only[if_true] at hm;obtain⟨rfl,r1⟩:=hm;have HX4:Hid _:=zdt hb HX2.out;have HG5:=hid (zab HG3.out g1);have HM5:=hid (HM3.out.grow (Nat.lt_of_lt_of_le hgT hT) g1);have HR4:Hid (Rdr T W4 g st cap ts ((p+1)+1)):=r1;clear g1 r1 hb HX2 HR2 HG3 HM3
 go_wp2_with fail
 refine(zco (nxT ts (p+1)) HM5.out).mono ?_;rintro e W6 ⟨rfl,hM,b1⟩;have HM6:=hid hM;have HG7:=hid (zav HG5.out b1);have HR7:=hid (HR4.out.below hT b1);clear hM b1 HM5 HG5 HR4
 go_wp2_with fail
 refine(zbd ⟨#[115,116,114,117,99,116]⟩ (by simp) HR7.out).mono ?_;rintro e W8 ⟨g1,hm0⟩;have hm:(if isT ts ((p+1)+1) [115,116,114,117,99,116] then e=.returned (.tuple #[])∧Rdr T W8 g st cap ts (((p+1)+1)+1) else e=wroE (herI ts ((p+1)+1))):=hm0;clear hm0;obtain⟨bb,hb⟩:∃ bb,isT ts ((p+1)+1) [115,116,114,117,99,116]=bb:=⟨_,rfl⟩;rw[hb] at hm
 cases bb
 ·simp only[Bool.false_eq_true,if_false] at hm;subst hm;have HP:Hid (PtP T w g st cap ts r (wroE (herI ts ((p+1)+1))) W8):=zap (zab HG7.out g1) (zda hb HX4.out);clear HG7 HR7 HX4 HM6;unfold wroE
  go_wp2
  exact⟨rfl,HP.out⟩
 simp only[if_true] at hm;obtain⟨rfl,r1⟩:=hm;have HX8:Hid _:=zcl hb HX4.out;have HG9:=hid (zab HG7.out g1);have HM9:=hid (HM6.out.grow (Nat.lt_of_lt_of_le hgT hT) g1);have HR8:Hid (Rdr T W8 g st cap ts (((p+1)+1)+1)):=r1;clear g1 r1 hb HX4 HR7 HG7 HM6;have HL10:Hid ((bk1<W8.heap.size∧∀ q,((.slice none 0 0):Value).ownBlock=some q->q<W8.heap.size)∧w.heap.size<=W8.heap.size):=⟨HM9.out.at,HG9.out.size⟩
 go_wp2_with fail
 refine(zjl 137 (fun _ q=>tydP ts 6 q) (fun m=>(fns ts m).fieL) n (fun _ _=>rfl) (fun _ _ _=>rfl) (znr n) zka HR8.out (zay HX8.out HO.out)).mono ?_;rintro e W10 ⟨g1,hm0⟩;have hm:match linP ts (fns ts n).fieL (((p+1)+1)+1) with
  | .ok l q=>∃ bs sp cp,e=.returned (.slice sp bs.length cp)∧RowsP W10 sp bs∧(sp=none->bs.length=0∧cp=0)∧PsAt W10 (fun j=>W8.heap.size<=j∧j<W10.heap.size) bs l∧l.length<=q∧Rdr T W10 g st cap ts q
  | .bad s=>e=wroE s
  | .out=>False:=hm0
 clear hm0;rcases hx:linP ts (fns ts n).fieL (((p+1)+1)+1) with⟨l10,q10⟩ | s10|_
 rotate_left
 ·rw[hx] at hm;have hm':e=wroE s10:=hm;subst hm';have HP:Hid (PtP T w g st cap ts r (wroE (s10)) W10):=zap (zab HG9.out g1) (zas hx HX8.out);clear HG9 HR8 HX8 HM9;unfold wroE
  go_wp2
  exact⟨rfl,HP.out⟩
 ·rw[hx] at hm;exact hm.elim
 rw[hx] at hm;obtain⟨bs10,sp10,cp10,rfl,hr10,hn10,hp10,hl10,r1⟩:=hm;have hq10:=r1.le;have hfe10:=r1.few;have HX10:Hid _:=za3 hx HX8.out;have HG11:=hid (zab HG9.out g1);have HM11:=hid (HM9.out.grow (Nat.lt_of_lt_of_le hgT hT) g1);have HR10:Hid (Rdr T W10 g st cap ts q10):=r1;have HRR10:=hid hr10;have HNN10:=hid hn10;have HPP10:=hid hp10;clear g1 r1 hx hr10 hn10 hp10 HX8 HR8 HG9 HM9
 go_wp2_with fail
 refine(za4 (S2:=fun j=>W8.heap.size<=j∧j<W10.heap.size) HR10.out hT HM11.out HRR10.out HNN10.out HPP10.out (zb7 HL10.out.1 HL10.out.2 (Nat.le_refl _)) (by simp;omega)).mono ?_;rintro e W12 ⟨rfl,⟨v12,hM⟩,b1⟩;have HM12:=hid hM;have HG13:=hid (zav HG11.out b1);have HR13:=hid (HR10.out.below hT b1);clear hM b1 HM11 HL10 HRR10 HNN10 HPP10 HG11 HR10
 go_wp2
 go_ret
 exact zbj HG13.out HX10.out HM12.out.fin HR13.out
set_option maxHeartbeats 8000000 in
theorem zjn (n:Nat)(hR:Rdr T w g st cap ts p)(ho:funP ts (fns ts n) p≠.out):Calls Tryz.prog 110 #[.pointer (some ⟨g,0,none⟩)] w (PtP T w g st cap ts (funP ts (fns ts n) p)):=by
 have HR0:=hid hR;have hT:=hR.hT;have hgT:=hR.hg;have HG0:Hid (w.grownBy w (some g)):=zbp _ _;clear hR;obtain⟨r,hX⟩:∃ r,funP ts (fns ts n) p=r:=⟨_,rfl⟩;rw[hX] at ho ⊢;have HX0:=hid hX;have HO:=hid ho;clear hX ho;unfold funP at HX0;have hmf:∀ (fn:Fn) (first cap:Array Value) (w:World),(Instr.makeFunc fn first cap).run Tryz.prog w=.ok (.func fn first cap) w:=fun _ _ _ _=>rfl
 go_enter Tryz.func110,Tryz.ntmps110
 go_wp2_with fail
 refine(zbi 7 HR0.out).mono ?_;rintro e W1 ⟨bk1,rfl,hM,b1⟩;have HM1:Hid (Mk w.heap.size W1 bk1 7 ⟨#[]⟩ 0 (herI ts p) (herI ts p) 0 (.slice none 0 0) []):=hM.mono HG0.out.size;have HG1:=hid (zab HG0.out (zae b1));have HR1:=hid (HR0.out.low b1);clear hM b1 HG0 HR0
 go_wp2_with fail
 refine(zbd ⟨#[102,117,110,99]⟩ (by simp) HR1.out).mono ?_;rintro e W2 ⟨g1,hm0⟩;have hm:(if isT ts p [102,117,110,99] then e=.returned (.tuple #[])∧Rdr T W2 g st cap ts (p+1) else e=wroE (herI ts p)):=hm0;clear hm0;obtain⟨bb,hb⟩:∃ bb,isT ts p [102,117,110,99]=bb:=⟨_,rfl⟩;rw[hb] at hm
 cases bb
 ·simp only[Bool.false_eq_true,if_false] at hm;subst hm;have HP:Hid (PtP T w g st cap ts r (wroE (herI ts p)) W2):=zap (zab HG1.out g1) (zda hb HX0.out);clear HG1 HR1 HX0 HM1;unfold wroE
  go_wp2
  exact⟨rfl,HP.out⟩
 simp only[if_true] at hm;obtain⟨rfl,r1⟩:=hm;have HX2:Hid _:=zcl hb HX0.out;have HG3:=hid (zab HG1.out g1);have HM3:=hid (HM1.out.grow (Nat.lt_of_lt_of_le hgT hT) g1);have HR2:Hid (Rdr T W2 g st cap ts (p+1)):=r1;clear g1 r1 hb HX0 HR1 HG1 HM1
 go_wp2_with fail
 refine(zdx ⟨#[40]⟩ (by simp) HR2.out).mono ?_;rintro e W4 ⟨he,g1,r1⟩;obtain⟨bb,hb⟩:∃ bb,isT ts (p+1) [40]=bb:=⟨_,rfl⟩;rw[show isT ts (p+1) (⟨#[40]⟩:ByteArray).data.toList=bb from hb] at he r1;subst he;rw[hb] at HX2;have HG5:=hid (zab HG3.out g1);have HM5:=hid (HM3.out.grow (Nat.lt_of_lt_of_le hgT hT) g1);clear g1 hb HR2 HG3 HM3
 cases bb
 rotate_left
 ·skip
  have HX4:Hid _:=za8 rfl HX2.out;have HR4:Hid (Rdr T W4 g st cap ts ((p+1)+1)):=r1;clear r1 HX2;have HL6:Hid ((bk1<W4.heap.size∧∀ q,((.slice none 0 0):Value).ownBlock=some q->q<W4.heap.size)∧w.heap.size<=W4.heap.size∧g<W4.heap.size):=⟨HM5.out.at,HG5.out.size,HR4.out.lt⟩
  go_wp2_with fail
  refine(ziq HR4.out).mono ?_;rintro e W6 ⟨g1,hm⟩;rcases hx:recP ts ((p+1)+1) with⟨t6,q6⟩ | s6|_
  rotate_left
  ·rw[hx] at hm;have hm':e=wroE s6:=hm;subst hm';have HP:Hid (PtP T w g st cap ts r (wroE (s6)) W6):=zap (zab HG5.out g1) (zas hx HX4.out);clear HG5 HR4 HX4 HM5 HL6;unfold wroE
   go_wp2
   exact⟨rfl,HP.out⟩
  ·rw[hx] at hm;exact hm.elim
  rw[hx] at hm;obtain⟨bk6,rfl,hpt,r1⟩:=hm;have HX6:Hid _:=za3 hx HX4.out;have hsz6:=g1.size;have HG7:=hid (zab HG5.out g1);have HM7:=hid (HM5.out.grow (Nat.lt_of_lt_of_le hgT hT) g1);have HK6:=hid hpt;have HR6:Hid (Rdr T W6 g st cap ts q6):=r1;clear g1 r1 hpt hx HX4 HR4 HG5 HM5
  go_wp2_with fail
  refine zaf (fun W=>Below W6.heap.size W6 W∧W.heap[W6.heap.size]?=some (.cells #[.pointer (some ⟨bk6,0,none⟩)] 93 (0,0))) ⟨(Below.refl _ _).alloc (Nat.le_refl _) _,heap_alloc_new _ _⟩ ?_;rintro Wa8 ⟨ba,ra⟩;refine(zcm (bs2:=[bk6]) (l2:=[t6]) (S2:=fun j=>W4.heap.size<=j∧j<W6.heap.size) (HM7.out.below ba) (zau ra) (fun h=>by cases h) (PsAt.one (HK6.out.low (Nat.le_refl _) ba)) (zb7 HL6.out.1 HL6.out.2.1 ba.size) (by simp)).mono ?_;rintro e W8 ⟨rfl,⟨v8,hM⟩,b1⟩;have HM8:=hid hM;have HGa8:=hid (zab HG7.out (zae ba));have HRa8:=hid (HR6.out.low ba);have HG9:=hid (zav HGa8.out b1);have HR9:=hid (HRa8.out.below hT b1);clear hM b1 ba ra HM7 HL6 HG7 HR6 HGa8 HRa8 HK6
  go_wp2_with fail
  refine(zbd ⟨#[41]⟩ (by simp) HR9.out).mono ?_;rintro e W10 ⟨g1,hm0⟩;have hm:(if isT ts q6 [41] then e=.returned (.tuple #[])∧Rdr T W10 g st cap ts (q6+1) else e=wroE (herI ts q6)):=hm0;clear hm0;obtain⟨bb,hb⟩:∃ bb,isT ts q6 [41]=bb:=⟨_,rfl⟩;rw[hb] at hm
  cases bb
  ·simp only[Bool.false_eq_true,if_false] at hm;subst hm;have HP:Hid (PtP T w g st cap ts r (wroE (herI ts q6)) W10):=zap (zab HG9.out g1) (zda hb HX6.out);clear HG9 HR9 HX6 HM8;unfold wroE
   go_wp2
   exact⟨rfl,HP.out⟩
  simp only[if_true] at hm;obtain⟨rfl,r1⟩:=hm;have HX10:Hid _:=zcl hb HX6.out;have HG11:=hid (zab HG9.out g1);have HM11:=hid (HM8.out.grow (Nat.lt_of_lt_of_le hgT hT) g1);have HR10:Hid (Rdr T W10 g st cap ts (q6+1)):=r1;clear g1 r1 hb HX6 HR9 HG9 HM8;unfold funR at HX10
  go_wp2_with fail
  refine(zc9 HR10.out).mono ?_;rintro e W12 ⟨g1,hm⟩;obtain⟨bb,hb⟩:∃ bb,namB ts (q6+1)=bb:=⟨_,rfl⟩;rw[hb] at hm
  cases bb
  ·simp only[Bool.false_eq_true,if_false] at hm;subst hm;have HP:Hid (PtP T w g st cap ts r (wroE (herI ts (q6+1))) W12):=zap (zab HG11.out g1) (zeq hb HX10.out);clear HG11 HR10 HX10 HM11;unfold wroE
   go_wp2
   exact⟨rfl,HP.out⟩
  simp only[if_true] at hm;obtain⟨rfl,r1⟩:=hm;have HX12:Hid _:=zdt hb HX10.out;have HG13:=hid (zab HG11.out g1);have HM13:=hid (HM11.out.grow (Nat.lt_of_lt_of_le hgT hT) g1);have HR12:Hid (Rdr T W12 g st cap ts ((q6+1)+1)):=r1;clear g1 r1 hb HX10 HR10 HG11 HM11
  go_wp2_with fail
  refine(zco (nxT ts (q6+1)) HM13.out).mono ?_;rintro e W14 ⟨rfl,hM,b1⟩;have HM14:=hid hM;have HG15:=hid (zav HG13.out b1);have HR15:=hid (HR12.out.below hT b1);clear hM b1 HM13 HG13 HR12;have HL16:Hid ((bk1<W14.heap.size∧∀ q,(v8:Value).ownBlock=some q->q<W14.heap.size)∧w.heap.size<=W14.heap.size):=⟨HM14.out.at,HG15.out.size⟩
  go_wp2_with fail
  refine(zit 140 (fun _ q=>tydP ts 9 q) (fun m=>(fns ts m).parL) n (fun _ _=>rfl) (fun _ _ _=>rfl) (zjm n) zg9 HR15.out (zay HX12.out HO.out)).mono ?_;rintro e W16 ⟨g1,hm0⟩;have hm:match lisP ts (tydP ts 9) (fns ts n).parL ((q6+1)+1) with
   | .ok l q=>∃ bs sp cp,e=.returned (.slice sp bs.length cp)∧RowsP W16 sp bs∧(sp=none->bs.length=0∧cp=0)∧PsAt W16 (fun j=>W14.heap.size<=j∧j<W16.heap.size) bs l∧l.length<=q∧Rdr T W16 g st cap ts q
   | .bad s=>e=wroE s
   | .out=>False:=hm0
  clear hm0;rcases hx:lisP ts (tydP ts 9) (fns ts n).parL ((q6+1)+1) with⟨l16,q16⟩ | s16|_
  rotate_left
  ·rw[hx] at hm;have hm':e=wroE s16:=hm;subst hm';have HP:Hid (PtP T w g st cap ts r (wroE (s16)) W16):=zap (zab HG15.out g1) (zas hx HX12.out);clear HG15 HR15 HX12 HM14;unfold wroE
   go_wp2
   exact⟨rfl,HP.out⟩
  ·rw[hx] at hm;exact hm.elim
  rw[hx] at hm;obtain⟨bs16,sp16,cp16,rfl,hr16,hn16,hp16,hl16,r1⟩:=hm;have hq16:=r1.le;have hfe16:=r1.few;have HX16:Hid _:=za3 hx HX12.out;have HG17:=hid (zab HG15.out g1);have HM17:=hid (HM14.out.grow (Nat.lt_of_lt_of_le hgT hT) g1);have HR16:Hid (Rdr T W16 g st cap ts q16):=r1;have HRR16:=hid hr16;have HNN16:=hid hn16;have HPP16:=hid hp16;clear g1 r1 hx hr16 hn16 hp16 HX12 HR15 HG15 HM14
  go_wp2_with fail
  refine(zcm (S2:=fun j=>W14.heap.size<=j∧j<W16.heap.size) HM17.out HRR16.out HNN16.out HPP16.out (zb7 HL16.out.1 HL16.out.2 (Nat.le_refl _)) (by simp;omega)).mono ?_;rintro e W18 ⟨rfl,⟨v18,hM⟩,b1⟩;have HM18:=hid hM;have HG19:=hid (zav HG17.out b1);have HR19:=hid (HR16.out.below hT b1);clear hM b1 HM17 HL16 HRR16 HNN16 HPP16 HG17 HR16
  go_wp2_with fail
  refine(zd8 ⟨#[123]⟩ HR19.out).mono ?_;rintro e W20 ⟨he,b1⟩;obtain⟨bb,hb⟩:∃ bb,isT ts q16 [123]=bb:=⟨_,rfl⟩;rw[show isT ts q16 (⟨#[123]⟩:ByteArray).data.toList=bb from hb] at he;subst he;rw[hb] at HX16;have g1:W18.grownBy W20 (some g):=zae b1;have HR20:=hid (HR19.out.low b1);have HG21:=hid (zab HG19.out g1);have HM21:=hid (HM18.out.grow (Nat.lt_of_lt_of_le hgT hT) g1);clear g1 b1 hb HR19 HG19 HM18
  cases bb
  rotate_left
  ·skip
   have HX20:Hid _:=za8 rfl HX16.out;clear HX16;have HL22:Hid ((bk1<W20.heap.size∧∀ q,(v18:Value).ownBlock=some q->q<W20.heap.size)∧w.heap.size<=W20.heap.size∧g<W20.heap.size):=⟨HM21.out.at,HG21.out.size,HR20.out.lt⟩
   go_wp2_with fail
   refine(zdh (fun m _=>ziy m) HR20.out (zay HX20.out HO.out)).mono ?_;rintro e W22 ⟨g1,hm⟩;rcases hx:bloP ts (fns ts n) q16 with⟨t22,q22⟩ | s22|_
   rotate_left
   ·rw[hx] at hm;have hm':e=wroE s22:=hm;subst hm';have HP:Hid (PtP T w g st cap ts r (wroE (s22)) W22):=zap (zab HG21.out g1) (zas hx HX20.out);clear HG21 HR20 HX20 HM21 HL22;unfold wroE
    go_wp2
    exact⟨rfl,HP.out⟩
   ·rw[hx] at hm;exact hm.elim
   rw[hx] at hm;obtain⟨bk22,rfl,hpt,r1⟩:=hm;have HX22:Hid _:=za3 hx HX20.out;have hsz22:=g1.size;have HG23:=hid (zab HG21.out g1);have HM23:=hid (HM21.out.grow (Nat.lt_of_lt_of_le hgT hT) g1);have HK22:=hid hpt;have HR22:Hid (Rdr T W22 g st cap ts q22):=r1;clear g1 r1 hpt hx HX20 HR20 HG21 HM21
   go_wp2_with fail
   refine zaf (fun W=>Below W22.heap.size W22 W∧W.heap[W22.heap.size]?=some (.cells #[.pointer (some ⟨bk22,0,none⟩)] 93 (0,0))) ⟨(Below.refl _ _).alloc (Nat.le_refl _) _,heap_alloc_new _ _⟩ ?_;rintro Wa24 ⟨ba,ra⟩;refine(za4 (bs2:=[bk22]) (l2:=[t22]) (S2:=fun j=>W20.heap.size<=j∧j<W22.heap.size) (HR22.out.low ba) hT (HM23.out.below ba) (zau ra) (fun h=>by cases h) (PsAt.one (HK22.out.low (Nat.le_refl _) ba)) (zb7 HL22.out.1 HL22.out.2.1 ba.size) (by simp;omega)).mono ?_;rintro e W24 ⟨rfl,⟨v24,hM⟩,b1⟩;have HM24:=hid hM;have HGa24:=hid (zab HG23.out (zae ba));have HRa24:=hid (HR22.out.low ba);have HG25:=hid (zav HGa24.out b1);have HR25:=hid (HRa24.out.below hT b1);clear hM b1 ba ra HM23 HL22 HG23 HR22 HGa24 HRa24 HK22
   go_wp2
   go_ret
   exact zbj HG25.out HX22.out HM24.out.fin HR25.out
  have HX20:Hid _:=zbu rfl HX16.out;clear HX16;have HL26:Hid ((bk1<W20.heap.size∧∀ q,(v18:Value).ownBlock=some q->q<W20.heap.size)∧w.heap.size<=W20.heap.size∧g<W20.heap.size):=⟨HM21.out.at,HG21.out.size,HR20.out.lt⟩
  go_wp2_with fail
  refine(zgq HR20.out).mono ?_;rintro e W26 ⟨g1,hm⟩;rcases hx:typP ts q16 with⟨t26,q26⟩ | s26|_
  rotate_left
  ·rw[hx] at hm;have hm':e=wroE s26:=hm;subst hm';have HP:Hid (PtP T w g st cap ts r (wroE (s26)) W26):=zap (zab HG21.out g1) (zas hx HX20.out);clear HG21 HR20 HX20 HM21 HL26;unfold wroE
   go_wp2
   exact⟨rfl,HP.out⟩
  ·rw[hx] at hm;exact hm.elim
  rw[hx] at hm;obtain⟨bk26,rfl,hpt,r1⟩:=hm;have HX26:Hid _:=za3 hx HX20.out;have hsz26:=g1.size;have HG27:=hid (zab HG21.out g1);have HM27:=hid (HM21.out.grow (Nat.lt_of_lt_of_le hgT hT) g1);have HK26:=hid hpt;have HR26:Hid (Rdr T W26 g st cap ts q26):=r1;clear g1 r1 hpt hx HX20 HR20 HG21 HM21
  go_wp2_with fail
  refine zaf (fun W=>Below W26.heap.size W26 W∧W.heap[W26.heap.size]?=some (.cells #[.pointer (some ⟨bk26,0,none⟩)] 93 (0,0))) ⟨(Below.refl _ _).alloc (Nat.le_refl _) _,heap_alloc_new _ _⟩ ?_;rintro Wa28 ⟨ba,ra⟩;refine(zcm (bs2:=[bk26]) (l2:=[t26]) (S2:=fun j=>W20.heap.size<=j∧j<W26.heap.size) (HM27.out.below ba) (zau ra) (fun h=>by cases h) (PsAt.one (HK26.out.low (Nat.le_refl _) ba)) (zb7 HL26.out.1 HL26.out.2.1 ba.size) (by simp;omega)).mono ?_;rintro e W28 ⟨rfl,⟨v28,hM⟩,b1⟩;have HM28:=hid hM;have HGa28:=hid (zab HG27.out (zae ba));have HRa28:=hid (HR26.out.low ba);have HG29:=hid (zav HGa28.out b1);have HR29:=hid (HRa28.out.below hT b1);clear hM b1 ba ra HM27 HL26 HG27 HR26 HGa28 HRa28 HK26;have HL30:Hid ((bk1<W28.heap.size∧∀ q,(v28:Value).ownBlock=some q->q<W28.heap.size)∧w.heap.size<=W28.heap.size∧g<W28.heap.size):=⟨HM28.out.at,HG29.out.size,HR29.out.lt⟩
  go_wp2_with fail
  refine(zdh (fun m _=>ziy m) HR29.out (zay HX26.out HO.out)).mono ?_;rintro e W30 ⟨g1,hm⟩;rcases hx:bloP ts (fns ts n) q26 with⟨t30,q30⟩ | s30|_
  rotate_left
  ·rw[hx] at hm;have hm':e=wroE s30:=hm;subst hm';have HP:Hid (PtP T w g st cap ts r (wroE (s30)) W30):=zap (zab HG29.out g1) (zas hx HX26.out);clear HG29 HR29 HX26 HM28 HL30;unfold wroE
   go_wp2
   exact⟨rfl,HP.out⟩
  ·rw[hx] at hm;exact hm.elim
  rw[hx] at hm;obtain⟨bk30,rfl,hpt,r1⟩:=hm;have HX30:Hid _:=za3 hx HX26.out;have hsz30:=g1.size;have HG31:=hid (zab HG29.out g1);have HM31:=hid (HM28.out.grow (Nat.lt_of_lt_of_le hgT hT) g1);have HK30:=hid hpt;have HR30:Hid (Rdr T W30 g st cap ts q30):=r1;clear g1 r1 hpt hx HX26 HR29 HG29 HM28
  go_wp2_with fail
  refine zaf (fun W=>Below W30.heap.size W30 W∧W.heap[W30.heap.size]?=some (.cells #[.pointer (some ⟨bk30,0,none⟩)] 93 (0,0))) ⟨(Below.refl _ _).alloc (Nat.le_refl _) _,heap_alloc_new _ _⟩ ?_;rintro Wa32 ⟨ba,ra⟩;refine(za4 (bs2:=[bk30]) (l2:=[t30]) (S2:=fun j=>W28.heap.size<=j∧j<W30.heap.size) (HR30.out.low ba) hT (HM31.out.below ba) (zau ra) (fun h=>by cases h) (PsAt.one (HK30.out.low (Nat.le_refl _) ba)) (zb7 HL30.out.1 HL30.out.2.1 ba.size) (by simp;omega)).mono ?_;rintro e W32 ⟨rfl,⟨v32,hM⟩,b1⟩;have HM32:=hid hM;have HGa32:=hid (zab HG31.out (zae ba));have HRa32:=hid (HR30.out.low ba);have HG33:=hid (zav HGa32.out b1);have HR33:=hid (HRa32.out.below hT b1);clear hM b1 ba ra HM31 HL30 HG31 HR30 HGa32 HRa32 HK30
  go_wp2
  go_ret
  exact zbj HG33.out HX30.out HM32.out.fin HR33.out
 have HX4:Hid _:=zbu rfl HX2.out;have HR4:Hid (Rdr T W4 g st cap ts (p+1)):=r1;clear r1 HX2;unfold funR at HX4
 go_wp2_with fail
 refine(zc9 HR4.out).mono ?_;rintro e W34 ⟨g1,hm⟩;obtain⟨bb,hb⟩:∃ bb,namB ts (p+1)=bb:=⟨_,rfl⟩;rw[hb] at hm
 cases bb
 ·simp only[Bool.false_eq_true,if_false] at hm;subst hm;have HP:Hid (PtP T w g st cap ts r (wroE (herI ts (p+1))) W34):=zap (zab HG5.out g1) (zeq hb HX4.out);clear HG5 HR4 HX4 HM5;unfold wroE
  go_wp2
  exact⟨rfl,HP.out⟩
 simp only[if_true] at hm;obtain⟨rfl,r1⟩:=hm;have HX34:Hid _:=zdt hb HX4.out;have HG35:=hid (zab HG5.out g1);have HM35:=hid (HM5.out.grow (Nat.lt_of_lt_of_le hgT hT) g1);have HR34:Hid (Rdr T W34 g st cap ts ((p+1)+1)):=r1;clear g1 r1 hb HX4 HR4 HG5 HM5
 go_wp2_with fail
 refine(zco (nxT ts (p+1)) HM35.out).mono ?_;rintro e W36 ⟨rfl,hM,b1⟩;have HM36:=hid hM;have HG37:=hid (zav HG35.out b1);have HR37:=hid (HR34.out.below hT b1);clear hM b1 HM35 HG35 HR34;have HL38:Hid ((bk1<W36.heap.size∧∀ q,((.slice none 0 0):Value).ownBlock=some q->q<W36.heap.size)∧w.heap.size<=W36.heap.size):=⟨HM36.out.at,HG37.out.size⟩
 go_wp2_with fail
 refine(zit 140 (fun _ q=>tydP ts 9 q) (fun m=>(fns ts m).parL) n (fun _ _=>rfl) (fun _ _ _=>rfl) (zjm n) zg9 HR37.out (zay HX34.out HO.out)).mono ?_;rintro e W38 ⟨g1,hm0⟩;have hm:match lisP ts (tydP ts 9) (fns ts n).parL ((p+1)+1) with
  | .ok l q=>∃ bs sp cp,e=.returned (.slice sp bs.length cp)∧RowsP W38 sp bs∧(sp=none->bs.length=0∧cp=0)∧PsAt W38 (fun j=>W36.heap.size<=j∧j<W38.heap.size) bs l∧l.length<=q∧Rdr T W38 g st cap ts q
  | .bad s=>e=wroE s
  | .out=>False:=hm0
 clear hm0;rcases hx:lisP ts (tydP ts 9) (fns ts n).parL ((p+1)+1) with⟨l38,q38⟩ | s38|_
 rotate_left
 ·rw[hx] at hm;have hm':e=wroE s38:=hm;subst hm';have HP:Hid (PtP T w g st cap ts r (wroE (s38)) W38):=zap (zab HG37.out g1) (zas hx HX34.out);clear HG37 HR37 HX34 HM36;unfold wroE
  go_wp2
  exact⟨rfl,HP.out⟩
 ·rw[hx] at hm;exact hm.elim
 rw[hx] at hm;obtain⟨bs38,sp38,cp38,rfl,hr38,hn38,hp38,hl38,r1⟩:=hm;have hq38:=r1.le;have hfe38:=r1.few;have HX38:Hid _:=za3 hx HX34.out;have HG39:=hid (zab HG37.out g1);have HM39:=hid (HM36.out.grow (Nat.lt_of_lt_of_le hgT hT) g1);have HR38:Hid (Rdr T W38 g st cap ts q38):=r1;have HRR38:=hid hr38;have HNN38:=hid hn38;have HPP38:=hid hp38;clear g1 r1 hx hr38 hn38 hp38 HX34 HR37 HG37 HM36
 go_wp2_with fail
 refine(zcm (S2:=fun j=>W36.heap.size<=j∧j<W38.heap.size) HM39.out HRR38.out HNN38.out HPP38.out (zb7 HL38.out.1 HL38.out.2 (Nat.le_refl _)) (by simp;omega)).mono ?_;rintro e W40 ⟨rfl,⟨v40,hM⟩,b1⟩;have HM40:=hid hM;have HG41:=hid (zav HG39.out b1);have HR41:=hid (HR38.out.below hT b1);clear hM b1 HM39 HL38 HRR38 HNN38 HPP38 HG39 HR38
 go_wp2_with fail
 refine(zd8 ⟨#[123]⟩ HR41.out).mono ?_;rintro e W42 ⟨he,b1⟩;obtain⟨bb,hb⟩:∃ bb,isT ts q38 [123]=bb:=⟨_,rfl⟩;rw[show isT ts q38 (⟨#[123]⟩:ByteArray).data.toList=bb from hb] at he;subst he;rw[hb] at HX38;have g1:W40.grownBy W42 (some g):=zae b1;have HR42:=hid (HR41.out.low b1);have HG43:=hid (zab HG41.out g1);have HM43:=hid (HM40.out.grow (Nat.lt_of_lt_of_le hgT hT) g1);clear g1 b1 hb HR41 HG41 HM40
 cases bb
 rotate_left
 ·skip
  have HX42:Hid _:=za8 rfl HX38.out;clear HX38;have HL44:Hid ((bk1<W42.heap.size∧∀ q,(v40:Value).ownBlock=some q->q<W42.heap.size)∧w.heap.size<=W42.heap.size∧g<W42.heap.size):=⟨HM43.out.at,HG43.out.size,HR42.out.lt⟩
  go_wp2_with fail
  refine(zdh (fun m _=>ziy m) HR42.out (zay HX42.out HO.out)).mono ?_;rintro e W44 ⟨g1,hm⟩;rcases hx:bloP ts (fns ts n) q38 with⟨t44,q44⟩ | s44|_
  rotate_left
  ·rw[hx] at hm;have hm':e=wroE s44:=hm;subst hm';have HP:Hid (PtP T w g st cap ts r (wroE (s44)) W44):=zap (zab HG43.out g1) (zas hx HX42.out);clear HG43 HR42 HX42 HM43 HL44;unfold wroE
   go_wp2
   exact⟨rfl,HP.out⟩
  ·rw[hx] at hm;exact hm.elim
  rw[hx] at hm;obtain⟨bk44,rfl,hpt,r1⟩:=hm;have HX44:Hid _:=za3 hx HX42.out;have hsz44:=g1.size;have HG45:=hid (zab HG43.out g1);have HM45:=hid (HM43.out.grow (Nat.lt_of_lt_of_le hgT hT) g1);have HK44:=hid hpt;have HR44:Hid (Rdr T W44 g st cap ts q44):=r1;clear g1 r1 hpt hx HX42 HR42 HG43 HM43
  go_wp2_with fail
  refine zaf (fun W=>Below W44.heap.size W44 W∧W.heap[W44.heap.size]?=some (.cells #[.pointer (some ⟨bk44,0,none⟩)] 93 (0,0))) ⟨(Below.refl _ _).alloc (Nat.le_refl _) _,heap_alloc_new _ _⟩ ?_;rintro Wa46 ⟨ba,ra⟩;refine(za4 (bs2:=[bk44]) (l2:=[t44]) (S2:=fun j=>W42.heap.size<=j∧j<W44.heap.size) (HR44.out.low ba) hT (HM45.out.below ba) (zau ra) (fun h=>by cases h) (PsAt.one (HK44.out.low (Nat.le_refl _) ba)) (zb7 HL44.out.1 HL44.out.2.1 ba.size) (by simp;omega)).mono ?_;rintro e W46 ⟨rfl,⟨v46,hM⟩,b1⟩;have HM46:=hid hM;have HGa46:=hid (zab HG45.out (zae ba));have HRa46:=hid (HR44.out.low ba);have HG47:=hid (zav HGa46.out b1);have HR47:=hid (HRa46.out.below hT b1);clear hM b1 ba ra HM45 HL44 HG45 HR44 HGa46 HRa46 HK44
  go_wp2
  go_ret
  exact zbj HG47.out HX44.out HM46.out.fin HR47.out
 have HX42:Hid _:=zbu rfl HX38.out;clear HX38;have HL48:Hid ((bk1<W42.heap.size∧∀ q,(v40:Value).ownBlock=some q->q<W42.heap.size)∧w.heap.size<=W42.heap.size∧g<W42.heap.size):=⟨HM43.out.at,HG43.out.size,HR42.out.lt⟩
 go_wp2_with fail
 refine(zgq HR42.out).mono ?_;rintro e W48 ⟨g1,hm⟩;rcases hx:typP ts q38 with⟨t48,q48⟩ | s48|_
 rotate_left
 ·rw[hx] at hm;have hm':e=wroE s48:=hm;subst hm';have HP:Hid (PtP T w g st cap ts r (wroE (s48)) W48):=zap (zab HG43.out g1) (zas hx HX42.out);clear HG43 HR42 HX42 HM43 HL48;unfold wroE
  go_wp2
  exact⟨rfl,HP.out⟩
 ·rw[hx] at hm;exact hm.elim
 rw[hx] at hm;obtain⟨bk48,rfl,hpt,r1⟩:=hm;have HX48:Hid _:=za3 hx HX42.out;have hsz48:=g1.size;have HG49:=hid (zab HG43.out g1);have HM49:=hid (HM43.out.grow (Nat.lt_of_lt_of_le hgT hT) g1);have HK48:=hid hpt;have HR48:Hid (Rdr T W48 g st cap ts q48):=r1;clear g1 r1 hpt hx HX42 HR42 HG43 HM43
 go_wp2_with fail
 refine zaf (fun W=>Below W48.heap.size W48 W∧W.heap[W48.heap.size]?=some (.cells #[.pointer (some ⟨bk48,0,none⟩)] 93 (0,0))) ⟨(Below.refl _ _).alloc (Nat.le_refl _) _,heap_alloc_new _ _⟩ ?_;rintro Wa50 ⟨ba,ra⟩;refine(zcm (bs2:=[bk48]) (l2:=[t48]) (S2:=fun j=>W42.heap.size<=j∧j<W48.heap.size) (HM49.out.below ba) (zau ra) (fun h=>by cases h) (PsAt.one (HK48.out.low (Nat.le_refl _) ba)) (zb7 HL48.out.1 HL48.out.2.1 ba.size) (by simp;omega)).mono ?_;rintro e W50 ⟨rfl,⟨v50,hM⟩,b1⟩;have HM50:=hid hM;have HGa50:=hid (zab HG49.out (zae ba));have HRa50:=hid (HR48.out.low ba);have HG51:=hid (zav HGa50.out b1);have HR51:=hid (HRa50.out.below hT b1);clear hM b1 ba ra HM49 HL48 HG49 HR48 HGa50 HRa50 HK48;have HL52:Hid ((bk1<W50.heap.size∧∀ q,(v50:Value).ownBlock=some q->q<W50.heap.size)∧w.heap.size<=W50.heap.size∧g<W50.heap.size):=⟨HM50.out.at,HG51.out.size,HR51.out.lt⟩
 go_wp2_with fail
 refine(zdh (fun m _=>ziy m) HR51.out (zay HX48.out HO.out)).mono ?_;rintro e W52 ⟨g1,hm⟩;rcases hx:bloP ts (fns ts n) q48 with⟨t52,q52⟩ | s52|_
 rotate_left
 ·rw[hx] at hm;have hm':e=wroE s52:=hm;subst hm';have HP:Hid (PtP T w g st cap ts r (wroE (s52)) W52):=zap (zab HG51.out g1) (zas hx HX48.out);clear HG51 HR51 HX48 HM50 HL52;unfold wroE
  go_wp2
  exact⟨rfl,HP.out⟩
 ·rw[hx] at hm;exact hm.elim
 rw[hx] at hm;obtain⟨bk52,rfl,hpt,r1⟩:=hm;have HX52:Hid _:=za3 hx HX48.out;have hsz52:=g1.size;have HG53:=hid (zab HG51.out g1);have HM53:=hid (HM50.out.grow (Nat.lt_of_lt_of_le hgT hT) g1);have HK52:=hid hpt;have HR52:Hid (Rdr T W52 g st cap ts q52):=r1;clear g1 r1 hpt hx HX48 HR51 HG51 HM50
 go_wp2_with fail
 refine zaf (fun W=>Below W52.heap.size W52 W∧W.heap[W52.heap.size]?=some (.cells #[.pointer (some ⟨bk52,0,none⟩)] 93 (0,0))) ⟨(Below.refl _ _).alloc (Nat.le_refl _) _,heap_alloc_new _ _⟩ ?_;rintro Wa54 ⟨ba,ra⟩;refine(za4 (bs2:=[bk52]) (l2:=[t52]) (S2:=fun j=>W50.heap.size<=j∧j<W52.heap.size) (HR52.out.low ba) hT (HM53.out.below ba) (zau ra) (fun h=>by cases h) (PsAt.one (HK52.out.low (Nat.le_refl _) ba)) (zb7 HL52.out.1 HL52.out.2.1 ba.size) (by simp;omega)).mono ?_;rintro e W54 ⟨rfl,⟨v54,hM⟩,b1⟩;have HM54:=hid hM;have HGa54:=hid (zab HG53.out (zae ba));have HRa54:=hid (HR52.out.low ba);have HG55:=hid (zav HGa54.out b1);have HR55:=hid (HRa54.out.below hT b1);clear hM b1 ba ra HM53 HL52 HG53 HR52 HGa54 HRa54 HK52
 go_wp2
 go_ret
 exact zbj HG55.out HX52.out HM54.out.fin HR55.out
theorem zpe (n:Nat)(hR:Rdr T w g st cap ts p)(ho:decP ts (fns ts n) p≠.out):Calls Tryz.prog 82 #[.pointer (some ⟨g,0,none⟩)] w (PtP T w g st cap ts (decP ts (fns ts n) p)):=by
 have HR0:=hid hR;have hT:=hR.hT;have hgT:=hR.hg;have HG0:Hid (w.grownBy w (some g)):=zbp _ _;clear hR;obtain⟨r,hX⟩:∃ r,decP ts (fns ts n) p=r:=⟨_,rfl⟩;rw[hX] at ho ⊢;have HX0:=hid hX;have HO:=hid ho;clear hX ho;unfold decP at HX0
 go_enter Tryz.func82,Tryz.ntmps82
 have hfd:∀ (a b c:Value) (W:World),(Instr.field 38 (.agg #[a,b,c]) 1).run Tryz.prog W=.ok b W:=fun _ _ _ _=>rfl;have HE:Hid (∀ q (s:List UInt8),((nxT ts q).text.toList == s)=isT ts q s):=fun q s=>by unfold isT;rw[ByteArray.toList_eq]
 go_wp2_with fail
 refine(zc8 HR0.out).mono ?_;rintro e W1 ⟨rfl,b1⟩;have HR1:=hid (HR0.out.low b1);have HG1:Hid (w.grownBy W1 (some g)):=zae b1;clear b1 HR0 HG0;have HE0:Hid _:=HE.out p [99,111,110,115,116];obtain⟨bb,hb⟩:∃ bb,isT ts p [99,111,110,115,116]=bb:=⟨_,rfl⟩;rw[hb] at HE0 HX0
 cases bb
 rotate_left
 ·have he0:((nxT ts p).text.toList == [99,111,110,115,116])=true:=HE0.out;have HXa:Hid _:=za8 rfl HX0.out;clear hb HE0 HX0 HE;unfold Tok.cells
  go_wp2_with fail
  refine((zir HR1.out).mono fun e W h=>PtP.from HG1.out h).mono ?_;rintro e W2 hP;rw[HXa.out] at hP;have HP:=hid hP;clear HXa HG1 HR1 HO;rcases r with⟨t9,q9⟩ | s9|_
  ·obtain⟨-,b9,rfl,-⟩:=hP
   go_wp2
   go_ret
   exact HP.out
  ·obtain⟨-,hm'⟩:=hP;have hm2:e=wroE s9:=hm';subst hm2;clear hm';unfold wroE at HP ⊢
   go_wp2
   exact⟨rfl,HP.out⟩
  ·exact hP.2.elim
 have he0:((nxT ts p).text.toList == [99,111,110,115,116])=false:=HE0.out;have HXb0:Hid _:=zbu rfl HX0.out;clear hb HE0 HX0;have HE1:Hid _:=HE.out p [118,97,114];obtain⟨bb,hb⟩:∃ bb,isT ts p [118,97,114]=bb:=⟨_,rfl⟩;rw[hb] at HE1 HXb0
 cases bb
 rotate_left
 ·have he1:((nxT ts p).text.toList == [118,97,114])=true:=HE1.out;have HXa:Hid _:=za8 rfl HXb0.out;clear hb HE1 HXb0 HE;unfold Tok.cells
  go_wp2_with fail
  refine((zgd n HR1.out (by rw[HXa.out];exact HO.out)).mono fun e W h=>PtP.from HG1.out h).mono ?_;rintro e W2 hP;rw[HXa.out] at hP;have HP:=hid hP;clear HXa HG1 HR1 HO;rcases r with⟨t9,q9⟩ | s9|_
  ·obtain⟨-,b9,rfl,-⟩:=hP
   go_wp2
   go_ret
   exact HP.out
  ·obtain⟨-,hm'⟩:=hP;have hm2:e=wroE s9:=hm';subst hm2;clear hm';unfold wroE at HP ⊢
   go_wp2
   exact⟨rfl,HP.out⟩
  ·exact hP.2.elim
 have he1:((nxT ts p).text.toList == [118,97,114])=false:=HE1.out;have HXb1:Hid _:=zbu rfl HXb0.out;clear hb HE1 HXb0;have HE2:Hid _:=HE.out p [116,121,112,101];obtain⟨bb,hb⟩:∃ bb,isT ts p [116,121,112,101]=bb:=⟨_,rfl⟩;rw[hb] at HE2 HXb1
 cases bb
 rotate_left
 ·have he2:((nxT ts p).text.toList == [116,121,112,101])=true:=HE2.out;have HXa:Hid _:=za8 rfl HXb1.out;clear hb HE2 HXb1 HE;unfold Tok.cells
  go_wp2_with fail
  refine((ziu n HR1.out (by rw[HXa.out];exact HO.out)).mono fun e W h=>PtP.from HG1.out h).mono ?_;rintro e W2 hP;rw[HXa.out] at hP;have HP:=hid hP;clear HXa HG1 HR1 HO;rcases r with⟨t9,q9⟩ | s9|_
  ·obtain⟨-,b9,rfl,-⟩:=hP
   go_wp2
   go_ret
   exact HP.out
  ·obtain⟨-,hm'⟩:=hP;have hm2:e=wroE s9:=hm';subst hm2;clear hm';unfold wroE at HP ⊢
   go_wp2
   exact⟨rfl,HP.out⟩
  ·exact hP.2.elim
 have he2:((nxT ts p).text.toList == [116,121,112,101])=false:=HE2.out;have HXb2:Hid _:=zbu rfl HXb1.out;clear hb HE2 HXb1;have HE3:Hid _:=HE.out p [102,117,110,99];obtain⟨bb,hb⟩:∃ bb,isT ts p [102,117,110,99]=bb:=⟨_,rfl⟩;rw[hb] at HE3 HXb2
 cases bb
 rotate_left
 ·have he3:((nxT ts p).text.toList == [102,117,110,99])=true:=HE3.out;have HXa:Hid _:=za8 rfl HXb2.out;clear hb HE3 HXb2 HE;unfold Tok.cells
  go_wp2_with fail
  refine((zjn n HR1.out (by rw[HXa.out];exact HO.out)).mono fun e W h=>PtP.from HG1.out h).mono ?_;rintro e W2 hP;rw[HXa.out] at hP;have HP:=hid hP;clear HXa HG1 HR1 HO;rcases r with⟨t9,q9⟩ | s9|_
  ·obtain⟨-,b9,rfl,-⟩:=hP
   go_wp2
   go_ret
   exact HP.out
  ·obtain⟨-,hm'⟩:=hP;have hm2:e=wroE s9:=hm';subst hm2;clear hm';unfold wroE at HP ⊢
   go_wp2
   exact⟨rfl,HP.out⟩
  ·exact hP.2.elim
 have he3:((nxT ts p).text.toList == [102,117,110,99])=false:=HE3.out;have HXb3:Hid _:=zbu rfl HXb2.out;clear hb HE3 HXb2;unfold Tok.cells
 go_wp2_with fail
 refine(zep HR1.out).mono ?_;rintro e W2 ⟨rfl,b2⟩;have HP:Hid (PtP T w g st cap ts r (wroE (herI ts p)) W2):=zap (zab HG1.out (zae b2)) HXb3.out.symm;clear HXb3 HR1 HG1 HO HE b2 he0 he1 he2 he3
 go_wp2
 exact⟨rfl,HP.out⟩
end
section
variable {T:Nat}{w:World}{g:Nat}{st:Option Addr}{cap:Nat}{ts:List Tok}{p:Nat}
theorem zns (m:Nat)(l:List Pt)(q:Nat):(fns ts (m+1)).impL l q=(if isT ts q [105,109,112,111,114,116] then(impP ts q).bind fun t q=>kinP ts 5 q fun _ q=>(fns ts m).impL (l++[t]) q else .ok l q):=rfl
theorem znt (m:Nat)(l:List Pt)(q:Nat):(fns ts (m+1)).decL l q=(if q<ts.length then(decP ts (fns ts m) q).bind fun t q=>kinP ts 5 q fun _ q=>(fns ts m).decL (l++[t]) q else .ok l q):=rfl
set_option maxHeartbeats 8000000 in
theorem zpf (n:Nat)(hR:Rdr T w g st cap ts p)(ho:filP ts n p≠.out):Calls Tryz.prog 54 #[.pointer (some ⟨g,0,none⟩)] w (PtP T w g st cap ts (filP ts n p)):=by
 have HR0:=hid hR;have hT:=hR.hT;have hgT:=hR.hg;have HG0:Hid (w.grownBy w (some g)):=zbp _ _;clear hR;obtain⟨r,hX⟩:∃ r,filP ts n p=r:=⟨_,rfl⟩;rw[hX] at ho ⊢;have HX0:=hid hX;have HO:=hid ho;clear hX ho;unfold filP at HX0
 go_enter Tryz.func54,Tryz.ntmps54
 go_wp2_with fail
 refine(zbi 1 HR0.out).mono ?_;rintro e W1 ⟨bk1,rfl,hM,b1⟩;have HM1:Hid (Mk w.heap.size W1 bk1 1 ⟨#[]⟩ 0 (herI ts p) (herI ts p) 0 (.slice none 0 0) []):=hM.mono HG0.out.size;have HG1:=hid (zab HG0.out (zae b1));have HR1:=hid (HR0.out.low b1);clear hM b1 HG0 HR0
 go_wp2_with fail
 refine(zbd ⟨#[112,97,99,107,97,103,101]⟩ (by simp) HR1.out).mono ?_;rintro e W2 ⟨g1,hm0⟩;have hm:(if isT ts p [112,97,99,107,97,103,101] then e=.returned (.tuple #[])∧Rdr T W2 g st cap ts (p+1) else e=wroE (herI ts p)):=hm0;clear hm0;obtain⟨bb,hb⟩:∃ bb,isT ts p [112,97,99,107,97,103,101]=bb:=⟨_,rfl⟩;rw[hb] at hm
 cases bb
 ·simp only[Bool.false_eq_true,if_false] at hm;subst hm;have HP:Hid (PtP T w g st cap ts r (wroE (herI ts p)) W2):=zap (zab HG1.out g1) (zda hb HX0.out);clear HG1 HR1 HX0 HM1;unfold wroE
  go_wp2
  exact⟨rfl,HP.out⟩
 simp only[if_true] at hm;obtain⟨rfl,r1⟩:=hm;have HX2:Hid _:=zcl hb HX0.out;have HG3:=hid (zab HG1.out g1);have HM3:=hid (HM1.out.grow (Nat.lt_of_lt_of_le hgT hT) g1);have HR2:Hid (Rdr T W2 g st cap ts (p+1)):=r1;clear g1 r1 hb HX0 HR1 HG1 HM1
 go_wp2_with fail
 refine(zc9 HR2.out).mono ?_;rintro e W4 ⟨g1,hm⟩;obtain⟨bb,hb⟩:∃ bb,namB ts (p+1)=bb:=⟨_,rfl⟩;rw[hb] at hm
 cases bb
 ·simp only[Bool.false_eq_true,if_false] at hm;subst hm;have HP:Hid (PtP T w g st cap ts r (wroE (herI ts (p+1))) W4):=zap (zab HG3.out g1) (zeq hb HX2.out);clear HG3 HR2 HX2 HM3;unfold wroE
  go_wp2
  exact⟨rfl,HP.out⟩
 simp only[if_true] at hm;obtain⟨rfl,r1⟩:=hm;have HX4:Hid _:=zdt hb HX2.out;have HG5:=hid (zab HG3.out g1);have HM5:=hid (HM3.out.grow (Nat.lt_of_lt_of_le hgT hT) g1);have HR4:Hid (Rdr T W4 g st cap ts ((p+1)+1)):=r1;clear g1 r1 hb HX2 HR2 HG3 HM3
 go_wp2_with fail
 refine(zco (nxT ts (p+1)) HM5.out).mono ?_;rintro e W6 ⟨rfl,hM,b1⟩;have HM6:=hid hM;have HG7:=hid (zav HG5.out b1);have HR7:=hid (HR4.out.below hT b1);clear hM b1 HM5 HG5 HR4
 go_wp2_with fail
 refine(zfn 5 (by decide) HR7.out).mono ?_;rintro e W8 ⟨g1,hm⟩;obtain⟨bb,hb⟩:∃ bb,((nxT ts ((p+1)+1)).kind == 5)=bb:=⟨_,rfl⟩;rw[hb] at hm
 cases bb
 ·simp only[Bool.false_eq_true,if_false] at hm;subst hm;have HP:Hid (PtP T w g st cap ts r (wroE (herI ts ((p+1)+1))) W8):=zap (zab HG7.out g1) (zjk hb HX4.out);clear HG7 HR7 HX4 HM6;unfold wroE
  go_wp2
  exact⟨rfl,HP.out⟩
 simp only[if_true] at hm;obtain⟨rfl,r1⟩:=hm;have HX8:Hid _:=zg7 hb HX4.out;have HG9:=hid (zab HG7.out g1);have HM9:=hid (HM6.out.grow (Nat.lt_of_lt_of_le hgT hT) g1);have HR8:Hid (Rdr T W8 g st cap ts (((p+1)+1)+1)):=r1;clear g1 r1 hb HX4 HR7 HG7 HM6;obtain⟨rm,hrm⟩:∃ rm,(fns ts n).impL [] (((p+1)+1)+1)=rm:=⟨_,rfl⟩;obtain⟨K,hK⟩:∃ K:List Pt->Nat->Rs Pt,(fun l q=>((fns ts n).decL l q).bind fun l q=>.ok (.mk 1 (nxT ts (p+1)).text 0 (nxT ts (p+1)).pos (herI ts p) (behI ts q) l) q)=K:=⟨_,rfl⟩;have HK:=hid hK;have HRM:Hid (rm.bind K=r):=by show _=_;rw[<-hrm,<-hK];exact HX8.out
 have HRN:=hid hrm;have HOM:Hid (rm≠.out):=zay HRM.out HO.out;have hfe:=HR8.out.few;clear hrm hK HX8
 go_wp2
 go_loopw [] (fun wr=>∃ (l:List Pt) (q m:Nat) (v:Value),Mk w.heap.size wr bk1 1 (nxT ts (p+1)).text 0 (nxT ts (p+1)).pos (herI ts p) 0 v l∧w.grownBy wr (some g)∧Rdr T wr g st cap ts q∧(fns ts m).impL l q=rm∧m<=n∧l.length<=q) (fun wr=>ts.length - posW g wr)
 case atStart=>exact⟨[],_,n,_,HM9.out,HG9.out,HR8.out,HRN.out,Nat.le_refl _,by simp⟩
 case round=>
  obtain⟨l,q,m,v,hM,hG,hR,hm,hmn,hlq⟩:=hrel;have HM1:=hid hM;have HG1:=hid hG;have HR1:=hid hR;have hle:=hR.le;have HPQ:Hid (posW g wr=q):=hR.pos;clear HM9 HG9 HR8 HRN
  cases m with
  | zero=>exact(HOM.out hm.symm).elim
  | succ m=>
  have HX1:Hid _:=(zns m l q).symm.trans hm;clear hM hG hR hm
  go_wp2_with fail
  refine(zd8 ⟨#[105,109,112,111,114,116]⟩ HR1.out).mono ?_;rintro e W10 ⟨he,b1⟩;obtain⟨bb,hb⟩:∃ bb,isT ts q [105,109,112,111,114,116]=bb:=⟨_,rfl⟩;rw[show isT ts q (⟨#[105,109,112,111,114,116]⟩:ByteArray).data.toList=bb from hb] at he;subst he;rw[hb] at HX1;have g1:wr.grownBy W10 (some g):=zae b1;have HR10:=hid (HR1.out.low b1);have HG11:=hid (zab HG1.out g1);have HM11:=hid (HM1.out.grow (Nat.lt_of_lt_of_le hgT hT) g1);clear g1 b1 hb HR1 HG1 HM1
  cases bb
  rotate_left
  ·skip
   have HX10:Hid _:=za8 rfl HX1.out;clear HX1 HK;have HL13:Hid ((bk1<W10.heap.size∧∀ q,(v:Value).ownBlock=some q->q<W10.heap.size)∧w.heap.size<=W10.heap.size∧g<W10.heap.size):=⟨HM11.out.at,HG11.out.size,HR10.out.lt⟩
   go_wp2_with fail
   refine(zis HR10.out).mono ?_;rintro e W13 ⟨g1,hm⟩;have hadv:=zqb (ts:=ts) q;rcases hx:impP ts q with⟨t13,q13⟩ | s13|_
   rotate_left
   ·rw[hx] at hm;have hm':e=wroE s13:=hm;subst hm';have HP:Hid (PtP T w g st cap ts r (wroE (s13)) W13):=zap (zab HG11.out g1) (zas (zas hx HX10.out) HRM.out);clear HG11 HR10 HX10 HM11 HL13;unfold wroE
    go_wp2
    exact⟨rfl,HP.out⟩
   ·rw[hx] at hm;exact hm.elim
   rw[hx] at hm;obtain⟨bk13,rfl,hpt,r1⟩:=hm;have HX13:Hid _:=za3 hx HX10.out;rw[hx] at hadv;have hadv2:q+1<=q13:=by have h:_<=q13:=hadv;omega
   clear hadv;have hsz13:=g1.size;have HG14:=hid (zab HG11.out g1);have HM14:=hid (HM11.out.grow (Nat.lt_of_lt_of_le hgT hT) g1);have HK13:=hid hpt;have HR13:Hid (Rdr T W13 g st cap ts q13):=r1;clear g1 r1 hpt hx HX10 HR10 HG11 HM11;have hle13:=HR13.out.le
   go_wp2_with fail
   refine zaf (fun W=>Below W13.heap.size W13 W∧W.heap[W13.heap.size]?=some (.cells #[.pointer (some ⟨bk13,0,none⟩)] 93 (0,0))) ⟨(Below.refl _ _).alloc (Nat.le_refl _) _,heap_alloc_new _ _⟩ ?_;rintro Wa15 ⟨ba,ra⟩;refine(zcm (bs2:=[bk13]) (l2:=[t13]) (S2:=fun j=>W10.heap.size<=j∧j<W13.heap.size) (HM14.out.below ba) (zau ra) (fun h=>by cases h) (PsAt.one (HK13.out.low (Nat.le_refl _) ba)) (zb7 HL13.out.1 HL13.out.2.1 ba.size) (by simp;omega)).mono ?_;rintro e W15 ⟨rfl,⟨v15,hM⟩,b1⟩;have HM15:=hid hM;have HGa15:=hid (zab HG14.out (zae ba));have HRa15:=hid (HR13.out.low ba);have HG16:=hid (zav HGa15.out b1);have HR16:=hid (HRa15.out.below hT b1);clear hM b1 ba ra HM14 HL13 HG14 HR13 HGa15 HRa15 HK13
   go_wp2_with fail
   refine(zfn 5 (by decide) HR16.out).mono ?_;rintro e W17 ⟨g1,hm⟩;obtain⟨bb,hb⟩:∃ bb,((nxT ts q13).kind == 5)=bb:=⟨_,rfl⟩;rw[hb] at hm
   cases bb
   ·simp only[Bool.false_eq_true,if_false] at hm;subst hm;have HP:Hid (PtP T w g st cap ts r (wroE (herI ts q13)) W17):=zap (zab HG16.out g1) (zas (zjk hb HX13.out) HRM.out);clear HG16 HR16 HX13 HM15;unfold wroE
    go_wp2
    exact⟨rfl,HP.out⟩
   simp only[if_true] at hm;obtain⟨rfl,r1⟩:=hm;have HX17:Hid _:=zg7 hb HX13.out;have HG18:=hid (zab HG16.out g1);have HM18:=hid (HM15.out.grow (Nat.lt_of_lt_of_le hgT hT) g1);have HR17:Hid (Rdr T W17 g st cap ts (q13+1)):=r1;clear g1 r1 hb HX13 HR16 HG16 HM15;have hle9:=HR17.out.le
   go_wp2
   exact⟨⟨l++[t13],(q13+1),m,_,HM18.out,HG18.out,HR17.out,HX17.out,by omega,by simp;omega⟩,by rw[HR17.out.pos,HPQ.out];omega⟩
  have HX10:Hid _:=zbu rfl HX1.out;clear HX1;have HRK:Hid (K l q=r):=by
   show _=_;have h:=HRM.out;rw[<-HX10.out] at h;exact h
  clear HX10 HRM HOM;rw[<-HK.out] at HRK;obtain⟨rd,hrd⟩:∃ rd,(fns ts n).decL l q=rd:=⟨_,rfl⟩;have HRD:Hid ((rd.bind fun l q=>.ok (.mk 1 (nxT ts (p+1)).text 0 (nxT ts (p+1)).pos (herI ts p) (behI ts q) l) q)=r):=by show _=_;rw[<-hrd];exact HRK.out
  have HRE:=hid hrd;have HOD:Hid (rd≠.out):=zay HRD.out HO.out;clear hrd HRK HK
  go_wp2
  go_loopw [] (fun wr=>∃ (l:List Pt) (q m:Nat) (v:Value),Mk w.heap.size wr bk1 1 (nxT ts (p+1)).text 0 (nxT ts (p+1)).pos (herI ts p) 0 v l∧w.grownBy wr (some g)∧Rdr T wr g st cap ts q∧(fns ts m).decL l q=rd∧m<=n∧l.length<=q) (fun wr=>ts.length - posW g wr)
  case atStart=>exact⟨l,q,n,v,HM11.out,HG11.out,HR10.out,HRE.out,Nat.le_refl _,hlq⟩
  case round=>
   clear HM11 HG11 HR10 HRE hlq hle HPQ hmn;obtain⟨l,q,m,v,hM,hG,hR,hm,hmn,hlq⟩:=hrel;have HM2:=hid hM;have HG2:=hid hG;have HR2:=hid hR;have hle:=hR.le;have HPQ:Hid (posW g wr=q):=hR.pos
   cases m with
   | zero=>exact(HOD.out hm.symm).elim
   | succ m=>
   have HX2:Hid _:=(znt m l q).symm.trans hm;clear hM hG hR hm;have c0:=HR2.out.c0;have c1:=HR2.out.c1
   by_cases hql:q<ts.length
   rotate_left
   ·have hd:decide ((q:Int)<ts.length)=false:=by simp;omega
    have HX3:Hid _:=(if_neg hql).symm.trans HX2.out;have HX4:Hid (Rs.ok (.mk 1 (nxT ts (p+1)).text 0 (nxT ts (p+1)).pos (herI ts p) (behI ts q) l) q=r):=by
     show _=_;have h:=HRD.out;rw[<-HX3.out] at h;exact h
    clear HX2 HX3 HRD HOD
    go_wp2
    go_region
    go_wp2_with fail
    refine zaf (fun W=>Below wr.heap.size wr W) (Below.refl _ _).drew ?_;intro Wd bd;clear c0 c1;refine(za4 (bs2:=[]) (l2:=[]) (S2:=fun _=>False) (HR2.out.low bd) hT (HM2.out.below bd) RowsAt.none (fun _=>⟨rfl,rfl⟩) (PsAt.nil _ _) (fun _ h=>h.elim) (by simp;omega)).mono ?_;rintro e We ⟨rfl,⟨ve,hMe⟩,be⟩;have HP:Hid (PtP T w g st cap ts r (.returned (.pointer (some ⟨bk1,0,none⟩))) We):=zbj (zav (zab HG2.out (zae bd)) be) HX4.out (by have h:=hMe.fin;rw[List.append_nil] at h;exact h) ((HR2.out.low bd).below hT be);clear HX4 HM2 HG2 HR2 hMe be bd HO
    go_wp2
    go_ret
    exact HP.out
   have hd:decide ((q:Int)<ts.length)=true:=by simp;omega
   have HX3:Hid _:=(if_pos hql).symm.trans HX2.out;clear HX2
   go_wp2
   go_region
   go_wp2_with fail
   refine zaf (fun W=>Below wr.heap.size wr W) (Below.refl _ _).drew ?_;intro Wd bd;have HMd:=hid (HM2.out.below bd);have HGd:=hid (zab HG2.out (zae bd));have HRd:=hid (HR2.out.low bd);clear c0 c1 bd HM2 HG2 HR2 hd;have HL20:Hid ((bk1<Wd.heap.size∧∀ q,(v:Value).ownBlock=some q->q<Wd.heap.size)∧w.heap.size<=Wd.heap.size∧g<Wd.heap.size):=⟨HMd.out.at,HGd.out.size,HRd.out.lt⟩;refine(zpe m HRd.out (zay HX3.out HOD.out)).mono ?_;rintro e W20 ⟨g1,hm⟩;have hadv:=zqr (ts:=ts) m q;rcases hx:decP ts (fns ts m) q with⟨t20,q20⟩ | s20|_
   rotate_left
   ·rw[hx] at hm;have hm':e=wroE s20:=hm;subst hm';have HP:Hid (PtP T w g st cap ts r (wroE (s20)) W20):=zap (zab HGd.out g1) (zas (zas hx HX3.out) HRD.out);clear HGd HRd HX3 HMd HL20;unfold wroE
    go_wp2
    exact⟨rfl,HP.out⟩
   ·rw[hx] at hm;exact hm.elim
   rw[hx] at hm;obtain⟨bk20,rfl,hpt,r1⟩:=hm;have HX20:Hid _:=za3 hx HX3.out;rw[hx] at hadv;have hadv2:q+1<=q20:=by have h:_<=q20:=hadv;omega
   clear hadv;have hsz20:=g1.size;have HG21:=hid (zab HGd.out g1);have HM21:=hid (HMd.out.grow (Nat.lt_of_lt_of_le hgT hT) g1);have HK20:=hid hpt;have HR20:Hid (Rdr T W20 g st cap ts q20):=r1;clear g1 r1 hpt hx HX3 HRd HGd HMd;have hle20:=HR20.out.le
   go_wp2_with fail
   refine zaf (fun W=>Below W20.heap.size W20 W∧W.heap[W20.heap.size]?=some (.cells #[.pointer (some ⟨bk20,0,none⟩)] 93 (0,0))) ⟨(Below.refl _ _).alloc (Nat.le_refl _) _,heap_alloc_new _ _⟩ ?_;rintro Wa22 ⟨ba,ra⟩;refine(zcm (bs2:=[bk20]) (l2:=[t20]) (S2:=fun j=>Wd.heap.size<=j∧j<W20.heap.size) (HM21.out.below ba) (zau ra) (fun h=>by cases h) (PsAt.one (HK20.out.low (Nat.le_refl _) ba)) (zb7 HL20.out.1 HL20.out.2.1 ba.size) (by simp;omega)).mono ?_;rintro e W22 ⟨rfl,⟨v22,hM⟩,b1⟩;have HM22:=hid hM;have HGa22:=hid (zab HG21.out (zae ba));have HRa22:=hid (HR20.out.low ba);have HG23:=hid (zav HGa22.out b1);have HR23:=hid (HRa22.out.below hT b1);clear hM b1 ba ra HM21 HL20 HG21 HR20 HGa22 HRa22 HK20
   go_wp2_with fail
   refine(zfn 5 (by decide) HR23.out).mono ?_;rintro e W24 ⟨g1,hm⟩;obtain⟨bb,hb⟩:∃ bb,((nxT ts q20).kind == 5)=bb:=⟨_,rfl⟩;rw[hb] at hm
   cases bb
   ·simp only[Bool.false_eq_true,if_false] at hm;subst hm;have HP:Hid (PtP T w g st cap ts r (wroE (herI ts q20)) W24):=zap (zab HG23.out g1) (zas (zjk hb HX20.out) HRD.out);clear HG23 HR23 HX20 HM22;unfold wroE
    go_wp2
    exact⟨rfl,HP.out⟩
   simp only[if_true] at hm;obtain⟨rfl,r1⟩:=hm;have HX24:Hid _:=zg7 hb HX20.out;have HG25:=hid (zab HG23.out g1);have HM25:=hid (HM22.out.grow (Nat.lt_of_lt_of_le hgT hT) g1);have HR24:Hid (Rdr T W24 g st cap ts (q20+1)):=r1;clear g1 r1 hb HX20 HR23 HG23 HM22;have hle9:=HR24.out.le
   go_wp2
   exact⟨⟨l++[t20],(q20+1),m,_,HM25.out,HG25.out,HR24.out,HX24.out,by omega,by simp;omega⟩,by rw[HR24.out.pos,HPQ.out];omega⟩
end
end Go.Proofs.YtmclgbkijeidaaaGreatDoor
