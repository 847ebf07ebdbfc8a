import Derived.Test.YtmclgbkijeidaaaGreatDoorUnU
namespace Go.Proofs.YtmclgbkijeidaaaGreatDoor
set_option maxRecDepth 100000
set_option maxHeartbeats 4000000
open Go.RowKit
section
variable {T:Nat}{w W0 W W':World}{g:Nat}{st:Option Addr}{cap:Nat}{ts:List Tok}{s s':Qs}
abbrev UnQ (T:Nat) (g:Nat) (st:Option Addr) (cap:Nat) (ts:List Tok) (m:Nat):Prop:=∀ (w:World) s r,(dns ts m).una s=some r->QdS T w g st cap ts s->Calls Tryz.prog 149 #[.pointer (some ⟨g,0,none⟩)] w (QoP T w g st cap ts r)
theorem zoi {n k:Nat}(kk:Int){r:Qv × Qs}(hkk:kk=k)(hk1:1<=k)(hk6:k<=6)(hU:UnQ T g st cap ts n)(hE:∀ m,m<=n->RwQ T g st cap ts m)(hR:QdS T w g st cap ts s)(hX:(dns ts (n+1)).row k s=some r):Calls Tryz.prog 128 #[.pointer (some ⟨g,0,none⟩),.int .i64 kk] w (QoP T w g st cap ts r):=by
 have HF:=hid (zb9 hR);have hfe:=hR.few;have hle:=hR.le;clear hR;have HE:=hid hE;have HU:=hid hU;clear hE hU;rw[znf] at hX;have HX:=hid hX;clear hX
 go_enter Tryz.func128,Tryz.ntmps128
 have hkq:(kk == 6)=decide (k=6):=by rw[hkk,Bool.eq_iff_iff];simp;omega
 have HKK:=hid hkk
 by_cases h6:k=6
 ·skip
  have hq:(kk == 6)=true:=by rw[hkq];simpa using h6
  clear hkq hkk
  replace HX:=hid (if_t HX.out h6)
  go_wp2_with fail
  refine zaf (fun W=>Fr T w W W g st cap ts s) HF.out ?_;intro W0 hF;clear HF;have HF:=hid hF;clear hF;clear hq;refine(HU.out W0 _ _ HX.out HF.out.hR).mono ?_;rintro e W1 ⟨e1,rfl,q1,g1,r1⟩;obtain⟨v1,s1⟩:=r;have HV1:=hid q1;have hl1:=HF.out.size;have HF1:=hid (HF.out.call g1 r1);clear q1 g1 r1;obtain⟨W2,hst,hr,hp⟩:=za5 HF1.out (v:=v1) ⟨HV1.out.is.keep (fun j hj=>⟨by omega,hj.2⟩) fun _ _=>rfl,HV1.out.bg⟩;have HP:=hid hp;have HRR:=hid hr;clear hp hr
  go_wp2
  exact zan Tryz.results128 rfl HRR.out HP.out
 ·skip
  have hq:(kk == 6)=false:=by rw[hkq];simpa using h6
  have hk5:k<=5:=by omega
  have hkl:1<=kk:=by omega
  have hku:kk<=6:=by omega
  clear hkq hkk
  replace HX:=hid (if_f HX.out h6)
  go_wp2_with fail
  clear hq;refine zaf (fun W=>Fr T w W W g st cap ts s) HF.out ?_;intro W0 hF;clear HF;have HF:=hid hF;clear hF;rcases hk:(dns ts n).row (k+1) s with _|⟨v2,s2⟩
  ·exact absurd HX.out (by rw[hk];intro h;cases h)
  rw[hk] at HX;simp only[Option.bind_some] at HX;refine(HE.out n (Nat.le_refl _) _ _ _ (k+1) (kk+1) (by rw[HKK.out];push_cast;rfl) (by omega) (by omega) hk HF.out.hR).mono ?_;rintro e W2 ⟨e2,rfl,q2,g2,r2⟩;have HV2:=hid q2;have hl2:=HF.out.size;have HF3:=hid (HF.out.call g2 r2);clear q2 g2 r2 hk HF;obtain⟨W4,hst4,b4,f4,l4⟩:=zk2 HF3.out (A:=W0) (Nat.le_refl _) HV2.out;have HVL:=hid l4;have HFV:=hid f4;clear b4 f4 l4 HV2 HF3
  go_wp2_with fail
  clear hst4;have HRL:=hid HX.out;clear HX
  go_loopw [] (fun wr=>∃ (v:Qv) (q:Qs) (m N:Nat) (e:Qe),Fr T w W0 wr g st cap ts q∧Vl W0 wr (W2.heap.size) N v e∧(dns ts m).rowL k v q=some r∧m<=n) (fun wr=>muQ ts g wr)
  case atStart=>exact⟨_,_,n,_,_,HFV.out,HVL.out,HRL.out,Nat.le_refl _⟩
  case round=>
   obtain⟨v,q,m,N,e,hF,hV,hm,hmn⟩:=hrel;have HFr:=hid hF;have HMU:=hid (zc1 hF.hR);have hqle:q.p<=ts.length:=hF.hR.le;have pR:=hV.row;have PB:=hid hV.hB;have hbl:=zaa hV.row;have hN:=hV.hN;obtain⟨pS,pV,pS2⟩:=hV.ex;have PV:=hid pV;have PS:=hid pS2;have PR:=hid pR;clear hF hV pV pS2 pR HFV HVL HRL
   cases m with
   | zero=>cases hm
   | succ m=>
   rw[zls] at hm;have HX:=hid hm;clear hm;obtain⟨e0,e1,e2,e3,e4,e5,e6,e7,e8,e9⟩:=e;obtain⟨qb5,hqb5⟩:∃ b,q.bad=b:=⟨_,rfl⟩;have wc5:wr.cell? ⟨g,2,none⟩=some (.bool qb5):=hqb5 ▸ HFr.out.hR.c2;rw[hqb5] at HX;have HQB:=hid hqb5;clear hqb5
   cases qb5
   ·skip
    go_wp2_with fail
    clear wc5;refine(zbe HFr.out.hR).mono ?_;rintro e W6 ⟨rfl,b6⟩;obtain⟨t6,ht⟩:∃ t,nxQ ts q.p=t:=⟨_,rfl⟩;rw[ht];have HNX6:=hid ht;have HZ6:=hid (ht ▸ HFr.out.hR.sz)
    try rw[ht] at HX
    have PR8:=hid ((b6.block _ (zaa PR.out)).trans PR.out);have PV8:Hid (QV W6 pS v ⟨e0,e1,e2,e3,e4,e5,e6,e7,e8,e9⟩):=hid ⟨PV.out.is.keep (fun _ h=>h) fun j hj=>b6.block j (by have:=(PS.out j hj).2.1;omega),PV.out.bg⟩;have pz8:=b6.size;have HF9:=hid (HFr.out.low b6);clear ht b6 HFr PR PV;have hfd0:∀ (a b c:Value) (W:World),(Instr.field 38 (.agg #[a,b,c]) 0).run Tryz.prog W=.ok a W:=fun _ _ _ _=>rfl;have hfd1:∀ (a b c:Value) (W:World),(Instr.field 38 (.agg #[a,b,c]) 1).run Tryz.prog W=.ok b W:=fun _ _ _ _=>rfl
    try unfold Tok.cells
    obtain⟨k4,hk4⟩:∃ b,(t6.kind == 4)=b:=⟨_,rfl⟩;rw[hk4] at HX
    cases k4
    ·skip
     replace HX:=hid (if_f HX.out (fun h=>by cases h))
     obtain⟨h0,h1,h2,h3,h4,h5,h6,h7,h8,-⟩:=row9 PR8.out;have HP:=hid (zd4 HF9.out (v:=v) (e:=⟨e0,e1,e2,e3,e4,e5,e6,e7,e8,e9⟩) ⟨PV8.out.is.keep (fun j hj=>⟨(PS.out j hj).1,by have:=(PS.out j hj).2.1;omega⟩) fun _ _=>rfl,PV8.out.bg⟩)
     go_wp2_with (refine zdj (by rfl) (.tmp 4) (.tmp 72) (by rfl) ⟨e0,e1,e2,e3,e4,e5,e6,e7,e8,e9⟩ (by rfl) (by rfl) HF9.out.hZ (by rfl) ?_)
     have hx:=Option.some.inj HX.out;exact zan Tryz.results128 rfl (zad HF9.out.hZ) (hx ▸ HP.out)
    ·skip
     go_wp2_with fail
     clear hk4;refine(zbe HF9.out.hR).mono ?_;rintro e W10 ⟨rfl,b10⟩;rw[HNX6.out];have PR12:=hid ((b10.block _ (zaa PR8.out)).trans PR8.out);have PV12:Hid (QV W10 pS v ⟨e0,e1,e2,e3,e4,e5,e6,e7,e8,e9⟩):=hid ⟨PV8.out.is.keep (fun _ h=>h) fun j hj=>b10.block j (by have:=(PS.out j hj).2.1;omega),PV8.out.bg⟩;have pz12:=b10.size;have HF13:=hid (HF9.out.low b10);clear b10 HF9 PR8 PV8
     try unfold Tok.cells
     go_wp2_with fail
     refine(zmh t6.text W10).mono ?_;rintro e W14 ⟨rfl,b14⟩;have PR16:=hid ((b14.block _ (zaa PR12.out)).trans PR12.out);have PV16:Hid (QV W14 pS v ⟨e0,e1,e2,e3,e4,e5,e6,e7,e8,e9⟩):=hid ⟨PV12.out.is.keep (fun _ h=>h) fun j hj=>b14.block j (by have:=(PS.out j hj).2.1;omega),PV12.out.bg⟩;have pz16:=b14.size;have HF17:=hid (HF13.out.low b14);clear b14 HF13 PR12 PV12;obtain⟨rk,hrk⟩:∃ b,(rowQ t6.text == (k:Int))=b:=⟨_,rfl⟩;rw[hrk] at HX;have hrk2:(rowQ t6.text == kk)=rk:=by rw[HKK.out];exact hrk
     cases rk
     ·skip
      replace HX:=hid (if_f HX.out (fun h=>by cases h))
      obtain⟨h0,h1,h2,h3,h4,h5,h6,h7,h8,-⟩:=row9 PR16.out;have HP:=hid (zd4 HF17.out (v:=v) (e:=⟨e0,e1,e2,e3,e4,e5,e6,e7,e8,e9⟩) ⟨PV16.out.is.keep (fun j hj=>⟨(PS.out j hj).1,by have:=(PS.out j hj).2.1;omega⟩) fun _ _=>rfl,PV16.out.bg⟩)
      go_wp2_with (refine zdj (by rfl) (.tmp 4) (.tmp 72) (by rfl) ⟨e0,e1,e2,e3,e4,e5,e6,e7,e8,e9⟩ (by rfl) (by rfl) HF17.out.hZ (by rfl) ?_)
      have hx:=Option.some.inj HX.out;exact zan Tryz.results128 rfl (zad HF17.out.hZ) (hx ▸ HP.out)
     ·skip
      replace HX:=hid (if_t HX.out rfl)
      rw[<-(show e6=v.bg from PV16.out.bg)] at HX
      go_wp2_with fail
      clear hrk hrk2 hfd0 hfd1;refine(zbe HF17.out.hR).mono ?_;rintro e W18 ⟨rfl,b18⟩;rw[HNX6.out];have PR20:=hid ((b18.block _ (zaa PR16.out)).trans PR16.out);have PV20:Hid (QV W18 pS v ⟨e0,e1,e2,e3,e4,e5,e6,e7,e8,e9⟩):=hid ⟨PV16.out.is.keep (fun _ h=>h) fun j hj=>b18.block j (by have:=(PS.out j hj).2.1;omega),PV16.out.bg⟩;have pz20:=b18.size;have HF21:=hid (HF17.out.low b18);clear b18 HF17 PR16 PV16;obtain⟨W22,hst22,b22,f22,l22⟩:=zdg HF21.out t6;have PR24:=hid ((b22.block _ (zaa PR20.out)).trans PR20.out);have PV24:Hid (QV W22 pS v ⟨e0,e1,e2,e3,e4,e5,e6,e7,e8,e9⟩):=hid ⟨PV20.out.is.keep (fun _ h=>h) fun j hj=>b22.block j (by have:=(PS.out j hj).2.1;omega),PV20.out.bg⟩;have pz24:=b22.size;have Ht22t:=hid l22;have HF25:=hid (f22);clear b22 f22 l22 HF21 PR20 PV20;obtain⟨c26a,c26b,c26c⟩:=Ht22t.out.cells
      go_wp2_with fail
      clear hst22 c26a c26b c26c;refine(zag t6.text HF25.out.hR).mono ?_;rintro e W27 ⟨rfl,g27,r27⟩;obtain⟨t27,ht⟩:∃ t,takT ts t6.text q=t:=⟨_,rfl⟩;obtain⟨s27,hs⟩:∃ s2,takS ts t6.text q=s2:=⟨_,rfl⟩;rw[show takT ts t6.text ⟨q.p,q.bad⟩=t27 from ht];have q27:QdS T W27 g st cap ts s27:=hs ▸ r27;have HT27:Hid (LtQ q s27):=hid (hs ▸ zal _ _)
      try rw[ht] at HX
      try rw[hs] at HX
      have Ht28t:=hid (Ht22t.out.call HF25.out.gB g27);have PR29:=hid ((g27.block _ (zaa PR24.out) (fun e=>by injection e with e;have:=HF25.out.gB;have:=PB.out;omega)).trans PR24.out);have PV29:Hid (QV W27 pS v ⟨e0,e1,e2,e3,e4,e5,e6,e7,e8,e9⟩):=hid ⟨PV24.out.is.keep (fun _ h=>h) fun j hj=>g27.block j (by have:=(PS.out j hj).2.1;omega) (fun e=>by injection e with e;have:=HF25.out.gB;have:=(PS.out j hj).1;omega),PV24.out.bg⟩;have pz29:=g27.size;have HF30:=hid (HF25.out.call g27 q27);clear ht hs r27 q27 g27 HF25 Ht22t PR24 PV24;obtain⟨c31a,c31b,c31c⟩:=Ht28t.out.cells
      go_wp2_with fail
      clear c31a c31b c31c;refine(zat 27 t6 t6.text W27).mono ?_;rintro e W32 ⟨rfl,b32⟩;have Ht33t:=hid (Ht28t.out.low b32);have PR34:=hid ((b32.block _ (zaa PR29.out)).trans PR29.out);have PV34:Hid (QV W32 pS v ⟨e0,e1,e2,e3,e4,e5,e6,e7,e8,e9⟩):=hid ⟨PV29.out.is.keep (fun _ h=>h) fun j hj=>b32.block j (by have:=(PS.out j hj).2.1;omega),PV29.out.bg⟩;have pz34:=b32.size;have HF35:=hid (HF30.out.low b32);clear b32 HF30 Ht28t PR29 PV29;have hbx:=zaa PR34.out;have hNx:N<=W32.heap.size:=by omega
      obtain⟨W36,hst36,b36,f36,l36⟩:=zc2 (z:=W2.heap.size) HF35.out hbx 27 t6 t6.text;have PR38:=hid ((b36.block _ (zaa PR34.out)).trans PR34.out);have PV38:Hid (QV W36 pS v ⟨e0,e1,e2,e3,e4,e5,e6,e7,e8,e9⟩):=hid ⟨PV34.out.is.keep (fun _ h=>h) fun j hj=>b36.block j (by have:=(PS.out j hj).2.1;omega),PV34.out.bg⟩;have pz38:=b36.size;have Hp36x:=hid l36;have hn36:=b36.size;have HF39:=hid (f36);clear b36 f36 l36 HF35 PR34 PV34;obtain⟨r40a,r40b,r40c,r40d,r40e,r40f,r40g,r40h,r40i,r40z⟩:=row9 Hp36x.out.row;obtain⟨p0,p1,p2,p3,p4,p5,p6,p7,p8,-⟩:=row9 PR38.out
      go_wp2_with fail
      go_region
      obtain⟨W41,hw41,b41,o41,r41⟩:∃ W2,((W36.setCell ⟨W32.heap.size,5,none⟩ (.int .i64 e6)).setCell ⟨W32.heap.size,7,none⟩ (.int .i64 e6)).drew=W2∧Below (W32.heap.size) W36 W2∧(∀ j,j≠W32.heap.size->j<W36.heap.size->W2.heap[j]?=W36.heap[j]?)∧W2.heap[W32.heap.size]?=some (.cells (paQ 27 t6.text 0 t6.pos e6 0 e6 (.slice none 0 0)) 63 (0,0)) :=
       ⟨_,rfl,(((Below.refl _ _).setCell (p:=⟨W32.heap.size,5,none⟩) (Nat.le_refl _) _).setCell (p:=⟨W32.heap.size,7,none⟩) (Nat.le_refl _) _).drew,fun j hj _=>(heap_setCell_other _ _ _ _ hj).trans ((heap_setCell_other _ _ _ _ hj).trans (rfl)),heap_setCell_same _ _ 7 _ _ _ (heap_setCell_same _ _ 5 _ _ _ (Hp36x.out.row))⟩
      obtain⟨f41,q41⟩:=zhz HF39.out Hp36x.out W41 b41 o41 27 t6.text 0 t6.pos e6 0 e6 r41;have Hp41x:=hid q41;have PR41:=hid ((o41 _ (Nat.ne_of_lt hbx) (zaa PR38.out)).trans PR38.out);have PV41:Hid (QV W41 pS v ⟨e0,e1,e2,e3,e4,e5,e6,e7,e8,e9⟩):=hid ⟨PV38.out.is.keep (fun _ h=>h) fun j hj=>o41 j (by have:=(PS.out j hj).2.1;omega) (by have:=(PS.out j hj).2.1;omega),PV38.out.bg⟩;have pz41:=b41.size;have HF42:=hid (f41);clear f41 q41 b41 o41 r41 HF39 Hp36x PR38 PV38;rw[hw41];clear hw41 hst36 r40a r40b r40c r40d r40e r40f r40g r40h r40i r40z p0 p1 p2 p3 p4 p5 p6 p7 p8;obtain⟨r43a,r43b,r43c,r43d,r43e,r43f,r43g,r43h,r43i,r43z⟩:=row9 Hp41x.out.row;obtain⟨p0,p1,p2,p3,p4,p5,p6,p7,p8,-⟩:=row9 PR41.out;obtain⟨as44,an44,ac44,w144,W44,ha44,ce44,cf44,cw44,f44,q44,z44⟩:=zqq (vx:=v) (e:=⟨e0,e1,e2,e3,e4,e5,e6,e7,e8,e9⟩) HF42.out Hp41x.out (by simp) PV41.out (fun j hj=>by have hp:=PS.out j hj;have:=Hp41x.out.lt;exact⟨hp.1,by omega,by omega,hp.2.2,by simp[Value.ownBlock]⟩)
      dsimp only[Qe.cells,paQ] at ha44 ce44 cf44 cw44
      have Hp44x:=hid q44;have PR44:=hid ((z44 (Nat.ne_of_lt hbx)).trans PR41.out);have HF45:=hid (f44);clear f44 q44 z44 HF42 Hp41x PR41 PV41
      go_wp2_with (refine zaz (.tmp 53) (.tmp 55) 61 (by rfl) (by rfl) (by rfl) (by rfl) ha44 ?_)
      clear r43a r43b r43c r43d r43e r43f r43g r43h r43i r43z p0 p1 p2 p3 p4 p5 p6 p7 p8 ha44 ce44 cf44 cw44;rcases hk46:(dns ts m).row (k+1) s27 with _|⟨v46,s46⟩
      ·exact absurd HX.out (by rw[hk46];intro h;cases h)
      rw[hk46] at HX;simp only[Option.bind_some] at HX;have HLT:=hid ((lst (ts:=ts) _).row _ _ _ _ hk46);have HFr2:=hid HF45.out;have hd46:Below W44.heap.size W44 W44.drew:=(Below.refl _ _).drew;have HD46:=hid (HF45.out.low hd46);have HE46:=hid (Hp44x.out.below hd46);have HK46:=hid (fun (h:QdS T W44.drew g st cap ts s27)=>(fun hk=>HE.out m (by omega) W44.drew _ _ (k+1) (kk+1) (by rw[HKK.out];push_cast;rfl) (by omega) (by omega) hk h) hk46);clear hk46 hd46 HF45 Hp44x;have c846:W44.drew.cell? ⟨W32.heap.size,8,none⟩=some (.slice as44 an44 ac44):=(cell_of_row _ _ 8 _ _ _ HE46.out.row).trans rfl;apply zby (fun y0 y1 y2 y3 y4 y5 y6 y7 y8 y9 Wy sp sn sc Wz=>Fr T w W0 Wz g st cap ts s46∧Qk W0.heap.size (W2.heap.size) Wz (W32.heap.size) 27 t6.text 0 t6.pos e6 0 e6 (.slice sp sn sc) (([]++[v.pt])++[v46.pt])∧W44.drew.grownBy Wy (some g)∧((W2.heap.size)≠W32.heap.size->Wz.heap[W2.heap.size]?=Wy.heap[W2.heap.size]?)∧Wy.heap.size<=Wz.heap.size)
      rotate_left
      ·intro hc;refine zbg (S:=fun _=>Hid True) 10 rfl (by kernel_rfl) ?_;refine zao 0 58 (.pointer (some ⟨W32.heap.size,8,none⟩)) rfl (by kernel_rfl) (by kernel_rfl) (by kernel_rfl) (fun _ _ _ h=>h) (fun w' _=>by first|rfl|(go_simp;done) | (go_simp;rw[IntKind.wrap_i64];omega)) (hid trivial) ?_;simp only[sI,sS,sZ];refine zao 2 60 (.pointer (some ⟨g,0,none⟩)) rfl (by kernel_rfl) (by kernel_rfl) (by kernel_rfl) (fun _ _ _ h=>h) (fun w' _=>by first|rfl|(go_simp;done) | (go_simp;rw[IntKind.wrap_i64];omega)) (hid trivial) ?_;simp only[sI,sS,sZ];refine zao 3 61 (.int .i64 kk) rfl (by kernel_rfl) (by kernel_rfl) (by kernel_rfl) (fun _ _ _ h=>h) (fun w' _=>by first|rfl|(go_simp;done) | (go_simp;rw[IntKind.wrap_i64];omega)) (hid trivial) ?_;simp only[sI,sS,sZ];refine zao 4 62 (.int .i64 (kk+1)) rfl (by kernel_rfl) (by kernel_rfl) (by kernel_rfl) (fun _ _ _ h=>h) (fun w' _=>by first|rfl|(go_simp;done) | (go_simp;rw[IntKind.wrap_i64];omega)) (hid trivial) ?_;simp only[sI,sS,sZ];refine wpAnyH_all (rs:=[1,5]) (by kernel_rfl) (by simp) fun i hi=>?_;simp only[List.mem_cons,List.not_mem_nil,or_false] at hi;rcases hi with rfl|rfl
       ·skip
        refine zam rfl rfl ?_
        go_simp
        refine⟨hid trivial,?_⟩;refine zac 5 rfl (by kernel_rfl) ?_
        go_simp
        refine(HK46.out HD46.out.hR).mono ?_;rintro e W46 ⟨⟨y0,y1,y2,y3,y4,y5,y6,y7,y8,y9⟩,rfl,q46,g46,r46⟩;obtain⟨c46,d46,v2,w1,Wz,ha,ce,cf,cw,f46,k46,z46,hsz⟩:=zbt HD46.out HE46.out (by simp) g46 r46 q46;obtain⟨sp2,sn2,sc2,hv2⟩:=k46.sl;subst hv2;have HFIN:=hid (hc y0 y1 y2 y3 y4 y5 y6 y7 y8 y9 W46 sp2 sn2 sc2 Wz ⟨f46,k46,g46,z46,hsz⟩)
        dsimp only[Qe.cells,paQ] at c46 d46 ha ce cf cw
        unfold Qe.cells paQ;clear f46 k46 z46 q46 g46 r46 hsz;refine⟨hid trivial,?_⟩;refine zac 6 rfl (by kernel_rfl) ?_
        go_simp
        refine⟨hid trivial,?_⟩;refine zac 7 rfl (by kernel_rfl) ?_;refine zak (.tmp 59) (.tmp 64) 61 rfl rfl rfl ha ?_;refine⟨hid trivial,?_⟩;simp only[Act.put,List.setIfInBounds_toArray,List.set_cons_succ,List.set_cons_zero];refine zao 8 66 (.pointer (some ⟨W32.heap.size,8,none⟩)) rfl (by kernel_rfl) (by kernel_rfl) (by kernel_rfl) (fun _ _ _ h=>h) (fun w' _=>by first|rfl|(go_simp;done) | (go_simp;rw[IntKind.wrap_i64];omega)) (hid trivial) ?_;simp only[sI,sS,sZ];refine zac 9 rfl (by kernel_rfl) ?_
        go_simp
        refine⟨hid trivial,?_⟩;refine wpAnyH_done (by kernel_rfl) ?_ _;exact HFIN.out
       ·skip
        refine zam rfl rfl ?_
        go_simp
        refine(HK46.out HD46.out.hR).mono ?_;rintro e W46 ⟨⟨y0,y1,y2,y3,y4,y5,y6,y7,y8,y9⟩,rfl,q46,g46,r46⟩;obtain⟨c46,d46,v2,w1,Wz,ha,ce,cf,cw,f46,k46,z46,hsz⟩:=zbt HD46.out HE46.out (by simp) g46 r46 q46;obtain⟨sp2,sn2,sc2,hv2⟩:=k46.sl;subst hv2;have HFIN:=hid (hc y0 y1 y2 y3 y4 y5 y6 y7 y8 y9 W46 sp2 sn2 sc2 Wz ⟨f46,k46,g46,z46,hsz⟩)
        dsimp only[Qe.cells,paQ] at c46 d46 ha ce cf cw
        unfold Qe.cells paQ;clear f46 k46 z46 q46 g46 r46 hsz;refine⟨hid trivial,?_⟩;refine wpAnyH_all (rs:=[1,6]) (by kernel_rfl) (by simp) fun i hi=>?_;simp only[List.mem_cons,List.not_mem_nil,or_false] at hi;rcases hi with rfl|rfl
        ·skip
         refine zam rfl rfl ?_
         go_simp
         refine⟨hid trivial,?_⟩;refine zac 6 rfl (by kernel_rfl) ?_
         go_simp
         refine⟨hid trivial,?_⟩;refine zac 7 rfl (by kernel_rfl) ?_;refine zak (.tmp 59) (.tmp 64) 61 rfl rfl rfl ha ?_;refine⟨hid trivial,?_⟩;simp only[Act.put,List.setIfInBounds_toArray,List.set_cons_succ,List.set_cons_zero];refine zao 8 66 (.pointer (some ⟨W32.heap.size,8,none⟩)) rfl (by kernel_rfl) (by kernel_rfl) (by kernel_rfl) (fun _ _ _ h=>h) (fun w' _=>by first|rfl|(go_simp;done) | (go_simp;rw[IntKind.wrap_i64];omega)) (hid trivial) ?_;simp only[sI,sS,sZ];refine zac 9 rfl (by kernel_rfl) ?_
         go_simp
         refine⟨hid trivial,?_⟩;refine wpAnyH_done (by kernel_rfl) ?_ _;exact HFIN.out
        ·skip
         refine zam rfl rfl ?_
         go_simp
         refine⟨hid trivial,?_⟩;refine zac 1 rfl (by kernel_rfl) ?_
         go_simp
         refine⟨hid trivial,?_⟩;refine zac 7 rfl (by kernel_rfl) ?_;refine zak (.tmp 59) (.tmp 64) 61 rfl rfl rfl ha ?_;refine⟨hid trivial,?_⟩;simp only[Act.put,List.setIfInBounds_toArray,List.set_cons_succ,List.set_cons_zero];refine zao 8 66 (.pointer (some ⟨W32.heap.size,8,none⟩)) rfl (by kernel_rfl) (by kernel_rfl) (by kernel_rfl) (fun _ _ _ h=>h) (fun w' _=>by first|rfl|(go_simp;done) | (go_simp;rw[IntKind.wrap_i64];omega)) (hid trivial) ?_;simp only[sI,sS,sZ];refine zac 9 rfl (by kernel_rfl) ?_
         go_simp
         refine⟨hid trivial,?_⟩;refine wpAnyH_done (by kernel_rfl) ?_ _;exact HFIN.out
      intro y0 y1 y2 y3 y4 y5 y6 y7 y8 y9 W46 sp47 sn47 sc47 W47 hF47;obtain⟨f47,k47,g47,z47,y47⟩:=hF47;have Hp47x:=hid k47;have HG47:=hid g47;have HZ47:=hid z47;have HF48:=hid (f47);clear f47 k47 g47 z47 HD46 HE46 c846 HK46 HFr2;have PRz:=hid ((HZ47.out (Nat.ne_of_lt hbx)).trans ((HG47.out.block _ (zaa PR44.out) (fun e=>by injection e with e;have:=HF48.out.gB;have:=PB.out;omega)).trans PR44.out));clear PR44 HG47 HZ47;obtain⟨r49a,r49b,r49c,r49d,r49e,r49f,r49g,r49h,r49i,r49z⟩:=row9 Hp47x.out.row
      go_wp2_with fail
      clear r49a r49b r49c r49d r49e r49f r49g r49h r49i r49z;obtain⟨sp50,ln50,cp50,hv50,hd50⟩:=za7 HF48.out Hp47x.out;injection hv50 with u1 u2 u3;subst u1 u2 u3;refine hd50.mono ?_;rintro e W50 ⟨e50,rfl,b50,f50,q50⟩;have HV50:=hid q50;have PR52:=hid ((b50.block _ (zaa PRz.out)).trans PRz.out);have pz52:=b50.size;have HF53:=hid (f50);clear hd50 b50 f50 q50 HF48 Hp47x PRz;obtain⟨W54,hst54,b54,f54,l54⟩:=zfr HF53.out PB.out PR52.out HV50.out;have HVN:=hid l54;have HF55:=hid (f54);clear b54 f54 l54 HF53 HV50 PR52;have h3q:(kk == 3)=decide (k=3):=by rw[HKK.out,Bool.eq_iff_iff];simp;omega
      by_cases h3:k=3
      ·skip
       have h3k:(kk == 3)=true:=by rw[h3q];simpa using h3
       clear h3q
       replace HX:=hid (if_t HX.out h3)
       obtain⟨g0,g1,g2,g3,g4,g5,g6,g7,g8,g9⟩:=e50;obtain⟨h0,h1,h2,h3',h4,h5,h6',h7,h8,-⟩:=row9 HVN.out.row;obtain⟨nS,nV,nS2⟩:=HVN.out.ex;have hN3:=HVN.out.hN;have HP:=hid (zd4 HF55.out (v:=(⟨27,t6.text,0,t6.pos,e6,behI ts s46.p,e6,(([]++[v.pt])++[v46.pt])⟩:Qv)) (e:=⟨g0,g1,g2,g3,g4,g5,g6,g7,g8,g9⟩) ⟨nV.is.keep (fun j hj=>⟨(nS2 j hj).1,by have:=(nS2 j hj).2.1;omega⟩) fun _ _=>rfl,nV.bg⟩);clear nV nS2 HVN
       go_wp2_with (refine zdj (by rfl) (.tmp 4) (.tmp 72) (by rfl) ⟨g0,g1,g2,g3,g4,g5,g6,g7,g8,g9⟩ (by rfl) (by rfl) HF55.out.hZ (by rfl) ?_)
       have hx:=Option.some.inj HX.out;exact zan Tryz.results128 rfl (zad HF55.out.hZ) (by have h:=HP.out;rw[<-hx];exact h)
      ·skip
       have h3k:(kk == 3)=false:=by rw[h3q];simpa using h3
       clear h3q
       replace HX:=hid (if_f HX.out h3)
       have HMV:=hid (zc1 HF55.out.hR)
       go_wp2
       go_round
       case rel=>exact⟨_,_,_,_,_,_,_,_,_,_,_,_,_,_,_,_,_,_,_,_,_,_,_,_,_,_,_,_,_,_,_,_,_,_,_,_,_,_,_,_,_,_,_,_,_,_,_,_,_,_,_,_,_,_,_,_,_,_,⟨_,_,m,_,_,HF55.out,HVN.out,HX.out,by omega⟩,rfl⟩
       case measure=>
        rw[HMV.out,HMU.out];exact zd3 HQB.out hqle HF55.out.hR.le (HT27.out.trans HLT.out.le)
   ·skip
    replace HX:=hid (if_f HX.out (fun h=>by cases h))
    obtain⟨h0,h1,h2,h3,h4,h5,h6,h7,h8,-⟩:=row9 PR.out;have HP:=hid (zd4 HFr.out (v:=v) (e:=⟨e0,e1,e2,e3,e4,e5,e6,e7,e8,e9⟩) ⟨PV.out.is.keep (fun j hj=>⟨(PS.out j hj).1,by have:=(PS.out j hj).2.1;omega⟩) fun _ _=>rfl,PV.out.bg⟩)
    go_wp2_with (refine zdj (by rfl) (.tmp 4) (.tmp 72) (by rfl) ⟨e0,e1,e2,e3,e4,e5,e6,e7,e8,e9⟩ (by rfl) (by rfl) HFr.out.hZ (by rfl) ?_)
    have hx:=Option.some.inj HX.out;exact zan Tryz.results128 rfl (zad HFr.out.hZ) (hx ▸ HP.out)
end
theorem join1 {R:Prop}(x:World) (G:World->Prop)(hc:G x)(hb:G x->R):R:=hb hc
theorem zf0 (W:World)(o:Obj)(b i:Nat)(v:Value)(hb:b<W.heap.size):(W.alloc o).setCell ⟨b,i,none⟩ v=(W.setCell ⟨b,i,none⟩ v).alloc o:=World.setCell_alloc_past _ _ _ _ hb
section
variable {T:Nat}{w W0 W W':World}{g:Nat}{st:Option Addr}{cap:Nat}{ts:List Tok}{s s':Qs}
theorem zoj {z:Nat}{v:Qv}{e:Qe}{S:Nat->Prop}(h:Fr T w W0 W g st cap ts s)(hz:z<W.heap.size)(hv:QV W S v e)(hS:∀ j,S j->W0.heap.size<=j∧j<W.heap.size∧j≠z)(k:Int)(x:ByteArray)(n a f t bg:Int) :
  Fr T w W0 ((W.alloc (.cells e.cells 63)).alloc (.cells (paQ k x n a f t bg (.slice (some ⟨W.heap.size,0,none⟩) 1 1)) 63)) g st cap ts s ∧
  Qk W0.heap.size z ((W.alloc (.cells e.cells 63)).alloc (.cells (paQ k x n a f t bg (.slice (some ⟨W.heap.size,0,none⟩) 1 1)) 63)) (W.heap.size+1) k x n a f t bg (.slice (some ⟨W.heap.size,0,none⟩) 1 1) [v.pt]:=by
 have hb:=zdr W (.cells e.cells 63) (.cells (paQ k x n a f t bg (.slice (some ⟨W.heap.size,0,none⟩) 1 1)) 63);have hsz:=hb.size;have h0:=h.size;refine⟨h.low hb,by omega,zfp _ _ _,by omega,fun e=>?_,fun e=>?_,[e],S,⟨by simp[flatG,Qe.cells,paQ],.inr ⟨W.heap.size,1,e.cells,rfl,h0,zfo _ _ _,Nat.le_refl _,by decide,rfl,by simp[flatG,Qe.cells,paQ]⟩⟩,(QsAt.nil _ _).snoc (hv.is.keep (fun _ h=>h) fun j hj=>hb.block j (hS j hj).2.1),fun j hj=>?_⟩
 ·injection e with e;have e':W.heap.size=W.heap.size+1:=e;omega
 ·injection e with e;have e':W.heap.size=z:=e;omega
 ·have hj':=hS j hj;refine⟨hj'.1,by omega,by omega,hj'.2.2,fun e=>?_⟩;injection e with e;have e':W.heap.size=j:=e;omega
end
end Go.Proofs.YtmclgbkijeidaaaGreatDoor
