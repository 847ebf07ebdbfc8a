import Derived.Test.YtmclgbkijeidaaaGreatDoorUoF
namespace Go.Proofs.YtmclgbkijeidaaaGreatDoor
set_option maxRecDepth 100000
set_option maxHeartbeats 4000000
open Go.RowKit
theorem Rdr.went {T:Nat}{w:World}{g:Nat}{st:Option Addr}{cap:Nat}{ts:List Tok}{p:Nat}(h:Rdr T w g st cap ts p)(hp:p+1<=ts.length):w.grownBy (w.setCell ⟨g,1,none⟩ (.int .i64 ((p:Int)+1))) (some g)∧Rdr T (w.setCell ⟨g,1,none⟩ (.int .i64 ((p:Int)+1))) g st cap ts (p+1):=by
 have y:=(Yb 0 w).setCell (p:=⟨g,1,none⟩) (Yk _) (.int .i64 ((p:Int)+1));exact⟨⟨y.os,y.tape,y.output,y.size,fun k C A=>Ye _ _ _ _ fun e=>A (by rw[show k=g from e])⟩,h.go (q:=p+1) hp⟩
section
variable {T:Nat}{w:World}{g:Nat}{st:Option Addr}{cap:Nat}{ts:List Tok}{p:Nat}
theorem zg5 (hR:Rdr T w g st cap ts p) :
  Calls Tryz.prog 104 #[.pointer (some ⟨g,0,none⟩)] w fun e w'=>e=.returned (.bool (namB ts p))∧Below w.heap.size w w':=by
 have K:=J hR;clear hR;have I:Hid (namB ts p=(((nxT ts p).kind == 1) && !kepB (nxT ts p).text)):=rfl
 go_enter Tryz.func104,Tryz.ntmps104
 go_wp2_with fail
 refine(zdw K).mono ?_;rintro e W1 ⟨rfl,M⟩;have A:Hid (Below w.heap.size w W1):=M;clear K M
 by_cases hn:(nxT ts p).kind=1
 rotate_left
 ·have F:((nxT ts p).kind == 1)=false:=by rw[beq_eq_false_iff_ne];exact hn
  go_wp2_with (refine zcc (by rfl) (.tmp 3) (.tmp 5) (by rfl) (t:=nxT ts p) (z:=tokZ) (by rfl) (by rfl) (Yd _ _) ?_;refine zcw (fun W=>Below w.heap.size w W∧W.heap[W1.heap.size]?=some (.cells (nxT ts p).cells 38 (0,0))) ⟨zak (A.out.alloc A.out.size _) A.out.size _,zad (Yd _ _)⟩ ?_;rintro C ⟨D,y⟩;have E:Hid _:=D;have N:C.cell? ⟨W1.heap.size,0,none⟩=some (.int .i64 (nxT ts p).kind):=Yp 0 y rfl;have V:C.cell? ⟨W1.heap.size,1,none⟩=some (.string (nxT ts p).text):=Yp 1 y rfl;clear D y)
  go_ret
  exact⟨by rw[I.out,F];rfl,E.out⟩
 ·have F:((nxT ts p).kind == 1)=true:=by rw[hn];rfl
  go_wp2_with (refine zcc (by rfl) (.tmp 3) (.tmp 5) (by rfl) (t:=nxT ts p) (z:=tokZ) (by rfl) (by rfl) (Yd _ _) ?_;refine zcw (fun W=>Below w.heap.size w W∧W.heap[W1.heap.size]?=some (.cells (nxT ts p).cells 38 (0,0))) ⟨zak (A.out.alloc A.out.size _) A.out.size _,zad (Yd _ _)⟩ ?_;rintro C ⟨D,y⟩;have E:Hid _:=D;have N:C.cell? ⟨W1.heap.size,0,none⟩=some (.int .i64 (nxT ts p).kind):=Yp 0 y rfl;have V:C.cell? ⟨W1.heap.size,1,none⟩=some (.string (nxT ts p).text):=Yp 1 y rfl;clear D y)
  refine(zoi _ C).mono ?_;rintro e X ⟨rfl,U⟩
  go_wp2
  go_ret
  exact⟨by rw[I.out,F];rfl,E.out.trans (U.mono E.out.size)⟩
def TakP (T:Nat) (w:World) (g:Nat) (st:Option Addr) (cap:Nat) (ts:List Tok) (p:Nat) (e:Ending) (w':World):Prop :=
 e=.returned (.agg (nxT ts p).cells)∧w.grownBy w' (some g)∧Rdr T w' g st cap ts (p+1)
theorem zf9 (hR:Rdr T w g st cap ts p)(hp:p<ts.length):Calls Tryz.prog 130 #[.pointer (some ⟨g,0,none⟩)] w (TakP T w g st cap ts p):=by
 have F:=J hR;have ak:=hR.few;have hg:=hR.lt;clear hR
 go_enter Tryz.func130,Tryz.ntmps130
 go_wp2_with fail
 refine zag (fun W=>Below w.heap.size w W∧W.heap[w.heap.size]?=some (.cells tokZ.cells 38 (0,0))) ⟨(Yb _ _).alloc (Ya _) _,Yd _ _⟩ ?_;rintro W ⟨A,E⟩;refine(zdw (F.out.low A)).mono ?_;rintro e W1 ⟨rfl,I⟩;have ac:Hid (W1.heap[w.heap.size]?=some (.cells tokZ.cells 38 (0,0))):=(I.block _ (zaa E)).trans E;have D:Hid (Below w.heap.size w W1):=A.trans (I.mono A.size);have ae:w.heap.size<W1.heap.size:=zaa ac;clear A I E
 go_wp2_with (first
  | (refine zcc (by rfl) (.tmp 3) (.tmp 5) (by rfl) (t:=nxT ts p) (z:=tokZ) (by rfl) (by rfl) (Yd _ _) ?_;refine zcw (fun W=>Below w.heap.size w W∧W.heap[w.heap.size]?=some (.cells tokZ.cells 38 (0,0))∧W.heap[W1.heap.size]?=some (.cells (nxT ts p).cells 38 (0,0))) ⟨zak (D.out.alloc D.out.size _) D.out.size _,(setRow_other _ _ _ _ (by omega)).trans ((Yn _ _ _ ae).trans ac),zad (Yd _ _)⟩ ?_;rintro W2 ⟨C,M,aa⟩;have ai:Hid _:=C;have af:Hid _:=M;have aj:Hid _:=aa;have y:Hid (Rdr T W2 g st cap ts p):=F.out.low C;have c1:=y.out.c1;have z1:=y.out.z 1;clear C M aa)
  | (refine zcw (fun W=>w.grownBy W (some g)∧Rdr T W g st cap ts (p+1)∧W.heap[w.heap.size]?=some (.cells tokZ.cells 38 (0,0))∧W.heap[W1.heap.size]?=some (.cells (nxT ts p).cells 38 (0,0))) ⟨zab (zae ai) (y.out.went (by omega)).1,(y.out.went (by omega)).2,(Ye _ _ _ _ (show w.heap.size≠g by omega)).trans af.out,(Ye _ _ _ _ (show W1.heap.size≠g by omega)).trans aj.out⟩ ?_;rintro V ⟨U,ab,Y,X⟩;have Z:Hid _:=U;have ah:Hid _:=ab;have N:Hid _:=Y;have ag:Hid _:=X;clear U ab Y X;refine zlt (by rfl) (.tmp 3) (by rfl) (t:=nxT ts p) (by rfl) ag.out ?_)
  | (refine zcc (by rfl) (.tmp 2) (.tmp 13) (by rfl) (t:=nxT ts p) (z:=tokZ) (by rfl) (by rfl) N.out ?_))
 have K:Below w.heap.size V (V.setRow w.heap.size (nxT ts p).cells):=zak (Yb _ _) (Ya _) _;exact zbz Tryz.results130 rfl (zad N) ⟨rfl,zaw Z.out K,F.out.keep (zaw Z K) ((K.block _ hg).trans ah.out.row) (by omega)⟩
def MusP (T:Nat) (w:World) (g:Nat) (st:Option Addr) (cap:Nat) (ts:List Tok) (p:Nat) (b:Bool) (e:Ending) (w':World):Prop :=
 w.grownBy w' (some g)∧if b then e=.returned (.agg (nxT ts p).cells)∧Rdr T w' g st cap ts (p+1) else e=wroE (herI ts p)
theorem zkp (b:Bool)(hR:Rdr T w g st cap ts p)(hb:b=true->p<ts.length):Calls Tryz.prog 103 #[.pointer (some ⟨g,0,none⟩),.bool b] w (MusP T w g st cap ts p b):=by
 have A:=J hR;have U:=hR.lt;clear hR
 cases b
 ·go_enter Tryz.func103,Tryz.ntmps103
  go_wp2_with fail
  refine zag (fun W=>Below w.heap.size w W) ((Yb _ _).alloc (Ya _) _) ?_;intro W y;refine(zfz (A.out.low y)).mono ?_;rintro e W1 ⟨rfl,I⟩;have V:Hid (MusP T w g st cap ts p false (wroE (herI ts p)) W1):=⟨zae (y.trans (I.mono y.size)),rfl⟩;clear A y I
  go_wp2
  exact⟨rfl,V.out⟩
 ·have X:=hb rfl
  go_enter Tryz.func103,Tryz.ntmps103
  go_wp2_with fail
  refine zag (fun W=>Below w.heap.size w W∧W.heap[w.heap.size]?=some (.cells tokZ.cells 38 (0,0))) ⟨(Yb _ _).alloc (Ya _) _,Yd _ _⟩ ?_;rintro W ⟨y,C⟩;refine(zf9 (A.out.low y) X).mono ?_;rintro e W1 ⟨rfl,D,E⟩;have M:=zaa C;have F:=J (zab (zae y) D);have K:Hid (W1.heap[w.heap.size]?=some (.cells tokZ.cells 38 (0,0))):=(D.block _ M (fun e=>by injection e with e;omega)).trans C;have N:Hid _:=E.row;clear y C D E
  go_wp2_with (refine zcc (by rfl) (.tmp 4) (.tmp 11) (by rfl) (t:=nxT ts p) (z:=tokZ) (by rfl) (by rfl) K.out ?_)
  have hb:Below w.heap.size W1 (W1.setRow w.heap.size (nxT ts p).cells):=zak (Yb _ _) (Ya _) _;exact zbz Tryz.results103 rfl (zad K) ⟨zaw F.out hb,rfl,A.out.keep (zaw F hb) ((hb.block _ U).trans N) (by omega)⟩
theorem zdx (hR:Rdr T w g st cap ts p):Calls Tryz.prog 77 #[.pointer (some ⟨g,0,none⟩)] w (MusP T w g st cap ts p (namB ts p)):=by
 have E:=J hR;have hg:=hR.lt;clear hR;have ac:∀ (a b c:Value) (W:World),(Instr.field 38 (.agg #[a,b,c]) 0).run Tryz.prog W=.ok a W:=fun _ _ _ _=>rfl
 go_enter Tryz.func77,Tryz.ntmps77
 go_wp2_with fail
 refine zag (fun W=>Below w.heap.size w W∧W.heap[w.heap.size]?=some (.cells tokZ.cells 38 (0,0))) ⟨(Yb _ _).alloc (Ya _) _,Yd _ _⟩ ?_;rintro W ⟨D,N⟩;refine(zg5 (E.out.low D)).mono ?_;rintro e W0 ⟨rfl,U⟩;have K:Hid (Below w.heap.size w W0):=D.trans (U.mono D.size);have F:Hid (W0.heap[w.heap.size]?=some (.cells tokZ.cells 38 (0,0))):=(U.block _ (zaa N)).trans N;clear D N U
 try unfold Tok.cells
 go_wp2_with fail
 refine(zkp _ (E.out.low K.out) zek).mono ?_;rintro e W1 ⟨V,A⟩;have Y:=zaa F.out;have C:=J (zab (zae K.out) V);have X:Hid (W1.heap[w.heap.size]?=some (.cells tokZ.cells 38 (0,0))):=(V.block _ Y (fun e=>by injection e with e;omega)).trans F.out;clear K F V Y;obtain⟨M,y⟩:∃ M,(namB ts p)=M:=⟨_,rfl⟩;have ab:=J y
 cases M
 ·rw[y] at A;simp only[Bool.false_eq_true,if_false] at A;subst A;have HP:Hid (MusP T w g st cap ts p (namB ts p) (wroE (herI ts p)) W1):=⟨C.out,by rw[y];rfl⟩;clear y;unfold wroE;clear C X E
  go_wp2
  exact⟨rfl,HP.out⟩
 ·rw[y] at A;simp only[if_true] at A;obtain⟨rfl,I⟩:=A;have aa:=I.le;have Z:Hid _:=I.row;clear I y
  go_wp2_with (refine zcc (by rfl) (.tmp 2) (.tmp 6) (by rfl) (t:=nxT ts p) (z:=tokZ) (by rfl) (by rfl) X.out ?_)
  have y:Below w.heap.size W1 (W1.setRow w.heap.size (nxT ts p).cells):=zak (Yb _ _) (Ya _) _;exact zbz Tryz.results77 rfl (zad X) ⟨zaw C.out y,by rw[ab.out];exact⟨rfl,E.out.keep (zaw C y) ((y.block _ hg).trans Z) aa⟩⟩
theorem zg6 (n:Int)(hn:n≠0)(hR:Rdr T w g st cap ts p):Calls Tryz.prog 78 #[.pointer (some ⟨g,0,none⟩),.int .i64 n] w (MusP T w g st cap ts p ((nxT ts p).kind == n)):=by
 have E:=J hR;have hg:=hR.lt;clear hR;have ac:∀ (a b c:Value) (W:World),(Instr.field 38 (.agg #[a,b,c]) 0).run Tryz.prog W=.ok a W:=fun _ _ _ _=>rfl
 go_enter Tryz.func78,Tryz.ntmps78
 go_wp2_with fail
 refine zag (fun W=>Below w.heap.size w W∧W.heap[w.heap.size]?=some (.cells tokZ.cells 38 (0,0))) ⟨(Yb _ _).alloc (Ya _) _,Yd _ _⟩ ?_;rintro W ⟨D,N⟩;refine(zdw (E.out.low D)).mono ?_;rintro e W0 ⟨rfl,U⟩;have K:Hid (Below w.heap.size w W0):=D.trans (U.mono D.size);have F:Hid (W0.heap[w.heap.size]?=some (.cells tokZ.cells 38 (0,0))):=(U.block _ (zaa N)).trans N;clear D N U
 try unfold Tok.cells
 go_wp2_with fail
 refine(zkp _ (E.out.low K.out) (fun h=>zg4 h hn)).mono ?_;rintro e W1 ⟨V,A⟩;have Y:=zaa F.out;have C:=J (zab (zae K.out) V);have X:Hid (W1.heap[w.heap.size]?=some (.cells tokZ.cells 38 (0,0))):=(V.block _ Y (fun e=>by injection e with e;omega)).trans F.out;clear K F V Y;obtain⟨M,y⟩:∃ M,((nxT ts p).kind == n)=M:=⟨_,rfl⟩;have ab:=J y
 cases M
 ·rw[y] at A;simp only[Bool.false_eq_true,if_false] at A;subst A;have HP:Hid (MusP T w g st cap ts p ((nxT ts p).kind == n) (wroE (herI ts p)) W1):=⟨C.out,by rw[y];rfl⟩;clear y;unfold wroE;clear C X E
  go_wp2
  exact⟨rfl,HP.out⟩
 ·rw[y] at A;simp only[if_true] at A;obtain⟨rfl,I⟩:=A;have aa:=I.le;have Z:Hid _:=I.row;clear I y
  go_wp2_with (refine zcc (by rfl) (.tmp 4) (.tmp 11) (by rfl) (t:=nxT ts p) (z:=tokZ) (by rfl) (by rfl) X.out ?_)
  have y:Below w.heap.size W1 (W1.setRow w.heap.size (nxT ts p).cells):=zak (Yb _ _) (Ya _) _;exact zbz Tryz.results78 rfl (zad X) ⟨zaw C.out y,by rw[ab.out];exact⟨rfl,E.out.keep (zaw C y) ((y.block _ hg).trans Z) aa⟩⟩
def ExpP (T:Nat) (w:World) (g:Nat) (st:Option Addr) (cap:Nat) (ts:List Tok) (p:Nat) (b:Bool) (e:Ending) (w':World):Prop :=
 w.grownBy w' (some g)∧if b then e=.returned (.tuple #[])∧Rdr T w' g st cap ts (p+1) else e=wroE (herI ts p)
theorem zbh (s:ByteArray)(hs:s.data.toList≠[])(hR:Rdr T w g st cap ts p):Calls Tryz.prog 75 #[.pointer (some ⟨g,0,none⟩),.string s] w (ExpP T w g st cap ts p (isT ts p s.data.toList)):=by
 have D:=J hR;clear hR
 go_enter Tryz.func75,Tryz.ntmps75
 go_wp2_with fail
 refine(ze9 s D).mono ?_;rintro e W ⟨rfl,F⟩
 go_wp2_with fail
 refine(zkp _ (D.out.low F) (fun h=>zcx h hs)).mono ?_;rintro e W1 ⟨K,A⟩;have C:=J (zab (zae F) K);clear F K;obtain⟨E,y⟩:∃ E,(isT ts p s.data.toList)=E:=⟨_,rfl⟩;have N:=J y
 cases E
 ·rw[y] at A;simp only[Bool.false_eq_true,if_false] at A;subst A;have I:Hid (ExpP T w g st cap ts p (isT ts p s.data.toList) (wroE (herI ts p)) W1):=⟨C.out,by rw[y];rfl⟩;clear y;unfold wroE;clear C D
  go_wp2
  exact⟨rfl,I.out⟩
 ·rw[y] at A;simp only[if_true] at A;obtain⟨rfl,M⟩:=A;have I:Hid (ExpP T w g st cap ts p (isT ts p s.data.toList) (.returned (.tuple #[])) W1):=⟨C.out,by rw[y];exact⟨rfl,M⟩⟩;clear M C D y
  go_wp2
  go_end0
  exact I
def SkiP (T:Nat) (w:World) (g:Nat) (st:Option Addr) (cap:Nat) (ts:List Tok) (p:Nat) (b:Bool) (e:Ending) (w':World):Prop :=
 e=.returned (.bool b)∧w.grownBy w' (some g)∧Rdr T w' g st cap ts (if b then p+1 else p)
theorem zew (s:ByteArray)(hs:s.data.toList≠[])(hR:Rdr T w g st cap ts p):Calls Tryz.prog 134 #[.pointer (some ⟨g,0,none⟩),.string s] w (SkiP T w g st cap ts p (isT ts p s.data.toList)):=by
 have F:=J hR;have N:=hR.few;clear hR
 go_enter Tryz.func134,Tryz.ntmps134
 go_wp2_with fail
 refine(ze9 s F).mono ?_;rintro e W ⟨rfl,C⟩;have I:=J C;have y:=J (F.out.low C);clear C;obtain⟨A,D⟩:∃ A,isT ts p s.data.toList=A:=⟨_,rfl⟩;rw[D];have E:=J D
 cases A
 ·go_wp2
  go_ret
  rw[E.out];exact⟨rfl,zae I.out,y.out⟩
 ·have K:=zcx D hs;have c1:=y.out.c1;have M:=y.out.z 1
  go_wp2
  go_ret
  rw[E.out];exact⟨rfl,zab (zae I) (y.out.went K).1,(y.out.went K).2⟩
end
theorem zg7 (k f:Int)(w:World):Calls Tryz.prog 101 #[.int .i64 k,.int .i64 f] w fun e w'=>e=.returned (.pointer (some ⟨w.heap.size,0,none⟩))∧Mk w.heap.size w' w.heap.size k ⟨#[]⟩ 0 f f 0 (.slice none 0 0) []∧Below w.heap.size w w':=by
 go_enter Tryz.func101,Tryz.ntmps101
 go_wp2
 go_ret
 exact⟨rfl,Mk.new w k ⟨#[]⟩ 0 f f 0,(Yb _ _).alloc (Ya _) _⟩
section
variable {T:Nat}{w:World}{g:Nat}{st:Option Addr}{cap:Nat}{ts:List Tok}{p:Nat}
theorem zbp (k:Int)(hR:Rdr T w g st cap ts p):Calls Tryz.prog 74 #[.pointer (some ⟨g,0,none⟩),.int .i64 k] w fun e w'=>∃ b,e=.returned (.pointer (some ⟨b,0,none⟩))∧Mk w.heap.size w' b k ⟨#[]⟩ 0 (herI ts p) (herI ts p) 0 (.slice none 0 0) []∧Below w.heap.size w w':=by
 have C:=J hR;clear hR
 go_enter Tryz.func74,Tryz.ntmps74
 go_wp2_with fail
 refine(zh6 C).mono ?_;rintro e W ⟨rfl,y⟩
 go_wp2_with fail
 refine(zg7 k (herI ts p) W).mono ?_;rintro e W1 ⟨rfl,A,D⟩
 go_wp2
 go_ret
 exact⟨_,rfl,A.mono y.size,y.trans (D.mono y.size)⟩
end
section
variable {B:Nat}{w:World}{b:Nat}{k:Int}{x:ByteArray}{n a f t:Int}{v:Value}{l:List Pt}
theorem Mk.word (h:Mk B w b k x n a f t v l)(x':ByteArray)(a':Int){W:World}(hb:Below w.heap.size w W):Mk B ((W.setCell ⟨b,1,none⟩ (.string x')).setCell ⟨b,4,none⟩ (.int .i64 a')) b k x' n a' f t v l∧Below B w ((W.setCell ⟨b,1,none⟩ (.string x')).setCell ⟨b,4,none⟩ (.int .i64 a'))∧∀ j,j≠b->j<w.heap.size->((W.setCell ⟨b,1,none⟩ (.string x')).setCell ⟨b,4,none⟩ (.int .i64 a')).heap[j]?=w.heap[j]?:=by
 have A:=h.below hb;have E:=Yf _ _ 1 _ _ (.string x') A.row;have F:=Yf _ _ 4 _ _ (.int .i64 a') E;refine⟨A.turn (by simp) (fun j y _=>(Ye _ _ _ _ y).trans (Ye _ _ _ _ y)) F,?_⟩;have C:Below B w W:=⟨hb.os,hb.tape,hb.output,hb.size,fun k I=>hb.block k (by have:=h.hB;have:=h.lt;omega)⟩;exact⟨(C.setCell (p:=⟨b,1,none⟩) h.hB _).setCell (p:=⟨b,4,none⟩) h.hB _,fun j y D=>(Ye _ _ _ _ y).trans ((Ye _ _ _ _ y).trans (hb.block j D))⟩
theorem zg8 (t':Tok)(hM:Mk B w b k x n a f t v l):Calls Tryz.prog 76 #[.pointer (some ⟨b,0,none⟩),.agg t'.cells] w fun e w'=>e=.returned (.tuple #[])∧Mk B w' b k t'.text n t'.pos f t v l∧Below B w w'∧∀ j,j≠b->j<w.heap.size->w'.heap[j]?=w.heap[j]?:=by
 have C:=J hM;clear hM;unfold Tok.cells
 go_enter Tryz.func76,Tryz.ntmps76
 go_wp2
 refine zdq (fun W=>Below w.heap.size w W∧W.heap[w.heap.size]?=some (.cells t'.cells 38 (0,0))) ⟨(Yb _ _).alloc (Ya _) _,Yd _ _⟩ ?_;rintro W ⟨A,y⟩;have E:=J A;have hM:=C.out.below A;have V:W.cell? ⟨w.heap.size,1,none⟩=some (.string t'.text):=Yp 1 y rfl;have U:W.cell? ⟨w.heap.size,2,none⟩=some (.int .i64 t'.pos):=Yp 2 y rfl;have c1:W.cell? ⟨b,1,none⟩=some (.string x):=Yp 1 hM.row rfl;have K:W.cell? ⟨b,4,none⟩=some (.int .i64 a):=Yp 4 hM.row rfl;have M:W.frozen? ⟨b,1,none⟩=false:=Yj _ _ _ _ _ hM.row;have N:W.frozen? ⟨b,4,none⟩=false:=Yj _ _ _ _ _ hM.row;clear hM y A
 go_region
 go_end0
 obtain⟨D,I,F⟩:=C.out.word t'.text t'.pos E;exact⟨rfl,D.keep (Ya _) fun _ _ _=>rfl,I.drew,F⟩
theorem zc7 (t':Tok)(hM:Mk B w b k x n a f t v l):Calls Tryz.prog 76 #[.pointer (some ⟨b,0,none⟩),.agg t'.cells] w fun e w'=>e=.returned (.tuple #[])∧Mk B w' b k t'.text n t'.pos f t v l∧Below B w w' :=
 (zg8 t' hM).mono fun _ _ ⟨h1,h2,h3,_⟩=>⟨h1,h2,h3⟩
theorem Mk.more {bs2:List Nat}{l2:List Pt}{sp:Option Addr}{cp:Nat}{S2:Nat->Prop}(h:Mk B w b k x n a f t v l)(hr:RowsP w sp bs2)(hn:sp=none->bs2.length=0∧cp=0)(hp:PsAt w S2 bs2 l2)
  (hS:∀ j,S2 j->B<=j∧j<w.heap.size∧j≠b∧v.ownBlock≠some j) (hl:l.length+l2.length<=1000000) :
  ∃ s0 n0 c0 s1 n1 c1 W,v=.slice s0 n0 c0∧(Builtin.append_ #[111,111] 111 #[v,.slice sp bs2.length cp]).run Tryz.prog w=.ok (.slice s1 n1 c1) W∧W.cell? ⟨b,7,none⟩=some v∧W.frozen? ⟨b,7,none⟩=false ∧
   Mk B (W.setCell ⟨b,7,none⟩ (.slice s1 n1 c1)) b k x n a f t (.slice s1 n1 c1) (l++l2)∧Below B w (W.setCell ⟨b,7,none⟩ (.slice s1 n1 c1)):=by
 have X:=h.lt;obtain⟨hB,h1,A,S,I,Z,F⟩:=h;obtain⟨s0,c0,rfl,-⟩:=OwnG.shape I;obtain⟨v',W,ab,Y,C,D⟩:=zdn elP 111 I hn hr (by rw[Z.1,hp.1];exact hl) (by omega);obtain⟨s1,c1,rfl⟩:=OwnG.shape Y;have aa:(Value.slice s0 A.length c0).ownBlock≠some b:=I.ne h1 (by decide);have E:∀ j,j<w.heap.size->(Value.slice s0 A.length c0).ownBlock≠some j->W.heap[j]?=w.heap[j]?:=fun j y hn=>C.block j y fun e=>hn e.symm;have U:W.heap[b]?=some (.cells (paC k x n a f t (.slice s0 A.length c0)) 113 (0,0)):=(E b X aa).trans h1;have V:∀ j,j<w.heap.size->(Value.slice s0 A.length c0).ownBlock≠some j->(Value.slice s1 (A++bs2).length c1).ownBlock≠some j:=fun j y hn e=>by
  rcases D with D|D
  ·exact hn (D.symm.trans e)
  ·rw[D] at e;injection e with e;omega
 have ac:=Yf _ _ 7 _ _ (.slice s1 (A++bs2).length c1) U;refine⟨s0,_,c0,s1,_,c1,W,rfl,ab,Yp 7 U rfl,Yj _ _ _ _ _ U,⟨hB,ac,A++bs2,fun j=>S j∨S2 j,?_,?_,?_⟩,?_⟩
 ·refine Y.keep fun q af=>Ye _ _ _ _ fun e=>?_;exact V b X aa (by rw[af,show q=b from e])
 ·refine PsAt.app ?_ ?_
  ·exact Z.keep (fun _ h=>.inl h) fun j y=>(Ye _ _ _ _ (F j y).2.2.1).trans (E j (F j y).2.1 (F j y).2.2.2)
  ·exact hp.keep (fun _ h=>.inr h) fun j y=>(Ye _ _ _ _ (hS j y).2.2.1).trans (E j (hS j y).2.1 (hS j y).2.2.2)
 ·rintro j y;have ae:(W.setCell ⟨b,7,none⟩ (.slice s1 (A++bs2).length c1)).heap.size=W.heap.size:=by simp
  rw[ae];have ag:=C.size;rcases y with y|y
  ·obtain⟨K,N,q3,M⟩:=F j y;exact⟨K,by omega,q3,V j N M⟩
  ·obtain⟨K,N,q3,M⟩:=hS j y;exact⟨K,by omega,q3,V j N M⟩
 ·have hb:Below B w W:=⟨C.os,C.tape,C.output,C.size,fun j y=>E j (by omega) fun e=>by have:=(I.lt e).1;omega⟩;exact hb.setCell (p:=⟨b,7,none⟩) hB _
theorem zc6 {bs2:List Nat}{l2:List Pt}{sp:Option Addr}{cp:Nat}{S2:Nat->Prop}(hM:Mk B w b k x n a f t v l)(hr:RowsP w sp bs2)(hn:sp=none->bs2.length=0∧cp=0)(hp:PsAt w S2 bs2 l2)
  (hS:∀ j,S2 j->B<=j∧j<w.heap.size∧j≠b∧v.ownBlock≠some j) (hl:l.length+l2.length<=1000000) :
  Calls Tryz.prog 80 #[.pointer (some ⟨b,0,none⟩),.slice sp bs2.length cp] w fun e w'=>e=.returned (.tuple #[])∧(∃ v',Mk B w' b k x n a f t v' (l++l2))∧Below B w w':=by
 obtain⟨F,D,c0,K,N,c1,W,rfl,C,U,M,y,A⟩:=hM.more hr hn hp hS hl;have I:Hid _:=y;have E:Hid _:=A;have V:w.cell? ⟨b,7,none⟩=some (.slice F D c0):=Yp 7 hM.row rfl;clear hM hr hn hp hS hl y A
 go_enter Tryz.func80,Tryz.ntmps80
 go_wp2_with (refine za8 (.tmp 8) (.tmp 9) 111 (by rfl) (by rfl) (by rfl) (by rfl) C ?_)
 go_end0
 exact⟨rfl,⟨_,I.out⟩,E.out⟩
end
section
variable {T B:Nat}{w:World}{g:Nat}{st:Option Addr}{cap:Nat}{ts:List Tok}{p:Nat}{b:Nat}{k:Int}{x:ByteArray}{n a f t:Int}{v:Value}{l:List Pt}
theorem Mk.numb (h:Mk B w b k x n a f t v l)(u:Int):Mk B (w.setCell ⟨b,6,none⟩ (.int .i64 u)) b k x n a f u v l∧Below B w (w.setCell ⟨b,6,none⟩ (.int .i64 u))∧w.cell? ⟨b,6,none⟩=some (.int .i64 t)∧w.frozen? ⟨b,6,none⟩=false :=
 ⟨h.turn (by simp) (fun j y _=>Ye _ _ _ _ y) (Yf _ _ 6 _ _ (.int .i64 u) h.row),(Yb _ _).setCell (p:=⟨b,6,none⟩) h.hB _,Yp 6 h.row rfl,Yj _ _ _ _ _ h.row⟩
theorem Mk.text (h:Mk B w b k x n a f t v l)(u:ByteArray):Mk B (w.setCell ⟨b,1,none⟩ (.string u)) b k u n a f t v l∧Below B w (w.setCell ⟨b,1,none⟩ (.string u))∧w.cell? ⟨b,1,none⟩=some (.string x)∧w.frozen? ⟨b,1,none⟩=false :=
 ⟨h.turn (by simp) (fun j y _=>Ye _ _ _ _ y) (Yf _ _ 1 _ _ (.string u) h.row),(Yb _ _).setCell (p:=⟨b,1,none⟩) h.hB _,Yp 1 h.row rfl,Yj _ _ _ _ _ h.row⟩
theorem Mk.nums (h:Mk B w b k x n a f t v l)(u:Int):Mk B (w.setCell ⟨b,2,none⟩ (.int .i64 u)) b k x u a f t v l∧Below B w (w.setCell ⟨b,2,none⟩ (.int .i64 u))∧w.cell? ⟨b,2,none⟩=some (.int .i64 n)∧w.frozen? ⟨b,2,none⟩=false :=
 ⟨h.turn (by simp) (fun j y _=>Ye _ _ _ _ y) (Yf _ _ 2 _ _ (.int .i64 u) h.row),(Yb _ _).setCell (p:=⟨b,2,none⟩) h.hB _,Yp 2 h.row rfl,Yj _ _ _ _ _ h.row⟩
theorem Mk.kind (h:Mk B w b k x n a f t v l)(u:Int):Mk B (w.setCell ⟨b,0,none⟩ (.int .i64 u)) b u x n a f t v l∧Below B w (w.setCell ⟨b,0,none⟩ (.int .i64 u))∧w.cell? ⟨b,0,none⟩=some (.int .i64 k)∧w.frozen? ⟨b,0,none⟩=false :=
 ⟨h.turn (by simp) (fun j y _=>Ye _ _ _ _ y) (Yf _ _ 0 _ _ (.int .i64 u) h.row),(Yb _ _).setCell (p:=⟨b,0,none⟩) h.hB _,Yp 0 h.row rfl,Yj _ _ _ _ _ h.row⟩
theorem za9 {bs2:List Nat}{l2:List Pt}{sp:Option Addr}{cp:Nat}{S2:Nat->Prop}(hR:Rdr T w g st cap ts p)(hTB:T<=B)(hM:Mk B w b k x n a f t v l)(hr:RowsP w sp bs2)(hn:sp=none->bs2.length=0∧cp=0)(hp:PsAt w S2 bs2 l2)
  (hS:∀ j,S2 j->B<=j∧j<w.heap.size∧j≠b∧v.ownBlock≠some j) (hl:l.length+l2.length<=1000000) :
  Calls Tryz.prog 83 #[.pointer (some ⟨g,0,none⟩),.pointer (some ⟨b,0,none⟩),.slice sp bs2.length cp] w fun e w'=>e=.returned (.pointer (some ⟨b,0,none⟩))∧(∃ v',Mk B w' b k x n a f (behI ts p) v' (l++l2))∧Below B w w':=by
 have X:=J hR;have Z:=J hM;have F:=J hr;have M:=J hn;have K:=J hp;have D:=J hS;clear hR hM hr hn hp hS
 go_enter Tryz.func83,Tryz.ntmps83
 go_wp2_with fail
 refine(zc6 Z F M K D hl).mono ?_;rintro e W1 ⟨rfl,⟨v1,E⟩,b1⟩;have A:=J E;clear E F M K D
 go_wp2_with fail
 refine(zjk (X.out.below hTB b1)).mono ?_;rintro e Y ⟨rfl,y⟩;have V:=J (A.out.below y);have aa:Hid (Below B w Y):=b1.trans ⟨y.os,y.tape,y.output,y.size,fun j hj=>y.block j (by have:=A.out.hB;have:=A.out.lt;omega)⟩;obtain⟨C,I,c6,z6⟩:=V.out.numb (behI ts p);have U:Hid _:=C;have N:Hid _:=I;clear C I b1 y A
 go_wp2
 go_ret
 exact⟨rfl,⟨_,U.out⟩,aa.out.trans N.out⟩
def PtP (T:Nat) (w:World) (g:Nat) (st:Option Addr) (cap:Nat) (ts:List Tok) (r:Rs Pt) (e:Ending) (w':World):Prop :=
 w.grownBy w' (some g)∧match r with
 | .ok t q=>∃ b,e=.returned (.pointer (some ⟨b,0,none⟩))∧PtAt w' (fun j=>w.heap.size<=j∧j<w'.heap.size) b t∧Rdr T w' g st cap ts q
 | .bad s=>e=wroE s
 | .out=>False
theorem zfm (k:Int)(hR:Rdr T w g st cap ts p)(hp:p<ts.length):Calls Tryz.prog 153 #[.pointer (some ⟨g,0,none⟩),.int .i64 k] w fun e w'=>w.grownBy w' (some g)∧∃ b v,e=.returned (.pointer (some ⟨b,0,none⟩))∧Mk w.heap.size w' b k (nxT ts p).text 0 (nxT ts p).pos (herI ts p) (behI ts (p+1)) v []∧Rdr T w' g st cap ts (p+1):=by
 have X:=J hR;have C:=hR.hT;have hg:=hR.lt;clear hR
 go_enter Tryz.func153,Tryz.ntmps153
 go_wp2_with fail
 refine(zbp k X).mono ?_;rintro e W1 ⟨b,rfl,U,Z⟩;have Y:Hid _:=U;have A:Hid (Below w.heap.size w W1):=Z;clear U Z
 go_wp2_with fail
 refine(zf9 (X.out.low A) hp).mono ?_;rintro e W2 ⟨rfl,y,r2⟩;have N:Hid _:=Y.out.grow hg y;have aa:=J (zab (zae A) y);have V:Hid (Rdr T W2 g st cap ts (p+1)):=r2;clear y r2 Y A
 go_wp2_with fail
 refine(zc7 (nxT ts p) N.out).mono ?_;rintro e W3 ⟨rfl,F,E⟩;have K:Hid _:=F;have M:=J (zaw aa E);have D:=J (V.out.below C E);clear F E N aa V
 go_wp2_with fail
 refine(za9 (bs2:=[]) (l2:=[]) (S2:=fun _=>False) D.out C K RowsAt.none (fun _=>⟨rfl,rfl⟩) (PsAt.nil _ _) (fun _ h=>h.elim) (by simp)).mono ?_;rintro e W4 ⟨rfl,⟨v4,I⟩,b4⟩;have ac:Hid _:=I;have ae:=J (zaw M b4);have ab:=J (D.out.below C b4);clear I b4 K M D
 go_wp2
 go_ret
 exact⟨ae.out,b,v4,rfl,ac.out,ab.out⟩
end
def ad {α:Type}(r:Rs α) (k:Nat):Prop:=match r with | .ok _ q=>k<=q|_=>True
theorem zb5 {α:Type}{r:Rs α}{k m:Nat}(h:ad r k)(hm:m<=k):ad r m:=by
 cases r with
 | ok v q=>exact Yo hm h
 | bad s=>trivial
 | out=>trivial
theorem zax {α β:Type}{r:Rs α}{f:α->Nat->Rs β}{k m:Nat}(h:ad r k)(hf:∀ v q,k<=q->ad (f v q) m):ad (r.bind f) m:=by
 cases r with
 | ok v q=>exact hf v q h
 | bad s=>trivial
 | out=>trivial
theorem zkq {β:Type}{b:Bool}{s:Int}{k:Rs β}{m:Nat}(h:b=true->ad k m):ad (Rs.need b s k) m:=by
 unfold Rs.need
 split
 ·rename_i hb;exact h hb
 ·trivial
theorem zbd {β:Type}{c:Prop} [Decidable c] {a b:Rs β}{m:Nat}(h:c->ad a m)(h':¬ c->ad b m):ad (if c then a else b) m:=by
 split
 ·rename_i hc;exact h hc
 ·rename_i hc;exact h' hc
section
variable {ts:List Tok}
theorem zcr {β:Type}{s:List UInt8}{p m:Nat}{k:Nat->Rs β}(hs:s≠[])(h:p<ts.length->ad (k (p+1)) m):ad (expP ts s p k) m:=zkq fun hb=>h (zcx hb hs)
theorem zlu {β:Type}{n:Int}{p m:Nat}{k:Tok->Nat->Rs β}(hn:n≠0)(h:p<ts.length->ad (k (nxT ts p) (p+1)) m):ad (kinP ts n p k) m:=zkq fun hb=>h (zg4 hb hn)
theorem zex {β:Type}{p m:Nat}{k:Tok->Nat->Rs β}(h:p<ts.length->ad (k (nxT ts p) (p+1)) m):ad (namP ts p k) m:=zkq fun hb=>h (zek hb)
theorem zrv (k:Int)(p:Nat):ad (leaP ts k p) (p+1):=Ya _
theorem zrw (k:Int)(p:Nat):ad (worP ts k p) (p+1):=zkq fun _=>Ya _
theorem zrx (p:Nat):ad (va1P ts p) (p+1):=by
 unfold va1P;refine zbd (fun _=>Ya _) fun _=>zbd (fun _=>Ya _) fun _=>zbd (fun _=>zrv _ _) fun _=>trivial
theorem z05 (p:Nat):ad (valP ts p) (p+1):=by
 unfold valP;refine zbd (fun _=>zbd (fun _=>zax (zrx _) fun v q h=>?_) fun _=>trivial) fun _=>zrx _;show p+1<=q;omega
theorem zil (p:Nat):ad (typP ts p) (p+1):=by
 unfold typP;refine zbd (fun _=>zrv _ _) fun _=>zbd (fun _=>zax (zrw _ _) fun v q h=>zcr (by simp) fun _=>zex fun _=>?_) fun _=>zrw _ _;show p+1<=q+1+1;omega
theorem zjl (k:Int)(p:Nat):ad (tydP ts k p) (p+2):=by
 unfold tydP;refine zex fun _=>zax (zil _) fun v q h=>?_;show p+2<=q;omega
theorem zxi (p:Nat):ad (impP ts p) (p+2):=by
 unfold impP;exact zcr (by simp) fun _=>zlu (by simp) fun _=>Ya _
theorem zry (p:Nat):ad (conP ts p) (p+1):=by
 unfold conP;refine zcr (by simp) fun _=>zex fun _=>zcr (by simp) fun _=>zax (z05 _) fun v q h=>?_;show p+1<=q;omega
theorem zxj (p:Nat):ad (recP ts p) (p+1):=by
 unfold recP;refine zex fun _=>zax (zrw _ _) fun v q h=>?_;show p+1<=q;omega
theorem zc2 {α:Type}{v:α}{k q:Nat}(h:k<=q):ad (Rs.ok v q) k:=h
structure AdA (ts:List Tok) (n:Nat):Prop where
 bin:∀ l p,ad ((fns ts n).bin l p) (p+1)
 binL:∀ l fr t p,ad ((fns ts n).binL l fr t p) p
 una:∀ p,ad ((fns ts n).una p) (p+1)
 post:∀ p,ad ((fns ts n).post p) (p+1)
 posL:∀ fr t p,ad ((fns ts n).posL fr t p) p
 prim:∀ p,ad ((fns ts n).prim p) (p+1)
 argL:∀ l p,ad ((fns ts n).argL l p) p
 parL:∀ l p,ad ((fns ts n).parL l p) p
 fieL:∀ l p,ad ((fns ts n).fieL l p) p
 stmt:∀ p,ad ((fns ts n).stmt p) (p+1)
 bran:∀ p,ad ((fns ts n).bran p) (p+1)
 stmL:∀ l p,ad ((fns ts n).stmL l p) p
 impL:∀ l p,ad ((fns ts n).impL l p) p
 decL:∀ l p,ad ((fns ts n).decL l p) p
theorem zxk {n p:Nat}(h:AdA ts n):ad (bloP ts (fns ts n) p) (p+1):=by
 unfold bloP linP;refine zax (k:=p+1) (zcr (by simp) fun A=>zax (h.stmL _ _) fun l q y=>zcr (by simp) fun _=>zc2 (by omega)) fun l q y=>zc2 y
theorem zoj {one:Nat->Rs Pt}{more:List Pt->Nat->Rs (List Pt)}{p:Nat}(h1:p<ts.length->ad (one (p+1)) (p+1))(h2:∀ l q,p<ts.length->p+1<=q->ad (more l q) q):ad (lisP ts one more p) (p+1):=by
 unfold lisP;refine zcr (by simp) fun y=>zbd (fun _=>zc2 (by omega)) fun _=>zax (h1 y) fun v q A=>zax (h2 _ _ y A) fun l D C=>zcr (by simp) fun _=>zc2 (by omega)
theorem adA (n:Nat):AdA ts n:=by
 induction n with
 | zero=>constructor <;> (intros;trivial)
 | succ n ih=>
  have U:∀ p,ad (varP ts (fns ts n) p) (p+1):=fun p=>by
   unfold varP;refine zcr (by simp) fun _=>zex fun _=>zax (zil _) fun v q A=>zbd (fun _=>zax (ih.bin _ _) fun x E F=>zc2 (by omega)) fun _=>zc2 (by omega)
  have D:∀ p,ad (bloP ts (fns ts n) p) (p+1):=fun p=>zxk ih
  constructor
  ·intro l p;show ad (if l=5 then(fns ts n).una p else((fns ts n).bin (l+1) p).bind fun t q=>(fns ts n).binL l (herI ts p) t q) (p+1);refine zbd (fun h=>ih.una _) fun h=>zax (ih.bin _ _) fun t q A=>zb5 (ih.binL _ _ _ _) A
  ·intro l I t p;refine zbd (fun h=>?_) fun _=>zc2 (Ya _);have C:=zoh h;refine zax (ih.bin _ _) fun u q A=>zbd (fun _=>zc2 (by omega)) fun _=>zb5 (ih.binL _ _ _ _) (by omega)
  ·intro p;refine zbd (fun h=>?_) fun _=>ih.post _;have C:p<ts.length:=by
    rw[Bool.or_eq_true] at h;rcases h with h|h <;> exact zcx h (by simp)
   exact zax (ih.una _) fun u q A=>zc2 (by omega)
  ·intro p;exact zax (ih.prim _) fun t q A=>zb5 (ih.posL _ _ _) A
  ·intro I t p;refine zbd (fun h=>?_) fun _=>zbd (fun h=>?_) fun _=>zc2 (Ya _)
   ·exact zex fun C=>zb5 (ih.posL _ _ _) (by omega)
   ·have C:=zcx h (by simp);exact zax (zoj (fun _=>zb5 (ih.bin _ _) (by omega)) fun l q _ A=>ih.argL _ _) fun l q A=>zb5 (ih.posL _ _ _) (by omega)
  ·intro p;refine zbd (fun h=>?_) fun _=>zbd (fun _=>zrv _ _) fun _=>zrx _;have C:=zcx h (by simp);exact zax (ih.bin _ _) fun t q A=>zcr (by simp) fun _=>zc2 (by omega)
  ·intro l p;refine zbd (fun h=>?_) fun _=>zc2 (Ya _);have C:=zcx h (by simp);exact zax (ih.bin _ _) fun t q A=>zb5 (ih.argL _ _) (by omega)
  ·intro l p;refine zbd (fun h=>?_) fun _=>zc2 (Ya _);have C:=zcx h (by simp);exact zax (zjl _ _) fun t q A=>zb5 (ih.parL _ _) (by omega)
  ·intro l p;refine zbd (fun _=>zc2 (Ya _)) fun _=>?_;refine zax (zjl _ _) fun t q A=>zbd (fun h=>?_) fun _=>zlu (by simp) fun h=>zb5 (ih.fieL _ _) (by omega);have:=zcx h (by simp);exact zb5 (ih.fieL _ _) (by omega)
  ·intro p;refine zbd (fun h=>?_) fun _=>zbd (fun h=>?_) fun _=>zbd (fun h=>ih.bran _) fun _=>zbd (fun h=>?_) fun _=>zbd (fun h=>?_) fun _=>zbd (fun h=>?_) fun _=>?_
   ·exact D p
   ·exact U p
   ·unfold looP;refine zcr (by simp) fun C=>zax (ih.bin _ _) fun x q A=>zax (D q) fun b E F=>zc2 (by omega)
   ·unfold resP;refine zcr (by simp) fun C=>zbd (fun _=>zax (ih.bin _ _) fun x q A=>zc2 (by omega)) fun _=>zc2 (by omega)
   ·unfold shoP;refine zex fun C=>zcr (by simp) fun _=>zax (ih.bin _ _) fun x q A=>zc2 (by omega)
   ·unfold simP;refine zax (ih.bin _ _) fun x q A=>zbd (fun h=>?_) fun _=>zc2 (by omega);have:=zcx h (by simp);exact zax (ih.bin _ _) fun y E F=>zc2 (by omega)
  ·intro p;unfold fns
   dsimp only
   refine zcr (by simp) fun C=>zax (ih.bin _ _) fun x q A=>zax (D q) fun b E F=>zbd (fun h=>?_) fun _=>zc2 (by omega);have:=zcx h (by simp);refine zax (k:=E+1) (zbd (fun _=>zb5 (ih.bran _) (by omega)) fun _=>zb5 (D _) (by omega)) fun c N M=>zc2 (by omega)
  ·intro l p;refine zbd (fun _=>zc2 (Ya _)) fun _=>zax (ih.stmt _) fun t q A=>zbd (fun h=>?_) fun _=>zlu (by simp) fun h=>zb5 (ih.stmL _ _) (by omega);have:=zcx h (by simp);exact zb5 (ih.stmL _ _) (by omega)
  ·intro l p;refine zbd (fun h=>?_) fun _=>zc2 (Ya _);have:=zcx h (by simp);exact zax (zxi _) fun t q A=>zlu (by simp) fun _=>zb5 (ih.impL _ _) (by omega)
  ·intro l p;refine zbd (fun C=>?_) fun _=>zc2 (Ya _);have X:ad (decP ts (fns ts n) p) (p+1):=by
    have V:∀ q,p+1<=q->ad (lisP ts (tydP ts 9) (fns ts n).parL q) (q+1):=fun q A=>zoj (fun _=>zb5 (zjl _ _) (by omega)) fun l E _ F=>ih.parL _ _;have K:∀ I l q,p+1<=q->ad (funR ts (fns ts n) I l q) (q+1):=fun I l q A=>by
     unfold funR;refine zex fun _=>zax (V _ (by omega)) fun Z E F=>zbd (fun _=>zax (D _) fun b N M=>zc2 (by omega)) fun _=>zax (zil _) fun v N M=>zax (D _) fun b q3 Y=>zc2 (by omega)
    unfold decP;refine zbd (fun _=>zry _) fun _=>zbd (fun _=>U p) fun _=>zbd (fun _=>?_) fun _=>zbd (fun _=>?_) fun _=>trivial
    ·unfold strP linP;refine zcr (by simp) fun _=>zex fun _=>zcr (by simp) fun _=>zax (k:=p+1) (zcr (by simp) fun _=>zax (ih.fieL _ _) fun l q A=>zcr (by simp) fun _=>zc2 (by omega)) fun l q A=>zc2 A
    ·unfold funP;refine zcr (by simp) fun _=>zbd (fun _=>zax (zxj _) fun v q A=>zcr (by simp) fun _=>zb5 (K _ _ _ (by omega)) (by omega)) fun _=>zb5 (K _ _ _ (by omega)) (by omega)
   exact zax X fun t q A=>zlu (by simp) fun _=>zb5 (ih.decL _ _) (by omega)
theorem zyu (n p:Nat):ad (decP ts (fns ts n) p) (p+1):=by
 have ih:=adA (ts:=ts) n;have N:∀ p,ad (varP ts (fns ts n) p) (p+1):=fun p=>by
  unfold varP;refine zcr (by simp) fun _=>zex fun _=>zax (zil _) fun v q y=>zbd (fun _=>zax (ih.bin _ _) fun x E F=>zc2 (by omega)) fun _=>zc2 (by omega)
 have A:∀ p,ad (bloP ts (fns ts n) p) (p+1):=fun p=>zxk ih;have I:∀ q,p+1<=q->ad (lisP ts (tydP ts 9) (fns ts n).parL q) (q+1):=fun q y=>zoj (fun _=>zb5 (zjl _ _) (by omega)) fun l E _ F=>ih.parL _ _;have C:∀ D l q,p+1<=q->ad (funR ts (fns ts n) D l q) (q+1):=fun D l q y=>by
  unfold funR;refine zex fun _=>zax (I _ (by omega)) fun V E F=>zbd (fun _=>zax (A _) fun b M K=>zc2 (by omega)) fun _=>zax (zil _) fun v M K=>zax (A _) fun b q3 U=>zc2 (by omega)
 unfold decP;refine zbd (fun _=>zry _) fun _=>zbd (fun _=>N p) fun _=>zbd (fun _=>?_) fun _=>zbd (fun _=>?_) fun _=>trivial
 ·unfold strP linP;refine zcr (by simp) fun _=>zex fun _=>zcr (by simp) fun _=>zax (k:=p+1) (zcr (by simp) fun _=>zax (ih.fieL _ _) fun l q y=>zcr (by simp) fun _=>zc2 (by omega)) fun l q y=>zc2 y
 ·unfold funP;refine zcr (by simp) fun _=>zbd (fun _=>zax (zxj _) fun v q y=>zcr (by simp) fun _=>zb5 (C _ _ _ (by omega)) (by omega)) fun _=>zb5 (C _ _ _ (by omega)) (by omega)
end
section
variable {α β:Type}{ts:List Tok}{p:Nat}{s:List UInt8}{r:Rs β}
theorem zdy {k:Nat->Rs β}(hb:isT ts p s=false)(h:expP ts s p k=r):r=.bad (herI ts p):=by
 rw[<-h];unfold expP Rs.need;rw[hb];rfl
theorem zc3 {k:Nat->Rs β}(hb:isT ts p s=true)(h:expP ts s p k=r):k (p+1)=r:=by
 rw[<-h];unfold expP Rs.need;rw[hb];rfl
theorem zf0 {k:Tok->Nat->Rs β}(hb:namB ts p=false)(h:namP ts p k=r):r=.bad (herI ts p):=by
 rw[<-h];unfold namP Rs.need;rw[hb];rfl
theorem zel {k:Tok->Nat->Rs β}(hb:namB ts p=true)(h:namP ts p k=r):k (nxT ts p) (p+1)=r:=by
 rw[<-h];unfold namP Rs.need;rw[hb];rfl
theorem zlv {n:Int}{k:Tok->Nat->Rs β}(hb:((nxT ts p).kind == n)=false)(h:kinP ts n p k=r):r=.bad (herI ts p):=by
 rw[<-h];unfold kinP Rs.need;rw[hb];rfl
theorem zim {n:Int}{k:Tok->Nat->Rs β}(hb:((nxT ts p).kind == n)=true)(h:kinP ts n p k=r):k (nxT ts p) (p+1)=r:=by
 rw[<-h];unfold kinP Rs.need;rw[hb];rfl
theorem za7 {x:Rs α}{f:α->Nat->Rs β}{v:α}{q:Nat}(hx:x=.ok v q)(h:x.bind f=r):f v q=r:=by rw[<-h,hx];rfl
theorem zat {x:Rs α}{f:α->Nat->Rs β}{c:Int}(hx:x=.bad c)(h:x.bind f=r):r=.bad c:=by rw[<-h,hx];rfl
theorem za1 {x:Rs α}{f:α->Nat->Rs β}(h:x.bind f=r)(hr:r≠.out):x≠.out:=by rintro rfl;exact hr h.symm
theorem zbe {c:Bool}{a b:Rs β}(hc:c=true)(h:(if c then a else b)=r):a=r:=by rw[<-h,hc];rfl
theorem zb1 {c:Bool}{a b:Rs β}(hc:c=false)(h:(if c then a else b)=r):b=r:=by rw[<-h,hc];rfl
end
section
variable {T:Nat}{w W:World}{g:Nat}{st:Option Addr}{cap:Nat}{ts:List Tok}{r:Rs Pt}{s:Int}
theorem zap (hG:w.grownBy W (some g))(hr:r=.bad s):PtP T w g st cap ts r (wroE s) W:=by subst hr;exact⟨hG,rfl⟩
theorem zbq {b:Nat}{t:Pt}{q:Nat}(hG:w.grownBy W (some g))(hr:Rs.ok t q=r)(ht:PtAt W (fun j=>w.heap.size<=j∧j<W.heap.size) b t)(hR:Rdr T W g st cap ts q):PtP T w g st cap ts r (.returned (.pointer (some ⟨b,0,none⟩))) W:=by
 subst hr;exact⟨hG,b,rfl,ht,hR⟩
theorem PtP.from {W':World}{e:Ending}(hG:w.grownBy W (some g))(h:PtP T W g st cap ts r e W'):PtP T w g st cap ts r e W':=by
 obtain⟨E,y⟩:=h;refine⟨zab hG E,?_⟩
 cases r with
 | ok t q=>
  obtain⟨b,F,C,D⟩:=y;exact⟨b,F,C.keep (fun j A=>⟨Yo hG.size A.1,A.2⟩) fun _ _=>rfl,D⟩
 | bad s=>exact y
 | out=>exact y
end
theorem PtAt.grow {w w':World}{lo hi g b:Nat}{t:Pt}(h:PtAt w (fun j=>lo<=j∧j<hi) b t)(hg:g<lo)(hh:hi<=w.heap.size)(hw:w.grownBy w' (some g)):PtAt w' (fun j=>lo<=j∧j<hi) b t :=
 h.keep (fun _ h=>h) fun j y=>hw.block j (by omega) (fun e=>by injection e with e;omega)
theorem PtAt.low {w w':World}{lo hi B b:Nat}{t:Pt}(h:PtAt w (fun j=>lo<=j∧j<hi) b t)(hh:hi<=B)(hw:Below B w w'):PtAt w' (fun j=>lo<=j∧j<hi) b t :=
 h.keep (fun _ h=>h) fun j y=>hw.block j (by omega)
theorem PtAt.wide {w:World}{lo hi lo' hi' b:Nat}{t:Pt}(h:PtAt w (fun j=>lo<=j∧j<hi) b t)(h1:lo'<=lo)(h2:hi<=hi'):PtAt w (fun j=>lo'<=j∧j<hi') b t :=
 h.keep (fun j y=>⟨by omega,by omega⟩) fun _ _=>rfl
theorem zcn {B b lo hi:Nat}{v:Value}{W:World}(hb:b<lo∧∀ q,v.ownBlock=some q->q<lo)(hB:B<=lo)(hh:hi<=W.heap.size):∀ j,(lo<=j∧j<hi)->B<=j∧j<W.heap.size∧j≠b∧v.ownBlock≠some j:=fun j hj=>
 ⟨by omega,by omega,by omega,fun e=>by have:=hb.2 j e;omega⟩
theorem Mk.at {B:Nat}{w:World}{b:Nat}{k:Int}{x:ByteArray}{n a f t:Int}{v:Value}{l:List Pt}(h:Mk B w b k x n a f t v l):b<w.heap.size∧∀ q,v.ownBlock=some q->q<w.heap.size:=⟨h.lt,fun _ hq=>h.own hq⟩
theorem zkr {w:World}{g a b:Nat}{ty:TypeId}{fr:Nat × Nat}(h:w.heap[g]?=some (.cells #[.pointer (some ⟨a,0,none⟩),.pointer (some ⟨b,0,none⟩)] ty fr)):RowsP w (some ⟨g,0,none⟩) [a,b]:=fun _=>by
 refine⟨g,0,rfl,fun i x hx j u hu=>?_⟩;have hj:j=0:=by have:=(Array.getElem?_eq_some_iff.1 hu).1;simp[ptrC] at this;omega
 subst hj;rw[Yc _ _ _ _ _ _ h]
 match i,hx with
 | 0,hx=>simp at hx;subst hx;simpa[ptrC] using hu
 | 1,hx=>simp at hx;subst hx;simpa[ptrC] using hu
theorem PsAt.two {w:World}{S:Nat->Prop}{a b:Nat}{s t:Pt}(h:PtAt w S a s)(h':PtAt w S b t):PsAt w S [a,b] [s,t]:=(PsAt.one h).app (PsAt.one h')
end Go.Proofs.YtmclgbkijeidaaaGreatDoor
