import Derived.Test.YtabiangdmibocaaGreatDoorUnF
import Derived.Test.YtabiangdmibocaaGreatDoorUnC
import Derived.Test.YtabiangdmibocaaGreatDoorUnH
namespace Go.Proofs.YtabiangdmibocaaGreatDoor
set_option maxRecDepth 100000
set_option maxHeartbeats 4000000
open Go.RowKit
theorem zf6 {s:ByteArray}{i:Nat}{l:List (List UInt8)}{x:List UInt8}(hi:rowsL[i]?=some l)(hx:x ∈ l)(h:(x == s.data.toList)=true):rowI s=i:=by
 have e:=eq_of_beq h;have hs:∀ y:List UInt8,(s.data.toList == y)=(x == y):=fun y=>by rw[e]
 unfold rowI;simp only[hs];clear h hs
 match i,hi with
 | 0,hi=>cases hi;simp at hx;subst hx;rfl
 | 1,hi=>cases hi;simp at hx;subst hx;rfl
 | 2,hi=>cases hi;simp at hx;rcases hx with rfl | rfl | rfl | rfl | rfl | rfl <;> rfl
 | 3,hi=>cases hi;simp at hx;rcases hx with rfl | rfl <;> rfl
 | 4,hi=>cases hi;simp at hx;rcases hx with rfl | rfl | rfl <;> rfl
theorem zv8 {s:ByteArray}(h:∀ (i:Nat)(l:List (List UInt8))(x:List UInt8),rowsL[i]?=some l->x ∈ l->(x == s.data.toList)=false):rowI s = -1:=by
 have hs:∀ (i:Nat) (l:List (List UInt8)) (x:List UInt8),rowsL[i]?=some l->x ∈ l->(s.data.toList == x)=false:=fun i l x hi hx=>by
  have:=h i l x hi hx;rw[beq_eq_false_iff_ne] at this ⊢;exact fun e=>this e.symm
 unfold rowI;rw[hs 0 _ [124,124] rfl (by simp),hs 1 _ [38,38] rfl (by simp),hs 2 _ [61,61] rfl (by simp),hs 2 _ [33,61] rfl (by simp),hs 2 _ [60] rfl (by simp),hs 2 _ [60,61] rfl (by simp),hs 2 _ [62] rfl (by simp),hs 2 _ [62,61] rfl (by simp),
  hs 3 _ [43] rfl (by simp),hs 3 _ [45] rfl (by simp),hs 4 _ [42] rfl (by simp),hs 4 _ [47] rfl (by simp),hs 4 _ [37] rfl (by simp)]
 rfl
theorem zml (s:ByteArray)(w:World)(hT:Tabl w):Calls Tryz.prog 215 #[.string s] w fun e w'=>e=.returned (.int .i64 (rowI s))∧Below w.heap.size w w':=by
 obtain⟨F,hF⟩:=hT;obtain⟨r0,q0⟩:=hF 0 _ rfl;obtain⟨r1,q1⟩:=hF 1 _ rfl;obtain⟨r2,q2⟩:=hF 2 _ rfl;obtain⟨r3,q3⟩:=hF 3 _ rfl;obtain⟨r4,q4⟩:=hF 4 _ rfl;have HT:Hid (∀ (i:Nat) (l:List (List UInt8)),rowsL[i]?=some l->∀ W,Below w.heap.size w W->∃ b o,(F i).1=some ⟨b,o,none⟩∧∀ u x,l[u]?=some x->∀ W,Below w.heap.size w W->W.cell? ⟨b,o+u,none⟩=some (.string (strU x))):=fun i l hi W _=>by
  obtain⟨-,hq⟩:=hF i l hi;have hne:0<(l.map strU).length:=by
   match i,hi with
   | 0,hi=>cases hi;decide
   | 1,hi=>cases hi;decide
   | 2,hi=>cases hi;decide
   | 3,hi=>cases hi;decide
   | 4,hi=>cases hi;decide
  obtain⟨b,o,e,hc⟩:=hq hne;refine⟨b,o,e,fun u x hx W' hb=>?_⟩;have h1:=hc u (strU x) (by rw[List.getElem?_map,hx];rfl) 0 (.string (strU x)) rfl;rw[Nat.mul_one,Nat.add_zero] at h1;exact(hb.cell (block_lt_of_cell h1)).trans h1
 clear hF q0 q1 q2 q3 q4
 go_enter Tryz.func215,Tryz.ntmps215
 go_wp2
 go_loopw [8] (fun i wr=>∃ t:Nat,t<=5∧i=.int .i64 t∧Below w.heap.size w wr∧∀ (i:Nat) (l:List (List UInt8)) (x:List UInt8),i<t->rowsL[i]?=some l->x ∈ l->(x == s.data.toList)=false) (fun i _=>5 - (intOf i).toNat)
 case atStart=>exact⟨0,by omega,rfl,Below.refl _ _,fun i l x h=>by omega⟩
 case round=>
  obtain⟨t,ht,rfl,hB,hno⟩:=hrel;have HB:=hid hB;have HN:=hid hno;clear hB hno
  by_cases h5:t=5
  ·subst h5;have HR:Hid (rowI s = -1):=zv8 fun i l x hi hx=>HN.out i l x (List.getElem?_eq_some_iff.1 hi).1 hi hx;clear HN
   go_wp2
   go_ret
   exact⟨by rw[HR.out];rfl,HB.out⟩
  obtain rfl|rfl|rfl|rfl|rfl:t=0∨t=1∨t=2∨t=3∨t=4:=by omega
  ·obtain⟨b,o,hsp,hce⟩:=HT.out 0 [[124,124]] rfl wr HB.out;have hidx:∀ W,(Instr.index 212 (.agg #[.slice (F 0).1 1 (F 0).2,.slice (F 1).1 1 (F 1).2,.slice (F 2).1 6 (F 2).2,.slice (F 3).1 2 (F 3).2,.slice (F 4).1 3 (F 4).2]) (.int .i64 0)).run Tryz.prog W=.ok (.slice (F 0).1 1 (F 0).2) W:=fun _=>rfl;have HCE:=hid hce;rw[hsp] at hidx ⊢;clear hce
   go_wp2
   go_loopw [14] (fun i wr=>∃ u:Nat,u<=1∧i=.int .i64 u∧Below w.heap.size w wr∧∀ (k:Nat) (x:List UInt8),k<u->([[124,124]]:List (List UInt8))[k]?=some x->(x == s.data.toList)=false) (fun i _=>1 - (intOf i).toNat)
   case atStart=>exact⟨0,by omega,rfl,HB.out,fun k x h=>by omega⟩
   case round=>
    obtain⟨u,hu,rfl,hB2,hno2⟩:=hrel;have HB2:=hid hB2;have HN2:=hid hno2;clear hB2 hno2
    by_cases hl:u<1
    ·have hd:decide ((u:Int)<1)=true:=by simp;omega
     obtain⟨x,hx⟩:∃ x,([[124,124]]:List (List UInt8))[u]?=some x:=⟨_,List.getElem?_eq_getElem (by simpa using hl)⟩;have c:=HCE.out u x hx wr HB2.out;have HEQ:Hid (((strU x).toList == s.toList)=(x == s.data.toList)):=by show _=_;rw[zcw,ByteArray.toList_eq]
     cases hq:(x == s.data.toList)
     ·rw[hq] at HEQ;have hq':((strU x).toList == s.toList)=false:=HEQ.out;have HG:Hid (∀ (k:Nat) (y:List UInt8),k<u+1->([[124,124]]:List (List UInt8))[k]?=some y->(y == s.data.toList)=false):=fun k y hk hy=>by
       by_cases hku:k<u
       ·exact HN2.out k y hku hy
       ·obtain rfl:k=u:=by omega
        rw[hx] at hy;injection hy with hy;rw[<-hy,hq]
      clear hx hq HEQ HN2
      go_wp2
      exact⟨⟨u+1,by omega,by go_num,HB2.out,HG.out⟩,by simp[intOf];omega⟩
     ·rw[hq] at HEQ;have hq':((strU x).toList == s.toList)=true:=HEQ.out;have HR:Hid (rowI s=0):=zf6 (i:=0) (l:=[[124,124]]) rfl (List.mem_of_getElem? hx) hq;clear hx hq HEQ HN2
      go_wp2
      go_ret
      exact⟨by rw[HR.out];rfl,HB2.out⟩
    ·have hd:decide ((u:Int)<1)=false:=by simp;omega
     have HG:Hid (∀ (i:Nat) (l:List (List UInt8)) (x:List UInt8),i<0+1->rowsL[i]?=some l->x ∈ l->(x == s.data.toList)=false):=fun k l x hk hl hx=>by
      by_cases hki:k<0
      ·exact HN.out k l x hki hl hx
      ·obtain rfl:k=0:=by omega
       obtain rfl:[[124,124]]=l:=by injection hl
       obtain⟨j,hj,hjx⟩:=List.getElem_of_mem hx;exact HN2.out j x (by have:j<1:=hj;omega) (by rw[List.getElem?_eq_getElem hj,hjx])
     clear HN HN2
     go_wp2
     exact⟨⟨0+1,by omega,by go_num,HB2.out,HG.out⟩,by simp[intOf]⟩
  ·obtain⟨b,o,hsp,hce⟩:=HT.out 1 [[38,38]] rfl wr HB.out;have hidx:∀ W,(Instr.index 212 (.agg #[.slice (F 0).1 1 (F 0).2,.slice (F 1).1 1 (F 1).2,.slice (F 2).1 6 (F 2).2,.slice (F 3).1 2 (F 3).2,.slice (F 4).1 3 (F 4).2]) (.int .i64 1)).run Tryz.prog W=.ok (.slice (F 1).1 1 (F 1).2) W:=fun _=>rfl;have HCE:=hid hce;rw[hsp] at hidx ⊢;clear hce
   go_wp2
   go_loopw [14] (fun i wr=>∃ u:Nat,u<=1∧i=.int .i64 u∧Below w.heap.size w wr∧∀ (k:Nat) (x:List UInt8),k<u->([[38,38]]:List (List UInt8))[k]?=some x->(x == s.data.toList)=false) (fun i _=>1 - (intOf i).toNat)
   case atStart=>exact⟨0,by omega,rfl,HB.out,fun k x h=>by omega⟩
   case round=>
    obtain⟨u,hu,rfl,hB2,hno2⟩:=hrel;have HB2:=hid hB2;have HN2:=hid hno2;clear hB2 hno2
    by_cases hl:u<1
    ·have hd:decide ((u:Int)<1)=true:=by simp;omega
     obtain⟨x,hx⟩:∃ x,([[38,38]]:List (List UInt8))[u]?=some x:=⟨_,List.getElem?_eq_getElem (by simpa using hl)⟩;have c:=HCE.out u x hx wr HB2.out;have HEQ:Hid (((strU x).toList == s.toList)=(x == s.data.toList)):=by show _=_;rw[zcw,ByteArray.toList_eq]
     cases hq:(x == s.data.toList)
     ·rw[hq] at HEQ;have hq':((strU x).toList == s.toList)=false:=HEQ.out;have HG:Hid (∀ (k:Nat) (y:List UInt8),k<u+1->([[38,38]]:List (List UInt8))[k]?=some y->(y == s.data.toList)=false):=fun k y hk hy=>by
       by_cases hku:k<u
       ·exact HN2.out k y hku hy
       ·obtain rfl:k=u:=by omega
        rw[hx] at hy;injection hy with hy;rw[<-hy,hq]
      clear hx hq HEQ HN2
      go_wp2
      exact⟨⟨u+1,by omega,by go_num,HB2.out,HG.out⟩,by simp[intOf];omega⟩
     ·rw[hq] at HEQ;have hq':((strU x).toList == s.toList)=true:=HEQ.out;have HR:Hid (rowI s=1):=zf6 (i:=1) (l:=[[38,38]]) rfl (List.mem_of_getElem? hx) hq;clear hx hq HEQ HN2
      go_wp2
      go_ret
      exact⟨by rw[HR.out];rfl,HB2.out⟩
    ·have hd:decide ((u:Int)<1)=false:=by simp;omega
     have HG:Hid (∀ (i:Nat) (l:List (List UInt8)) (x:List UInt8),i<1+1->rowsL[i]?=some l->x ∈ l->(x == s.data.toList)=false):=fun k l x hk hl hx=>by
      by_cases hki:k<1
      ·exact HN.out k l x hki hl hx
      ·obtain rfl:k=1:=by omega
       obtain rfl:[[38,38]]=l:=by injection hl
       obtain⟨j,hj,hjx⟩:=List.getElem_of_mem hx;exact HN2.out j x (by have:j<1:=hj;omega) (by rw[List.getElem?_eq_getElem hj,hjx])
     clear HN HN2
     go_wp2
     exact⟨⟨1+1,by omega,by go_num,HB2.out,HG.out⟩,by simp[intOf]⟩
  ·obtain⟨b,o,hsp,hce⟩:=HT.out 2 [[61,61],[33,61],[60],[60,61],[62],[62,61]] rfl wr HB.out;have hidx:∀ W,(Instr.index 212 (.agg #[.slice (F 0).1 1 (F 0).2,.slice (F 1).1 1 (F 1).2,.slice (F 2).1 6 (F 2).2,.slice (F 3).1 2 (F 3).2,.slice (F 4).1 3 (F 4).2]) (.int .i64 2)).run Tryz.prog W=.ok (.slice (F 2).1 6 (F 2).2) W:=fun _=>rfl;have HCE:=hid hce;rw[hsp] at hidx ⊢;clear hce
   go_wp2
   go_loopw [14] (fun i wr=>∃ u:Nat,u<=6∧i=.int .i64 u∧Below w.heap.size w wr∧∀ (k:Nat) (x:List UInt8),k<u->([[61,61],[33,61],[60],[60,61],[62],[62,61]]:List (List UInt8))[k]?=some x->(x == s.data.toList)=false) (fun i _=>6 - (intOf i).toNat)
   case atStart=>exact⟨0,by omega,rfl,HB.out,fun k x h=>by omega⟩
   case round=>
    obtain⟨u,hu,rfl,hB2,hno2⟩:=hrel;have HB2:=hid hB2;have HN2:=hid hno2;clear hB2 hno2
    by_cases hl:u<6
    ·have hd:decide ((u:Int)<6)=true:=by simp;omega
     obtain⟨x,hx⟩:∃ x,([[61,61],[33,61],[60],[60,61],[62],[62,61]]:List (List UInt8))[u]?=some x:=⟨_,List.getElem?_eq_getElem (by simpa using hl)⟩;have c:=HCE.out u x hx wr HB2.out;have HEQ:Hid (((strU x).toList == s.toList)=(x == s.data.toList)):=by show _=_;rw[zcw,ByteArray.toList_eq]
     cases hq:(x == s.data.toList)
     ·rw[hq] at HEQ;have hq':((strU x).toList == s.toList)=false:=HEQ.out;have HG:Hid (∀ (k:Nat) (y:List UInt8),k<u+1->([[61,61],[33,61],[60],[60,61],[62],[62,61]]:List (List UInt8))[k]?=some y->(y == s.data.toList)=false):=fun k y hk hy=>by
       by_cases hku:k<u
       ·exact HN2.out k y hku hy
       ·obtain rfl:k=u:=by omega
        rw[hx] at hy;injection hy with hy;rw[<-hy,hq]
      clear hx hq HEQ HN2
      go_wp2
      exact⟨⟨u+1,by omega,by go_num,HB2.out,HG.out⟩,by simp[intOf];omega⟩
     ·rw[hq] at HEQ;have hq':((strU x).toList == s.toList)=true:=HEQ.out;have HR:Hid (rowI s=2):=zf6 (i:=2) (l:=[[61,61],[33,61],[60],[60,61],[62],[62,61]]) rfl (List.mem_of_getElem? hx) hq;clear hx hq HEQ HN2
      go_wp2
      go_ret
      exact⟨by rw[HR.out];rfl,HB2.out⟩
    ·have hd:decide ((u:Int)<6)=false:=by simp;omega
     have HG:Hid (∀ (i:Nat) (l:List (List UInt8)) (x:List UInt8),i<2+1->rowsL[i]?=some l->x ∈ l->(x == s.data.toList)=false):=fun k l x hk hl hx=>by
      by_cases hki:k<2
      ·exact HN.out k l x hki hl hx
      ·obtain rfl:k=2:=by omega
       obtain rfl:[[61,61],[33,61],[60],[60,61],[62],[62,61]]=l:=by injection hl
       obtain⟨j,hj,hjx⟩:=List.getElem_of_mem hx;exact HN2.out j x (by have:j<6:=hj;omega) (by rw[List.getElem?_eq_getElem hj,hjx])
     clear HN HN2
     go_wp2
     exact⟨⟨2+1,by omega,by go_num,HB2.out,HG.out⟩,by simp[intOf]⟩
  ·obtain⟨b,o,hsp,hce⟩:=HT.out 3 [[43],[45]] rfl wr HB.out;have hidx:∀ W,(Instr.index 212 (.agg #[.slice (F 0).1 1 (F 0).2,.slice (F 1).1 1 (F 1).2,.slice (F 2).1 6 (F 2).2,.slice (F 3).1 2 (F 3).2,.slice (F 4).1 3 (F 4).2]) (.int .i64 3)).run Tryz.prog W=.ok (.slice (F 3).1 2 (F 3).2) W:=fun _=>rfl;have HCE:=hid hce;rw[hsp] at hidx ⊢;clear hce
   go_wp2
   go_loopw [14] (fun i wr=>∃ u:Nat,u<=2∧i=.int .i64 u∧Below w.heap.size w wr∧∀ (k:Nat) (x:List UInt8),k<u->([[43],[45]]:List (List UInt8))[k]?=some x->(x == s.data.toList)=false) (fun i _=>2 - (intOf i).toNat)
   case atStart=>exact⟨0,by omega,rfl,HB.out,fun k x h=>by omega⟩
   case round=>
    obtain⟨u,hu,rfl,hB2,hno2⟩:=hrel;have HB2:=hid hB2;have HN2:=hid hno2;clear hB2 hno2
    by_cases hl:u<2
    ·have hd:decide ((u:Int)<2)=true:=by simp;omega
     obtain⟨x,hx⟩:∃ x,([[43],[45]]:List (List UInt8))[u]?=some x:=⟨_,List.getElem?_eq_getElem (by simpa using hl)⟩;have c:=HCE.out u x hx wr HB2.out;have HEQ:Hid (((strU x).toList == s.toList)=(x == s.data.toList)):=by show _=_;rw[zcw,ByteArray.toList_eq]
     cases hq:(x == s.data.toList)
     ·rw[hq] at HEQ;have hq':((strU x).toList == s.toList)=false:=HEQ.out;have HG:Hid (∀ (k:Nat) (y:List UInt8),k<u+1->([[43],[45]]:List (List UInt8))[k]?=some y->(y == s.data.toList)=false):=fun k y hk hy=>by
       by_cases hku:k<u
       ·exact HN2.out k y hku hy
       ·obtain rfl:k=u:=by omega
        rw[hx] at hy;injection hy with hy;rw[<-hy,hq]
      clear hx hq HEQ HN2
      go_wp2
      exact⟨⟨u+1,by omega,by go_num,HB2.out,HG.out⟩,by simp[intOf];omega⟩
     ·rw[hq] at HEQ;have hq':((strU x).toList == s.toList)=true:=HEQ.out;have HR:Hid (rowI s=3):=zf6 (i:=3) (l:=[[43],[45]]) rfl (List.mem_of_getElem? hx) hq;clear hx hq HEQ HN2
      go_wp2
      go_ret
      exact⟨by rw[HR.out];rfl,HB2.out⟩
    ·have hd:decide ((u:Int)<2)=false:=by simp;omega
     have HG:Hid (∀ (i:Nat) (l:List (List UInt8)) (x:List UInt8),i<3+1->rowsL[i]?=some l->x ∈ l->(x == s.data.toList)=false):=fun k l x hk hl hx=>by
      by_cases hki:k<3
      ·exact HN.out k l x hki hl hx
      ·obtain rfl:k=3:=by omega
       obtain rfl:[[43],[45]]=l:=by injection hl
       obtain⟨j,hj,hjx⟩:=List.getElem_of_mem hx;exact HN2.out j x (by have:j<2:=hj;omega) (by rw[List.getElem?_eq_getElem hj,hjx])
     clear HN HN2
     go_wp2
     exact⟨⟨3+1,by omega,by go_num,HB2.out,HG.out⟩,by simp[intOf]⟩
  ·obtain⟨b,o,hsp,hce⟩:=HT.out 4 [[42],[47],[37]] rfl wr HB.out;have hidx:∀ W,(Instr.index 212 (.agg #[.slice (F 0).1 1 (F 0).2,.slice (F 1).1 1 (F 1).2,.slice (F 2).1 6 (F 2).2,.slice (F 3).1 2 (F 3).2,.slice (F 4).1 3 (F 4).2]) (.int .i64 4)).run Tryz.prog W=.ok (.slice (F 4).1 3 (F 4).2) W:=fun _=>rfl;have HCE:=hid hce;rw[hsp] at hidx ⊢;clear hce
   go_wp2
   go_loopw [14] (fun i wr=>∃ u:Nat,u<=3∧i=.int .i64 u∧Below w.heap.size w wr∧∀ (k:Nat) (x:List UInt8),k<u->([[42],[47],[37]]:List (List UInt8))[k]?=some x->(x == s.data.toList)=false) (fun i _=>3 - (intOf i).toNat)
   case atStart=>exact⟨0,by omega,rfl,HB.out,fun k x h=>by omega⟩
   case round=>
    obtain⟨u,hu,rfl,hB2,hno2⟩:=hrel;have HB2:=hid hB2;have HN2:=hid hno2;clear hB2 hno2
    by_cases hl:u<3
    ·have hd:decide ((u:Int)<3)=true:=by simp;omega
     obtain⟨x,hx⟩:∃ x,([[42],[47],[37]]:List (List UInt8))[u]?=some x:=⟨_,List.getElem?_eq_getElem (by simpa using hl)⟩;have c:=HCE.out u x hx wr HB2.out;have HEQ:Hid (((strU x).toList == s.toList)=(x == s.data.toList)):=by show _=_;rw[zcw,ByteArray.toList_eq]
     cases hq:(x == s.data.toList)
     ·rw[hq] at HEQ;have hq':((strU x).toList == s.toList)=false:=HEQ.out;have HG:Hid (∀ (k:Nat) (y:List UInt8),k<u+1->([[42],[47],[37]]:List (List UInt8))[k]?=some y->(y == s.data.toList)=false):=fun k y hk hy=>by
       by_cases hku:k<u
       ·exact HN2.out k y hku hy
       ·obtain rfl:k=u:=by omega
        rw[hx] at hy;injection hy with hy;rw[<-hy,hq]
      clear hx hq HEQ HN2
      go_wp2
      exact⟨⟨u+1,by omega,by go_num,HB2.out,HG.out⟩,by simp[intOf];omega⟩
     ·rw[hq] at HEQ;have hq':((strU x).toList == s.toList)=true:=HEQ.out;have HR:Hid (rowI s=4):=zf6 (i:=4) (l:=[[42],[47],[37]]) rfl (List.mem_of_getElem? hx) hq;clear hx hq HEQ HN2
      go_wp2
      go_ret
      exact⟨by rw[HR.out];rfl,HB2.out⟩
    ·have hd:decide ((u:Int)<3)=false:=by simp;omega
     have HG:Hid (∀ (i:Nat) (l:List (List UInt8)) (x:List UInt8),i<4+1->rowsL[i]?=some l->x ∈ l->(x == s.data.toList)=false):=fun k l x hk hl hx=>by
      by_cases hki:k<4
      ·exact HN.out k l x hki hl hx
      ·obtain rfl:k=4:=by omega
       obtain rfl:[[42],[47],[37]]=l:=by injection hl
       obtain⟨j,hj,hjx⟩:=List.getElem_of_mem hx;exact HN2.out j x (by have:j<3:=hj;omega) (by rw[List.getElem?_eq_getElem hj,hjx])
     clear HN HN2
     go_wp2
     exact⟨⟨4+1,by omega,by go_num,HB2.out,HG.out⟩,by simp[intOf]⟩
structure ExpC (ts:List Tok) (T g:Nat) (st:Option Addr) (cap:Nat) (n:Nat):Prop where
 bin:∀ (w:World) (l p:Nat),l<=5->Rdr T w g st cap ts p->(fns ts n).bin l p≠.out->Calls Tryz.prog 200 #[.pointer (some ⟨g,0,none⟩),.int .i64 l] w (PtP T w g st cap ts ((fns ts n).bin l p))
 una:∀ (w:World) (p:Nat),Rdr T w g st cap ts p->(fns ts n).una p≠.out->Calls Tryz.prog 214 #[.pointer (some ⟨g,0,none⟩)] w (PtP T w g st cap ts ((fns ts n).una p))
 post:∀ (w:World) (p:Nat),Rdr T w g st cap ts p->(fns ts n).post p≠.out->Calls Tryz.prog 232 #[.pointer (some ⟨g,0,none⟩)] w (PtP T w g st cap ts ((fns ts n).post p))
 prim:∀ (w:World) (p:Nat),Rdr T w g st cap ts p->(fns ts n).prim p≠.out->Calls Tryz.prog 239 #[.pointer (some ⟨g,0,none⟩)] w (PtP T w g st cap ts ((fns ts n).prim p))
section
variable {T:Nat}{w:World}{g:Nat}{st:Option Addr}{cap:Nat}{ts:List Tok}{p:Nat}
theorem zez {n:Nat}(h:ExpC ts T g st cap n)(hR:Rdr T w g st cap ts p)(ho:(fns ts n).bin 0 p≠.out):Calls Tryz.prog 175 #[.pointer (some ⟨g,0,none⟩)] w (PtP T w g st cap ts ((fns ts n).bin 0 p)):=by
 have HR0:=hid hR;have hT:=hR.hT;have hgT:=hR.hg;have HG0:Hid (w.grownBy w (some g)):=zb0 _ _;have hR2:=hR;clear hR;obtain⟨r,hX⟩:∃ r,(fns ts n).bin 0 p=r:=⟨_,rfl⟩;have hC:=h.bin w 0 p (by omega) hR2 ho;rw[hX] at hC ⊢;have HX0:Hid ((fns ts n).bin 0 p=r):=hX;clear hX ho hR2 HR0 hT hgT
 go_enter Tryz.func175,Tryz.ntmps175
 go_wp2_with fail
 refine((hC).mono fun e W h=>PtP.from HG0.out h).mono ?_;rintro e W1 hP;have HP:=hid hP;clear HG0 hC;rcases r with⟨t9,q9⟩ | s9|_
 ·obtain⟨-,b9,rfl,-⟩:=hP
  go_wp2
  go_ret
  exact HP.out
 ·obtain⟨-,hm'⟩:=hP;have hm2:e=wroE s9:=hm';subst hm2;clear hm';unfold wroE at HP ⊢
  go_wp2
  exact⟨rfl,HP.out⟩
 ·exact hP.2.elim
theorem zrs {n:Nat}(h:ExpC ts T g st cap n)(hR:Rdr T w g st cap ts p)(ho:(fns ts (n+1)).prim p≠.out):Calls Tryz.prog 239 #[.pointer (some ⟨g,0,none⟩)] w (PtP T w g st cap ts ((fns ts (n+1)).prim p)):=by
 have HR0:=hid hR;have hT:=hR.hT;have hgT:=hR.hg;have HG0:Hid (w.grownBy w (some g)):=zb0 _ _;clear hR;obtain⟨r,hX⟩:∃ r,(fns ts (n+1)).prim p=r:=⟨_,rfl⟩;rw[hX] at ho ⊢;have HX0:Hid ((fns ts (n+1)).prim p=r):=hX;have HO:=hid ho;have HX1:Hid ((if isT ts p [40] then((fns ts n).bin 0 (p+1)).bind fun t q=>expP ts [41] q fun q=>.ok t q else if namB ts p then leaP ts 23 p else va1P ts p)=r):=hX;clear hX ho HX0
 go_enter Tryz.func239,Tryz.ntmps239
 go_wp2_with fail
 refine(zeg ⟨#[40]⟩ (by simp) HR0.out).mono ?_;rintro e W1 ⟨he,g1,r1⟩;obtain⟨bb,hb⟩:∃ bb,isT ts p [40]=bb:=⟨_,rfl⟩;rw[show isT ts p (⟨#[40]⟩:ByteArray).data.toList=bb from hb] at he r1;subst he;rw[hb] at HX1;have HG1:Hid (w.grownBy W1 (some g)):=g1;clear g1 HG0 HR0 hb
 cases bb
 rotate_left
 ·have HX2:Hid _:=za8 rfl HX1.out;have HR1:Hid (Rdr T W1 g st cap ts (p+1)):=r1;clear HX1 r1
  go_wp2_with fail
  refine(zez h HR1.out (zau HX2.out HO.out)).mono ?_;rintro e W2 ⟨g1,hm⟩;rcases hx:(fns ts n).bin 0 (p+1) with⟨t2,q2⟩ | s2|_
  rotate_left
  ·rw[hx] at hm;have hm':e=wroE s2:=hm;subst hm';have HP:Hid (PtP T w g st cap ts r (wroE s2) W2):=zaj (zaa HG1.out g1) (zak hx HX2.out);clear HX2 HR1 HG1 HO;unfold wroE
   go_wp2
   exact⟨rfl,HP.out⟩
  ·rw[hx] at hm;exact hm.elim
  rw[hx] at hm;obtain⟨b2,rfl,hpt,r2⟩:=hm;have HX3:Hid _:=za0 hx HX2.out;have HG2:=hid (zaa HG1.out g1);have HK2:Hid (PtAt W2 (fun j=>w.heap.size<=j∧j<W2.heap.size) b2 t2):=hpt.wide HG1.out.size (Nat.le_refl _);have HR2:Hid (Rdr T W2 g st cap ts q2):=r2;clear g1 hpt r2 hx HX2 HR1 HG1
  go_wp2_with fail
  refine(zba ⟨#[41]⟩ (by simp) HR2.out).mono ?_;rintro e W3 ⟨g1,hm0⟩;have hm:(if isT ts q2 [41] then e=.returned (.tuple #[])∧Rdr T W3 g st cap ts (q2+1) else e=wroE (herI ts q2)):=hm0;clear hm0;obtain⟨bb,hb⟩:∃ bb,isT ts q2 [41]=bb:=⟨_,rfl⟩;rw[hb] at hm
  cases bb
  ·simp only[Bool.false_eq_true,if_false] at hm;subst hm;have HP:Hid (PtP T w g st cap ts r (wroE (herI ts q2)) W3):=zaj (zaa HG2.out g1) (zdg hb HX3.out);clear HX3 HR2 HG2 HO HK2;unfold wroE
   go_wp2
   exact⟨rfl,HP.out⟩
  simp only[if_true] at hm;obtain⟨rfl,r3⟩:=hm;have hsz:=g1.size;have HP:Hid (PtP T w g st cap ts r (.returned (.pointer (some ⟨b2,0,none⟩))) W3):=zbi (zaa HG2.out g1) (zcl hb HX3.out) ((HK2.out.grow (Nat.lt_of_lt_of_le hgT hT) (Nat.le_refl _) g1).wide (Nat.le_refl _) hsz) r3;clear HX3 HR2 HG2 HO HK2 g1 r3 hb
  go_wp2
  go_ret
  exact HP.out
 have HX2:Hid _:=zbo rfl HX1.out;have HR1:Hid (Rdr T W1 g st cap ts p):=r1;clear HX1 r1
 go_wp2_with fail
 refine(zf2 HR1.out).mono ?_;rintro e W2 ⟨rfl,b2⟩;have HR2:=hid (HR1.out.low b2);have HG2:=hid (zaa HG1.out (zae b2));clear b2 HR1 HG1;obtain⟨bb,hb⟩:∃ bb,namB ts p=bb:=⟨_,rfl⟩;rw[hb] at HX2 ⊢
 cases bb
 rotate_left
 ·have HX3:Hid _:=za8 rfl HX2.out;have hp:=zg3 hb;clear HX2 hb
  go_wp2_with fail
  refine(zey 23 HR2.out hp).mono ?_;rintro e W3 ⟨g3,b,v,rfl,hM,r3⟩;have HP:Hid (PtP T w g st cap ts r (.returned (.pointer (some ⟨b,0,none⟩))) W3):=zbi (zaa HG2.out g3) HX3.out (hM.mono HG2.out.size).fin r3;clear HX3 HR2 HG2 HO hM g3 r3
  go_wp2
  go_ret
  exact HP.out
 have HX3:Hid _:=zbo rfl HX2.out;clear HX2 hb
 go_wp2_with fail
 refine((zfm HR2.out).mono fun e W h=>PtP.from HG2.out h).mono ?_;rintro e W3 hP;rw[HX3.out] at hP;have HP:=hid hP;clear HX3 HG2 HR2 HO;rcases r with⟨t9,q9⟩ | s9|_
 ·obtain⟨-,b9,rfl,-⟩:=hP
  go_wp2
  go_ret
  exact HP.out
 ·obtain⟨-,hm'⟩:=hP;have hm2:e=wroE s9:=hm';subst hm2;clear hm';unfold wroE at HP ⊢
  go_wp2
  exact⟨rfl,HP.out⟩
 ·exact hP.2.elim
theorem zv9 {n:Nat}(h:ExpC ts T g st cap n)(hR:Rdr T w g st cap ts p)(ho:(fns ts (n+1)).una p≠.out):Calls Tryz.prog 214 #[.pointer (some ⟨g,0,none⟩)] w (PtP T w g st cap ts ((fns ts (n+1)).una p)):=by
 have HR0:=hid hR;have hT:=hR.hT;have hgT:=hR.hg;have HG0:Hid (w.grownBy w (some g)):=zb0 _ _;clear hR;obtain⟨r,hX⟩:∃ r,(fns ts (n+1)).una p=r:=⟨_,rfl⟩;rw[hX] at ho ⊢;have HX0:Hid ((fns ts (n+1)).una p=r):=hX;have HO:=hid ho;have HX1:Hid ((if isT ts p [45] || isT ts p [33] then((fns ts n).una (p+1)).bind fun u q=>.ok (.mk 26 (nxT ts p).text 0 (nxT ts p).pos (herI ts p) (behI ts q) [u]) q else(fns ts n).post p)=r):=hX;clear hX ho HX0
 go_enter Tryz.func214,Tryz.ntmps214
 go_wp2_with fail
 refine(zen ⟨#[45]⟩ HR0.out).mono ?_;rintro e W1 ⟨he,b1⟩;obtain⟨bb,hb⟩:∃ bb,isT ts p [45]=bb:=⟨_,rfl⟩;rw[show isT ts p (⟨#[45]⟩:ByteArray).data.toList=bb from hb] at he;subst he;have HR1:=hid (HR0.out.low b1);have HG1:=hid (zaa HG0.out (zae b1));clear b1 HR0 HG0;rw[hb] at HX1
 cases bb
 ·skip
  go_wp2_with fail
  refine(zen ⟨#[33]⟩ HR1.out).mono ?_;rintro e W2 ⟨he,b1⟩;obtain⟨bb,hb⟩:∃ bb,isT ts p [33]=bb:=⟨_,rfl⟩;rw[show isT ts p (⟨#[33]⟩:ByteArray).data.toList=bb from hb] at he;subst he;have HR2:=hid (HR1.out.low b1);have HG2:=hid (zaa HG1.out (zae b1));clear b1 HR1 HG1;rw[hb] at HX1
  cases bb
  ·have HX2:Hid _:=zbo rfl HX1.out;clear HX1 hb
   go_wp2_with fail
   refine((h.post _ _ HR2.out (by rw[HX2.out];exact HO.out)).mono fun e W h=>PtP.from HG2.out h).mono ?_;rintro e W3 hP;rw[HX2.out] at hP;have HP:=hid hP;clear HX2 HG2 HR2 HO;rcases r with⟨t9,q9⟩ | s9|_
   ·obtain⟨-,b9,rfl,-⟩:=hP
    go_wp2
    go_ret
    exact HP.out
   ·obtain⟨-,hm'⟩:=hP;have hm2:e=wroE s9:=hm';subst hm2;clear hm';unfold wroE at HP ⊢
    go_wp2
    exact⟨rfl,HP.out⟩
   ·exact hP.2.elim
  have HX2:Hid _:=za8 rfl HX1.out;have hp:=zb5 hb (by simp);clear HX1 hb
  go_wp2_with fail
  refine(zbh 26 HR2.out).mono ?_;rintro e W21 ⟨bk21,rfl,hM,b1⟩;have HM21:Hid (Mk w.heap.size W21 bk21 26 ⟨#[]⟩ 0 (herI ts p) (herI ts p) 0 (.slice none 0 0) []):=hM.mono HG2.out.size;have HG21:=hid (zaa HG2.out (zae b1));have HR21:=hid (HR2.out.low b1);clear hM b1 HG2 HR2
  go_wp2_with fail
  refine(zff HR21.out hp).mono ?_;rintro e W22 ⟨rfl,g1,r1⟩;have HG23:=hid (zaa HG21.out g1);have HM23:=hid (HM21.out.grow (Nat.lt_of_lt_of_le hgT hT) g1);have HR22:Hid (Rdr T W22 g st cap ts (p+1)):=r1;clear g1 r1 HR21 HG21 HM21
  go_wp2_with fail
  refine(zcu (nxT ts p) HM23.out).mono ?_;rintro e W24 ⟨rfl,hM,b1⟩;have HM24:=hid hM;have HG25:=hid (za3 HG23.out b1);have HR25:=hid (HR22.out.below hT b1);clear hM b1 HM23 HG23 HR22;have HL26:Hid ((bk21<W24.heap.size∧∀ q,((.slice none 0 0):Value).ownBlock=some q->q<W24.heap.size)∧w.heap.size<=W24.heap.size∧g<W24.heap.size):=⟨HM24.out.at,HG25.out.size,HR25.out.lt⟩
  go_wp2_with fail
  refine(h.una _ _ HR25.out (zau HX2.out HO.out)).mono ?_;rintro e W26 ⟨g1,hm⟩;rcases hx:(fns ts n).una (p+1) with⟨t26,q26⟩ | s26|_
  rotate_left
  ·rw[hx] at hm;have hm':e=wroE s26:=hm;subst hm';have HP:Hid (PtP T w g st cap ts r (wroE (s26)) W26):=zaj (zaa HG25.out g1) (zak hx HX2.out);clear HG25 HR25 HX2 HM24 HL26;unfold wroE
   go_wp2
   exact⟨rfl,HP.out⟩
  ·rw[hx] at hm;exact hm.elim
  rw[hx] at hm;obtain⟨bk26,rfl,hpt,r1⟩:=hm;have HX26:Hid _:=za0 hx HX2.out;have hsz26:=g1.size;have HG27:=hid (zaa HG25.out g1);have HM27:=hid (HM24.out.grow (Nat.lt_of_lt_of_le hgT hT) g1);have HK26:=hid hpt;have HR26:Hid (Rdr T W26 g st cap ts q26):=r1;clear g1 r1 hpt hx HX2 HR25 HG25 HM24
  go_wp2_with fail
  refine zag (fun W=>Below W26.heap.size W26 W∧W.heap[W26.heap.size]?=some (.cells #[.pointer (some ⟨bk26,0,none⟩)] 112 (0,0))) ⟨(Below.refl _ _).alloc (Nat.le_refl _) _,heap_alloc_new _ _⟩ ?_;rintro Wa28 ⟨ba,ra⟩;refine(za4 (bs2:=[bk26]) (l2:=[t26]) (S2:=fun j=>W24.heap.size<=j∧j<W26.heap.size) (HR26.out.low ba) hT (HM27.out.below ba) (zao ra) (fun h=>by cases h) (PsAt.one (HK26.out.low (Nat.le_refl _) ba)) (zb7 HL26.out.1 HL26.out.2.1 ba.size) (by simp)).mono ?_;rintro e W28 ⟨rfl,⟨v28,hM⟩,b1⟩;have HM28:=hid hM;have HGa28:=hid (zaa HG27.out (zae ba));have HRa28:=hid (HR26.out.low ba);have HG29:=hid (za3 HGa28.out b1);have HR29:=hid (HRa28.out.below hT b1);clear hM b1 ba ra HM27 HL26 HG27 HR26 HGa28 HRa28 HK26
  go_wp2
  go_ret
  exact zbi HG29.out HX26.out HM28.out.fin HR29.out
 have HX2:Hid _:=za8 rfl HX1.out;have hp:=zb5 hb (by simp);clear HX1 hb
 go_wp2_with fail
 refine(zbh 26 HR1.out).mono ?_;rintro e W21 ⟨bk21,rfl,hM,b1⟩;have HM21:Hid (Mk w.heap.size W21 bk21 26 ⟨#[]⟩ 0 (herI ts p) (herI ts p) 0 (.slice none 0 0) []):=hM.mono HG1.out.size;have HG21:=hid (zaa HG1.out (zae b1));have HR21:=hid (HR1.out.low b1);clear hM b1 HG1 HR1
 go_wp2_with fail
 refine(zff HR21.out hp).mono ?_;rintro e W22 ⟨rfl,g1,r1⟩;have HG23:=hid (zaa HG21.out g1);have HM23:=hid (HM21.out.grow (Nat.lt_of_lt_of_le hgT hT) g1);have HR22:Hid (Rdr T W22 g st cap ts (p+1)):=r1;clear g1 r1 HR21 HG21 HM21
 go_wp2_with fail
 refine(zcu (nxT ts p) HM23.out).mono ?_;rintro e W24 ⟨rfl,hM,b1⟩;have HM24:=hid hM;have HG25:=hid (za3 HG23.out b1);have HR25:=hid (HR22.out.below hT b1);clear hM b1 HM23 HG23 HR22;have HL26:Hid ((bk21<W24.heap.size∧∀ q,((.slice none 0 0):Value).ownBlock=some q->q<W24.heap.size)∧w.heap.size<=W24.heap.size∧g<W24.heap.size):=⟨HM24.out.at,HG25.out.size,HR25.out.lt⟩
 go_wp2_with fail
 refine(h.una _ _ HR25.out (zau HX2.out HO.out)).mono ?_;rintro e W26 ⟨g1,hm⟩;rcases hx:(fns ts n).una (p+1) with⟨t26,q26⟩ | s26|_
 rotate_left
 ·rw[hx] at hm;have hm':e=wroE s26:=hm;subst hm';have HP:Hid (PtP T w g st cap ts r (wroE (s26)) W26):=zaj (zaa HG25.out g1) (zak hx HX2.out);clear HG25 HR25 HX2 HM24 HL26;unfold wroE
  go_wp2
  exact⟨rfl,HP.out⟩
 ·rw[hx] at hm;exact hm.elim
 rw[hx] at hm;obtain⟨bk26,rfl,hpt,r1⟩:=hm;have HX26:Hid _:=za0 hx HX2.out;have hsz26:=g1.size;have HG27:=hid (zaa HG25.out g1);have HM27:=hid (HM24.out.grow (Nat.lt_of_lt_of_le hgT hT) g1);have HK26:=hid hpt;have HR26:Hid (Rdr T W26 g st cap ts q26):=r1;clear g1 r1 hpt hx HX2 HR25 HG25 HM24
 go_wp2_with fail
 refine zag (fun W=>Below W26.heap.size W26 W∧W.heap[W26.heap.size]?=some (.cells #[.pointer (some ⟨bk26,0,none⟩)] 112 (0,0))) ⟨(Below.refl _ _).alloc (Nat.le_refl _) _,heap_alloc_new _ _⟩ ?_;rintro Wa28 ⟨ba,ra⟩;refine(za4 (bs2:=[bk26]) (l2:=[t26]) (S2:=fun j=>W24.heap.size<=j∧j<W26.heap.size) (HR26.out.low ba) hT (HM27.out.below ba) (zao ra) (fun h=>by cases h) (PsAt.one (HK26.out.low (Nat.le_refl _) ba)) (zb7 HL26.out.1 HL26.out.2.1 ba.size) (by simp)).mono ?_;rintro e W28 ⟨rfl,⟨v28,hM⟩,b1⟩;have HM28:=hid hM;have HGa28:=hid (zaa HG27.out (zae ba));have HRa28:=hid (HR26.out.low ba);have HG29:=hid (za3 HGa28.out b1);have HR29:=hid (HRa28.out.below hT b1);clear hM b1 ba ra HM27 HL26 HG27 HR26 HGa28 HRa28 HK26
 go_wp2
 go_ret
 exact zbi HG29.out HX26.out HM28.out.fin HR29.out
end
theorem zrt {B b lo hi:Nat}{W:World}(hb:hi<=b)(hB:B<=lo)(hh:hi<=W.heap.size):∀ j,(lo<=j∧j<hi)->B<=j∧j<W.heap.size∧j≠b∧(Value.slice none 0 0).ownBlock≠some j:=fun j hj=>
 ⟨by omega,by omega,by omega,fun e=>by cases e⟩
section
variable {T:Nat}{w:World}{g:Nat}{st:Option Addr}{cap:Nat}{ts:List Tok}{p:Nat}
theorem zwa {n:Nat}(h:∀ m,m<=n->ExpC ts T g st cap m):Rnd ts T g st cap 175 (fun m q=>(fns ts m).bin 0 q) n 0 :=
 ⟨fun m hm W q hR ho=>zez (h m hm) hR ho,fun m p t q hx=>by
  have:=(adA (ts:=ts) m).bin 0 p;rw[hx] at this;have h2:p+1<=q:=this;omega⟩
theorem zpu (args:Array Value) (W:World):(callFunc 175 args).run Tryz.prog W=.ok (.enter 175 args) W:=by rfl
theorem zru (m:Nat)(fr:Int)(t:Pt)(q:Nat):(fns ts (m+1)).posL fr t q=(if isT ts q [46] then namP ts (q+1) fun x q=>(fns ts m).posL fr (.mk 24 x.text 0 x.pos fr (behI ts q) [t]) q
   else if isT ts q [40] then(lisP ts ((fns ts m).bin 0) (fns ts m).argL q).bind fun l q=>(fns ts m).posL fr (.mk 25 ⟨#[]⟩ 0 fr fr (behI ts q) ([t]++l)) q
   else .ok t q):=rfl
set_option maxHeartbeats 8000000 in
theorem zrv {n:Nat}(h:∀ m,m<=n->ExpC ts T g st cap m)(hR:Rdr T w g st cap ts p)(ho:(fns ts (n+1)).post p≠.out):Calls Tryz.prog 232 #[.pointer (some ⟨g,0,none⟩)] w (PtP T w g st cap ts ((fns ts (n+1)).post p)):=by
 have HR0:=hid hR;have hT:=hR.hT;have hgT:=hR.hg;have hfe:=hR.few;obtain⟨r,hX⟩:∃ r,(fns ts (n+1)).post p=r:=⟨_,rfl⟩;rw[hX] at ho ⊢;have HO:=hid ho;have HX1:Hid ((((fns ts n).prim p).bind fun t q=>(fns ts n).posL (herI ts p) t q)=r):=hX;have HH:=hid h;clear hR hX ho h;have hmf:∀ (fn:Fn) (first cap:Array Value) (w:World),(Instr.makeFunc fn first cap).run Tryz.prog w=.ok (.func fn first cap) w:=fun _ _ _ _=>rfl;obtain⟨fr,hfr⟩:∃ fr,herI ts p=fr:=⟨_,rfl⟩;rw[hfr] at HX1
 go_enter Tryz.func232,Tryz.ntmps232
 go_wp2_with fail
 refine(zhd HR0.out).mono ?_;rintro e W1 ⟨rfl,b1⟩;rw[hfr];have HR1:=hid (HR0.out.low b1);have HG1:Hid (w.grownBy W1 (some g)):=zae b1;clear b1 HR0 hfr
 go_wp2_with fail
 refine((HH.out n (Nat.le_refl _)).prim W1 p HR1.out (zau HX1.out HO.out)).mono ?_;rintro e W2 ⟨g1,hm⟩;rcases hx:(fns ts n).prim p with⟨t2,q2⟩ | s2|_
 rotate_left
 ·rw[hx] at hm;have hm':e=wroE s2:=hm;subst hm';have HP:Hid (PtP T w g st cap ts r (wroE s2) W2):=zaj (zaa HG1.out g1) (zak hx HX1.out);clear HX1 HR1 HG1 HO HH;unfold wroE
  go_wp2
  exact⟨rfl,HP.out⟩
 ·rw[hx] at hm;exact hm.elim
 rw[hx] at hm;obtain⟨b2,rfl,hpt,r2⟩:=hm;have HX2:Hid _:=za0 hx HX1.out;have HG2:=hid (zaa HG1.out g1);have HK2:Hid (PtAt W2 (fun j=>w.heap.size<=j∧j<W2.heap.size) b2 t2):=hpt.wide HG1.out.size (Nat.le_refl _);have HR2:Hid (Rdr T W2 g st cap ts q2):=r2;clear g1 hpt r2 hx HX1 HR1 HG1
 go_wp2
 go_loopw [4] (fun v wr=>∃ (b:Nat) (t:Pt) (q m:Nat),v=.pointer (some ⟨b,0,none⟩)∧PtAt wr (fun j=>w.heap.size<=j∧j<wr.heap.size) b t∧w.grownBy wr (some g)∧Rdr T wr g st cap ts q∧(fns ts m).posL fr t q=r∧m<=n) (fun _ wr=>ts.length - posW g wr)
 case atStart=>exact⟨b2,t2,q2,n,rfl,HK2.out,HG2.out,HR2.out,HX2.out,Nat.le_refl _⟩
 case round=>
  obtain⟨bp,t,q,m,rfl,hK,hG,hR,hm,hmn⟩:=hrel;have HK:=hid hK;have HG:=hid hG;have HR:=hid hR;have hle:=hR.le;have HPQ:Hid (posW g wr=q):=hR.pos;have hsw:=hG.size
  cases m with
  | zero=>exact(HO.out hm.symm).elim
  | succ m=>
  have HX3:Hid _:=(zru m fr t q).symm.trans hm;clear hK hG hR hm HK2 HG2 HR2 HX2
  go_wp2_with fail
  refine(zeg ⟨#[46]⟩ (by simp) HR.out).mono ?_;rintro e W4 ⟨he,g4,r4⟩;obtain⟨bb,hb⟩:∃ bb,isT ts q [46]=bb:=⟨_,rfl⟩;rw[show isT ts q (⟨#[46]⟩:ByteArray).data.toList=bb from hb] at he r4;subst he;rw[hb] at HX3;have hs4:=g4.size;have HG4:=hid (zaa HG.out g4);have HK4:=hid (HK.out.grow (Nat.lt_of_lt_of_le hgT hT) (Nat.le_refl _) g4);clear g4 HG HR HK hb
  cases bb
  rotate_left
  ·have HX4:Hid _:=za8 rfl HX3.out;have HR4:Hid (Rdr T W4 g st cap ts (q+1)):=r4;clear HX3 r4 HH
   go_wp2_with fail
   refine(zf4 24 fr W4).mono ?_;rintro e W5 ⟨rfl,hM,b5⟩;have hs5:=b5.size;have HM5:Hid _:=hM.mono (C:=w.heap.size) (by omega);have HG5:=hid (zaa HG4.out (zae b5));have HK5:=hid (HK4.out.low hs4 b5);have HR5:=hid (HR4.out.low b5);clear hM b5 HG4 HK4 HR4
   go_wp2_with fail
   refine(zdf HR5.out).mono ?_;rintro e W6 ⟨g6,hm⟩;obtain⟨bb,hb⟩:∃ bb,namB ts (q+1)=bb:=⟨_,rfl⟩;rw[hb] at hm
   cases bb
   ·simp only[Bool.false_eq_true,if_false] at hm;subst hm;have HP:Hid (PtP T w g st cap ts r (wroE (herI ts (q+1))) W6):=zaj (zaa HG5.out g6) (ze6 hb HX4.out);clear HX4 HR5 HG5 HK5 HM5 HO;unfold wroE
    go_wp2
    exact⟨rfl,HP.out⟩
   simp only[if_true] at hm;obtain⟨rfl,r6⟩:=hm;have hs6:=g6.size;have HX5:Hid _:=zd6 hb HX4.out;have HG6:=hid (zaa HG5.out g6);have HM6:Hid _:=HM5.out.grow (Nat.lt_of_lt_of_le hgT hT) g6;have HK6:=hid (HK5.out.grow (Nat.lt_of_lt_of_le hgT hT) (by omega) g6);have HR6:Hid (Rdr T W6 g st cap ts (q+1+1)):=r6;clear g6 r6 hb HX4 HG5 HM5 HK5 HR5
   go_wp2_with fail
   refine(zf5 (nxT ts (q+1)) HM6.out).mono ?_;rintro e W7 ⟨rfl,hM7,b7,ho7⟩;have hs7:=b7.size;have HM7:Hid _:=hM7;have HG7:=hid (za3 HG6.out b7);have HK7:Hid (PtAt W7 (fun j=>w.heap.size<=j∧j<wr.heap.size) bp t):=HK6.out.keep (fun _ h=>h) fun j hj=>ho7 j (by omega) (by omega);have HR7:=hid (HR6.out.below hT b7);have hle7:=HR6.out.le;clear hM7 b7 ho7 HM6 HG6 HK6 HR6
   go_wp2_with fail
   refine zag (fun W=>Below W7.heap.size W7 W∧W.heap[W7.heap.size]?=some (.cells #[.pointer (some ⟨bp,0,none⟩)] 112 (0,0))) ⟨(Below.refl _ _).alloc (Nat.le_refl _) _,heap_alloc_new _ _⟩ ?_;rintro W8 ⟨b8,r8⟩;have hs8:=b8.size;refine(za4 (bs2:=[bp]) (l2:=[t]) (S2:=fun j=>w.heap.size<=j∧j<wr.heap.size) (HR7.out.low b8) hT (HM7.out.below b8) (zao r8) (fun h=>by cases h) (PsAt.one (HK7.out.low (by omega) b8)) (zrt hs4 (Nat.le_refl _) (by omega)) (by simp)).mono ?_;rintro e W9 ⟨rfl,⟨v9,hM9⟩,b9⟩;have HM9:Hid _:=hM9;have HG9:=hid (za3 (zaa HG7.out (zae b8)) b9);have HR9:Hid (Rdr T W9 g st cap ts (q+1+1)):=(HR7.out.low b8).below hT b9;clear hM9 b9 b8 r8 HM7 HG7 HK7 HR7
   go_wp2
   exact⟨⟨W4.heap.size,_,q+1+1,m,rfl,HM9.out.fin,HG9.out,HR9.out,HX5.out,by omega⟩,by rw[HR9.out.pos,HPQ.out];omega⟩
  have HX4:Hid _:=zbo rfl HX3.out;have HR4:Hid (Rdr T W4 g st cap ts q):=r4;clear HX3 r4
  go_wp2_with fail
  refine(zen ⟨#[40]⟩ HR4.out).mono ?_;rintro e W5 ⟨he,b5⟩;obtain⟨bb,hb⟩:∃ bb,isT ts q [40]=bb:=⟨_,rfl⟩;rw[show isT ts q (⟨#[40]⟩:ByteArray).data.toList=bb from hb] at he;subst he;rw[hb] at HX4;have hs5:=b5.size;have HG5:=hid (zaa HG4.out (zae b5));have HK5:=hid (HK4.out.low hs4 b5);have HR5:=hid (HR4.out.low b5);clear b5 HG4 HK4 HR4
  cases bb
  ·have HP:Hid (PtP T w g st cap ts r (.returned (.pointer (some ⟨bp,0,none⟩))) W5):=zbi HG5.out (zbo rfl HX4.out) (HK5.out.wide (Nat.le_refl _) (by omega)) HR5.out;clear HX4 HG5 HK5 HR5 HO HH hb
   go_wp2
   go_ret
   exact HP.out
  have HX5:Hid _:=za8 rfl HX4.out;clear HX4 hb
  go_wp2_with fail
  refine(zf4 25 fr W5).mono ?_;rintro e W6 ⟨rfl,hM,b6⟩;have hs6:=b6.size;have HM6:Hid _:=hM.mono (C:=w.heap.size) (by omega);have HG6:=hid (zaa HG5.out (zae b6));have HK6:=hid (HK5.out.low (by omega) b6);have HR6:=hid (HR5.out.low b6);clear hM b6 HG5 HK5 HR5
  go_wp2_with fail
  refine zag (fun W=>Below W6.heap.size W6 W∧W.heap[W6.heap.size]?=some (.cells #[.pointer (some ⟨bp,0,none⟩)] 112 (0,0))) ⟨(Below.refl _ _).alloc (Nat.le_refl _) _,heap_alloc_new _ _⟩ ?_;rintro W7 ⟨b7,r7⟩;have hs7:=b7.size;refine(zcq (bs2:=[bp]) (l2:=[t]) (S2:=fun j=>w.heap.size<=j∧j<wr.heap.size) (HM6.out.below b7) (zao r7) (fun h=>by cases h) (PsAt.one (HK6.out.low (by omega) b7)) (zrt (by omega) (Nat.le_refl _) (by omega)) (by simp)).mono ?_;rintro e W8 ⟨rfl,⟨v8,hM8⟩,b8⟩;have HM8:Hid _:=hM8;have HG8:=hid (za3 (zaa HG6.out (zae b7)) b8);have HR8:Hid (Rdr T W8 g st cap ts q):=(HR6.out.low b7).below hT b8;have HL8:Hid _:=hM8.at;have HG8s:=HG8.out.size;clear hM8 b8 b7 r7 HM6 HG6 HK6 HR6
  go_wp2_with fail
  refine(zj4 175 (fun m q=>(fns ts m).bin 0 q) (fun m=>(fns ts m).argL) m (fun _ _=>rfl) (fun _ _ _=>rfl) (zwa fun m' hm'=>HH.out m' (by omega)) zpu HR8.out (zau HX5.out HO.out)).mono ?_;rintro e W9 ⟨g9,hm⟩;have hm2:match lisP ts ((fns ts m).bin 0) (fns ts m).argL q with
   | .ok l q=>∃ bs sp cp,e=.returned (.slice sp bs.length cp)∧RowsP W9 sp bs∧(sp=none->bs.length=0∧cp=0)∧PsAt W9 (fun j=>W8.heap.size<=j∧j<W9.heap.size) bs l∧l.length<=q∧Rdr T W9 g st cap ts q
   | .bad s=>e=wroE s
   | .out=>False:=hm
  clear hm;rcases hx:lisP ts ((fns ts m).bin 0) (fns ts m).argL q with⟨l9,q9⟩ | s9|_
  rotate_left
  ·rw[hx] at hm2;have hm':e=wroE s9:=hm2;subst hm';have HP:Hid (PtP T w g st cap ts r (wroE s9) W9):=zaj (zaa HG8.out g9) (zak hx HX5.out);clear HX5 HR8 HG8 HM8 HL8 HO HH;unfold wroE
   go_wp2
   exact⟨rfl,HP.out⟩
  ·rw[hx] at hm2;exact hm2.elim
  rw[hx] at hm2;obtain⟨bs,sp,cp,rfl,hr9,hn9,hp9,hl9,r9⟩:=hm2;have hle9:=r9.le;have hadv:q+1<=q9:=by
   have:=zn7 (ts:=ts) (one:=(fns ts m).bin 0) (more:=(fns ts m).argL) (p:=q) (fun _=>zbs ((adA (ts:=ts) m).bin 0 (q+1)) (by omega)) fun l q _ _=>(adA (ts:=ts) m).argL l q;rw[hx] at this;exact this
  have HX6:Hid _:=za0 hx HX5.out;have HG9:=hid (zaa HG8.out g9);have HM9:Hid _:=HM8.out.grow (Nat.lt_of_lt_of_le hgT hT) g9;have HR9:Hid (Rdr T W9 g st cap ts q9):=r9;have HRR:=hid hr9;have HNN:=hid hn9;have HPP:=hid hp9;clear g9 r9 hr9 hn9 hp9 hx HX5 HG8 HM8 HR8 HH
  go_wp2_with fail
  refine(za4 (S2:=fun j=>W8.heap.size<=j∧j<W9.heap.size) HR9.out hT HM9.out HRR.out HNN.out HPP.out (zb7 HL8.out HG8s (Nat.le_refl _)) (by simp;omega)).mono ?_;rintro e W10 ⟨rfl,⟨v10,hM10⟩,b10⟩;have HM10:Hid _:=hM10;have HG10:=hid (za3 HG9.out b10);have HR10:=hid (HR9.out.below hT b10);clear hM10 b10 HM9 HG9 HR9 HRR HNN HPP
  go_wp2
  exact⟨⟨W5.heap.size,_,q9,m,rfl,HM10.out.fin,HG10.out,HR10.out,HX6.out,by omega⟩,by rw[HR10.out.pos,HPQ.out];omega⟩
end
section
variable {T:Nat}{w:World}{g:Nat}{st:Option Addr}{cap:Nat}{ts:List Tok}{p:Nat}
theorem zrw (m l:Nat)(fr:Int)(t:Pt)(q:Nat):(fns ts (m+1)).binL l fr t q=(if rowI (nxT ts q).text=l then
    ((fns ts m).bin (l+1) (q+1)).bind fun u q'=>
     if l=2 then .ok (.mk 27 (nxT ts q).text 0 (nxT ts q).pos fr (behI ts q') [t,u]) q'
     else(fns ts m).binL l fr (.mk 27 (nxT ts q).text 0 (nxT ts q).pos fr (behI ts q') [t,u]) q'
   else .ok t q):=rfl
set_option maxHeartbeats 8000000 in
theorem zwb {n:Nat}(h:∀ m,m<=n->ExpC ts T g st cap m)(l:Nat)(hl:l<=5)(hR:Rdr T w g st cap ts p)(ho:(fns ts (n+1)).bin l p≠.out):Calls Tryz.prog 200 #[.pointer (some ⟨g,0,none⟩),.int .i64 l] w (PtP T w g st cap ts ((fns ts (n+1)).bin l p)):=by
 have HR0:=hid hR;have hT:=hR.hT;have hgT:=hR.hg;have hfe:=hR.few;obtain⟨r,hX⟩:∃ r,(fns ts (n+1)).bin l p=r:=⟨_,rfl⟩;rw[hX] at ho ⊢;have HO:=hid ho;have HX1:Hid ((if l=5 then(fns ts n).una p else((fns ts n).bin (l+1) p).bind fun t q=>(fns ts n).binL l (herI ts p) t q)=r):=hX;have HH:=hid h;have HG0:Hid (w.grownBy w (some g)):=zb0 _ _;clear hR hX ho h;have hfd:∀ (a b c:Value) (W:World),(Instr.field 38 (.agg #[a,b,c]) 1).run Tryz.prog W=.ok b W:=fun _ _ _ _=>rfl
 by_cases h5:l=5
 ·have HX2:Hid ((fns ts n).una p=r):=by
   show _=_;rw[<-HX1.out,if_pos h5]
  have hC:=(HH.out n (Nat.le_refl _)).una w p HR0.out (by rw[HX2.out];exact HO.out);rw[HX2.out] at hC;subst h5;clear HX1 HX2 HH HO
  go_enter Tryz.func200,Tryz.ntmps200
  go_wp2_with fail
  refine hC.mono ?_;rintro e W1 hP;have HP:=hid hP;clear hC HR0 HG0;rcases r with⟨t9,q9⟩ | s9|_
  ·obtain⟨-,b9,rfl,-⟩:=hP
   go_wp2
   go_ret
   exact HP.out
  ·obtain⟨-,hm'⟩:=hP;have hm2:e=wroE s9:=hm';subst hm2;clear hm';unfold wroE at HP ⊢
   go_wp2
   exact⟨rfl,HP.out⟩
  ·exact hP.2.elim
 have h5':((l:Int) == 5)=false:=by rw[beq_eq_false_iff_ne];omega
 have hl4:l+1<=5:=by omega
 have HX2:Hid ((((fns ts n).bin (l+1) p).bind fun t q=>(fns ts n).binL l (herI ts p) t q)=r):=by
  show _=_;rw[<-HX1.out,if_neg h5]
 clear HX1;obtain⟨fr,hfr⟩:∃ fr,herI ts p=fr:=⟨_,rfl⟩;rw[hfr] at HX2
 go_enter Tryz.func200,Tryz.ntmps200
 go_wp2_with fail
 refine(zhd HR0.out).mono ?_;rintro e W1 ⟨rfl,b1⟩;rw[hfr];have HR1:=hid (HR0.out.low b1);have HG1:Hid (w.grownBy W1 (some g)):=zae b1;clear b1 HR0 hfr HG0
 go_wp2_with fail
 refine((HH.out n (Nat.le_refl _)).bin W1 (l+1) p hl4 HR1.out (zau HX2.out HO.out)).mono ?_;rintro e W2 ⟨g1,hm⟩;rcases hx:(fns ts n).bin (l+1) p with⟨t2,q2⟩ | s2|_
 rotate_left
 ·rw[hx] at hm;have hm':e=wroE s2:=hm;subst hm';have HP:Hid (PtP T w g st cap ts r (wroE s2) W2):=zaj (zaa HG1.out g1) (zak hx HX2.out);clear HX2 HR1 HG1 HO HH;unfold wroE
  go_wp2
  exact⟨rfl,HP.out⟩
 ·rw[hx] at hm;exact hm.elim
 rw[hx] at hm;obtain⟨b2,rfl,hpt,r2⟩:=hm;have HX3:Hid _:=za0 hx HX2.out;have HG2:=hid (zaa HG1.out g1);have HK2:Hid (PtAt W2 (fun j=>w.heap.size<=j∧j<W2.heap.size) b2 t2):=hpt.wide HG1.out.size (Nat.le_refl _);have HR2:Hid (Rdr T W2 g st cap ts q2):=r2;clear g1 hpt r2 hx HX2 HR1 HG1
 go_wp2
 go_loopw [6] (fun v wr=>∃ (b:Nat) (t:Pt) (q m:Nat),v=.pointer (some ⟨b,0,none⟩)∧PtAt wr (fun j=>w.heap.size<=j∧j<wr.heap.size) b t∧w.grownBy wr (some g)∧Rdr T wr g st cap ts q∧(fns ts m).binL l fr t q=r∧m<=n) (fun _ wr=>ts.length - posW g wr)
 case atStart=>exact⟨b2,t2,q2,n,rfl,HK2.out,HG2.out,HR2.out,HX3.out,Nat.le_refl _⟩
 case round=>
  obtain⟨bp,t,q,m,rfl,hK,hG,hR,hm,hmn⟩:=hrel;have HK:=hid hK;have HG:=hid hG;have HR:=hid hR;have hle:=hR.le;have HPQ:Hid (posW g wr=q):=hR.pos;have hsw:=hG.size
  cases m with
  | zero=>exact(HO.out hm.symm).elim
  | succ m=>
  have HX4:Hid _:=(zrw m l fr t q).symm.trans hm;clear hK hG hR hm HK2 HG2 HR2 HX3
  go_wp2_with fail
  refine(zde HR.out).mono ?_;rintro e W3 ⟨rfl,b3⟩;have hs3:=b3.size;have HG3:=hid (zaa HG.out (zae b3));have HK3:=hid (HK.out.low (Nat.le_refl _) b3);have HR3:=hid (HR.out.low b3);clear b3 HG HK HR;unfold Tok.cells
  go_wp2_with fail
  refine(zml (nxT ts q).text W3 (HR3.out.env W3 fun _ _ _=>rfl).2).mono ?_;rintro e W4 ⟨rfl,b4⟩;have hs4:=b4.size;have HG4:=hid (zaa HG3.out (zae b4));have HK4:=hid (HK3.out.low (by omega) b4);have HR4:=hid (HR3.out.low b4);clear b4 HG3 HK3 HR3
  by_cases hrow:rowI (nxT ts q).text=l
  rotate_left
  ·have hrw:(rowI (nxT ts q).text == (l:Int))=false:=by rw[beq_eq_false_iff_ne];exact hrow
   have HP:Hid (PtP T w g st cap ts r (.returned (.pointer (some ⟨bp,0,none⟩))) W4):=zbi HG4.out (by rw[<-HX4.out,if_neg hrow]) (HK4.out.wide (Nat.le_refl _) (by omega)) HR4.out;clear HX4 HG4 HK4 HR4 HO HH
   go_wp2
   go_ret
   exact HP.out
  have hrw:(rowI (nxT ts q).text == (l:Int))=true:=by rw[hrow];exact beq_self_eq_true _
  have HX5:Hid _:=(if_pos hrow).symm.trans HX4.out;have hq:=zn6 hrow;clear HX4 hrow
  go_wp2_with fail
  refine(zf4 27 fr W4).mono ?_;rintro e W5 ⟨rfl,hM,b5⟩;have hs5:=b5.size;have HM5:Hid _:=hM.mono (C:=w.heap.size) (by omega);have HG5:=hid (zaa HG4.out (zae b5));have HK5:=hid (HK4.out.low (by omega) b5);have HR5:=hid (HR4.out.low b5);clear hM b5 HG4 HK4 HR4 hrw
  go_wp2_with fail
  refine(zff HR5.out hq).mono ?_;rintro e W6 ⟨rfl,g6,r6⟩;have hs6:=g6.size;have HG6:=hid (zaa HG5.out g6);have HM6:Hid _:=HM5.out.grow (Nat.lt_of_lt_of_le hgT hT) g6;have HK6:=hid (HK5.out.grow (Nat.lt_of_lt_of_le hgT hT) (by omega) g6);have HR6:Hid (Rdr T W6 g st cap ts (q+1)):=r6;clear g6 r6 HG5 HM5 HK5 HR5
  go_wp2_with fail
  refine(zf5 (nxT ts q) HM6.out).mono ?_;rintro e W7 ⟨rfl,hM7,b7,ho7⟩;have hs7:=b7.size;have HM7:Hid _:=hM7;have HG7:=hid (za3 HG6.out b7);have HK7:Hid (PtAt W7 (fun j=>w.heap.size<=j∧j<wr.heap.size) bp t):=HK6.out.keep (fun _ h=>h) fun j hj=>ho7 j (by omega) (by omega);have HR7:=hid (HR6.out.below hT b7);have hb7:=hM7.lt;clear hM7 b7 ho7 HM6 HG6 HK6 HR6
  go_wp2_with fail
  refine((HH.out m (by omega)).bin W7 (l+1) (q+1) hl4 HR7.out (zau HX5.out HO.out)).mono ?_;rintro e W8 ⟨g8,hm⟩;rcases hx:(fns ts m).bin (l+1) (q+1) with⟨t8,q8⟩ | s8|_
  rotate_left
  ·rw[hx] at hm;have hm':e=wroE s8:=hm;subst hm';have HP:Hid (PtP T w g st cap ts r (wroE s8) W8):=zaj (zaa HG7.out g8) (zak hx HX5.out);clear HX5 HR7 HG7 HM7 HK7 HO HH;unfold wroE
   go_wp2
   exact⟨rfl,HP.out⟩
  ·rw[hx] at hm;exact hm.elim
  rw[hx] at hm;obtain⟨b8,rfl,hpt,r8⟩:=hm;have hadv:q+1+1<=q8:=by
   have:=(adA (ts:=ts) m).bin (l+1) (q+1);rw[hx] at this;exact this
  have hs8:=g8.size;have hle8:=r8.le;have HX6:Hid _:=za0 hx HX5.out;have HG8:=hid (zaa HG7.out g8);have HM8:Hid _:=HM7.out.grow (Nat.lt_of_lt_of_le hgT hT) g8;have HK8:=hid (HK7.out.grow (Nat.lt_of_lt_of_le hgT hT) (by omega) g8);have HU8:=hid hpt;have HR8:Hid (Rdr T W8 g st cap ts q8):=r8;clear g8 hpt r8 hx HX5 HG7 HM7 HK7 HR7
  go_wp2_with fail
  refine zag (fun W=>Below W8.heap.size W8 W∧W.heap[W8.heap.size]?=some (.cells #[.pointer (some ⟨bp,0,none⟩),.pointer (some ⟨b8,0,none⟩)] 112 (0,0))) ⟨(Below.refl _ _).alloc (Nat.le_refl _) _,heap_alloc_new _ _⟩ ?_;rintro W9 ⟨b9,r9⟩;have hs9:=b9.size;refine(za4 (bs2:=[bp,b8]) (l2:=[t,t8]) (S2:=fun j=>(w.heap.size<=j∧j<wr.heap.size)∨(W7.heap.size<=j∧j<W8.heap.size)) (HR8.out.low b9) hT (HM8.out.below b9) (zj0 r9) (fun h=>by cases h) (PsAt.two (HK8.out.keep (fun _ h=>.inl h) fun j hj=>b9.block j (by omega)) (HU8.out.keep (fun _ h=>.inr h) fun j hj=>b9.block j hj.2)) (fun j hj=>by
   rcases hj with hj|hj
   ·exact⟨hj.1,by omega,by omega,fun e=>by cases e⟩
   ·exact⟨by omega,by omega,by omega,fun e=>by cases e⟩) (by simp)).mono ?_
  rintro e W10 ⟨rfl,⟨v10,hM10⟩,b10⟩;have HM10:Hid _:=hM10;have HG10:=hid (za3 (zaa HG8.out (zae b9)) b10);have HR10:Hid (Rdr T W10 g st cap ts q8):=(HR8.out.low b9).below hT b10;clear hM10 b10 b9 r9 HM8 HG8 HK8 HU8 HR8
  by_cases h2:l=2
  ·have h2':((l:Int) == 2)=true:=by rw[h2];rfl
   have HP:Hid (PtP T w g st cap ts r (.returned (.pointer (some ⟨W4.heap.size,0,none⟩))) W10):=zbi HG10.out ((if_pos h2).symm.trans HX6.out) HM10.out.fin HR10.out;clear HX6 HM10 HG10 HR10 HO HH;subst h2
   go_wp2
   go_ret
   exact HP.out
  have h2':((l:Int) == 2)=false:=by rw[beq_eq_false_iff_ne];omega
  have HX7:Hid _:=(if_neg h2).symm.trans HX6.out;clear HX6
  go_wp2
  exact⟨⟨W4.heap.size,_,q8,m,rfl,HM10.out.fin,HG10.out,HR10.out,HX7.out,by omega⟩,by rw[HR10.out.pos,HPQ.out];omega⟩
theorem zfn (n:Nat):ExpC ts T g st cap n:=by
 induction n using Nat.strongRecOn with
 | ind n ih=>
  cases n with
  | zero=>exact⟨fun _ _ _ _ _ h=>absurd rfl h,fun _ _ _ h=>absurd rfl h,fun _ _ _ h=>absurd rfl h,fun _ _ _ h=>absurd rfl h⟩
  | succ n=>
   have h:∀ m,m<=n->ExpC ts T g st cap m:=fun m hm=>ih m (by omega);exact⟨fun w l p hl hR ho=>zwb h l hl hR ho,fun w p hR ho=>zv9 (h n (Nat.le_refl _)) hR ho,fun w p hR ho=>zrv h hR ho,fun w p hR ho=>zrs (h n (Nat.le_refl _)) hR ho⟩
end
end Go.Proofs.YtabiangdmibocaaGreatDoor
