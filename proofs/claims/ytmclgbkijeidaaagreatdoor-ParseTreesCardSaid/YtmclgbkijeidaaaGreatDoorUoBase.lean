import Derived.Test.YtmclgbkijeidaaaGreatDoorRows
import Derived.WalkKit
import Derived.WalkSpells
import Derived.WalkLawsBesides
import Derived.Deep.QuietTactic
import Derived.BigQuiet
import Derived.Laws.Rows
namespace Go.Proofs.YtmclgbkijeidaaaGreatDoor
open Go.RowKit
theorem J {p:Prop}(h:p):Hid p:=h
theorem sI {α:Type}(l:List α)(i:Nat)(a:α):l.toArray.setIfInBounds i a=(l.set i a).toArray:=List.setIfInBounds_toArray ..
theorem sS {α:Type}(x:α)(l:List α)(i:Nat)(a:α):(x::l).set (i+1) a=x::l.set i a:=rfl
theorem sZ {α:Type}(x:α)(l:List α)(a:α):(x::l).set 0 a=a::l:=rfl
theorem zdh {k:IntKind}{a b:Int}(h:a=b):Ending.returned (.int k a)=.returned (.int k b):=by rw[h]
theorem zdq {P:Program}{c:Code}{Q:Exit->Act->World->Prop}{a:Act}{w0:World}(F:World->Prop)(h0:F w0)(h:∀ W1,F W1->Code.wp P c Q a W1):Code.wp P c Q a w0:=h _ h0
theorem zag {P:Program}{f:FuncId}{args:Array Value}{R:Ending->World->Prop}{w0:World}(F:World->Prop)(h0:F w0)(h:∀ W1,F W1->Calls P f args W1 R):Calls P f args w0 R:=h _ h0
theorem zaa {w:World}{g:Nat}{o:Obj}(h:w.heap[g]?=some o):g<w.heap.size:=by
 by_cases hlt:g<w.heap.size
 ·exact hlt
 ·have hn:w.heap[g]?=none:=by simp;omega
  simp[hn] at h
def arr (k:IntKind) (n:Nat) (f:Nat->Int):Array Value:=Array.ofFn (n:=n) fun i=>.int k (f i)
theorem zyp {k:IntKind}{n:Nat}{f:Nat->Int}{i:Nat}(h:i<n):(arr k n f)[i]?=some (.int k (f i)):=by
 simp[arr,h]
def upd (f:Nat->Int) (j:Nat) (x:Int):Nat->Int:=fun i=>if i=j then x else f i
theorem zyq {k:IntKind}{n:Nat}{f:Nat->Int}{j:Nat}{x:Int}:(arr k n f).setIfInBounds j (.int k x)=arr k n (upd f j x):=by
 apply Array.ext
 ·simp[arr]
 ·intro i h1 h2;have hi:i<n:=by simpa[arr] using h2
  rw[Array.getElem_setIfInBounds (by simpa[arr] using hi)]
  by_cases hj:j=i
  ·subst hj;simp[arr,upd]
  ·have hj':¬ i=j:=fun e=>hj e.symm;simp[arr,upd,hj,hj']
theorem zrf {k:IntKind}{n:Nat}{f g:Nat->Int}(h:∀ i,i<n->f i=g i):arr k n f=arr k n g:=by
 apply Array.ext
 ·simp[arr]
 ·intro i h1 h2;simp[arr] at h1 h2 ⊢;exact h i h1
theorem zad {w:World}{g:Nat}{cs old:Array Value}{t:TypeId}{fr:Nat × Nat}(h:w.heap[g]?=some (.cells old t fr)):(w.setRow g cs).heap[g]?=some (.cells cs t fr):=setRow_heap w g old cs t fr h
theorem zak {B:Nat}{a w:World}(h:Below B a w){g:Nat}(hg:B<=g)(cs:Array Value):Below B a (w.setRow g cs) :=
 h.trans ⟨rfl,rfl,rfl,by simp,fun k hk=>setRow_other w g k cs (by omega)⟩
theorem zh3 {w:World}{g:Nat}{k:IntKind}{n:Nat}{f:Nat->Int}{t:TypeId}{fr:Nat × Nat}(h:w.heap[g]?=some (.cells (arr k n f) t fr)){i:Nat}(hi:i<n):w.cell? ⟨g,i,none⟩=some (.int k (f i)):=by
 rw[cell_of_row _ _ _ _ _ _ h,zyp hi]
theorem zrg {w:World}{g:Nat}{k:IntKind}{n:Nat}{f:Nat->Int}{t:TypeId}(h:w.heap[g]?=some (.cells (arr k n f) t (0,0)))(j:Nat)(x:Int) :
  (w.setCell ⟨g,j,none⟩ (.int k x)).heap[g]?=some (.cells (arr k n (upd f j x)) t (0,0)):=by
 rw[heap_setCell_same _ _ _ _ _ _ h,zyq]
abbrev Ya:=@Nat.le_refl
abbrev Yb:=@Below.refl
abbrev Yc:=@cell_of_row
abbrev Yd:=@heap_alloc_new
abbrev Ye:=@heap_setCell_other
abbrev Yf:=@heap_setCell_same
abbrev Yg:=@Nat.lt_of_lt_of_le
abbrev Yh:=@List.getElem?_eq_getElem
abbrev Yi:=@IntKind.wrap_i64
abbrev Yj:=@frozen_of_row
abbrev Yk:=@Nat.zero_le
abbrev Yl:=@Option.some.inj
abbrev Ym:=@List.mem_of_getElem?
abbrev Yn:=@Below.heap_alloc
abbrev Yo:=@Nat.le_trans
theorem Yp (i:Nat){w:World}{b:Nat}{cs:Array Value}{t:TypeId}{fr:Nat × Nat}{v:Value}(h:w.heap[b]?=some (.cells cs t fr))(e:cs[i]?=some v):w.cell? ⟨b,i,none⟩=some v:=(cell_of_row _ _ i _ _ _ h).trans e
theorem hid {p:Prop}(h:p):Hid p:=h
def Q3 (md:Region.Mode)(ops:Array Oper)(l:Array Bool)(i:Nat):Bool:=Region.noSelect ops&&(Region.free md ops l i&&(Region.ready md ops l).contains i)
theorem q3 {md:Region.Mode}{ops:Array Oper}{l:Array Bool}{i:Nat}(h:Q3 md ops l i=true):Region.noSelect ops=true∧Region.free md ops l i=true∧(Region.ready md ops l).contains i=true:=by
 unfold Q3 at h;simpa using h
end Go.Proofs.YtmclgbkijeidaaaGreatDoor
