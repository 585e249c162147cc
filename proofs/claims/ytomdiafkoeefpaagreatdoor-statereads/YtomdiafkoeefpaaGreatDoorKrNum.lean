/- Laid one behind the other: Num, Dg, Wt, Ol, Ag, Rw, Rx. -/
import GoSem.Core.Value
import Derived.KernelRfl
import Derived.Test.YtomdiafkoeefpaaGreatDoorProg
import Derived.WalkKit
import Derived.BigRegion
import Derived.Deep.RegionHeld3
import Derived.Laws.Rows
import Derived.Laws.Tables
import Derived.Deep.WholeRow
import Derived.Deep.Draws
namespace Go.Proofs.YtomdiafkoeefpaaGreatDoor
def M:Nat:=18446744073709551616
theorem M_eq:M=18446744073709551616:=rfl
def W:Nat:=115792089237316195423570985008687907853269984665640564039457584007913129639936
theorem W_eq:W=M*M*M*M:=by decide +kernel
def l0 (n:Nat):Nat:=n%M
def l1 (n:Nat):Nat:=n/M%M
def l2 (n:Nat):Nat:=n/(M*M)%M
def l3 (n:Nat):Nat:=n/(M*M*M)%M
theorem l0_lt(n:Nat):l0 n<M:=Nat.mod_lt _ (by decide)
theorem l1_lt(n:Nat):l1 n<M:=Nat.mod_lt _ (by decide)
theorem l2_lt(n:Nat):l2 n<M:=Nat.mod_lt _ (by decide)
theorem l3_lt(n:Nat):l3 n<M:=Nat.mod_lt _ (by decide)
def mk (a b c d:Nat):Nat:=a+M*(b+M*(c+M*d))
theorem l0_mk(a b c d:Nat)(ha:a<M):l0 (mk a b c d)=a:=by
 unfold l0 mk;rw[Nat.add_mul_mod_self_left,Nat.mod_eq_of_lt ha]
theorem mk_div(a x:Nat)(ha:a<M):(a+M*x)/M=x:=by
 rw[Nat.add_mul_div_left _ _ (by decide),Nat.div_eq_of_lt ha,Nat.zero_add]
theorem l1_mk(a b c d:Nat)(ha:a<M)(hb:b<M):l1 (mk a b c d)=b:=by
 unfold l1 mk;rw[mk_div _ _ ha,Nat.add_mul_mod_self_left,Nat.mod_eq_of_lt hb]
theorem l2_mk(a b c d:Nat)(ha:a<M)(hb:b<M)(hc:c<M):l2 (mk a b c d)=c:=by
 unfold l2 mk;rw[← Nat.div_div_eq_div_mul,mk_div _ _ ha,mk_div _ _ hb,Nat.add_mul_mod_self_left,Nat.mod_eq_of_lt hc]
theorem l3_mk(a b c d:Nat)(ha:a<M)(hb:b<M)(hc:c<M)(hd:d<M):l3 (mk a b c d)=d:=by
 unfold l3 mk;rw[← Nat.div_div_eq_div_mul,← Nat.div_div_eq_div_mul,mk_div _ _ ha,mk_div _ _ hb,mk_div _ _ hc,Nat.mod_eq_of_lt hd]
theorem mk_lt(a b c d:Nat)(ha:a<M)(hb:b<M)(hc:c<M)(hd:d<M):mk a b c d<W:=by
 unfold mk;rw[W_eq];unfold M at *;omega
theorem mk_parts(n:Nat)(h:n<W):mk (l0 n) (l1 n) (l2 n) (l3 n)=n:=by
 rw[W_eq] at h
 unfold mk l0 l1 l2 l3 M at *
 omega
def sm (x y c:Nat):Nat:=(x+y+c)%M
def cy (x y c:Nat):Nat:=if x+y+c<M then 0 else 1
theorem cy_le(x y c:Nat):cy x y c≤1:=by unfold cy;split<;>omega
theorem sm_lt(x y c:Nat):sm x y c<M:=Nat.mod_lt _ (by decide)
theorem cy_eq(x y c:Nat)(hx:x<M)(hy:y<M)(hc:c≤1):(x+y+c)/M=cy x y c:=by
 unfold cy M at *;split<;>omega
theorem sm_cy(x y c:Nat)(hx:x<M)(hy:y<M)(hc:c≤1):sm x y c+M*cy x y c=x+y+c:=by
 unfold sm cy M at *;split<;>omega
def df (x y c:Nat):Nat:=(x+M-y-c)%M
end Go.Proofs.YtomdiafkoeefpaaGreatDoor
namespace Go.Proofs.YtomdiafkoeefpaaGreatDoor
def D:Nat:=4294967296
def vl (f:Nat→Nat) (k:Nat):Nat→Nat
 | 0=>0
 | n+1=>vl f k n+f (k+n)*D^n
def upd (f:Nat→Nat) (k x:Nat):Nat→Nat:=fun i=>if i=k then x else f i
end Go.Proofs.YtomdiafkoeefpaaGreatDoor
namespace Go.Proofs.YtomdiafkoeefpaaGreatDoor
open Go.RowKit
set_option linter.unusedVariables false
abbrev B (x:Nat):Value:=.int .u64 (x:Int)
abbrev U4 (a b c d:Nat):Value:=.agg #[B a,B b,B c,B d]
abbrev I4 (a b c d:Int):Value:=.agg #[.int .u64 a,.int .u64 b,.int .u64 c,.int .u64 d]
abbrev U (n:Nat):Value:=U4 (l0 n) (l1 n) (l2 n) (l3 n)
set_option maxHeartbeats 400000 in
theorem of_raw(a:Nat)(w:World):Calls Tryz.prog 128 #[B a] w fun e w'=>e=.returned (I4 a 0 0 0)∧Below w.heap.size w w':=by
 go_enter Tryz.func128,Tryz.ntmps128
 go_wp2
 exact bodyPost_ret (v:=I4 a 0 0 0) (by simp[results,Tryz.results128,go_sem]) rfl ⟨rfl,(by repeat (first | exact Below.refl _ _ | apply Below.drew | refine Below.alloc ?_ (by simp;try omega) _))⟩
end Go.Proofs.YtomdiafkoeefpaaGreatDoor
namespace Go.Proofs.YtomdiafkoeefpaaGreatDoor
open Go.RowKit
theorem bel_alloc{w a:World}(h:Below w.heap.size w a)(o:Obj):Below w.heap.size w (a.alloc o):=h.alloc h.size o
end Go.Proofs.YtomdiafkoeefpaaGreatDoor
namespace Go.Proofs.YtomdiafkoeefpaaGreatDoor
open Go.RowKit
set_option linter.unusedVariables false
def ag (k:IntKind) (n:Nat) (f:Nat→Nat):Array Value:=Array.ofFn (n:=n) fun i=>Value.int k ((f i.val:Nat):Int)
theorem ag_size(k:IntKind)(n:Nat)(f:Nat→Nat):(ag k n f).size=n:=by simp[ag]
theorem ag_get(k:IntKind)(n:Nat)(f:Nat→Nat)(i:Nat):(ag k n f)[i]? = if i<n then some (Value.int k ((f i:Nat):Int)) else none:=by
 unfold ag
 rw[Array.getElem?_ofFn]
 split<;>rfl
theorem ag_set(k:IntKind)(n:Nat)(f:Nat→Nat)(i x:Nat):(ag k n f).setIfInBounds i (Value.int k ((x:Nat):Int))=ag k n (upd f i x):=by
 apply Array.ext_getElem?
 intro j
 rw[ag_get,Array.getElem?_setIfInBounds,ag_get,ag_size]
 unfold upd
 by_cases h:i=j
 ·subst h;by_cases h2:i<n<;>simp[h2]
 ·have h':¬ j=i:=fun e=>h e.symm
  simp[h,h']
theorem ag_congr(k:IntKind)(n:Nat){f g:Nat→Nat}(h:∀ i,i<n→f i=g i):ag k n f=ag k n g:=by
 unfold ag
 congr 1
 funext i
 rw[h i.val i.isLt]
theorem ag_one(k:IntKind)(n:Nat)(f:Nat→Nat):(ag k n f).all (·.oneCell')=true:=by
 unfold ag
 rw[Array.all_eq_true]
 intro i hi
 simp[Value.oneCell']
end Go.Proofs.YtomdiafkoeefpaaGreatDoor
namespace Go.Proofs.YtomdiafkoeefpaaGreatDoor
open Go.RowKit
set_option linter.unusedVariables false
variable {P:Program}
def RowAt (w:World) (n:Nat) (c:Array Value) (t:TypeId) (F:Array Value→World):Prop:=
 w.heap[n]? = some (.cells c t (0,0))∧∀ c',w.setRow n c'=F c'
theorem RowAt.last{w:World}{n:Nat}{c:Array Value}{t:TypeId}(h:n=w.heap.size):RowAt (w.alloc (.cells c t)) n c t (fun c'=>w.alloc (.cells c' t)):=by
 subst h
 exact ⟨heap_alloc_last w _,fun c'=>World.setRow_alloc_new w c c' t⟩
theorem RowAt.old{w:World}{n:Nat}{c:Array Value}{t:TypeId}{F:Array Value→World}{o:Obj}(h:RowAt w n c t F):RowAt (w.alloc o) n c t (fun c'=>(F c').alloc o):=by
 obtain ⟨h1,h2⟩:=h
 have hlt:n<w.heap.size:=(Array.getElem?_eq_some_iff.1 h1).1
 refine ⟨by rw[heap_alloc_old w o hlt];exact h1,fun c'=>?_⟩
 show (w.alloc o).setRow n c'=(F c').alloc o
 rw[← h2 c']
 simp only[World.setRow,World.alloc]
 congr 1
 apply Array.ext_getElem?
 intro i
 rw[Array.getElem?_modify,Array.getElem?_push,Array.getElem?_push,Array.size_modify,Array.getElem?_modify]
 by_cases hi:i=w.heap.size
 ·have hn:¬ n=i:=by omega
  simp[hi]
  intro hh;omega
 ·simp[hi]
theorem RowAt.of{w:World}{n:Nat}{c:Array Value}{t:TypeId}(h:w.heap[n]? = some (.cells c t (0,0))):RowAt w n c t (fun c'=>w.setRow n c'):=⟨h,fun _=>rfl⟩
def HasRow (w:World) (g:Nat) (c:Array Value):Prop:=∃ t,w.heap[g]? = some (.cells c t (0,0))
theorem HasRow.last{w:World}{n:Nat}{c:Array Value}{t:TypeId}(h:n=w.heap.size):HasRow (w.alloc (.cells c t)) n c:=⟨t,by subst h;exact heap_alloc_last w _⟩
theorem HasRow.old{w:World}{n:Nat}{c:Array Value}{o:Obj}(h:HasRow w n c):HasRow (w.alloc o) n c:=by
 obtain ⟨t,h⟩:=h
 have hlt:n<w.heap.size:=(Array.getElem?_eq_some_iff.1 h).1
 exact ⟨t,by rw[heap_alloc_old w o hlt];exact h⟩
def StoreTo (w:World) (g m:Nat) (c':Array Value) (W':World):Prop:=∃ old t,w.heap[g]? = some (.cells old t (0,0))∧old.size=m∧w.setRow g c'=W'
theorem StoreTo.last{w:World}{n m:Nat}{c c':Array Value}{t:TypeId}(h:n=w.heap.size)(hm:c.size=m):StoreTo (w.alloc (.cells c t)) n m c' (w.alloc (.cells c' t)):=
 ⟨c,t,by subst h;exact heap_alloc_last w _,hm,by subst h;exact World.setRow_alloc_new w c c' t⟩
theorem StoreTo.old{w W':World}{n m:Nat}{c':Array Value}{o:Obj}(h:StoreTo w n m c' W'):StoreTo (w.alloc o) n m c' (W'.alloc o):=by
 obtain ⟨old,t,h1,h2,h3⟩:=h
 obtain ⟨k1,k2⟩:=RowAt.old (o:=o) (RowAt.of h1)
 exact ⟨old,t,k1,h2,by rw[k2 c',← h3]⟩
theorem wpList_rload'{ops:Array Oper}{rest:List Oper}{o:Oper}{a:Act}{w:World}{Q:Exit→Act→World→Prop}(hgd:o.guard=none)(ty:TypeId)(x:Operand)(ho:o.op=.load ty x)(g:Nat)(hx:a.eval x=.pointer (some ⟨g,0,none⟩))(k:IntKind)(n:Nat)(f:Nat→Nat){e:TypeId}(hr:HasRow w g (ag k n f))(hu:P.underlying ty=some (.array n e))(hi:(P.info? ty).map (·.size)=some n)(h:wpList P ops Q rest (a.put o.dst (.agg (ag k n f))) w):wpList P ops Q (o::rest) a w:=by
 obtain ⟨t,hr⟩:=hr
 exact wpList_load_row hgd ty x ho g hx t (ag k n f) (0,0) _ hr hu rfl (by rw[ag_size];exact hi) h
structure IsRow (c:Array Value) (k:IntKind) (n:Nat) (f:Nat→Nat):Prop where
 eq:c=ag k n f
theorem IsRow.size{c:Array Value}{k:IntKind}{n:Nat}{f:Nat→Nat}(h:IsRow c k n f):c.size=n:=by rw[h.eq];exact ag_size k n f
theorem wpList_vload{ops:Array Oper}{rest:List Oper}{o:Oper}{a:Act}{w:World}{Q:Exit→Act→World→Prop}(hgd:o.guard=none)(ty:TypeId)(x:Operand)(ho:o.op=.load ty x)(g:Nat)(hx:a.eval x=.pointer (some ⟨g,0,none⟩))(k:IntKind)(n:Nat)(f:Nat→Nat){e:TypeId}(hr:HasRow w g (ag k n f))(hu:P.underlying ty=some (.array n e))(hi:(P.info? ty).map (·.size)=some n)(h:∀ c,IsRow c k n f→wpList P ops Q rest (a.put o.dst (.agg c)) w):wpList P ops Q (o::rest) a w:=
 wpList_rload' hgd ty x ho g hx k n f hr hu hi (h _ ⟨rfl⟩)
theorem run_storeCells_to{w W':World}{g n:Nat}{k:IntKind}{f:Nat→Nat}(ty:TypeId)(hi:(P.info? ty).map (·.size)=some n)(h:StoreTo w g n (ag k n f) W') :
  (storeCells ⟨g,0,none⟩ (ag k n f).toList 0).run P w=.ok () W':=by
 obtain ⟨old,t,h1,h2,h3⟩:=h
 have hz:(ag k n f).size=n:=ag_size k n f
 have:=run_storeVar_row (P:=P) w g t ty old (ag k n f) h1 (by rw[hz];exact hi) (by rw[hz];exact h2) (ag_one k n f)
 rw[h3] at this
 cases hq:P.info? ty with
 | none=>simp[hq] at hi
 | some i=>
  have hs:(ag k n f).size=i.size:=by simp[hq] at hi;omega
  simpa [storeVar,sizeOf,typeInfo,hq,Value.cells,hs] using this
theorem run_storeCells_v{w W':World}{g n:Nat}{k:IntKind}{f:Nat→Nat}{c:Array Value}(hv:IsRow c k n f)(ty:TypeId)(hi:(P.info? ty).map (·.size)=some n)(h:StoreTo w g n (ag k n f) W') :
  (storeCells ⟨g,0,none⟩ c.toList 0).run P w=.ok () W':=by
 rw[hv.eq];exact run_storeCells_to ty hi h
theorem run_load_to{w:World}{g n:Nat}{k:IntKind}{f:Nat→Nat}(ty:TypeId){e:TypeId}(hu:P.underlying ty=some (.array n e))(hi:(P.info? ty).map (·.size)=some n)(h:HasRow w g (ag k n f)) :
  (loadVar ty ⟨g,0,none⟩).run P w=.ok (.agg (ag k n f)) w:=by
 obtain ⟨t,h⟩:=h
 exact run_loadVar_row w g t ty (ag k n f) (0,0) _ h hu rfl (by rw[ag_size];exact hi)
theorem HasRow.drewN{w:World}{n:Nat}{c:Array Value}(h:HasRow w n c)(q:Nat):HasRow (w.drewN q) n c:=h
theorem StoreTo.drewN{w W':World}{n m:Nat}{c':Array Value}(h:StoreTo w n m c' W')(q:Nat):StoreTo (w.drewN q) n m c' (W'.drewN q):=by
 obtain ⟨old,t,h1,h2,h3⟩:=h
 exact ⟨old,t,h1,h2,by rw[← h3];rfl⟩
theorem setCell_drewN(w:World)(n:Nat)(a:Addr)(v:Value):(w.drewN n).setCell a v=(w.setCell a v).drewN n:=by
 unfold World.drewN World.setCell
 split<;>rfl
theorem below_drewN{B:Nat}{a w:World}(h:Below B a w)(n:Nat):Below B a (w.drewN n):=⟨h.os,h.tape,h.output,h.size,h.block⟩
end Go.Proofs.YtomdiafkoeefpaaGreatDoor
namespace Go.Proofs.YtomdiafkoeefpaaGreatDoor
open Go.RowKit
set_option linter.unusedVariables false
variable {P:Program}
theorem name_world{c:Code}{Q:Exit→Act→World→Prop}{a:Act}(w:World)(h:∀ w',w'=w→c.wp P Q a w'):c.wp P Q a w:=h w rfl
theorem HasRow.lt{w:World}{g:Nat}{c:Array Value}(h:HasRow w g c):g<w.heap.size:=by
 obtain ⟨t,h⟩:=h
 exact (Array.getElem?_eq_some_iff.1 h).1
theorem HasRow.below{w w':World}{g:Nat}{c:Array Value}(h:HasRow w g c)(hb:Below w.heap.size w w'):HasRow w' g c:=by
 have hlt:=h.lt
 obtain ⟨t,h⟩:=h
 exact ⟨t,by rw[hb.block g hlt];exact h⟩
theorem HasRow.cell{w:World}{g:Nat}{c:Array Value}(h:HasRow w g c)(i:Nat):w.cell? ⟨g,i,none⟩=c[i]? :=by
 obtain ⟨t,h⟩:=h
 exact cell_of_row w g i c t (0,0) h
theorem size_setRow(w:World)(g:Nat)(c:Array Value):(w.setRow g c).heap.size=w.heap.size:=by simp[World.setRow]
theorem HasRow.set_same{w:World}{g:Nat}{c:Array Value}(h:HasRow w g c)(c':Array Value):HasRow (w.setRow g c') g c':=by
 obtain ⟨t,h⟩:=h
 refine ⟨t,?_⟩
 simp only[World.setRow,Array.getElem?_modify,h]
 simp
theorem HasRow.set_other{w:World}{g g':Nat}{c:Array Value}(h:HasRow w g c)(c':Array Value)(hne:g'≠g):HasRow (w.setRow g' c') g c:=by
 obtain ⟨t,h⟩:=h
 refine ⟨t,?_⟩
 simp only[World.setRow,Array.getElem?_modify,h]
 simp[hne]
theorem StoreTo.row{w:World}{g m:Nat}{c c':Array Value}(h:HasRow w g c)(hm:c.size=m):StoreTo w g m c' (w.setRow g c'):=by
 obtain ⟨t,h⟩:=h
 exact ⟨c,t,h,hm,rfl⟩
theorem below_setRow{B:Nat}{a w:World}(h:Below B a w){g:Nat}(hg:B≤g)(c:Array Value):Below B a (w.setRow g c):=
 ⟨h.os,h.tape,h.output,by rw[size_setRow];exact h.size,fun b hb=>by
  rw[← h.block b hb]
  simp only[World.setRow,Array.getElem?_modify]
  have:¬ g=b:=by omega
  simp[this]⟩
theorem HasRow.setCell{w:World}{g:Nat}{c:Array Value}(h:HasRow w g c)(i:Nat)(v:Value):w.setCell ⟨g,i,none⟩ v=w.setRow g (c.setIfInBounds i v):=by
 obtain ⟨t,h⟩:=h
 unfold World.setCell World.setRow
 congr 1
 apply Array.ext_getElem?
 intro j
 simp only[Array.getElem?_modify]
 by_cases hj:g=j
 ·subst hj;simp[h]
 ·simp[hj]
end Go.Proofs.YtomdiafkoeefpaaGreatDoor
