import Derived.Test.YtfhppenjbmmadaaGreatDoorXmM03
import Derived.Laws.CopyRow
import Derived.WalkSmall
import Derived.Deep.Light
namespace Go.Proofs.YtfhppenjbmmadaaGreatDoor
set_option linter.unusedVariables false
set_option maxHeartbeats 8000000
section
open Go.RowKit Go.Sort
section
variable {P:Program} {Q:Exit→Act→World→Prop} {o:Oper} {a':Act} {w':World}
def aggB:TypeDesc→Bool
 | .struct _ | .array _ _=>true
 | _=>false
theorem ob_loada(ty:TypeId)(x:Operand)(ho:o.op=.load ty x){g off:Nat}(hx:a'.eval x=.pointer (some ⟨g,off,none⟩)){c cs:Array Value}{d:TypeDesc}(hr:HRw w' g c)(hu:P.underlying ty=some d)(hd:aggB d=true)(hi:(P.info? ty).map (·.size)=some cs.size)(hc:c.extract off (off+cs.size)=cs):o.wp P a' w' (fun a'' w''=>a''=a'.put o.dst (.agg cs)∧Below w'.heap.size w' w'') Q:=by
 have hl:(loadCells ⟨g,off,none⟩ cs.toList.length).run P w'=.ok cs.toList.toArray w':=
  run_loadCells_list (P:=P) w' ⟨g,off,none⟩ cs.toList (fun j v hv=>by
   have hadd:(⟨g,off,none⟩:Addr).add j=⟨g,off+j,none⟩:=by unfold Addr.add;split<;>simp_all
   rw[hadd,hr.cell]
   have hj:j<cs.size:=by simpa using (List.getElem?_eq_some_iff.1 hv).1
   have h2:cs[j]? = some v:=by simpa using hv
   rw[← h2,← hc,Array.getElem?_extract,if_pos]
   ·have h3:=congrArg Array.size hc
    rw[Array.size_extract] at h3
    omega)
 have hA:(isAgg ty).run P w'=.ok true w':=by
  unfold isAgg
  simp only[Sem.run_bind,run_underlying hu,Result.andThen_ok]
  cases d<;>first | rfl | simp[aggB] at hd
 have hS:(sizeOf ty).run P w'=.ok cs.toList.length w':=by
  cases hq:P.info? ty with
  | none=>simp[hq] at hi
  | some i=>simp[sizeOf,typeInfo,hq];simp[hq] at hi;exact hi
 have hL:(loadVar ty ⟨g,off,none⟩).run P w'=.ok (.agg cs) w':=by
  unfold loadVar
  simp only[Sem.run_bind,hA,Result.andThen_ok,if_true,hS,hl,Sem.run_pure,Array.toArray_toList]
 refine wVF (v:=.agg cs) (w1:=w') ?_ ⟨rfl,Below.refl _ _⟩
 unfold execOp
 simp only[ho,hx,Instr.loadAt,Instr.sureAddr,Sem.run_bind,Sem.run_pure,Result.andThen_ok,hL]
theorem ob_load1(ty:TypeId)(x:Operand)(ho:o.op=.load ty x){g off:Nat}(hx:a'.eval x=.pointer (some ⟨g,off,none⟩)){c:Array Value}{v:Value}{d:TypeDesc}(hr:HRw w' g c)(hu:P.underlying ty=some d)(hd:aggB d=false)(hc:c[off]? = some v):o.wp P a' w' (fun a'' w''=>a''=a'.put o.dst v∧Below w'.heap.size w' w'') Q:=by
 have hA:(isAgg ty).run P w'=.ok false w':=by
  unfold isAgg
  simp only[Sem.run_bind,run_underlying hu,Result.andThen_ok]
  cases d<;>first | rfl | simp[aggB] at hd
 have hcell:w'.cell? ⟨g,off,none⟩=some v:=by rw[hr.cell];exact hc
 have hL:(loadVar ty ⟨g,off,none⟩).run P w'=.ok v w':=by
  unfold loadVar
  simp only[Sem.run_bind,hA,Result.andThen_ok,Bool.false_eq_true,if_false]
  rw[run_load,hcell]
 refine wVF (v:=v) (w1:=w') ?_ ⟨rfl,Below.refl _ _⟩
 unfold execOp
 simp only[ho,hx,Instr.loadAt,Instr.sureAddr,Sem.run_bind,Sem.run_pure,Result.andThen_ok,hL]
def over (c:Array Value) (off:Nat) (cs:Array Value):Array Value:=(c.toList.take off++cs.toList++c.toList.drop (off+cs.size)).toArray
theorem ob_storea(ty:TypeId)(x y:Operand)(ho:o.op=.store ty x y){g off:Nat}(hx:a'.eval x=.pointer (some ⟨g,off,none⟩)){v:Value}(hy:a'.eval y=v){c cs:Array Value}(hv:v.cells=cs)(hr:HRw w' g c)(hi:(P.info? ty).map (·.size)=some cs.size)(hn:off+cs.size≤c.size)(h1:cs.all (·.oneCell')=true){e:Array Value}(he:over c off cs=e):o.wp P a' w' (fun a'' w''=>a''=a'.put o.dst undef∧w''=w'.setRow g e) Q:=by
 obtain ⟨t,hg⟩:=hr
 have hs:=run_storeCells_at P g off t cs.toList 0 c w' hg (by simpa using hn) (fun v hv=>by
  have h2:=Array.all_eq_true_iff_forall_mem.1 h1 v (by simpa using hv)
  exact h2)
 have hV:(storeVar ty ⟨g,off,none⟩ v).run P w'=.ok () (w'.setRow g e):=by
  cases hq:P.info? ty with
  | none=>simp[hq] at hi
  | some i=>
   have hz:cs.size=i.size:=by simp[hq] at hi;omega
   have h3:(c.toList.take (off+0)++cs.toList++c.toList.drop (off+0+cs.toList.length)).toArray=e:=by rw[← he];simp[over]
   rw[h3] at hs
   simpa [storeVar,sizeOf,typeInfo,hq,hv,hz] using hs
 unfold Oper.wp execOp
 simp only[ho,hx,hy,Instr.storeAt,Instr.sureAddr,Sem.run_bind,Sem.run_pure,Result.andThen_ok,hV]
 exact ⟨rfl,rfl⟩
theorem resA{fn:Func}{p:Tmp}{ty:TypeId}(h:fn.results=#[.cell p ty]){tmps:Array Value}{w:World}{g:Nat}{c:Array Value}{d:TypeDesc}(h1:tmps.getD p undef=.pointer (some ⟨g,0,none⟩))(r1:HRw w g c)(hu:P.underlying ty=some d)(hd:aggB d=true)(hi:(P.info? ty).map (·.size)=some c.size):(results fn tmps).run P w=.ok (.agg c) w:=by
 obtain ⟨t,r1⟩:=r1
 have h1':tmps[p]?.getD undef=.pointer (some ⟨g,0,none⟩):=by rw[← h1];simp
 have k1:=run_loadVar_row (P:=P) w g t ty c (0,0) d r1 hu (by cases d<;>simp_all [aggB]) hi
 simp only[results,h]
 simp[h1',asAddr,k1]
end
abbrev T3 (x y z:Nat):Array Value:=#[B (l0 x),B (l1 x),B (l2 x),B (l3 x),B (l0 y),B (l1 y),B (l2 y),B (l3 y),B (l0 z),B (l1 z),B (l2 z),B (l3 z)]
abbrev P9 (x y:Nat) (n:Bool):Array Value:=#[B (l0 x),B (l1 x),B (l2 x),B (l3 x),B (l0 y),B (l1 y),B (l2 y),B (l3 y),.bool n]
abbrev A3 (x y z:Nat):Value:=.agg (T3 x y z)
abbrev A9 (x y:Nat) (n:Bool):Value:=.agg (P9 x y n)
abbrev PT (g:Nat):Value:=.pointer (some ⟨g,0,none⟩)
abbrev PO (g k:Nat):Value:=.pointer (some ⟨g,k,none⟩)
abbrev Z12:Array Value:=#[.int .u64 0,.int .u64 0,.int .u64 0,.int .u64 0,.int .u64 0,.int .u64 0,.int .u64 0,.int .u64 0,.int .u64 0,.int .u64 0,.int .u64 0,.int .u64 0]
abbrev Z9:Array Value:=#[.int .u64 0,.int .u64 0,.int .u64 0,.int .u64 0,.int .u64 0,.int .u64 0,.int .u64 0,.int .u64 0,.bool false]
end
section
open Go.RowKit Go.Sort
section
variable {P:Program} {Q:Exit→Act→World→Prop} {o:Oper} {a':Act} {w':World}
theorem evc(a:Act)(v:Value):a.eval (.const v)=v:=rfl
theorem ob_move(x:Operand)(ho:o.op=.move x){v:Value}(hx:a'.eval x=v):o.wp P a' w' (fun a'' w''=>a''=a'.put o.dst v∧Below w'.heap.size w' w'') Q:=by
 refine wVF (v:=v) (w1:=w') ?_ ⟨rfl,Below.refl _ _⟩
 unfold execOp;simp only[ho,hx,Sem.run_pure]
theorem ob_assign(x:Operand)(ho:o.op=.assign x){v:Value}(hx:a'.eval x=v):o.wp P a' w' (fun a'' w''=>a''=a'.put o.dst v∧Below w'.heap.size w' w'') Q:=by
 refine wVF (v:=v) (w1:=w') ?_ ⟨rfl,Below.refl _ _⟩
 unfold execOp;simp only[ho,hx,Sem.run_pure]
theorem ob_pick(c x y:Operand)(ho:o.op=.pick c x y){q:Bool}(hc:a'.eval c=.bool q){v:Value}(hv:(if q=true then a'.eval x else a'.eval y)=v):o.wp P a' w' (fun a'' w''=>a''=a'.put o.dst v∧Below w'.heap.size w' w'') Q:=by
 refine wVF (v:=v) (w1:=w') ?_ ⟨rfl,Below.refl _ _⟩
 unfold execOp;simp only[ho,hc,Sem.run_bind,Sem.run_pure,asBool,Result.andThen_ok,hv]
theorem ob_extract(x:Operand)(i:Nat)(ho:o.op=.extract x i){vs:Array Value}(hx:a'.eval x=.tuple vs){v:Value}(hv:vs[i]? = some v):o.wp P a' w' (fun a'' w''=>a''=a'.put o.dst v∧Below w'.heap.size w' w'') Q:=by
 refine wVF (v:=v) (w1:=w') ?_ ⟨rfl,Below.refl _ _⟩
 unfold execOp;simp[ho,hx,Instr.extract,hv]
theorem ob_fieldAddr(t:TypeId)(x:Operand)(f:Nat)(ho:o.op=.fieldAddr t x f){p v:Value}(hx:a'.eval x=p)(h:(Instr.fieldAt t p f).run P w'=.ok v w'):o.wp P a' w' (fun a'' w''=>a''=a'.put o.dst v∧Below w'.heap.size w' w'') Q:=by
 refine wVF (v:=v) (w1:=w') ?_ ⟨rfl,Below.refl _ _⟩
 unfold execOp;simp only[ho,hx,Sem.run_bind,Sem.run_pure,h,Result.andThen_ok]
theorem ob_indexAddr(t:TypeId)(x y:Operand)(ho:o.op=.indexAddr t x y){p i v:Value}(hx:a'.eval x=p)(hy:a'.eval y=i)(h:(Instr.indexAt t p i).run P w'=.ok v w'):o.wp P a' w' (fun a'' w''=>a''=a'.put o.dst v∧Below w'.heap.size w' w'') Q:=by
 refine wVF (v:=v) (w1:=w') ?_ ⟨rfl,Below.refl _ _⟩
 unfold execOp;simp only[ho,hx,hy,Sem.run_bind,Sem.run_pure,h,Result.andThen_ok]
theorem ob_unOp(u:UnOp)(t:TypeId)(x:Operand)(ho:o.op=.unOp u t x){p v:Value}(hx:a'.eval x=p)(h:(Op.unary u p).run P w'=.ok v w'):o.wp P a' w' (fun a'' w''=>a''=a'.put o.dst v∧Below w'.heap.size w' w'') Q:=by
 refine wVF (v:=v) (w1:=w') ?_ ⟨rfl,Below.refl _ _⟩
 unfold execOp;simp only[ho,hx,Sem.run_bind,Sem.run_pure,h,Result.andThen_ok]
theorem ob_binOp(b:BinOp)(t:TypeId)(x y:Operand)(t2:TypeId)(ho:o.op=.binOp b t x y t2){p q v:Value}(hx:a'.eval x=p)(hy:a'.eval y=q)(h:(do eqGuard b t x y p q;binOp b t p q:Sem Value).run P w'=.ok v w'):o.wp P a' w' (fun a'' w''=>a''=a'.put o.dst v∧Below w'.heap.size w' w'') Q:=by
 refine wVF (v:=v) (w1:=w') ?_ ⟨rfl,Below.refl _ _⟩
 unfold execOp;simp only[ho,hx,hy]
 rw[Sem.run_bind,h,Result.andThen_ok,Sem.run_pure]
theorem ob_build(t:TypeId)(ps:Array (Nat×Operand))(ho:o.op=.build t ps){vs:Array (Nat×Value)}{v:Value}(hp:ps.map (fun x=>(x.1,a'.eval x.2))=vs)(h:(Instr.build t vs).run P w'=.ok v w'):o.wp P a' w' (fun a'' w''=>a''=a'.put o.dst v∧Below w'.heap.size w' w'') Q:=by
 refine wVF (v:=v) (w1:=w') ?_ ⟨rfl,Below.refl _ _⟩
 unfold execOp;simp only[ho]
 rw[Sem.run_bind,show (ps.map fun (i,x)=>(i,a'.eval x))=vs from hp,h,Result.andThen_ok,Sem.run_pure]
theorem ob_fcall(f:FuncId)(xs:Array Operand)(ts:Array TypeId)(ho:o.op=.call { callee:=.value (.func f),args:=xs,argTypes:=ts }){vs:Array Value}(hx:xs.map a'.eval=vs){v:Value}(hr:∀ (a:Act) (ty:TypeId) (w:World),(do let d ← resolve a.eval { callee:=.value (.func f),args:=xs,argTypes:=ts } ty;invoke d.target d.args:Sem Next).run P w=.ok (.enter f (xs.map a.eval)) w)(hc:Calls P f vs w' fun e w''=>e=.returned v∧Below w'.heap.size w' w''):o.wp P a' w' (fun a'' w''=>a''=a'.put o.dst v∧Below w'.heap.size w' w'') Q:=by
 refine ob_call (f:=f) (args:=vs) ?_ hc
 unfold execOp
 simp only[ho]
 rw[hr,hx]
variable {ρ:Operand→Value}
theorem am1{x:Operand}{v:Value}(h:ρ x=v):#[x].map ρ=#[v]:=by simp[h]
theorem am2{x y:Operand}{v u:Value}(h:ρ x=v)(h2:ρ y=u):#[x,y].map ρ=#[v,u]:=by simp[h,h2]
theorem am3{x y z:Operand}{v u t:Value}(h:ρ x=v)(h2:ρ y=u)(h3:ρ z=t):#[x,y,z].map ρ=#[v,u,t]:=by simp[h,h2,h3]
theorem pm0:(#[]:Array (Nat×Operand)).map (fun x=>(x.1,ρ x.2))=#[]:=by simp
theorem pm4{i j k l:Nat}{x y z q:Operand}{v u t s:Value}(h:ρ x=v)(h2:ρ y=u)(h3:ρ z=t)(h4:ρ q=s):#[(i,x),(j,y),(k,z),(l,q)].map (fun x=>(x.1,ρ x.2))=#[(i,v),(j,u),(k,t),(l,s)]:=by simp[h,h2,h3,h4]
end
theorem resAT{P:Program}{fn:Func}{p q:Tmp}{ty:TypeId}(h:fn.results=#[.cell p ty,.tmp q]){tmps:Array Value}{w:World}{g:Nat}{c:Array Value}{d:TypeDesc}{v:Value}(h1:tmps.getD p undef=.pointer (some ⟨g,0,none⟩))(h2:tmps.getD q undef=v)(r1:HRw w g c)(hu:P.underlying ty=some d)(hd:aggB d=true)(hi:(P.info? ty).map (·.size)=some c.size):(results fn tmps).run P w=.ok (.tuple #[.agg c,v]) w:=by
 obtain ⟨t,r1⟩:=r1
 have h1':tmps[p]?.getD undef=.pointer (some ⟨g,0,none⟩):=by rw[← h1];simp
 have h2':tmps[q]?.getD undef=v:=by rw[← h2];simp
 have k1:=run_loadVar_row (P:=P) w g t ty c (0,0) d r1 hu (by cases d<;>simp_all [aggB]) hi
 simp only[results,h]
 simp[h1',h2',asAddr,k1]
abbrev XDoes (f:Nat) (args:Array Value) (v:Value):Prop:=Hid (∀ w,(callFunc f args).run Tryz.prog w=.ok (.value v) w)
section
variable {P:Program} {Q:Exit→Act→World→Prop} {ops:Array Oper} {a:Act} {w:World} {N0:Nat} {G:List (Nat×Array Value)} {L:List Sp} {k:Nat} {o:Oper} {a':Act} {w':World}
theorem RE.n(E:RE ops a w N0 G L k a' w')(v:Value)(t j:Nat)(h1:newB ops a.tmps.size k t j=true:=by kernel_rfl)(h2:L[j]? = some (sV v):=by rfl):a'.eval (.tmp t)=v:=E.new t j h1 h2
theorem RE.od(E:RE ops a w N0 G L k a' w')(t:Nat)(h1:wr ops t=none:=by kernel_rfl):a'.eval (.tmp t)=a.eval (.tmp t):=E.old t h1
theorem RE.os(E:RE ops a w N0 G L k a' w')(t j:Nat)(h1:wr ops t=some j:=by kernel_rfl)(h2:waitsB ops j k=true:=by kernel_rfl):a'.eval (.tmp t)=a.eval (.tmp t):=E.olds t j h1 h2
theorem ob_sa(ty:TypeId)(x y:Operand){g off:Nat}(hx:a'.eval x=.pointer (some ⟨g,off,none⟩)){v:Value}(hy:a'.eval y=v){c:Array Value}(hr:HRw w' g c){e:Array Value}(ho:o.op=.store ty x y:=by rfl)(hi:(P.info? ty).map (·.size)=some v.cells.size:=by kernel_rfl)(hn:off+v.cells.size≤c.size:=by exact Nat.le_of_ble_eq_true rfl)(h1:v.cells.all (·.oneCell')=true:=by kernel_rfl)(he:over c off v.cells=e:=by rfl) :
  o.wp P a' w' (fun a'' w''=>a''=a'.put o.dst undef∧w''=w'.setRow g e) Q:=ob_storea ty x y ho hx hy rfl hr hi hn h1 he
theorem ob_la(ty:TypeId)(x:Operand){g off:Nat}(hx:a'.eval x=.pointer (some ⟨g,off,none⟩)){c cs:Array Value}{d:TypeDesc}(hr:HRw w' g c)(hu:P.underlying ty=some d)(ho:o.op=.load ty x:=by rfl)(hd:aggB d=true:=by rfl)(hi:(P.info? ty).map (·.size)=some cs.size:=by kernel_rfl)(hc:c.extract off (off+cs.size)=cs:=by rfl) :
  o.wp P a' w' (fun a'' w''=>a''=a'.put o.dst (.agg cs)∧Below w'.heap.size w' w'') Q:=ob_loada ty x ho hx hr hu hd hi hc
theorem Rc{g:Nat}{c:Array Value}(h:HRw w g c)(t:RA w G):RA w ((g,c)::G):=RA.cons h t
theorem wp_told{id:Nat}{d:Bool}{w0:World}(G:List (Nat×Array Value))(L:List Sp)(bw:Below w0.heap.size w0 w)(hG:RA w G)(hS:StOk w0.heap.size w G L)(hO:Obs P ops Q a w0 w.heap.size G L 0 L)(hend:∀ bs w' a',a'=putAll ops (xv L bs) a→RF w w0 w.heap.size G L bs w'→Q .normal a' w')(hm:P.follows .mixedOrders=true:=by kernel_rfl)(hb:backB2 ops=true:=by kernel_rfl)(hB:onceG ops=true:=by kernel_rfl)(hst:stB ops L=true:=by kernel_rfl) :
  (Code.region id ops d).wp P Q a w:=wp_region_told hm hb hB G L hst bw hG hS hO hend
end
abbrev ud:Value:=undef
end
end Go.Proofs.YtfhppenjbmmadaaGreatDoor
