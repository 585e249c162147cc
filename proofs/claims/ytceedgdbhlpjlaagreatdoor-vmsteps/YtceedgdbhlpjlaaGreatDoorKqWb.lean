/- Out of Wb. -/
import Derived.Test.YtceedgdbhlpjlaaGreatDoorKqXs
import Derived.Lib.AppendStr
import Derived.Lib.AppendZerosOnto
import Derived.Lib.BufferWrite
import Derived.Laws.IdiomStrings
import Derived.Laws.BytesArg
namespace Go.Proofs.YtceedgdbhlpjlaaGreatDoor
open Go.RowKit Go.Sort Tryz
set_option linter.unusedVariables false
set_option maxRecDepth 100000
set_option maxHeartbeats 4000000
section
set_option linter.unusedSimpArgs false
abbrev Z (n:Int):Value:=.int .i64 n
theorem wz{n:Int}(h0 : -1000000000000000000≤n)(h:n<1000000000000000000):IntKind.i64.wrap n=n:=by
 rw[IntKind.wrap_i64 n];omega
theorem run_addZ{x y z:Int}(h:IntKind.i64.wrap (x+y)=z)(o1 o2:Operand)(w:World):(do eqGuard .add 3 o1 o2 (Z x) (Z y);binOp .add 3 (Z x) (Z y):Sem Value).run prog w=.ok (Z z) w:=by simp[go_sem,h]
theorem zeb{x y z:Int}(h:IntKind.i64.wrap (x-y)=z)(o1 o2:Operand)(w:World):(do eqGuard .sub 3 o1 o2 (Z x) (Z y);binOp .sub 3 (Z x) (Z y):Sem Value).run prog w=.ok (Z z) w:=by simp[go_sem,h]
theorem qp{x y z:Int}(h:IntKind.i64.wrap (x*y)=z)(o1 o2:Operand)(w:World):(do eqGuard .mul 3 o1 o2 (Z x) (Z y);binOp .mul 3 (Z x) (Z y):Sem Value).run prog w=.ok (Z z) w:=by simp[go_sem,h]
theorem zea{x y z:Int}(hy:y≠0)(h:x.tmod y=z)(o1 o2:Operand)(w:World):(do eqGuard .rem 3 o1 o2 (Z x) (Z y);binOp .rem 3 (Z x) (Z y):Sem Value).run prog w=.ok (Z z) w:=by
 simp[go_sem,h,hy]
theorem vr{x y:Int}{b:Bool}(h:decide (x<y)=b)(o1 o2:Operand)(w:World):(do eqGuard .lss 3 o1 o2 (Z x) (Z y);binOp .lss 3 (Z x) (Z y):Sem Value).run prog w=.ok (.bool b) w:=by simp[go_sem,h]
theorem za7{x y:Int}{b:Bool}(h:decide (y<x)=b)(o1 o2:Operand)(w:World):(do eqGuard .gtr 3 o1 o2 (Z x) (Z y);binOp .gtr 3 (Z x) (Z y):Sem Value).run prog w=.ok (.bool b) w:=by simp[go_sem,h]
theorem zb5{x y:Int}{b:Bool}(h:decide (y≤x)=b)(o1 o2:Operand)(w:World):(do eqGuard .geq 3 o1 o2 (Z x) (Z y);binOp .geq 3 (Z x) (Z y):Sem Value).run prog w=.ok (.bool b) w:=by simp[go_sem,h]
theorem run_leqZ{x y:Int}{b:Bool}(h:decide (x≤y)=b)(o1 o2:Operand)(w:World):(do eqGuard .leq 3 o1 o2 (Z x) (Z y);binOp .leq 3 (Z x) (Z y):Sem Value).run prog w=.ok (.bool b) w:=by simp[go_sem,h]
theorem yp{x y:Int}{b:Bool}(h:decide (x=y)=b)(o1 o2:Operand)(w:World):(do eqGuard .eql 3 o1 o2 (Z x) (Z y);binOp .eql 3 (Z x) (Z y):Sem Value).run prog w=.ok (.bool b) w:=by subst h;by_cases hx:x=y<;>simp[go_sem,hx]
theorem yz{x y:Int}{b:Bool}(h:decide (x≠y)=b)(o1 o2:Operand)(w:World):(do eqGuard .neq 3 o1 o2 (Z x) (Z y);binOp .neq 3 (Z x) (Z y):Sem Value).run prog w=.ok (.bool b) w:=by
 by_cases hx:x=y<;>subst h<;>simp[go_sem,hx]
theorem zq(N:World):qm (Below N.heap.size N) (· < N.heap.size):=by
 refine⟨fun w w' h g=>⟨g.os.trans h.os,g.tape.trans h.tape,g.output.trans h.output,Nat.le_trans h.size g.size,fun k hk=>(g.block k (Nat.lt_of_lt_of_le hk h.size) hk).trans (h.block k hk)⟩,fun w k h hk=>Nat.lt_of_lt_of_le hk h.size⟩
structure Grw (v v':Value) (w w':World):Prop where
 gr:w.grownBy w' v.ownBlock
 nb:∀ k,v'.ownBlock=some k→v.ownBlock=some k∨w.heap.size≤k
theorem hI5:∃ i,prog.info? 5=some i∧i.zero=some (.int .u8 0)∧i.size=1∧i.bytes=1:=by
 have h:(prog.info? 5).map (fun i=>(i.zero,i.size,i.bytes))=some (some (.int .u8 0),1,1):=by kernel_rfl
 cases hq:prog.info? 5 with
 | none=>rw[hq]at h;simp at h
 | some i=>rw[hq]at h;simp at h;exact⟨i,rfl,h.1,h.2.1,h.2.2⟩
abbrev bc (l:List UInt8):List Value:=l.map fun b=>Value.int .u8 b.toNat
theorem text_own{w:World}{b:Nat}{v:Value}{l:List UInt8}(h:w.ownsRow b 5 1 v l.length (bc l)):(convert 76 9 v).run prog w=.ok (.string ⟨l.toArray⟩) w:=by
 rcases h.2 with⟨rfl,hn⟩|⟨g,cap,cur,rfl,hbg,hgc,hnc,hcm,hcs,htake⟩
 ·have:l=[]:=List.eq_nil_of_length_eq_zero hn;subst this;exact run_convert_bytes_nil (P:=prog) w 76 5 underlying76 underlying5 0 0 9 underlying9
 ·exact run_convert_bytes_back (P:=prog) w 76 9 5 ⟨g,0,none⟩ cap l underlying76 underlying5 underlying9 (fun j hj=>by
   have:=h.cells (g:=g) rfl j (.int .u8 (l[j].toNat:Int)) (by simp[List.getElem?_eq_getElem hj]);exact this)
section
variable {P:Program} {J:World→Prop} {F:Nat→Prop} {ds:List Deferred} {β:Nat→Nat} {c:Cf} {a:Act} {w:World} {Q:Exit→Act→World→Prop}
def bltQ (c:Cf):Option (Builtin×Array TypeId×TypeId×List SV):=match zbg c with
 | some o=>match o.op with
  | .call { callee:=.builtin b,args:=xs,argTypes:=ts }=>(xs.toList.mapM (evQ c.tm)).map fun ss=>(b,ts,o.type,ss)
  | _=>none
 | none=>none
theorem bltQ_some{b:Builtin}{ts:Array TypeId}{ty:TypeId}{ss:List SV}(hc:bltQ c=some (b,ts,ty,ss))(I:SI J F ds β c a w):∃ o,zbg c=some o∧∃ cs,(execOp a.eval o).run P w=(builtin b ts ty cs (ss.map (up β)).toArray).run P w:=by
 unfold bltQ at hc;split at hc
 ·next o ho=>
  refine⟨o,ho,?_⟩;split at hc
  ·next b' xs ts' hop=>
   simp only[Option.map_eq_some_iff,Prod.mk.injEq]at hc;obtain⟨ss',hm,rfl,rfl,rfl,rfl⟩:=hc;have hx:=mapS_ok I.fr hm;have hxa:xs.map a.eval=(ss'.map (up β)).toArray:=by rw[← hx];apply Array.ext';simp
   refine⟨xs.map fun | .const _=>true | _=>false,?_⟩;unfold execOp;simp only[hop,resolve,invoke,Sem.run_bind,Sem.run_pure,Result.andThen_ok,hxa];rfl
  ·cases hc
 ·cases hc
theorem appQ{ts:Array TypeId}{ty:TypeId}{ss:List SV}(I:SI J F ds β c a w){v:Value}{w':World}(hr:(Builtin.append_ ts ty (ss.map (up β)).toArray).run P w=.ok v w')(k:At P Q (qf c v) (a.put (xo c) v) w')(hc:bltQ c=some (.append,ts,ty,ss):=by kernel_rfl):At P Q c a w:=by
 obtain⟨o,ho,cs,he⟩:=bltQ_some (P:=P) hc I;refine vstep ho I (v:=v) (w':=w') ?_ k;rw[he];simp only[builtin,Sem.run_bind,hr,Result.andThen_ok,Sem.run_pure]
theorem cpyQ{ts:Array TypeId}{ty:TypeId}{ss:List SV}(I:SI J F ds β c a w){v:Value}{w':World}(hr:(Builtin.copy_ ts ty (ss.map (up β)).toArray).run P w=.ok v w')(k:At P Q (qf c v) (a.put (xo c) v) w')(hc:bltQ c=some (.copy,ts,ty,ss):=by kernel_rfl):At P Q c a w:=by
 obtain⟨o,ho,cs,he⟩:=bltQ_some (P:=P) hc I;refine vstep ho I (v:=v) (w':=w') ?_ k;rw[he];simp only[builtin,Sem.run_bind,hr,Result.andThen_ok,Sem.run_pure]
def stQ (c:Cf):Option (TypeId×SV×SV):=match zbg c with
 | some o=>match o.op with
  | .store t x y=>match evQ c.tm x,evQ c.tm y with
   | some s,some u=>some (t,s,u)
   | _,_=>none
  | _=>none
 | none=>none
theorem stoQ{t:TypeId}{ad:Addr}{v:Value}{w':World}(I:SI J F ds β c a w)(hr:(storeVar t ad v).run P w=.ok () w')(k:At P Q (vz c (xo c) none) (a.put (xo c) undef) w')(hc:stQ c=some (t,Sum.inl (.pointer (some ad)),Sum.inl v):=by kernel_rfl):At P Q c a w:=by
 unfold stQ at hc;split at hc
 ·next o ho=>
  split at hc
  ·next t' x y hop=>
   split at hc
   ·next s u hs hu=>
    simp only[Option.some.injEq,Prod.mk.injEq]at hc;obtain⟨rfl,rfl,rfl⟩:=hc;obtain⟨hd,⟨rest,hr'⟩,hw⟩:=zab ho;refine zcl hd hr' (kn I hw) ?_;unfold Oper.wp execOp;simp only[hop,qv I.fr hs,qv I.fr hu,up,Instr.storeAt,Instr.sureAddr,Sem.run_bind,Sem.run_pure,Result.andThen_ok,hr];replace k:=k.out;unfold AtD at k;simp only[vz,hd,xo,hr',List.tail_cons,List.head?_cons,Option.bind_some]at k;exact k
   ·cases hc
  ·cases hc
 ·cases hc
def cvQ (c:Cf):Option (TypeId×TypeId×SV):=match zbg c with
 | some o=>match o.op with
  | .convert s t x=>(evQ c.tm x).map fun u=>(s,t,u)
  | _=>none
 | none=>none
theorem cnvQ{s t:TypeId}{x v:Value}{w':World}(I:SI J F ds β c a w)(hr:(convert s t x).run P w=.ok v w')(k:At P Q (qf c v) (a.put (xo c) v) w')(hc:cvQ c=some (s,t,Sum.inl x):=by kernel_rfl):At P Q c a w:=by
 unfold cvQ at hc;split at hc
 ·next o ho=>
  split at hc
  ·next s' t' y hop=>
   simp only[Option.map_eq_some_iff,Prod.mk.injEq]at hc;obtain⟨u,hs,rfl,rfl,rfl⟩:=hc;refine vstep ho I (v:=v) (w':=w') ?_ k;unfold execOp;simp only[hop,qv I.fr hs,up,Sem.run_bind,hr,Result.andThen_ok,Sem.run_pure]
  ·cases hc
 ·cases hc
end
def lS {T : World → Prop} {t : Nat} {e : TypeId} (hu : prog.underlying t = some (.slice e)) {ad : Option Addr} {n cap : Nat} {z : Int} (h : (n : Int) = z) : Fa prog T := Sum.inr (Sum.inr
  { ok := fun | .call { callee := .builtin .len, args := _, argTypes := ts } => ts == #[t] | _ => false
    xs := #[.slice ad n cap]
    v := Z z
    fr := true
    h := by
      intro a w oo _ hok hx
      cases hop : oo.op with
      | call cc =>
        obtain ⟨callee, xs, ts⟩ := cc
        rw [hop] at hok hx
        cases callee with
        | builtin b =>
          cases b <;> simp at hok
          subst hok
          simp only [vp] at hx
          have hx2 : xs.map a.eval = #[.slice ad n cap] := by rw [← hx]; apply Array.ext'; simp
          unfold execOp
          simp only [hop, resolve, invoke, Sem.run_bind, Sem.run_pure, Result.andThen_ok, hx2, builtin]
          subst h
          simp [Builtin.len_, run_underlying hu, goInt]
        | _ => simp at hok
      | _ => rw [hop] at hok; simp at hok })
end
def kaZ {T:World→Prop} (x y z:Int) (h0 : -9223372036854775808≤x+y:=by omega) (h1:x+y≤9223372036854775807:=by omega) (h2:x+y=z:=by omega):Fa Tryz.prog T:=bO .add 3 (run_addZ (x:=x) (y:=y) (z:=z) (by rw[IntKind.wrap_i64];omega))
def ksZ {T:World→Prop} (x y z:Int) (h0 : -9223372036854775808≤x-y:=by omega) (h1:x-y≤9223372036854775807:=by omega) (h2:x-y=z:=by omega):Fa Tryz.prog T:=bO .sub 3 (zeb (x:=x) (y:=y) (z:=z) (by rw[IntKind.wrap_i64];omega))
def lSk {T:World→Prop} (ad:Option Addr) (n cap:Nat):Fa Tryz.prog T:=lS Tryz.underlying22 (ad:=ad) (n:=n) (cap:=cap) (z:=n) rfl
def klT {T:World→Prop} (x y:Int) (h:x<y:=by omega):Fa Tryz.prog T:=bO .lss 3 (vr (x:=x) (y:=y) (b:=true) (decide_eq_true h))
def klF {T:World→Prop} (x y:Int) (h:¬ (x<y):=by omega):Fa Tryz.prog T:=bO .lss 3 (vr (x:=x) (y:=y) (b:=false) (decide_eq_false h))
def kmT {T:World→Prop} (x y:Int) (h:x≤y:=by omega):Fa Tryz.prog T:=bO .leq 3 (run_leqZ (x:=x) (y:=y) (b:=true) (decide_eq_true h))
def kmF {T:World→Prop} (x y:Int) (h:¬ (x≤y):=by omega):Fa Tryz.prog T:=bO .leq 3 (run_leqZ (x:=x) (y:=y) (b:=false) (decide_eq_false h))
def kgT {T:World→Prop} (x y:Int) (h:y<x:=by omega):Fa Tryz.prog T:=bO .gtr 3 (za7 (x:=x) (y:=y) (b:=true) (decide_eq_true h))
def kgF {T:World→Prop} (x y:Int) (h:¬ (y<x):=by omega):Fa Tryz.prog T:=bO .gtr 3 (za7 (x:=x) (y:=y) (b:=false) (decide_eq_false h))
def khT {T:World→Prop} (x y:Int) (h:y≤x:=by omega):Fa Tryz.prog T:=bO .geq 3 (zb5 (x:=x) (y:=y) (b:=true) (decide_eq_true h))
def khF {T:World→Prop} (x y:Int) (h:¬ (y≤x):=by omega):Fa Tryz.prog T:=bO .geq 3 (zb5 (x:=x) (y:=y) (b:=false) (decide_eq_false h))
def keT {T:World→Prop} (x y:Int) (h:x=y:=by omega):Fa Tryz.prog T:=bO .eql 3 (yp (x:=x) (y:=y) (b:=true) (decide_eq_true h))
def keF {T:World→Prop} (x y:Int) (h:¬ (x=y):=by omega):Fa Tryz.prog T:=bO .eql 3 (yp (x:=x) (y:=y) (b:=false) (decide_eq_false h))
def knT {T:World→Prop} (x y:Int) (h:x≠y:=by omega):Fa Tryz.prog T:=bO .neq 3 (yz (x:=x) (y:=y) (b:=true) (decide_eq_true h))
def knF {T:World→Prop} (x y:Int) (h:¬ (x≠y):=by omega):Fa Tryz.prog T:=bO .neq 3 (yz (x:=x) (y:=y) (b:=false) (decide_eq_false h))
theorem goZ{P:Program}{N w:World}{ds:List Deferred}{β:Nat→Nat}{c:Cf}{a:Act}{Q:Exit→Act→World→Prop}(fs:List (Fa P fun _=>True))(I:SI (Below N.heap.size N) (· < N.heap.size) ds β c a w)(k:∀ β' a' w',SI (Below N.heap.size N) (· < N.heap.size) ds β' (rn P fs c).1 a' w'→Agree c.nx β β'→At P Q (rn P fs c).1 a' w')(hm:P.follows .mixedOrders=true:=by kernel_rfl)(he:(rn P fs c).2.2.map (·.1)=(rn P fs c).2.2.map (·.2):=by kernel_rfl):At P Q c a w:=goQ fs (zq N) I k hm he
end Go.Proofs.YtceedgdbhlpjlaaGreatDoor
