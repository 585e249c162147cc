/- Out of Wb. -/
import Derived.Test.YtdeompgdhaomgaaGreatDoorKtXs
import Derived.Test.YtdeompgdhaomgaaGreatDoorKtNv
import Derived.Lib.AppendStr
import Derived.Lib.AppendZerosOnto
import Derived.Lib.BufferWrite
import Derived.Laws.IdiomStrings
import Derived.Laws.BytesArg
namespace Go.Proofs.YtdeompgdhaomgaaGreatDoor
open Go.RowKit Go.Sort Tryz
set_option linter.unusedVariables false
set_option maxRecDepth 100000
set_option maxHeartbeats 4000000
section
set_option linter.unusedSimpArgs false
abbrev Z (n:Int):Value:=.int .i64 n
theorem wz{n:Int}(h0 : -1000000000000000000≤n)(h:n<1000000000000000000):IntKind.i64.wrap n=n:=by
 rw[IntKind.wrap_i64 n];omega
theorem zw{x y z:Int}(h:IntKind.i64.wrap (x+y)=z)(o1 o2:Operand)(w:World):(do eqGuard .add 3 o1 o2 (Z x) (Z y);binOp .add 3 (Z x) (Z y):Sem Value).run prog w=.ok (Z z) w:=by simp[go_sem,h]
theorem zbp{x y z:Int}(h:IntKind.i64.wrap (x-y)=z)(o1 o2:Operand)(w:World):(do eqGuard .sub 3 o1 o2 (Z x) (Z y);binOp .sub 3 (Z x) (Z y):Sem Value).run prog w=.ok (Z z) w:=by simp[go_sem,h]
theorem yo{x y z:Int}(h:IntKind.i64.wrap (x*y)=z)(o1 o2:Operand)(w:World):(do eqGuard .mul 3 o1 o2 (Z x) (Z y);binOp .mul 3 (Z x) (Z y):Sem Value).run prog w=.ok (Z z) w:=by simp[go_sem,h]
theorem run_remZ{x y z:Int}(hy:y≠0)(h:x.tmod y=z)(o1 o2:Operand)(w:World):(do eqGuard .rem 3 o1 o2 (Z x) (Z y);binOp .rem 3 (Z x) (Z y):Sem Value).run prog w=.ok (Z z) w:=by
 simp[go_sem,h,hy]
theorem zf{x y:Int}{b:Bool}(h:decide (x<y)=b)(o1 o2:Operand)(w:World):(do eqGuard .lss 3 o1 o2 (Z x) (Z y);binOp .lss 3 (Z x) (Z y):Sem Value).run prog w=.ok (.bool b) w:=by simp[go_sem,h]
theorem zu{x y:Int}{b:Bool}(h:decide (y<x)=b)(o1 o2:Operand)(w:World):(do eqGuard .gtr 3 o1 o2 (Z x) (Z y);binOp .gtr 3 (Z x) (Z y):Sem Value).run prog w=.ok (.bool b) w:=by simp[go_sem,h]
theorem kf{x y:Int}{b:Bool}(h:decide (y≤x)=b)(o1 o2:Operand)(w:World):(do eqGuard .geq 3 o1 o2 (Z x) (Z y);binOp .geq 3 (Z x) (Z y):Sem Value).run prog w=.ok (.bool b) w:=by simp[go_sem,h]
theorem ve{x y:Int}{b:Bool}(h:decide (x≤y)=b)(o1 o2:Operand)(w:World):(do eqGuard .leq 3 o1 o2 (Z x) (Z y);binOp .leq 3 (Z x) (Z y):Sem Value).run prog w=.ok (.bool b) w:=by simp[go_sem,h]
theorem z8{x y:Int}{b:Bool}(h:decide (x=y)=b)(o1 o2:Operand)(w:World):(do eqGuard .eql 3 o1 o2 (Z x) (Z y);binOp .eql 3 (Z x) (Z y):Sem Value).run prog w=.ok (.bool b) w:=by subst h;by_cases hx:x=y<;>simp[go_sem,hx]
theorem yk{x y:Int}{b:Bool}(h:decide (x≠y)=b)(o1 o2:Operand)(w:World):(do eqGuard .neq 3 o1 o2 (Z x) (Z y);binOp .neq 3 (Z x) (Z y):Sem Value).run prog w=.ok (.bool b) w:=by
 by_cases hx:x=y<;>subst h<;>simp[go_sem,hx]
theorem zj(N:World):yw (Below N.heap.size N) (· < N.heap.size):=by
 refine⟨fun w w' h g=>⟨g.os.trans h.os,g.tape.trans h.tape,g.output.trans h.output,Nat.le_trans h.size g.size,fun k hk=>(g.block k (Nat.lt_of_lt_of_le hk h.size) hk).trans (h.block k hk)⟩,fun w k h hk=>Nat.lt_of_lt_of_le hk h.size⟩
theorem zcv(n:Nat)(hn:n<1000000000000):RT 122 #[Z n] (Z ((32-n%32)%32:Nat)):=by
 refine fun w=>inZ func122 fun a I=>?_;refine goQ [bO .rem 3 (run_remZ (x:=n) (y:=32) (z:=(n%32:Nat)) (by decide) (by rw[Int.tmod_eq_emod_of_nonneg (by omega)];omega)),
  bO .sub 3 (zbp (x:=32) (y:=(n%32:Nat)) (z:=(32-n%32:Nat)) (by rw[wz (by omega) (by omega)];omega)),
  bO .rem 3 (run_remZ (x:=(32-n%32:Nat)) (y:=32) (z:=((32-n%32)%32:Nat)) (by decide) (by rw[Int.tmod_eq_emod_of_nonneg (by omega)];omega))] (zj w) I fun β a w' I _=>?_
 exact zh I ⟨rfl,I.hJ⟩
structure Grw (v v':Value) (w w':World):Prop where
 gr:w.grownBy w' v.ownBlock
 nb:∀ k,v'.ownBlock=some k→v.ownBlock=some k∨w.heap.size≤k
theorem hI5:∃ i,prog.info? 5=some i∧i.zero=some (.int .u8 0)∧i.size=1∧i.bytes=1:=by
 have h:(prog.info? 5).map (fun i=>(i.zero,i.size,i.bytes))=some (some (.int .u8 0),1,1):=by kernel_rfl
 cases hq:prog.info? 5 with
 | none=>rw[hq]at h;simp at h
 | some i=>rw[hq]at h;simp at h;exact⟨i,rfl,h.1,h.2.1,h.2.2⟩
abbrev bc (l:List UInt8):List Value:=l.map fun b=>Value.int .u8 b.toNat
theorem app_str{w:World}{b:Nat}{v:Value}{n:Nat}{xs:List Value}(h:w.ownsRow b 5 1 v n xs)(hb:b≤w.heap.size)(s:ByteArray)(hs:n+s.size≤1000000000000) :
  ∃ v' w',(Builtin.append_ #[104,9] 104 #[v,.string s]).run prog w=.ok v' w'∧w'.ownsRow b 5 1 v' (n+s.size) (xs++Lib.strCells s)∧Grw v v' w w':=by
 obtain⟨i,hi,hz,h1,h2⟩:=hI5;have hm:n+s.size≤maxLen:=by simp only[maxLen];omega
 obtain⟨v',w',hr,ho,hg,_⟩:=Lib.run_append_own_string (P:=prog) w b 104 9 104 5 i underlying104 underlying9 hi hz h1 h2 v n xs h s hm (by omega) hb;refine⟨v',w',hr,ho,hg,?_⟩;rcases h.2 with⟨rfl,rfl⟩|⟨g,cap,cur,rfl,hbg,hgc,hnc,hcm,hcs,htake⟩
 ·by_cases hs0:s.size=0
  ·have hx:v'=.slice none 0 0:=by
    have hf:=Lib.run_firstCells_string (P:=prog) w 1 s;rw[hs0]at hf;have:(Builtin.append_ #[104,9] 104 #[.slice none 0 0,.string s]).run prog w=.ok (.slice none 0 0) w:=by
     simp[Builtin.append_,run_underlying underlying104,run_underlying underlying9,sizeOf,typeInfo,hi,h1,Builtin.lenOf,hs0,hf]
    rw[this]at hr;cases hr;rfl
   subst hx;intro k hk;cases hk
  ·have hr2:=run_append_nil_string (P:=prog) w 104 9 104 5 i (.int .u8 0) underlying104 underlying9 hi hz s (by omega) (by omega) (by rw[h2];omega);rw[hr2]at hr;cases hr;intro k hk;simp only[Value.ownBlock,Option.some.injEq]at hk;exact .inr (by omega)
 ·by_cases hroom:n+s.size≤cap
  ·have hr2:=Lib.run_append_room_string (P:=prog) w 104 9 104 5 i underlying104 underlying9 hi h1 g n cap cur hgc s hroom (by omega);rw[hr2]at hr;cases hr;intro k hk;exact .inl hk
  ·have hr2:=Lib.run_append_grow_string (P:=prog) w 104 9 104 5 i (.int .u8 0) underlying104 underlying9 hi hz ⟨g,0,none⟩ n cap xs (by rw[h1];exact h.1) (h.cells (g:=g) rfl) s (by omega) (by omega) (by rw[h2];exact growslice_fits (by omega) (by omega));rw[hr2]at hr;cases hr;intro k hk;simp only[Value.ownBlock,Option.some.injEq]at hk;exact .inr (by omega)
theorem wrap0:IntKind.i64.wrap 0=0:=by rw[IntKind.wrap_i64];rfl
theorem zeroC(k:Nat):(Builtin.zeroCells (Value.int .u8 0).cells k).toList=bc (List.replicate k 0):=by
 apply List.ext_getElem
 ·simp[Builtin.zeroCells,Value.cells]
 ·intro i h1 h2;simp[Builtin.zeroCells,Value.cells,Nat.mod_one]
theorem app_zeros{w:World}{b:Nat}{v:Value}{n:Nat}{xs:List Value}(h:w.ownsRow b 5 1 v n xs)(hb:b≤w.heap.size)(k:Nat)(hs:n+k≤1000000000000) :
  ∃ v' w',(Builtin.append_ #[104,3] 104 #[v,Z k]).run prog w=.ok v' w'∧w'.ownsRow b 5 1 v' (n+k) (xs++bc (List.replicate k 0))∧Grw v v' w w':=by
 obtain⟨i,hi,hz,h1,h2⟩:=hI5;have hm:n+k≤maxLen:=by simp only[maxLen];omega
 have hw:IntKind.i64.wrap (k:Int)=k:=wz (by omega) (by omega);have hneg:¬ ((k:Int)<0):=by omega
 have h48:¬ (281474976710656<(k:Int)):=by omega
 have hxl:xs.length=n:=by simpa using h.1
 have hlen:(xs++bc (List.replicate k 0)).length=(n+k)*1:=by simp[hxl]
 have zs:(Builtin.zeroCells (Value.int .u8 0).cells k)=(bc (List.replicate k 0)).toArray:=by rw[← zeroC]
 have grown:∀(old:Nat),old<n+k→∀(row:Option Nat) (c0:Array Value),c0.toList=xs++bc (List.replicate k 0) →
   (w.drew.alloc (.cells (c0++Builtin.zeroCells (Value.int .u8 0).cells (grownCap w (n+k) old 5-(n+k))) 5)).ownsRow b 5 1 (.slice (some ⟨w.heap.size,0,none⟩) (n+k) (grownCap w (n+k) old 5)) (n+k) (xs++bc (List.replicate k 0)) ∧
   w.grownBy (w.drew.alloc (.cells (c0++Builtin.zeroCells (Value.int .u8 0).cells (grownCap w (n+k) old 5-(n+k))) 5)) row:=by
  intro old ho row c0 hc0;have hge:=grownCap_ge w (n+k) old 5;have hcm:grownCap w (n+k) old 5≤maxLen:=grownCap_le_maxLen w (n+k) old 5 hm;have hsz:c0.size=n+k:=by rw[← Array.length_toList,hc0,hlen,Nat.mul_one]
  refine⟨⟨hlen,.inr ⟨w.heap.size,_,_,rfl,hb,heap_alloc_new w.drew _,hge,hcm,?_,?_⟩⟩,(let g:=World.grownBy_alloc w.drew _ row; ⟨g.os,g.tape,g.output,g.size,g.block⟩)⟩
  ·simp only[Array.size_append,hsz,size_zeroCells];simp only[Value.cells,List.size_toArray,List.length_cons,List.length_nil];omega
  ·rw[Array.toList_append,hc0,← hlen];exact List.take_left
 rcases h.2 with⟨rfl,rfl⟩|⟨g,cap,cur,rfl,hbg,hgc,hnc,hcm,hcs,htake⟩
 ·have hx:xs=[]:=List.eq_nil_of_length_eq_zero hxl;subst hx;by_cases hk:k=0
  ·subst hk;refine⟨.slice none 0 0,w,?_,World.ownsRow_nil w b 5 1,⟨⟨rfl,rfl,rfl,Nat.le_refl _,fun _ _ _=>rfl⟩,fun k hk=>by cases hk⟩⟩;simp[Builtin.append_,run_underlying underlying104,run_underlying underlying3,sizeOf,typeInfo,hi,h1,asInt,asIntOf,wrap0]
  ·have hr:=Lib.run_append_nil_zeros (P:=prog) w 104 3 104 5 i (.int .u8 0) .i64 .i64 underlying104 underlying3 hi hz k (by omega) (by omega) (by omega) (by rw[h2];omega);have hgr:=grown 0 (by omega) (Value.ownBlock (.slice none 0 0)) (Builtin.zeroCells (Value.int .u8 0).cells k) (by rw[zeroC];rfl);simp only[Nat.zero_add,List.nil_append]at hgr ⊢;exact⟨_,_,hr,hgr.1,hgr.2,fun k hk=>.inr (by simp only[Value.ownBlock,Option.some.injEq]at hk;omega)⟩
 ·have hcs':cur.size=cap:=by simpa using hcs
  by_cases hk:k=0
  ·subst hk;refine⟨.slice (some ⟨g,0,none⟩) n cap,w,?_,by simpa using h,⟨⟨rfl,rfl,rfl,Nat.le_refl _,fun _ _ _=>rfl⟩,fun k hk=>.inl hk⟩⟩;simp[Builtin.append_,run_underlying underlying104,run_underlying underlying3,sizeOf,typeInfo,hi,h1,asInt,asIntOf,wrap0,hnc,storeCells]
  ·by_cases hroom:n+k≤cap
   ·have hst:=run_storeCells_at prog g n 5 (bc (List.replicate k 0)) 0 cur w hgc (by simp;omega) (fun u hu=>by simp only[bc,List.mem_map]at hu;obtain⟨b,_,rfl⟩:=hu;rfl);have hr:(Builtin.append_ #[104,3] 104 #[.slice (some ⟨g,0,none⟩) n cap,Z k]).run prog w=.ok (.slice (some ⟨g,0,none⟩) (n+k) cap) (w.setRow g (cur.toList.take n++bc (List.replicate k 0)++cur.toList.drop (n+k)).toArray):=by
     simp only[Nat.add_zero,List.length_map,List.length_replicate]at hst;simp at hst;have h48b:¬ (281474976710656<(k:Int)*((1:Nat):Int)):=by omega
     simp[Builtin.append_,run_underlying underlying104,run_underlying underlying3,sizeOf,typeInfo,zeroValue,hi,h1,h2,hz,asInt,asIntOf,hw,hneg,h48,hk,hroom,zs,Addr.add_lit,hst]
    refine⟨_,_,hr,⟨hlen,.inr ⟨g,cap,_,rfl,hbg,setRow_heap w g cur _ 5 _ hgc,hroom,hcm,?_,?_⟩⟩,⟨rfl,rfl,rfl,by simp,fun k _ hk=>setRow_other w g k _ (fun e=>hk (by simp[Value.ownBlock,e]))⟩,fun k hk=>.inl hk⟩
    ·simp only[List.size_toArray,List.length_append,List.length_take,List.length_drop,Array.length_toList,List.length_map,List.length_replicate];omega
    ·have ht':cur.toList.take n=xs:=by simpa using htake
     rw[ht',← hlen];exact List.take_left
   ·have hold:(Builtin.firstCells i.size n (.slice (some ⟨g,0,none⟩) n cap)).run prog w.drew=.ok xs.toArray w.drew:=run_firstCells_some (P:=prog) w.drew i.size n ⟨g,0,none⟩ n cap xs (by rw[h1];exact h.1) (by simpa using h.cells (g:=g) rfl);have hr:=Lib.run_append_grow_zeros (P:=prog) w 104 3 104 5 i (.int .u8 0) .i64 .i64 underlying104 underlying3 hi hz (some ⟨g,0,none⟩) n cap xs hold k (by omega) (by omega) (by omega) (by omega) (by rw[h2];omega) (by rw[h2];exact growslice_fits (by omega) (by omega))
    have hgr:=grown cap (by omega) (Value.ownBlock (.slice (some ⟨g,0,none⟩) n cap)) (xs.toArray++Builtin.zeroCells (Value.int .u8 0).cells k) (by rw[zs];simp);exact⟨_,_,hr,hgr.1,hgr.2,fun k hk=>.inr (by simp only[Value.ownBlock,Option.some.injEq]at hk;omega)⟩
theorem strC(s:ByteArray):Lib.strCells s=bc s.data.toList:=rfl
def ovr {α:Type} (l:List α) (o:Nat) (m:List α):List α:=l.take o++m++l.drop (o+m.length)
theorem copy_own{w:World}{b g n cap:Nat}{xs:List Value}(h:w.ownsRow b 5 1 (.slice (some ⟨g,0,none⟩) n cap) n xs)(o:Nat)(s:ByteArray)(ho:o+s.size≤n) :
  ∃ w',(Builtin.copy_ #[104,9] 3 #[.slice (some ⟨g,o,none⟩) (n-o) (cap-o),.string s]).run prog w=.ok (Z s.size) w'∧w'.ownsRow b 5 1 (.slice (some ⟨g,0,none⟩) n cap) n (ovr xs o (bc s.data.toList))∧w.grownBy w' (some g):=by
 obtain⟨i,hi,hz,h1,h2⟩:=hI5;have hxl:xs.length=n:=by simpa using h.1
 rcases h.2 with⟨hv,_⟩|⟨g',cap',cur,hv,hbg,hgc,hnc,hcm,hcs,htake⟩
 ·cases hv
 ·cases hv;have hcs':cur.size=cap:=by simpa using hcs
  have ht':cur.toList.take n=xs:=by simpa using htake
  have hr:=Lib.run_copy_row_string (P:=prog) w 104 9 3 5 g o (n-o) (cap-o) s cur 5 underlying104 (by rw[hi,Option.map_some,h1]) hgc (by omega) (by omega);have hsl:s.data.toList.length=s.size:=Array.length_toList;refine⟨_,hr,⟨?_,.inr ⟨g,cap,_,rfl,hbg,setRow_heap w g cur _ 5 _ hgc,hnc,hcm,?_,?_⟩⟩,⟨rfl,rfl,rfl,by simp,fun k _ hk=>setRow_other w g k _ (fun e=>hk (by rw[e]))⟩⟩
  ·simp only[ovr,List.length_append,List.length_take,List.length_map,List.length_drop,hsl,hxl];omega
  ·simp only[Lib.byteCells,List.size_toArray,List.length_append,List.length_take,List.length_drop,Array.length_toList,List.length_map,hsl];omega
  ·simp only[ovr,Nat.mul_one,List.length_map,hsl,Lib.byteCells];rw[← ht',List.take_take,Nat.min_eq_left (by omega),List.take_append,List.take_of_length_le (l:=cur.toList.take o++_) (by simp[hsl,hcs'];omega)]
   congr 1
   simp only[List.length_append,List.length_take,List.length_map,hsl,Array.length_toList,hcs'];rw[Nat.min_eq_left (by omega),List.drop_take]
theorem text_own{w:World}{b:Nat}{v:Value}{l:List UInt8}(h:w.ownsRow b 5 1 v l.length (bc l)):(convert 104 9 v).run prog w=.ok (.string ⟨l.toArray⟩) w:=by
 rcases h.2 with⟨rfl,hn⟩|⟨g,cap,cur,rfl,hbg,hgc,hnc,hcm,hcs,htake⟩
 ·have:l=[]:=List.eq_nil_of_length_eq_zero hn;subst this;exact run_convert_bytes_nil (P:=prog) w 104 5 underlying104 underlying5 0 0 9 underlying9
 ·exact run_convert_bytes_back (P:=prog) w 104 9 5 ⟨g,0,none⟩ cap l underlying104 underlying5 underlying9 (fun j hj=>by
   have:=h.cells (g:=g) rfl j (.int .u8 (l[j].toNat:Int)) (by simp[List.getElem?_eq_getElem hj]);exact this)
section
variable {P:Program} {J:World→Prop} {F:Nat→Prop} {ds:List Deferred} {β:Nat→Nat} {c:Cf} {a:Act} {w:World} {Q:Exit→Act→World→Prop}
def bltQ (c:Cf):Option (Builtin×Array TypeId×TypeId×List SV):=match kq c with
 | some o=>match o.op with
  | .call { callee:=.builtin b,args:=xs,argTypes:=ts }=>(xs.toList.mapM (evQ c.tm)).map fun ss=>(b,ts,o.type,ss)
  | _=>none
 | none=>none
theorem bltQ_some{b:Builtin}{ts:Array TypeId}{ty:TypeId}{ss:List SV}(hc:bltQ c=some (b,ts,ty,ss))(I:SI J F ds β c a w):∃ o,kq c=some o∧∃ cs,(execOp a.eval o).run P w=(builtin b ts ty cs (ss.map (up β)).toArray).run P w:=by
 unfold bltQ at hc;split at hc
 ·next o ho=>
  refine⟨o,ho,?_⟩;split at hc
  ·next b' xs ts' hop=>
   simp only[Option.map_eq_some_iff,Prod.mk.injEq]at hc;obtain⟨ss',hm,rfl,rfl,rfl,rfl⟩:=hc;have hx:=mapS_ok I.fr hm;have hxa:xs.map a.eval=(ss'.map (up β)).toArray:=by rw[← hx];apply Array.ext';simp
   refine⟨xs.map fun | .const _=>true | _=>false,?_⟩;unfold execOp;simp only[hop,resolve,invoke,Sem.run_bind,Sem.run_pure,Result.andThen_ok,hxa];rfl
  ·cases hc
 ·cases hc
theorem appQ{ts:Array TypeId}{ty:TypeId}{ss:List SV}(I:SI J F ds β c a w){v:Value}{w':World}(hr:(Builtin.append_ ts ty (ss.map (up β)).toArray).run P w=.ok v w')(k:At P Q (xa c v) (a.put (yu c) v) w')(hc:bltQ c=some (.append,ts,ty,ss):=by kernel_rfl):At P Q c a w:=by
 obtain⟨o,ho,cs,he⟩:=bltQ_some (P:=P) hc I;refine vstep ho I (v:=v) (w':=w') ?_ k;rw[he];simp only[builtin,Sem.run_bind,hr,Result.andThen_ok,Sem.run_pure]
theorem cpyQ{ts:Array TypeId}{ty:TypeId}{ss:List SV}(I:SI J F ds β c a w){v:Value}{w':World}(hr:(Builtin.copy_ ts ty (ss.map (up β)).toArray).run P w=.ok v w')(k:At P Q (xa c v) (a.put (yu c) v) w')(hc:bltQ c=some (.copy,ts,ty,ss):=by kernel_rfl):At P Q c a w:=by
 obtain⟨o,ho,cs,he⟩:=bltQ_some (P:=P) hc I;refine vstep ho I (v:=v) (w':=w') ?_ k;rw[he];simp only[builtin,Sem.run_bind,hr,Result.andThen_ok,Sem.run_pure]
def cvQ (c:Cf):Option (TypeId×TypeId×SV):=match kq c with
 | some o=>match o.op with
  | .convert s t x=>(evQ c.tm x).map fun u=>(s,t,u)
  | _=>none
 | none=>none
theorem cnvQ{s t:TypeId}{x v:Value}{w':World}(I:SI J F ds β c a w)(hr:(convert s t x).run P w=.ok v w')(k:At P Q (xa c v) (a.put (yu c) v) w')(hc:cvQ c=some (s,t,Sum.inl x):=by kernel_rfl):At P Q c a w:=by
 unfold cvQ at hc;split at hc
 ·next o ho=>
  split at hc
  ·next s' t' y hop=>
   simp only[Option.map_eq_some_iff,Prod.mk.injEq]at hc;obtain⟨u,hs,rfl,rfl,rfl⟩:=hc;refine vstep ho I (v:=v) (w':=w') ?_ k;unfold execOp;simp only[hop,xn I.fr hs,up,Sem.run_bind,hr,Result.andThen_ok,Sem.run_pure]
  ·cases hc
 ·cases hc
end
def lS {T : World → Prop} {t : Nat} {e : TypeId} (hu : prog.underlying t = some (.slice e)) {ad : Option Addr} {n cap : Nat} {z : Int} (h : (n : Int) = z) : Fa prog T := Sum.inr (Sum.inr
  { ok := fun | .call { callee := .builtin .len, args := _, argTypes := ts } => ts == #[t] | _ => false
    xs := #[.slice ad n cap]
    v := Z z
    fr := true
    h := by
      intro a w oo _ hok hx
      cases hop : oo.op with
      | call cc =>
        obtain ⟨callee, xs, ts⟩ := cc
        rw [hop] at hok hx
        cases callee with
        | builtin b =>
          cases b <;> simp at hok
          subst hok
          simp only [vm] at hx
          have hx2 : xs.map a.eval = #[.slice ad n cap] := by rw [← hx]; apply Array.ext'; simp
          unfold execOp
          simp only [hop, resolve, invoke, Sem.run_bind, Sem.run_pure, Result.andThen_ok, hx2, builtin]
          subst h
          simp [Builtin.len_, run_underlying hu, goInt]
        | _ => simp at hok
      | _ => rw [hop] at hok; simp at hok })
end
def kaZ {T:World→Prop} (x y z:Int) (h0 : -9223372036854775808≤x+y:=by omega) (h1:x+y≤9223372036854775807:=by omega) (h2:x+y=z:=by omega):Fa Tryz.prog T:=bO .add 3 (zw (x:=x) (y:=y) (z:=z) (by rw[IntKind.wrap_i64];omega))
def ksZ {T:World→Prop} (x y z:Int) (h0 : -9223372036854775808≤x-y:=by omega) (h1:x-y≤9223372036854775807:=by omega) (h2:x-y=z:=by omega):Fa Tryz.prog T:=bO .sub 3 (zbp (x:=x) (y:=y) (z:=z) (by rw[IntKind.wrap_i64];omega))
def klT {T:World→Prop} (x y:Int) (h:x<y:=by omega):Fa Tryz.prog T:=bO .lss 3 (zf (x:=x) (y:=y) (b:=true) (decide_eq_true h))
def klF {T:World→Prop} (x y:Int) (h:¬ (x<y):=by omega):Fa Tryz.prog T:=bO .lss 3 (zf (x:=x) (y:=y) (b:=false) (decide_eq_false h))
def kmT {T:World→Prop} (x y:Int) (h:x≤y:=by omega):Fa Tryz.prog T:=bO .leq 3 (ve (x:=x) (y:=y) (b:=true) (decide_eq_true h))
def kmF {T:World→Prop} (x y:Int) (h:¬ (x≤y):=by omega):Fa Tryz.prog T:=bO .leq 3 (ve (x:=x) (y:=y) (b:=false) (decide_eq_false h))
def kgT {T:World→Prop} (x y:Int) (h:y<x:=by omega):Fa Tryz.prog T:=bO .gtr 3 (zu (x:=x) (y:=y) (b:=true) (decide_eq_true h))
def kgF {T:World→Prop} (x y:Int) (h:¬ (y<x):=by omega):Fa Tryz.prog T:=bO .gtr 3 (zu (x:=x) (y:=y) (b:=false) (decide_eq_false h))
def khT {T:World→Prop} (x y:Int) (h:y≤x:=by omega):Fa Tryz.prog T:=bO .geq 3 (kf (x:=x) (y:=y) (b:=true) (decide_eq_true h))
def khF {T:World→Prop} (x y:Int) (h:¬ (y≤x):=by omega):Fa Tryz.prog T:=bO .geq 3 (kf (x:=x) (y:=y) (b:=false) (decide_eq_false h))
def keT {T:World→Prop} (x y:Int) (h:x=y:=by omega):Fa Tryz.prog T:=bO .eql 3 (z8 (x:=x) (y:=y) (b:=true) (decide_eq_true h))
def keF {T:World→Prop} (x y:Int) (h:¬ (x=y):=by omega):Fa Tryz.prog T:=bO .eql 3 (z8 (x:=x) (y:=y) (b:=false) (decide_eq_false h))
def knT {T:World→Prop} (x y:Int) (h:x≠y:=by omega):Fa Tryz.prog T:=bO .neq 3 (yk (x:=x) (y:=y) (b:=true) (decide_eq_true h))
def knF {T:World→Prop} (x y:Int) (h:¬ (x≠y):=by omega):Fa Tryz.prog T:=bO .neq 3 (yk (x:=x) (y:=y) (b:=false) (decide_eq_false h))
theorem goZ{P:Program}{N w:World}{ds:List Deferred}{β:Nat→Nat}{c:Cf}{a:Act}{Q:Exit→Act→World→Prop}(fs:List (Fa P fun _=>True))(I:SI (Below N.heap.size N) (· < N.heap.size) ds β c a w)(k:∀ β' a' w',SI (Below N.heap.size N) (· < N.heap.size) ds β' (rn P fs c).1 a' w'→Agree c.nx β β'→At P Q (rn P fs c).1 a' w')(hm:P.follows .mixedOrders=true:=by kernel_rfl)(he:(rn P fs c).2.2.map (·.1)=(rn P fs c).2.2.map (·.2):=by kernel_rfl):At P Q c a w:=goQ fs (zj N) I k hm he
end Go.Proofs.YtdeompgdhaomgaaGreatDoor
