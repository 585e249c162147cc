/- Laid one behind the other: Op, Wp. -/
import Derived.Test.YtdeompgdhaomgaaGreatDoorRows
import Derived.ProofKit
import Derived.OpenShut
import Derived.Below
import Derived.Test.YtdeompgdhaomgaaGreatDoorKtWo
import Derived.ReadAgain
import Derived.Deep.Slices
import Derived.Lib.SmallJoins
import Derived.ChangeShapes
namespace Go.Proofs.YtdeompgdhaomgaaGreatDoor
open Go.RowKit Go.Sort Go.Proofs.Tryz
set_option linter.unusedVariables false
set_option maxRecDepth 100000
set_option maxHeartbeats 4000000
section
open Go.ChangeShapes Go.WideShapes Go.ChangeAt Go.RowKit
theorem own:ownKnob prog.godebug=none:=by kernel_rfl
theorem cellsA22:prog.cellsOf 23=1:=by kernel_rfl
theorem wf_u64{a:Int}(h:(Lit.int .u64 a).wf=true):∃ k:Nat,a=k∧k<M:=by
 have hx:0≤a∧a≤18446744073709551615:=by simpa [Lit.wf,IntKind.min,IntKind.max,IntKind.signed,IntKind.bits]using h
 exact⟨a.toNat,by omega,by unfold M;omega⟩
end
section
open Go.RowKit Go.Sort Go.ChangeShapes Go.WideShapes Go.ChangeAt
theorem za6(s:ByteArray):(txt s).length=32+s.size+pad s.size:=by
 unfold txt;have h:=zx s.size;have e:s.data.toList.length=s.size:=Array.length_toList;simp only[List.length_append,h,e,List.length_replicate]
theorem foldE_bound{α:Type}{E:α→List UInt8}{cnt:α→Nat}{H:Nat}{tt:α→Nat}:∀(l:List (Int×Nat×ByteArray×α)) (acc:List UInt8×List UInt8),(∀ t∈l,t.2.2.1.size≤20000∧(E t.2.2.2).length≤20127*tt t.2.2.2)→(l.foldl (xm E cnt H) acc).2.length≤acc.2.length+20095*l.length+20127*(l.map fun t=>tt t.2.2.2).sum
 | [],acc,h=>by simp
 | t::l,acc,h=>by
  have ih:=foldE_bound (cnt:=cnt) (H:=H) l (xm E cnt H acc t) fun u hu=>h u (List.mem_cons_of_mem _ hu)
  obtain⟨h1,h2⟩:=h t List.mem_cons_self;have hs:(xm E cnt H acc t).2.length≤acc.2.length+20095+20127*tt t.2.2.2:=by
   unfold xm;split
   ·simp;omega
   ·split
    ·have:=za6 t.2.2.1;unfold pad at this;simp only[List.length_append];omega
    ·split
     ·have h3:=zx (cnt t.2.2.2);simp only[List.length_append,h3];omega
     ·simp;omega
  simp only[List.foldl_cons,List.length_cons,List.map_cons,List.sum_cons];omega
theorem zdg:∀(n:Nat) (l:TL n),tok n l→(enc n l).length≤20127*tot n l
 | 0,_,_=>Nat.zero_le _
 | n+1,l,h=>by
  have h1:=foldE_bound (E:=enc n) (cnt:=cntL n) (H:=32*List.length (α:=TT n) l) (tt:=tot n) l ([],[]) fun t ht=>⟨(h t ht).1,zdg n t.2.2.2 (h t ht).2.2⟩
  have h2:=hd_len (E:=enc n) (cnt:=cntL n) (l:=l) (i:=List.length (α:=TT n) l) (Nat.le_refl _);have e:List.take (List.length (α:=TT n) l) l=l:=List.take_length;rw[e]at h2;simp only[enc,List.length_append,tot];have h3:(yd (enc n) (cntL n) (32*List.length (α:=TT n) l) l).2.length≤0+20095*List.length (α:=TT n) l+20127*(List.map (fun t:TT n=>tot n t.2.2.2) l).sum:=h1;omega
theorem c3:prog.cellsOf 3=1:=by kernel_rfl
theorem c9:prog.cellsOf 9=1:=by kernel_rfl
section
variable {H:Type} {enc:TypeId×Value→H} {w:World} {base:Nat} {spare:Nat→Bool} {held:Bool}
theorem num_raw{fuel:Nat}{c0 c1 c2 c3:Value}{x:DataW H×List MemPlace}(h:DataW.trod enc prog w base spare held fuel 57 [c0,c1,c2,c3]=some x):∃ n,n<W∧c0=B (l0 n)∧c1=B (l1 n)∧c2=B (l2 n)∧c3=B (l3 n):=by
 obtain⟨y0,y1,y2,y3,m,hx,h0,h1,h2,h3⟩:=trod_array4 underlying57 cellsA22 h;obtain⟨a0,e0,rfl,w0⟩:=DataW.trod_int underlying23 h0;obtain⟨a1,e1,rfl,w1⟩:=DataW.trod_int underlying23 h1;obtain⟨a2,e2,rfl,w2⟩:=DataW.trod_int underlying23 h2;obtain⟨a3,e3,rfl,w3⟩:=DataW.trod_int underlying23 h3;simp only[List.cons.injEq,and_true]at e0 e1 e2 e3;subst e0 e1 e2 e3;obtain⟨k0,rfl,g0⟩:=wf_u64 w0;obtain⟨k1,rfl,g1⟩:=wf_u64 w1;obtain⟨k2,rfl,g2⟩:=wf_u64 w2;obtain⟨k3,rfl,g3⟩:=wf_u64 w3;refine⟨mk k0 k1 k2 k3,mk_lt _ _ _ _ g0 g1 g2 g3,?_,?_,?_,?_⟩
 ·rw[l0_mk _ _ _ _ g0]
 ·rw[l1_mk _ _ _ _ g0 g1]
 ·rw[l2_mk _ _ _ _ g0 g1 g2]
 ·rw[l3_mk _ _ _ _ g0 g1 g2 g3]
theorem reread{W':World}{ts:List TypeId}{vs:List Value}{ds:List (DataW H)}{p:List MemPlace}(hts:(ts.all fun t=>decide (t<prog.types.size))=true)(h:DataW.TrodAll enc prog w 0 (fun _=>true) true ts vs ds p)(hb:Below w.heap.size w W'):DataW.TrodAll enc prog W' 0 (fun b=>decide (b<w.heap.size)) true ts vs ds p:=by
 have hlt:=DataW.TrodAll.lt h;have h1:DataW.TrodAll enc prog w 0 (fun b=>decide (b<w.heap.size)) true ts vs ds p:=DataW.TrodAll.respare (kids_rows (by kernel_rfl) (by kernel_rfl)) (slices_full_of _ (by kernel_rfl)) (fun t ht=>by simpa using List.all_eq_true.1 hts t ht) h (fun q hq=>by simpa using hlt q hq);have carry:∀{ts:List TypeId} {vs:List Value} {ds:List (DataW H)} {p:List MemPlace},(∀ q∈p,q.block<w.heap.size)→DataW.TrodAll enc prog w 0 (fun b=>decide (b<w.heap.size)) true ts vs ds p→DataW.TrodAll enc prog W' 0 (fun b=>decide (b<w.heap.size)) true ts vs ds p:=by
  intro ts
  induction ts with
  | nil=>intro vs ds p _ h;cases vs<;>cases ds<;>first | exact h | exact h.elim
  | cons t ts ih=>
   intro vs ds p hp h;cases vs with
   | nil=>cases ds<;>exact h.elim
   | cons v vs=>
    cases ds with
    | nil=>exact h.elim
    | cons d ds=>
     obtain⟨p1,q1,⟨n,hn⟩,h2,rfl⟩:=h;refine⟨p1,q1,⟨n,DataW.trod_carry n t _ _ hn fun q hq=>?_⟩,ih (fun q hq=>hp q (List.mem_append_right _ hq)) h2,rfl⟩;have hql:=hp q (List.mem_append_left _ hq);cases q with
     | cell b off=>simp only[World.sameAt,World.cell?,hb.block b hql]
     | map b=>exact hb.block b hql
 exact carry hlt h1
end
end
end Go.Proofs.YtdeompgdhaomgaaGreatDoor
