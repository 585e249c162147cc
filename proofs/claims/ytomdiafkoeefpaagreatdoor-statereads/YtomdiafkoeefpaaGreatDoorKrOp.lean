/- Laid one behind the other: Op, Wp. -/
import Derived.Test.YtomdiafkoeefpaaGreatDoorRows
import Derived.Test.YtomdiafkoeefpaaGreatDoorKrNv
import Derived.ProofKit
import Derived.OpenShut
import Derived.Below
import Derived.Test.YtomdiafkoeefpaaGreatDoorKrWo
import Derived.ReadAgain
import Derived.Deep.Slices
import Derived.Lib.SmallJoins
import Derived.ChangeShapes
namespace Go.Proofs.YtomdiafkoeefpaaGreatDoor
open Go.ChangeShapes Go.WideShapes Go.ChangeAt Go.RowKit
theorem own:ownKnob Tryz.prog.godebug=none:=by kernel_rfl
end Go.Proofs.YtomdiafkoeefpaaGreatDoor
namespace Go.Proofs.YtomdiafkoeefpaaGreatDoor
open Go.RowKit Go.Sort Go.ChangeShapes Go.WideShapes Go.ChangeAt
set_option linter.unusedVariables false
set_option maxRecDepth 100000
theorem txt_len(s:ByteArray):(txt s).length=32+s.size+pad s.size:=by
 unfold txt
 have h:=wb_len s.size
 have e:s.data.toList.length=s.size:=Array.length_toList
 simp only[List.length_append,h,e,List.length_replicate]
theorem foldE_bound{α:Type}{E:α→List UInt8}{cnt:α→Nat}{H:Nat}{tt:α→Nat}:∀ (l:List (Int×Nat×ByteArray×α)) (acc:List UInt8×List UInt8),(∀ t∈l,t.2.2.1.size≤20000∧(E t.2.2.2).length≤20127*tt t.2.2.2)→(l.foldl (stepE E cnt H) acc).2.length≤acc.2.length+20095*l.length+20127*(l.map fun t=>tt t.2.2.2).sum
 | [],acc,h=>by simp
 | t::l,acc,h=>by
  have ih:=foldE_bound (cnt:=cnt) (H:=H) l (stepE E cnt H acc t) fun u hu=>h u (List.mem_cons_of_mem _ hu)
  obtain ⟨h1,h2⟩:=h t List.mem_cons_self
  have hs:(stepE E cnt H acc t).2.length≤acc.2.length+20095+20127*tt t.2.2.2:=by
   unfold stepE
   split
   ·simp;omega
   ·split
    ·have:=txt_len t.2.2.1
     unfold pad at this
     simp only[List.length_append];omega
    ·split
     ·have h3:=wb_len (cnt t.2.2.2)
      simp only[List.length_append,h3];omega
     ·simp;omega
  simp only[List.foldl_cons,List.length_cons,List.map_cons,List.sum_cons]
  omega
theorem enc_bound:∀ (n:Nat) (l:TL n),tok n l→(enc n l).length≤20127*tot n l
 | 0,_,_=>Nat.zero_le _
 | n+1,l,h=>by
  have h1:=foldE_bound (E:=enc n) (cnt:=cntL n) (H:=32*List.length (α:=TT n) l) (tt:=tot n) l ([],[]) fun t ht=>⟨(h t ht).1,enc_bound n t.2.2.2 (h t ht).2.2⟩
  have h2:=hd_len (E:=enc n) (cnt:=cntL n) (l:=l) (i:=List.length (α:=TT n) l) (Nat.le_refl _)
  have e:List.take (List.length (α:=TT n) l) l=l:=List.take_length
  rw[e] at h2
  simp only[enc,List.length_append,tot]
  have h3:(foldE (enc n) (cntL n) (32*List.length (α:=TT n) l) l).2.length≤0+20095*List.length (α:=TT n) l+20127*(List.map (fun t:TT n=>tot n t.2.2.2) l).sum:=h1
  omega
theorem c3:Tryz.prog.cellsOf 3=1:=by kernel_rfl
section
variable {H:Type} {enc:TypeId×Value→H} {w:World} {base:Nat} {spare:Nat→Bool} {held:Bool}
theorem reread{W':World}{ts:List TypeId}{vs:List Value}{ds:List (DataW H)}{p:List MemPlace}(hts:(ts.all fun t=>decide (t<Tryz.prog.types.size))=true)(h:DataW.TrodAll enc Tryz.prog w 0 (fun _=>true) true ts vs ds p)(hb:Below w.heap.size w W'):DataW.TrodAll enc Tryz.prog W' 0 (fun b=>decide (b<w.heap.size)) true ts vs ds p:=by
 have hlt:=DataW.TrodAll.lt h
 have h1:DataW.TrodAll enc Tryz.prog w 0 (fun b=>decide (b<w.heap.size)) true ts vs ds p:=DataW.TrodAll.respare (kids_rows (by kernel_rfl) (by kernel_rfl)) (slices_full_of _ (by kernel_rfl)) (fun t ht=>by simpa using List.all_eq_true.1 hts t ht) h (fun q hq=>by simpa using hlt q hq)
 have carry:∀ {ts:List TypeId} {vs:List Value} {ds:List (DataW H)} {p:List MemPlace},(∀ q∈p,q.block<w.heap.size)→DataW.TrodAll enc Tryz.prog w 0 (fun b=>decide (b<w.heap.size)) true ts vs ds p→DataW.TrodAll enc Tryz.prog W' 0 (fun b=>decide (b<w.heap.size)) true ts vs ds p:=by
  intro ts
  induction ts with
  | nil=>intro vs ds p _ h;cases vs<;>cases ds<;>first | exact h | exact h.elim
  | cons t ts ih=>
   intro vs ds p hp h
   cases vs with
   | nil=>cases ds<;>exact h.elim
   | cons v vs=>
    cases ds with
    | nil=>exact h.elim
    | cons d ds=>
     obtain ⟨p1,q1,⟨n,hn⟩,h2,rfl⟩:=h
     refine ⟨p1,q1,⟨n,DataW.trod_carry n t _ _ hn fun q hq=>?_⟩,ih (fun q hq=>hp q (List.mem_append_right _ hq)) h2,rfl⟩
     have hql:=hp q (List.mem_append_left _ hq)
     cases q with
     | cell b off=>simp only[World.sameAt,World.cell?,hb.block b hql]
     | map b=>exact hb.block b hql
 exact carry hlt h1
end
end Go.Proofs.YtomdiafkoeefpaaGreatDoor
