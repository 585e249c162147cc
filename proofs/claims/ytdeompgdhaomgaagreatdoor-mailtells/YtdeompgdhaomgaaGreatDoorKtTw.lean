/- Out of Tw. -/
import Derived.Test.YtdeompgdhaomgaaGreatDoorKtTv
namespace Go.Proofs.YtdeompgdhaomgaaGreatDoor
open Go.RowKit Go.Sort Go.Proofs.Tryz
set_option linter.unusedVariables false
set_option maxRecDepth 100000
set_option maxHeartbeats 4000000
abbrev zs (n:Nat):ByteArray:=⟨(List.replicate n (0:UInt8)).toArray⟩
abbrev awA:Al:=(zs 32,5,0,eB,eB)
section
variable {P:Program} {J:World→Prop} {F:Nat→Prop} {ds:List Deferred} {β:Nat→Nat} {c:Cf} {a:Act} {w:World} {Q:Exit→Act→World→Prop}
theorem allocG{ops:Array Oper}{K:Act→World→Prop}{o:Oper}{t:TypeId}{r:Array Value}(hop:o.op=.alloc t)(hg:o.guard=none)(hz:zeV P t=some r)(hm:P.follows .mixedOrders=true)(hK:∀ w',Below w.heap.size w w'→zb w' w.heap.size r→K (a.put o.dst (.pointer (some ⟨w.heap.size,0,none⟩))) w'):wpG ops o P a w K Q:=by
 refine yg hg ?_;obtain⟨t',h1⟩:=(ty_ok hm).hze t r hz a.eval o w hop;exact xb h1 (hK _ (yh w _) ⟨t',Array.getElem?_push_size⟩)
end
structure XW (b1 b2:Nat) (w:World):Prop where
 al:w.heap[b1]? = some (.cells (al8 awA).toArray 133)
 ex:w.heap[b2]? = some (.cells [.string (zs 20),.slice (some ⟨b1,0,none⟩) 1 1].toArray 47)
theorem XW.rs(b1 b2:Nat):yw (XW b1 b2) (fun k=>k=b1∨k=b2):=by
 refine⟨fun w w' h gr=>⟨?_,?_⟩,fun w k h hk=>?_⟩
 ·rw[gr.block b1 (Array.getElem?_eq_some_iff.1 h.al).1 (.inl rfl)];exact h.al
 ·rw[gr.block b2 (Array.getElem?_eq_some_iff.1 h.ex).1 (.inr rfl)];exact h.ex
 ·rcases hk with rfl|rfl
  ·exact(Array.getElem?_eq_some_iff.1 h.al).1
  ·exact(Array.getElem?_eq_some_iff.1 h.ex).1
theorem XW.below{b1 b2:Nat}{w w':World}(h:XW b1 b2 w)(hb:Below w.heap.size w w'):XW b1 b2 w':=(XW.rs b1 b2).loc w w' h (zi.of_below hb)
theorem map1{α β:Type}(f:α→β)(x:α):(#[x]:Array α).map f=#[f x]:=by simp
end Go.Proofs.YtdeompgdhaomgaaGreatDoor
