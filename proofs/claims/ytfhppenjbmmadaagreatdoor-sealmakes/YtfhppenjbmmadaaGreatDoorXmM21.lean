import Derived.Test.YtfhppenjbmmadaaGreatDoorXmM18
import Derived.Test.YtfhppenjbmmadaaGreatDoorXmM32
namespace Go.Proofs.YtfhppenjbmmadaaGreatDoor
set_option linter.unusedVariables false
set_option maxHeartbeats 8000000
section
open Go.RowKit Go.Sort
theorem bd24_0i_1i_2i_3i(x0:Int)(x1:Int)(x2:Int)(x3:Int)(w:World):(Instr.build 24 #[(0,.int .u64 x0),(1,.int .u64 x1),(2,.int .u64 x2),(3,.int .u64 x3)]).run Tryz.prog w=.ok (.agg #[.int .u64 x0,.int .u64 x1,.int .u64 x2,.int .u64 x3]) w:=by simp[go_sem]
theorem id24_0(a b c d:Int)(w:World):(Instr.index 24 (I4 a b c d) (.int .i64 0)).run Tryz.prog w=.ok (.int .u64 a) w:=by simp[Instr.index,asIntOf,run_underlying Tryz.underlying24,part,isAgg,run_underlying Tryz.underlying22,go_sem]
theorem id24_1(a b c d:Int)(w:World):(Instr.index 24 (I4 a b c d) (.int .i64 1)).run Tryz.prog w=.ok (.int .u64 b) w:=by simp[Instr.index,asIntOf,run_underlying Tryz.underlying24,part,isAgg,run_underlying Tryz.underlying22,go_sem]
theorem id24_2(a b c d:Int)(w:World):(Instr.index 24 (I4 a b c d) (.int .i64 2)).run Tryz.prog w=.ok (.int .u64 c) w:=by simp[Instr.index,asIntOf,run_underlying Tryz.underlying24,part,isAgg,run_underlying Tryz.underlying22,go_sem]
theorem id24_3(a b c d:Int)(w:World):(Instr.index 24 (I4 a b c d) (.int .i64 3)).run Tryz.prog w=.ok (.int .u64 d) w:=by simp[Instr.index,asIntOf,run_underlying Tryz.underlying24,part,isAgg,run_underlying Tryz.underlying22,go_sem]
end
section
open Go.RowKit Go.Sort
theorem bd38_2b(x2:Bool)(w:World):(Instr.build 38 #[(2,.bool x2)]).run Tryz.prog w=.ok (A9 0 0 x2) w:=by simp[go_sem,l0,l1,l2,l3]
theorem fc126(xs:Array Operand)(ts:Array TypeId)(a:Act)(ty:TypeId)(w:World):(do let d ← resolve a.eval { callee:=.value (.func 126),args:=xs,argTypes:=ts } ty;invoke d.target d.args:Sem Next).run Tryz.prog w=.ok (.enter 126 (xs.map a.eval)) w:=by
 simp[go_sem]
theorem fc66(xs:Array Operand)(ts:Array TypeId)(a:Act)(ty:TypeId)(w:World):(do let d ← resolve a.eval { callee:=.value (.func 66),args:=xs,argTypes:=ts } ty;invoke d.target d.args:Sem Next).run Tryz.prog w=.ok (.enter 66 (xs.map a.eval)) w:=by
 simp[go_sem]
theorem fc93(xs:Array Operand)(ts:Array TypeId)(a:Act)(ty:TypeId)(w:World):(do let d ← resolve a.eval { callee:=.value (.func 93),args:=xs,argTypes:=ts } ty;invoke d.target d.args:Sem Next).run Tryz.prog w=.ok (.enter 93 (xs.map a.eval)) w:=by
 simp[go_sem]
theorem bd24_(w:World):(Instr.build 24 #[]).run Tryz.prog w=.ok (U 0) w:=by simp[go_sem,l0,l1,l2,l3]
theorem bd38_(w:World):(Instr.build 38 #[]).run Tryz.prog w=.ok (A9 0 0 false) w:=by simp[go_sem,l0,l1,l2,l3]
theorem bd38_0U_1U(x0:Nat)(x1:Nat)(w:World):(Instr.build 38 #[(0,U x0),(1,U x1)]).run Tryz.prog w=.ok (A9 x0 x1 false) w:=by simp[go_sem,l0,l1,l2,l3]
theorem bd117_0U_1U_2U(x0:Nat)(x1:Nat)(x2:Nat)(w:World):(Instr.build 117 #[(0,U x0),(1,U x1),(2,U x2)]).run Tryz.prog w=.ok (A3 x0 x1 x2) w:=by simp[go_sem]
end
section
open Go.RowKit Go.Sort
theorem bdk4294968273(w:World):(Instr.build 24 #[(0,.int .u64 4294968273),(1,.int .u64 0),(2,.int .u64 0),(3,.int .u64 0)]).run Tryz.prog w=.ok (U 4294968273) w:=by simp[go_sem,l0,l1,l2,l3,M]
theorem fc49(xs:Array Operand)(ts:Array TypeId)(a:Act)(ty:TypeId)(w:World):(do let d ← resolve a.eval { callee:=.value (.func 49),args:=xs,argTypes:=ts } ty;invoke d.target d.args:Sem Next).run Tryz.prog w=.ok (.enter 49 (xs.map a.eval)) w:=by
 simp[go_sem]
theorem bd103_(w:World):(Instr.build 103 #[]).run Tryz.prog w=.ok (A3 0 0 0) w:=by simp[go_sem,l0,l1,l2,l3]
theorem bd103_0U_1U_2U(x0:Nat)(x1:Nat)(x2:Nat)(w:World):(Instr.build 103 #[(0,U x0),(1,U x1),(2,U x2)]).run Tryz.prog w=.ok (A3 x0 x1 x2) w:=by simp[go_sem]
theorem bdk1(w:World):(Instr.build 24 #[(0,.int .u64 1),(1,.int .u64 0),(2,.int .u64 0),(3,.int .u64 0)]).run Tryz.prog w=.ok (U 1) w:=by simp[go_sem,l0,l1,l2,l3,M]
theorem fc80(xs:Array Operand)(ts:Array TypeId)(a:Act)(ty:TypeId)(w:World):(do let d ← resolve a.eval { callee:=.value (.func 80),args:=xs,argTypes:=ts } ty;invoke d.target d.args:Sem Next).run Tryz.prog w=.ok (.enter 80 (xs.map a.eval)) w:=by
 simp[go_sem]
theorem bdk2(w:World):(Instr.build 24 #[(0,.int .u64 2),(1,.int .u64 0),(2,.int .u64 0),(3,.int .u64 0)]).run Tryz.prog w=.ok (U 2) w:=by simp[go_sem,l0,l1,l2,l3,M]
theorem fc82(xs:Array Operand)(ts:Array TypeId)(a:Act)(ty:TypeId)(w:World):(do let d ← resolve a.eval { callee:=.value (.func 82),args:=xs,argTypes:=ts } ty;invoke d.target d.args:Sem Next).run Tryz.prog w=.ok (.enter 82 (xs.map a.eval)) w:=by
 simp[go_sem]
theorem fc83(xs:Array Operand)(ts:Array TypeId)(a:Act)(ty:TypeId)(w:World):(do let d ← resolve a.eval { callee:=.value (.func 83),args:=xs,argTypes:=ts } ty;invoke d.target d.args:Sem Next).run Tryz.prog w=.ok (.enter 83 (xs.map a.eval)) w:=by
 simp[go_sem]
end
section
open Go.RowKit Go.Sort
theorem fc135(xs:Array Operand)(ts:Array TypeId)(a:Act)(ty:TypeId)(w:World):(do let d ← resolve a.eval { callee:=.value (.func 135),args:=xs,argTypes:=ts } ty;invoke d.target d.args:Sem Next).run Tryz.prog w=.ok (.enter 135 (xs.map a.eval)) w:=by
 simp[go_sem]
theorem fc136(xs:Array Operand)(ts:Array TypeId)(a:Act)(ty:TypeId)(w:World):(do let d ← resolve a.eval { callee:=.value (.func 136),args:=xs,argTypes:=ts } ty;invoke d.target d.args:Sem Next).run Tryz.prog w=.ok (.enter 136 (xs.map a.eval)) w:=by
 simp[go_sem]
theorem fc79(xs:Array Operand)(ts:Array TypeId)(a:Act)(ty:TypeId)(w:World):(do let d ← resolve a.eval { callee:=.value (.func 79),args:=xs,argTypes:=ts } ty;invoke d.target d.args:Sem Next).run Tryz.prog w=.ok (.enter 79 (xs.map a.eval)) w:=by
 simp[go_sem]
theorem fc81(xs:Array Operand)(ts:Array TypeId)(a:Act)(ty:TypeId)(w:World):(do let d ← resolve a.eval { callee:=.value (.func 81),args:=xs,argTypes:=ts } ty;invoke d.target d.args:Sem Next).run Tryz.prog w=.ok (.enter 81 (xs.map a.eval)) w:=by
 simp[go_sem]
end
section
open Go.RowKit Go.Sort
theorem bd24_0i(x0:Int)(w:World):(Instr.build 24 #[(0,.int .u64 x0)]).run Tryz.prog w=.ok (.agg #[.int .u64 x0,.int .u64 0,.int .u64 0,.int .u64 0]) w:=by simp[go_sem]
end
section
open Go.RowKit Go.Sort
theorem fc31(xs:Array Operand)(ts:Array TypeId)(a:Act)(ty:TypeId)(w:World):(do let d ← resolve a.eval { callee:=.value (.func 31),args:=xs,argTypes:=ts } ty;invoke d.target d.args:Sem Next).run Tryz.prog w=.ok (.enter 31 (xs.map a.eval)) w:=by
 simp[go_sem]
theorem fc88(xs:Array Operand)(ts:Array TypeId)(a:Act)(ty:TypeId)(w:World):(do let d ← resolve a.eval { callee:=.value (.func 88),args:=xs,argTypes:=ts } ty;invoke d.target d.args:Sem Next).run Tryz.prog w=.ok (.enter 88 (xs.map a.eval)) w:=by
 simp[go_sem]
theorem fc110(xs:Array Operand)(ts:Array TypeId)(a:Act)(ty:TypeId)(w:World):(do let d ← resolve a.eval { callee:=.value (.func 110),args:=xs,argTypes:=ts } ty;invoke d.target d.args:Sem Next).run Tryz.prog w=.ok (.enter 110 (xs.map a.eval)) w:=by
 simp[go_sem]
abbrev DoesT (f:Nat) (args:Array Value) (v:Value):Prop:=Hid (∀ w,Tabs w ki→Calls Tryz.prog f args w fun e w'=>e=.returned v∧Below w.heap.size w w')
theorem tbl{f:Nat}{args:Array Value}{v:Value}(h:DoesT f args v){w:World}(hT:Tabs w ki){w':World}(hb:Below w.heap.size w w')(_:World):Calls Tryz.prog f args w' fun e w''=>e=.returned v∧Below w'.heap.size w' w'':=h.out w' (hT.below hb)
end
end Go.Proofs.YtfhppenjbmmadaaGreatDoor
