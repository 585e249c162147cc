/- Out of Ry. -/
import Derived.Test.YtceedgdbhlpjlaaGreatDoorKqAu
namespace Go.Proofs.YtceedgdbhlpjlaaGreatDoor
open Go.RowKit Tryz
set_option linter.unusedVariables false
set_option maxRecDepth 100000
set_option maxHeartbeats 4000000
def ltF (i n:Nat):Fa prog (fun _=>True):=bO .lss 3 (p:=.int .i64 i) (q:=.int .i64 n) (v:=.bool (decide ((i:Int)<n))) (by intros;simp[go_sem])
def adF (i n:Nat):Fa prog (fun _=>True):=bO .add 3 (p:=.int .i64 i) (q:=.int .i64 n) (v:=.int .i64 (IntKind.i64.wrap ((i:Int)+n))) (by intros;simp[go_sem])
def lpF {α:Type} (n a b:Nat) (z:α) (lt ad:Nat→Nat→α) (m:Nat→List (Nat×List α)):List (Nat×List α):=((List.range n).flatMap fun i=>(a,[z,lt i n])::(m i++[(b,[z,ad i 1])]))++[(a,[z,lt n n])]
theorem bO4(w:World):(Instr.build 38 (([]:List Nat).zip []).toArray).run prog w=.ok (I4 0 0 0 0) w:=by kernel_rfl
theorem bI4(w:World):(Instr.build 38 (([0,1,2,3]:List Nat).zip [B 1,B 0,B 0,B 0]).toArray).run prog w=.ok (I4 1 0 0 0) w:=by kernel_rfl
end Go.Proofs.YtceedgdbhlpjlaaGreatDoor
