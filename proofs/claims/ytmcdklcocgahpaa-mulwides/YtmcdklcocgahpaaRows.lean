/-
  No cell of these rows narrows 'for every input' (looked for: loops, veiled, ifaces, maps, wideKeys, modest, calm, conditions, laid).
  DERIVED. THE GIVEN ROWS OF THIS SEAT. 5 by the template 'for every input the law returns true; each argument reads behind the call as it read before'; 0 by the template 'total and deterministic' (their statements: YtmcdklcocgahpaaTotals.lean).
  GIVEN WITH THE SEED: the statements are not yours to turn. If you find one false, say at which input.
  Laid BY PROGRAM, IN A SANDBOX (cutbox-rows.mjs): the forced cells as the released guide's own fill.sh prints them over the translation be32d2df32ab7e9d… (all of the seat's roots in one cut). By AI agents, Wed Nov 11 2026. No macro, syntax, notation, axiom, sorry.
-/
import Derived.Test.YtmcdklcocgahpaaChecked
import GoSem.Claim
import GoSem.ClaimJoined
import GoSem.ClaimMapViews
import Derived.JoinedTies
import Derived.KernelRfl
namespace Go.Proofs.Ytmcdklcocgahpaa
/- THE CELL 'sum', in the pinned program and in every row, IS THE sha256 OF THE DUMP (.gsa) THAT YtmcdklcocgahpaaProg.lean LOADS. Nothing in Lean hashes anything: it is a label: what it is worth is what the hold of that sum in a sandbox is worth. -/
noncomputable def Try.pinned : Pinned := { name := "ytmcdklcocgahpaa", sum := "be32d2df32ab7e9d55ea2f91142f07ca7184710fde226904bbf8baeefd896d33", checked := Try.checked }
namespace Rows
def none {H : Type} : Left H := { results := [], args := [] }

/-- 'trucelaw02.MulWides': WHATEVER THE INPUT: true; the input reads as it did. -/
def mulWidesSpec : ChangeSpec := { name := "mulWides", fn := fun _ => fun
  | [d1, d2] => { results := [.lit (.bool true)], args := [d1, d2] }
  | _ => none }
def mulWidesRow : OpenClaim := { program := "ytmcdklcocgahpaa", sum := "be32d2df32ab7e9d55ea2f91142f07ca7184710fde226904bbf8baeefd896d33", func := "truce/trucelaw02.MulWides", spec := "mulWides", inPlace := ["math/bits.Add64"], apart := false }
def MulWidesSaid : Prop := mulWidesRow.holds Try.pinned (OpenSpec.ofChange mulWidesSpec)

/-- ITS FALSE NEIGHBOUR: 'it returns false'. Refute it at one input. -/
def mulWidesWrong : ChangeSpec := { name := "mulWides", fn := fun _ => fun
  | [d1, d2] => { results := [.lit (.bool false)], args := [d1, d2] }
  | _ => none }
def MulWidesWrongFalsely : Prop := mulWidesRow.holds Try.pinned (OpenSpec.ofChange mulWidesWrong)

/-- 'trucelaw02.MulDivs': WHATEVER THE INPUT: true; the input reads as it did. -/
def mulDivsSpec : ChangeSpec := { name := "mulDivs", fn := fun _ => fun
  | [d1, d2, d3] => { results := [.lit (.bool true)], args := [d1, d2, d3] }
  | _ => none }
def mulDivsRow : OpenClaim := { program := "ytmcdklcocgahpaa", sum := "be32d2df32ab7e9d55ea2f91142f07ca7184710fde226904bbf8baeefd896d33", func := "truce/trucelaw02.MulDivs", spec := "mulDivs", apart := false }
def MulDivsSaid : Prop := mulDivsRow.holds Try.pinned (OpenSpec.ofChange mulDivsSpec)

/-- ITS FALSE NEIGHBOUR: 'it returns false'. Refute it at one input. -/
def mulDivsWrong : ChangeSpec := { name := "mulDivs", fn := fun _ => fun
  | [d1, d2, d3] => { results := [.lit (.bool false)], args := [d1, d2, d3] }
  | _ => none }
def MulDivsWrongFalsely : Prop := mulDivsRow.holds Try.pinned (OpenSpec.ofChange mulDivsWrong)

/-- 'trucelaw02.MulBack': WHATEVER THE INPUT: true; the input reads as it did. -/
def mulBackSpec : ChangeSpec := { name := "mulBack", fn := fun _ => fun
  | [d1, d2] => { results := [.lit (.bool true)], args := [d1, d2] }
  | _ => none }
def mulBackRow : OpenClaim := { program := "ytmcdklcocgahpaa", sum := "be32d2df32ab7e9d55ea2f91142f07ca7184710fde226904bbf8baeefd896d33", func := "truce/trucelaw02.MulBack", spec := "mulBack", inPlace := ["math/bits.Add64"], apart := false }
def MulBackSaid : Prop := mulBackRow.holds Try.pinned (OpenSpec.ofChange mulBackSpec)

/-- ITS FALSE NEIGHBOUR: 'it returns false'. Refute it at one input. -/
def mulBackWrong : ChangeSpec := { name := "mulBack", fn := fun _ => fun
  | [d1, d2] => { results := [.lit (.bool false)], args := [d1, d2] }
  | _ => none }
def MulBackWrongFalsely : Prop := mulBackRow.holds Try.pinned (OpenSpec.ofChange mulBackWrong)

/-- 'trucelaw02.MulSpreads': WHATEVER THE INPUT: true; the input reads as it did. -/
def mulSpreadsSpec : ChangeSpec := { name := "mulSpreads", fn := fun _ => fun
  | [d1, d2, d3] => { results := [.lit (.bool true)], args := [d1, d2, d3] }
  | _ => none }
def mulSpreadsRow : OpenClaim := { program := "ytmcdklcocgahpaa", sum := "be32d2df32ab7e9d55ea2f91142f07ca7184710fde226904bbf8baeefd896d33", func := "truce/trucelaw02.MulSpreads", spec := "mulSpreads", inPlace := ["math/bits.Add64"], apart := false }
def MulSpreadsSaid : Prop := mulSpreadsRow.holds Try.pinned (OpenSpec.ofChange mulSpreadsSpec)

/-- ITS FALSE NEIGHBOUR: 'it returns false'. Refute it at one input. -/
def mulSpreadsWrong : ChangeSpec := { name := "mulSpreads", fn := fun _ => fun
  | [d1, d2, d3] => { results := [.lit (.bool false)], args := [d1, d2, d3] }
  | _ => none }
def MulSpreadsWrongFalsely : Prop := mulSpreadsRow.holds Try.pinned (OpenSpec.ofChange mulSpreadsWrong)

/-- 'trucelaw02.MulRests': WHATEVER THE INPUT: true; the input reads as it did. -/
def mulRestsSpec : ChangeSpec := { name := "mulRests", fn := fun _ => fun
  | [d1, d2, d3] => { results := [.lit (.bool true)], args := [d1, d2, d3] }
  | _ => none }
def mulRestsRow : OpenClaim := { program := "ytmcdklcocgahpaa", sum := "be32d2df32ab7e9d55ea2f91142f07ca7184710fde226904bbf8baeefd896d33", func := "truce/trucelaw02.MulRests", spec := "mulRests", inPlace := ["math/bits.Add64"], apart := false }
def MulRestsSaid : Prop := mulRestsRow.holds Try.pinned (OpenSpec.ofChange mulRestsSpec)

/-- ITS FALSE NEIGHBOUR: 'it returns false'. Refute it at one input. -/
def mulRestsWrong : ChangeSpec := { name := "mulRests", fn := fun _ => fun
  | [d1, d2, d3] => { results := [.lit (.bool false)], args := [d1, d2, d3] }
  | _ => none }
def MulRestsWrongFalsely : Prop := mulRestsRow.holds Try.pinned (OpenSpec.ofChange mulRestsWrong)

/- THE SECOND FORM. 'bulk': how many values and letters a reading holds, each counted each time it is reached (what is shared counts as often as it is met; a slice's spare places count too). A statement '..UptoSaid' is the law's where the arguments, and the package variables that the reading takes, are together of bulk at most 1048576: NARROWER than '..Said'. Prove '..Said' where nothing that the law and all that it calls make is longer than what came in: it says more and counts as full. Else prove '..UptoSaid'. A law counts once. -/
mutual
def uptoBulk {H : Type} : DataW H → Nat
  | .lit (.string bytes) => bytes.length + 1
  | .lit _ => 1
  | .nil => 1
  | .ptr d => uptoBulk d + 1
  | .slice elems spare => uptoBulkAll elems + uptoBulkAll spare + 1
  | .agg parts => uptoBulkAll parts + 1
  | .iface _ d => uptoBulk d + 1
  | .map entries => uptoBulkEntries entries + 1
  | .held _ => 1
def uptoBulkAll {H : Type} : List (DataW H) → Nat
  | [] => 0
  | d :: r => uptoBulk d + uptoBulkAll r
def uptoBulkEntries {H : Type} : List (Lit × DataW H) → Nat
  | [] => 0
  | x :: r => uptoBulkEntry x + uptoBulkEntries r
def uptoBulkEntry {H : Type} : Lit × DataW H → Nat
  | (.string bytes, d) => bytes.length + uptoBulk d + 1
  | (_, d) => uptoBulk d + 1
 end
def uptoSmall : (H : Type) → List (DataW H) → Bool := fun _ ds => decide (uptoBulkAll ds ≤ 1048576)
def OpenSpec.upto (s : _root_.Go.ChangeSpec) : _root_.Go.OpenSpec := { _root_.Go.OpenSpec.ofChange s with cond := some uptoSmall }

/-- 'trucelaw02.MulWides', WHERE WHAT IT READS IS OF BULK AT MOST 1048576: true; the input reads as it did. -/
def mulWidesUptoRow : OpenClaim := { program := "ytmcdklcocgahpaa", sum := "be32d2df32ab7e9d55ea2f91142f07ca7184710fde226904bbf8baeefd896d33", func := "truce/trucelaw02.MulWides", spec := "mulWides", inPlace := ["math/bits.Add64"], apart := false, narrowed := true }
def MulWidesUptoSaid : Prop := mulWidesUptoRow.holds Try.pinned (OpenSpec.upto mulWidesSpec)

/-- 'trucelaw02.MulDivs', WHERE WHAT IT READS IS OF BULK AT MOST 1048576: true; the input reads as it did. -/
def mulDivsUptoRow : OpenClaim := { program := "ytmcdklcocgahpaa", sum := "be32d2df32ab7e9d55ea2f91142f07ca7184710fde226904bbf8baeefd896d33", func := "truce/trucelaw02.MulDivs", spec := "mulDivs", apart := false, narrowed := true }
def MulDivsUptoSaid : Prop := mulDivsUptoRow.holds Try.pinned (OpenSpec.upto mulDivsSpec)

/-- 'trucelaw02.MulBack', WHERE WHAT IT READS IS OF BULK AT MOST 1048576: true; the input reads as it did. -/
def mulBackUptoRow : OpenClaim := { program := "ytmcdklcocgahpaa", sum := "be32d2df32ab7e9d55ea2f91142f07ca7184710fde226904bbf8baeefd896d33", func := "truce/trucelaw02.MulBack", spec := "mulBack", inPlace := ["math/bits.Add64"], apart := false, narrowed := true }
def MulBackUptoSaid : Prop := mulBackUptoRow.holds Try.pinned (OpenSpec.upto mulBackSpec)

/-- 'trucelaw02.MulSpreads', WHERE WHAT IT READS IS OF BULK AT MOST 1048576: true; the input reads as it did. -/
def mulSpreadsUptoRow : OpenClaim := { program := "ytmcdklcocgahpaa", sum := "be32d2df32ab7e9d55ea2f91142f07ca7184710fde226904bbf8baeefd896d33", func := "truce/trucelaw02.MulSpreads", spec := "mulSpreads", inPlace := ["math/bits.Add64"], apart := false, narrowed := true }
def MulSpreadsUptoSaid : Prop := mulSpreadsUptoRow.holds Try.pinned (OpenSpec.upto mulSpreadsSpec)

/-- 'trucelaw02.MulRests', WHERE WHAT IT READS IS OF BULK AT MOST 1048576: true; the input reads as it did. -/
def mulRestsUptoRow : OpenClaim := { program := "ytmcdklcocgahpaa", sum := "be32d2df32ab7e9d55ea2f91142f07ca7184710fde226904bbf8baeefd896d33", func := "truce/trucelaw02.MulRests", spec := "mulRests", inPlace := ["math/bits.Add64"], apart := false, narrowed := true }
def MulRestsUptoSaid : Prop := mulRestsUptoRow.holds Try.pinned (OpenSpec.upto mulRestsSpec)

end Rows
end Go.Proofs.Ytmcdklcocgahpaa
