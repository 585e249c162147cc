/-
  No cell of these rows narrows 'for every input' (looked for: loops, veiled, ifaces, maps, wideKeys, modest, calm, conditions, laid).
  DERIVED. THE GIVEN ROWS OF THIS SEAT. 6 by the template 'for every input the law returns true; each argument reads behind the call as it read before'; 0 by the template 'total and deterministic' (their statements: YtillbhdcnhcbhaaTotals.lean).
  GIVEN WITH THE SEED: the statements are not yours to turn. If you find one false, say at which input.
  Laid BY PROGRAM, IN A SANDBOX (cutbox-rows.mjs): the forced cells as the released guide's own fill.sh prints them over the translation cc2c381b6b4a6b5a… (all of the seat's roots in one cut). By AI agents, Wed Nov 11 2026. No macro, syntax, notation, axiom, sorry.
-/
import Derived.Test.YtillbhdcnhcbhaaChecked
import GoSem.Claim
import GoSem.ClaimJoined
import GoSem.ClaimMapViews
import Derived.JoinedTies
import Derived.KernelRfl
namespace Go.Proofs.Ytillbhdcnhcbhaa
/- THE CELL 'sum', in the pinned program and in every row, IS THE sha256 OF THE DUMP (.gsa) THAT YtillbhdcnhcbhaaProg.lean LOADS. Nothing in Lean hashes anything: it is a label: what it is worth is what the hold of that sum in a sandbox is worth. -/
noncomputable def Try.pinned : Pinned := { name := "ytillbhdcnhcbhaa", sum := "cc2c381b6b4a6b5a97c37d6e78e74685aa3048b1e5aa967bd4adec20156df968", checked := Try.checked }
namespace Rows
def none {H : Type} : Left H := { results := [], args := [] }

/-- 'trucelaw02.MulDivs': WHATEVER THE INPUT: true; the input reads as it did. -/
def mulDivsSpec : ChangeSpec := { name := "mulDivs", fn := fun _ => fun
  | [d1, d2, d3] => { results := [.lit (.bool true)], args := [d1, d2, d3] }
  | _ => none }
def mulDivsRow : OpenClaim := { program := "ytillbhdcnhcbhaa", sum := "cc2c381b6b4a6b5a97c37d6e78e74685aa3048b1e5aa967bd4adec20156df968", func := "truce/trucelaw02.MulDivs", spec := "mulDivs", apart := false }
def MulDivsSaid : Prop := mulDivsRow.holds Try.pinned (OpenSpec.ofChange mulDivsSpec)

/-- ITS FALSE NEIGHBOUR: 'it returns false'. Refute it at one input. -/
def mulDivsWrong : ChangeSpec := { name := "mulDivs", fn := fun _ => fun
  | [d1, d2, d3] => { results := [.lit (.bool false)], args := [d1, d2, d3] }
  | _ => none }
def MulDivsWrongFalsely : Prop := mulDivsRow.holds Try.pinned (OpenSpec.ofChange mulDivsWrong)

/-- 'trucelaw03.ModuTells': WHATEVER THE INPUT: true; the input reads as it did. -/
def moduTellsSpec : ChangeSpec := { name := "moduTells", fn := fun _ => fun
  | [d1, d2, d3] => { results := [.lit (.bool true)], args := [d1, d2, d3] }
  | _ => none }
def moduTellsRow : OpenClaim := { program := "ytillbhdcnhcbhaa", sum := "cc2c381b6b4a6b5a97c37d6e78e74685aa3048b1e5aa967bd4adec20156df968", func := "truce/trucelaw03.ModuTells", spec := "moduTells", inPlace := ["math/bits.Add64", "math/bits.Sub64"], unfollowed := true, recurses := true, apart := false }
def ModuTellsSaid : Prop := moduTellsRow.holds Try.pinned (OpenSpec.ofChange moduTellsSpec)

/-- ITS FALSE NEIGHBOUR: 'it returns false'. Refute it at one input. -/
def moduTellsWrong : ChangeSpec := { name := "moduTells", fn := fun _ => fun
  | [d1, d2, d3] => { results := [.lit (.bool false)], args := [d1, d2, d3] }
  | _ => none }
def ModuTellsWrongFalsely : Prop := moduTellsRow.holds Try.pinned (OpenSpec.ofChange moduTellsWrong)

/-- 'trucelaw03.ModuInverse': WHATEVER THE INPUT: true; the input reads as it did. -/
def moduInverseSpec : ChangeSpec := { name := "moduInverse", fn := fun _ => fun
  | [d1, d2] => { results := [.lit (.bool true)], args := [d1, d2] }
  | _ => none }
def moduInverseRow : OpenClaim := { program := "ytillbhdcnhcbhaa", sum := "cc2c381b6b4a6b5a97c37d6e78e74685aa3048b1e5aa967bd4adec20156df968", func := "truce/trucelaw03.ModuInverse", spec := "moduInverse", inPlace := ["math/bits.Add64", "math/bits.Sub64"], unfollowed := true, recurses := true, apart := false }
def ModuInverseSaid : Prop := moduInverseRow.holds Try.pinned (OpenSpec.ofChange moduInverseSpec)

/-- ITS FALSE NEIGHBOUR: 'it returns false'. Refute it at one input. -/
def moduInverseWrong : ChangeSpec := { name := "moduInverse", fn := fun _ => fun
  | [d1, d2] => { results := [.lit (.bool false)], args := [d1, d2] }
  | _ => none }
def ModuInverseWrongFalsely : Prop := moduInverseRow.holds Try.pinned (OpenSpec.ofChange moduInverseWrong)

/-- 'trucelaw03.ModuPowers': WHATEVER THE INPUT: true; the input reads as it did. -/
def moduPowersSpec : ChangeSpec := { name := "moduPowers", fn := fun _ => fun
  | [d1, d2, d3, d4] => { results := [.lit (.bool true)], args := [d1, d2, d3, d4] }
  | _ => none }
def moduPowersRow : OpenClaim := { program := "ytillbhdcnhcbhaa", sum := "cc2c381b6b4a6b5a97c37d6e78e74685aa3048b1e5aa967bd4adec20156df968", func := "truce/trucelaw03.ModuPowers", spec := "moduPowers", inPlace := ["math/bits.Add64", "math/bits.Sub64"], unfollowed := true, recurses := true, apart := false }
def ModuPowersSaid : Prop := moduPowersRow.holds Try.pinned (OpenSpec.ofChange moduPowersSpec)

/-- ITS FALSE NEIGHBOUR: 'it returns false'. Refute it at one input. -/
def moduPowersWrong : ChangeSpec := { name := "moduPowers", fn := fun _ => fun
  | [d1, d2, d3, d4] => { results := [.lit (.bool false)], args := [d1, d2, d3, d4] }
  | _ => none }
def ModuPowersWrongFalsely : Prop := moduPowersRow.holds Try.pinned (OpenSpec.ofChange moduPowersWrong)

/-- 'trucelaw03.ModuSpreads': WHATEVER THE INPUT: true; the input reads as it did. -/
def moduSpreadsSpec : ChangeSpec := { name := "moduSpreads", fn := fun _ => fun
  | [d1, d2, d3, d4] => { results := [.lit (.bool true)], args := [d1, d2, d3, d4] }
  | _ => none }
def moduSpreadsRow : OpenClaim := { program := "ytillbhdcnhcbhaa", sum := "cc2c381b6b4a6b5a97c37d6e78e74685aa3048b1e5aa967bd4adec20156df968", func := "truce/trucelaw03.ModuSpreads", spec := "moduSpreads", inPlace := ["math/bits.Add64", "math/bits.Sub64"], unfollowed := true, recurses := true, apart := false }
def ModuSpreadsSaid : Prop := moduSpreadsRow.holds Try.pinned (OpenSpec.ofChange moduSpreadsSpec)

/-- ITS FALSE NEIGHBOUR: 'it returns false'. Refute it at one input. -/
def moduSpreadsWrong : ChangeSpec := { name := "moduSpreads", fn := fun _ => fun
  | [d1, d2, d3, d4] => { results := [.lit (.bool false)], args := [d1, d2, d3, d4] }
  | _ => none }
def ModuSpreadsWrongFalsely : Prop := moduSpreadsRow.holds Try.pinned (OpenSpec.ofChange moduSpreadsWrong)

/-- 'trucelaw03.ModuTwice': WHATEVER THE INPUT: true; the input reads as it did. -/
def moduTwiceSpec : ChangeSpec := { name := "moduTwice", fn := fun _ => fun
  | [d1, d2, d3, d4] => { results := [.lit (.bool true)], args := [d1, d2, d3, d4] }
  | _ => none }
def moduTwiceRow : OpenClaim := { program := "ytillbhdcnhcbhaa", sum := "cc2c381b6b4a6b5a97c37d6e78e74685aa3048b1e5aa967bd4adec20156df968", func := "truce/trucelaw03.ModuTwice", spec := "moduTwice", inPlace := ["math/bits.Add64", "math/bits.Sub64"], unfollowed := true, recurses := true, apart := false }
def ModuTwiceSaid : Prop := moduTwiceRow.holds Try.pinned (OpenSpec.ofChange moduTwiceSpec)

/-- ITS FALSE NEIGHBOUR: 'it returns false'. Refute it at one input. -/
def moduTwiceWrong : ChangeSpec := { name := "moduTwice", fn := fun _ => fun
  | [d1, d2, d3, d4] => { results := [.lit (.bool false)], args := [d1, d2, d3, d4] }
  | _ => none }
def ModuTwiceWrongFalsely : Prop := moduTwiceRow.holds Try.pinned (OpenSpec.ofChange moduTwiceWrong)

/- THE SECOND FORM. 'bulk': how many values and letters a reading holds, each counted each time it is reached (what is shared counts as often as it is met; a slice's spare places count too). A statement '..UptoSaid' is the law's where the arguments, and the package variables that the reading takes, are together of bulk at most 1048576: NARROWER than '..Said'. Prove '..Said' where nothing that the law and all that it calls make is longer than what came in: it says more and counts as full. Else prove '..UptoSaid'. A law counts once. -/
mutual
def uptoBulk {H : Type} : DataW H → Nat
  | .lit (.string bytes) => bytes.length + 1
  | .lit _ => 1
  | .nil => 1
  | .ptr d => uptoBulk d + 1
  | .slice elems spare => uptoBulkAll elems + uptoBulkAll spare + 1
  | .agg parts => uptoBulkAll parts + 1
  | .iface _ d => uptoBulk d + 1
  | .map entries => uptoBulkEntries entries + 1
  | .held _ => 1
def uptoBulkAll {H : Type} : List (DataW H) → Nat
  | [] => 0
  | d :: r => uptoBulk d + uptoBulkAll r
def uptoBulkEntries {H : Type} : List (Lit × DataW H) → Nat
  | [] => 0
  | x :: r => uptoBulkEntry x + uptoBulkEntries r
def uptoBulkEntry {H : Type} : Lit × DataW H → Nat
  | (.string bytes, d) => bytes.length + uptoBulk d + 1
  | (_, d) => uptoBulk d + 1
 end
def uptoSmall : (H : Type) → List (DataW H) → Bool := fun _ ds => decide (uptoBulkAll ds ≤ 1048576)
def OpenSpec.upto (s : _root_.Go.ChangeSpec) : _root_.Go.OpenSpec := { _root_.Go.OpenSpec.ofChange s with cond := some uptoSmall }

/-- 'trucelaw02.MulDivs', WHERE WHAT IT READS IS OF BULK AT MOST 1048576: true; the input reads as it did. -/
def mulDivsUptoRow : OpenClaim := { program := "ytillbhdcnhcbhaa", sum := "cc2c381b6b4a6b5a97c37d6e78e74685aa3048b1e5aa967bd4adec20156df968", func := "truce/trucelaw02.MulDivs", spec := "mulDivs", apart := false, narrowed := true }
def MulDivsUptoSaid : Prop := mulDivsUptoRow.holds Try.pinned (OpenSpec.upto mulDivsSpec)

/-- 'trucelaw03.ModuTells', WHERE WHAT IT READS IS OF BULK AT MOST 1048576: true; the input reads as it did. -/
def moduTellsUptoRow : OpenClaim := { program := "ytillbhdcnhcbhaa", sum := "cc2c381b6b4a6b5a97c37d6e78e74685aa3048b1e5aa967bd4adec20156df968", func := "truce/trucelaw03.ModuTells", spec := "moduTells", inPlace := ["math/bits.Add64", "math/bits.Sub64"], unfollowed := true, recurses := true, apart := false, narrowed := true }
def ModuTellsUptoSaid : Prop := moduTellsUptoRow.holds Try.pinned (OpenSpec.upto moduTellsSpec)

/-- 'trucelaw03.ModuInverse', WHERE WHAT IT READS IS OF BULK AT MOST 1048576: true; the input reads as it did. -/
def moduInverseUptoRow : OpenClaim := { program := "ytillbhdcnhcbhaa", sum := "cc2c381b6b4a6b5a97c37d6e78e74685aa3048b1e5aa967bd4adec20156df968", func := "truce/trucelaw03.ModuInverse", spec := "moduInverse", inPlace := ["math/bits.Add64", "math/bits.Sub64"], unfollowed := true, recurses := true, apart := false, narrowed := true }
def ModuInverseUptoSaid : Prop := moduInverseUptoRow.holds Try.pinned (OpenSpec.upto moduInverseSpec)

/-- 'trucelaw03.ModuPowers', WHERE WHAT IT READS IS OF BULK AT MOST 1048576: true; the input reads as it did. -/
def moduPowersUptoRow : OpenClaim := { program := "ytillbhdcnhcbhaa", sum := "cc2c381b6b4a6b5a97c37d6e78e74685aa3048b1e5aa967bd4adec20156df968", func := "truce/trucelaw03.ModuPowers", spec := "moduPowers", inPlace := ["math/bits.Add64", "math/bits.Sub64"], unfollowed := true, recurses := true, apart := false, narrowed := true }
def ModuPowersUptoSaid : Prop := moduPowersUptoRow.holds Try.pinned (OpenSpec.upto moduPowersSpec)

/-- 'trucelaw03.ModuSpreads', WHERE WHAT IT READS IS OF BULK AT MOST 1048576: true; the input reads as it did. -/
def moduSpreadsUptoRow : OpenClaim := { program := "ytillbhdcnhcbhaa", sum := "cc2c381b6b4a6b5a97c37d6e78e74685aa3048b1e5aa967bd4adec20156df968", func := "truce/trucelaw03.ModuSpreads", spec := "moduSpreads", inPlace := ["math/bits.Add64", "math/bits.Sub64"], unfollowed := true, recurses := true, apart := false, narrowed := true }
def ModuSpreadsUptoSaid : Prop := moduSpreadsUptoRow.holds Try.pinned (OpenSpec.upto moduSpreadsSpec)

/-- 'trucelaw03.ModuTwice', WHERE WHAT IT READS IS OF BULK AT MOST 1048576: true; the input reads as it did. -/
def moduTwiceUptoRow : OpenClaim := { program := "ytillbhdcnhcbhaa", sum := "cc2c381b6b4a6b5a97c37d6e78e74685aa3048b1e5aa967bd4adec20156df968", func := "truce/trucelaw03.ModuTwice", spec := "moduTwice", inPlace := ["math/bits.Add64", "math/bits.Sub64"], unfollowed := true, recurses := true, apart := false, narrowed := true }
def ModuTwiceUptoSaid : Prop := moduTwiceUptoRow.holds Try.pinned (OpenSpec.upto moduTwiceSpec)

end Rows
end Go.Proofs.Ytillbhdcnhcbhaa
