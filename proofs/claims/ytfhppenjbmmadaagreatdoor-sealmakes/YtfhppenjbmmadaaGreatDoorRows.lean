/-
  NARROWER THAN 'FOR EVERY INPUT', by the rows' own cells (each row's printed sentence says how): SealMakes: laid · SealTells: laid · SealBack: laid · SealOther: laid · SealWrites: laid.
  DERIVED. THE GIVEN ROWS OF THIS SEAT. 5 by the template 'for every input the law returns true; each argument reads behind the call as it read before'; 0 by the template 'total and deterministic' (their statements: YtfhppenjbmmadaaGreatDoorTotals.lean).
  GIVEN WITH THE SEED: the statements are not yours to turn. If you find one false, say at which input.
  Laid BY PROGRAM, IN A SANDBOX (cutbox-rows.mjs): the forced cells as the released guide's own fill.sh prints them over the translation 5e6435cc035109be… (all of the seat's roots in one cut). By AI agents, Wed Nov 11 2026. No macro, syntax, notation, axiom, sorry.
-/
import Derived.Test.YtfhppenjbmmadaaGreatDoorChecked
import GoSem.Claim
import GoSem.ClaimJoined
import GoSem.ClaimMapViews
import Derived.JoinedTies
import Derived.KernelRfl
namespace Go.Proofs.YtfhppenjbmmadaaGreatDoor
/- THE CELL 'sum', in the pinned program and in every row, IS THE sha256 OF THE DUMP (.gsa) THAT YtfhppenjbmmadaaGreatDoorProg.lean LOADS. Nothing in Lean hashes anything: it is a label: what it is worth is what the hold of that sum in a sandbox is worth. -/
noncomputable def Tryz.pinned : Pinned := { name := "ytfhppenjbmmadaagreatdoor", sum := "5e6435cc035109be2974a89e3180ba46892dfd6ce2c47a2b89dcc21ee9ace48c", checked := Tryz.checked }
namespace Rows
def none {H : Type} : Left H := { results := [], args := [] }

/- WHAT THE LISTED PACKAGE-LEVEL VARIABLES READ AS WHEN THE CALL BEGINS. Each datum BY PROGRAM (the guide's laid-datum.mjs) off the statement by which the dump's own 'gosem.cut.vars' lays the variable. In a bare row this is a premise. The card (YtfhppenjbmmadaaGreatDoorCards.lean) ties it to the program's text. -/
def laid_truce_hash_turns {H : Type} : DataW H := .agg [.lit (.int .i64 0), .lit (.int .i64 1), .lit (.int .i64 62), .lit (.int .i64 28), .lit (.int .i64 27), .lit (.int .i64 36), .lit (.int .i64 44), .lit (.int .i64 6), .lit (.int .i64 55), .lit (.int .i64 20), .lit (.int .i64 3), .lit (.int .i64 10), .lit (.int .i64 43), .lit (.int .i64 25), .lit (.int .i64 39), .lit (.int .i64 41), .lit (.int .i64 45), .lit (.int .i64 15), .lit (.int .i64 21), .lit (.int .i64 8), .lit (.int .i64 18), .lit (.int .i64 2), .lit (.int .i64 61), .lit (.int .i64 56), .lit (.int .i64 14)]
def laid_truce_hash_places {H : Type} : DataW H := .agg [.lit (.int .i64 0), .lit (.int .i64 10), .lit (.int .i64 20), .lit (.int .i64 5), .lit (.int .i64 15), .lit (.int .i64 16), .lit (.int .i64 1), .lit (.int .i64 11), .lit (.int .i64 21), .lit (.int .i64 6), .lit (.int .i64 7), .lit (.int .i64 17), .lit (.int .i64 2), .lit (.int .i64 12), .lit (.int .i64 22), .lit (.int .i64 23), .lit (.int .i64 8), .lit (.int .i64 18), .lit (.int .i64 3), .lit (.int .i64 13), .lit (.int .i64 14), .lit (.int .i64 24), .lit (.int .i64 9), .lit (.int .i64 19), .lit (.int .i64 4)]
def laid_truce_hash_marks {H : Type} : DataW H := .agg [.lit (.int .u64 1), .lit (.int .u64 32898), .lit (.int .u64 9223372036854808714), .lit (.int .u64 9223372039002292224), .lit (.int .u64 32907), .lit (.int .u64 2147483649), .lit (.int .u64 9223372039002292353), .lit (.int .u64 9223372036854808585), .lit (.int .u64 138), .lit (.int .u64 136), .lit (.int .u64 2147516425), .lit (.int .u64 2147483658), .lit (.int .u64 2147516555), .lit (.int .u64 9223372036854775947), .lit (.int .u64 9223372036854808713), .lit (.int .u64 9223372036854808579), .lit (.int .u64 9223372036854808578), .lit (.int .u64 9223372036854775936), .lit (.int .u64 32778), .lit (.int .u64 9223372039002259466), .lit (.int .u64 9223372039002292353), .lit (.int .u64 9223372036854808704), .lit (.int .u64 2147483649), .lit (.int .u64 9223372039002292232)]

/-- 'trucelaw08.SealMakes': WHATEVER THE INPUT: true; the input reads as it did. -/
def sealMakesSpec : ChangeSpec := { name := "sealMakes", fn := fun _ => fun
  | [d1, d2, d3] => { results := [.lit (.bool true)], args := [d1, d2, d3] }
  | _ => none }
def sealMakesRow : OpenClaim := { program := "ytfhppenjbmmadaagreatdoor", sum := "5e6435cc035109be2974a89e3180ba46892dfd6ce2c47a2b89dcc21ee9ace48c", func := "truce/trucelaw08.SealMakes", spec := "sealMakes", inPlace := ["math/bits.Add64", "math/bits.Sub64"], unfollowed := true, recurses := true, named := ["truce/hash.marks", "truce/hash.places", "truce/hash.turns"], apart := false, laid := [("truce/hash.turns", laid_truce_hash_turns), ("truce/hash.places", laid_truce_hash_places), ("truce/hash.marks", laid_truce_hash_marks)] }
def SealMakesSaid : Prop := sealMakesRow.holds Tryz.pinned (OpenSpec.ofChange sealMakesSpec)

/-- ITS FALSE NEIGHBOUR: 'it returns false'. Refute it at one input. -/
def sealMakesWrong : ChangeSpec := { name := "sealMakes", fn := fun _ => fun
  | [d1, d2, d3] => { results := [.lit (.bool false)], args := [d1, d2, d3] }
  | _ => none }
def SealMakesWrongFalsely : Prop := sealMakesRow.holds Tryz.pinned (OpenSpec.ofChange sealMakesWrong)

/-- 'trucelaw08.SealTells': WHATEVER THE INPUT: true; the input reads as it did. -/
def sealTellsSpec : ChangeSpec := { name := "sealTells", fn := fun _ => fun
  | [d1, d2, d3] => { results := [.lit (.bool true)], args := [d1, d2, d3] }
  | _ => none }
def sealTellsRow : OpenClaim := { program := "ytfhppenjbmmadaagreatdoor", sum := "5e6435cc035109be2974a89e3180ba46892dfd6ce2c47a2b89dcc21ee9ace48c", func := "truce/trucelaw08.SealTells", spec := "sealTells", inPlace := ["math/bits.Add64", "math/bits.Sub64"], unfollowed := true, recurses := true, named := ["truce/hash.marks", "truce/hash.places", "truce/hash.turns"], apart := false, laid := [("truce/hash.turns", laid_truce_hash_turns), ("truce/hash.places", laid_truce_hash_places), ("truce/hash.marks", laid_truce_hash_marks)] }
def SealTellsSaid : Prop := sealTellsRow.holds Tryz.pinned (OpenSpec.ofChange sealTellsSpec)

/-- ITS FALSE NEIGHBOUR: 'it returns false'. Refute it at one input. -/
def sealTellsWrong : ChangeSpec := { name := "sealTells", fn := fun _ => fun
  | [d1, d2, d3] => { results := [.lit (.bool false)], args := [d1, d2, d3] }
  | _ => none }
def SealTellsWrongFalsely : Prop := sealTellsRow.holds Tryz.pinned (OpenSpec.ofChange sealTellsWrong)

/-- 'trucelaw08.SealBack': WHATEVER THE INPUT: true; the input reads as it did. -/
def sealBackSpec : ChangeSpec := { name := "sealBack", fn := fun _ => fun
  | [d1, d2, d3] => { results := [.lit (.bool true)], args := [d1, d2, d3] }
  | _ => none }
def sealBackRow : OpenClaim := { program := "ytfhppenjbmmadaagreatdoor", sum := "5e6435cc035109be2974a89e3180ba46892dfd6ce2c47a2b89dcc21ee9ace48c", func := "truce/trucelaw08.SealBack", spec := "sealBack", inPlace := ["math/bits.Add64", "math/bits.Sub64"], unfollowed := true, recurses := true, named := ["truce/hash.marks", "truce/hash.places", "truce/hash.turns"], apart := false, laid := [("truce/hash.turns", laid_truce_hash_turns), ("truce/hash.places", laid_truce_hash_places), ("truce/hash.marks", laid_truce_hash_marks)] }
def SealBackSaid : Prop := sealBackRow.holds Tryz.pinned (OpenSpec.ofChange sealBackSpec)

/-- ITS FALSE NEIGHBOUR: 'it returns false'. Refute it at one input. -/
def sealBackWrong : ChangeSpec := { name := "sealBack", fn := fun _ => fun
  | [d1, d2, d3] => { results := [.lit (.bool false)], args := [d1, d2, d3] }
  | _ => none }
def SealBackWrongFalsely : Prop := sealBackRow.holds Tryz.pinned (OpenSpec.ofChange sealBackWrong)

/-- 'trucelaw08.SealOther': WHATEVER THE INPUT: true; the input reads as it did. -/
def sealOtherSpec : ChangeSpec := { name := "sealOther", fn := fun _ => fun
  | [d1, d2, d3] => { results := [.lit (.bool true)], args := [d1, d2, d3] }
  | _ => none }
def sealOtherRow : OpenClaim := { program := "ytfhppenjbmmadaagreatdoor", sum := "5e6435cc035109be2974a89e3180ba46892dfd6ce2c47a2b89dcc21ee9ace48c", func := "truce/trucelaw08.SealOther", spec := "sealOther", inPlace := ["math/bits.Add64", "math/bits.Sub64"], unfollowed := true, recurses := true, named := ["truce/hash.marks", "truce/hash.places", "truce/hash.turns"], apart := false, laid := [("truce/hash.turns", laid_truce_hash_turns), ("truce/hash.places", laid_truce_hash_places), ("truce/hash.marks", laid_truce_hash_marks)] }
def SealOtherSaid : Prop := sealOtherRow.holds Tryz.pinned (OpenSpec.ofChange sealOtherSpec)

/-- ITS FALSE NEIGHBOUR: 'it returns false'. Refute it at one input. -/
def sealOtherWrong : ChangeSpec := { name := "sealOther", fn := fun _ => fun
  | [d1, d2, d3] => { results := [.lit (.bool false)], args := [d1, d2, d3] }
  | _ => none }
def SealOtherWrongFalsely : Prop := sealOtherRow.holds Tryz.pinned (OpenSpec.ofChange sealOtherWrong)

/-- 'trucelaw08.SealWrites': WHATEVER THE INPUT: true; the input reads as it did. -/
def sealWritesSpec : ChangeSpec := { name := "sealWrites", fn := fun _ => fun
  | [d1, d2] => { results := [.lit (.bool true)], args := [d1, d2] }
  | _ => none }
def sealWritesRow : OpenClaim := { program := "ytfhppenjbmmadaagreatdoor", sum := "5e6435cc035109be2974a89e3180ba46892dfd6ce2c47a2b89dcc21ee9ace48c", func := "truce/trucelaw08.SealWrites", spec := "sealWrites", inPlace := ["math/bits.Add64", "math/bits.Sub64"], unfollowed := true, recurses := true, named := ["truce/hash.marks", "truce/hash.places", "truce/hash.turns"], apart := false, laid := [("truce/hash.turns", laid_truce_hash_turns), ("truce/hash.places", laid_truce_hash_places), ("truce/hash.marks", laid_truce_hash_marks)] }
def SealWritesSaid : Prop := sealWritesRow.holds Tryz.pinned (OpenSpec.ofChange sealWritesSpec)

/-- ITS FALSE NEIGHBOUR: 'it returns false'. Refute it at one input. -/
def sealWritesWrong : ChangeSpec := { name := "sealWrites", fn := fun _ => fun
  | [d1, d2] => { results := [.lit (.bool false)], args := [d1, d2] }
  | _ => none }
def SealWritesWrongFalsely : Prop := sealWritesRow.holds Tryz.pinned (OpenSpec.ofChange sealWritesWrong)

/- THE SECOND FORM. 'bulk': how many values and letters a reading holds, each counted each time it is reached (what is shared counts as often as it is met; a slice's spare places count too). A statement '..UptoSaid' is the law's where the arguments, and the package variables that the reading takes, are together of bulk at most 1048576: NARROWER than '..Said'. Prove '..Said' where nothing that the law and all that it calls make is longer than what came in: it says more and counts as full. Else prove '..UptoSaid'. A law counts once. -/
mutual
def uptoBulk {H : Type} : DataW H → Nat
  | .lit (.string bytes) => bytes.length + 1
  | .lit _ => 1
  | .nil => 1
  | .ptr d => uptoBulk d + 1
  | .slice elems spare => uptoBulkAll elems + uptoBulkAll spare + 1
  | .agg parts => uptoBulkAll parts + 1
  | .iface _ d => uptoBulk d + 1
  | .map entries => uptoBulkEntries entries + 1
  | .held _ => 1
def uptoBulkAll {H : Type} : List (DataW H) → Nat
  | [] => 0
  | d :: r => uptoBulk d + uptoBulkAll r
def uptoBulkEntries {H : Type} : List (Lit × DataW H) → Nat
  | [] => 0
  | x :: r => uptoBulkEntry x + uptoBulkEntries r
def uptoBulkEntry {H : Type} : Lit × DataW H → Nat
  | (.string bytes, d) => bytes.length + uptoBulk d + 1
  | (_, d) => uptoBulk d + 1
 end
def uptoSmall : (H : Type) → List (DataW H) → Bool := fun _ ds => decide (uptoBulkAll ds ≤ 1048576)
def OpenSpec.upto (s : _root_.Go.ChangeSpec) : _root_.Go.OpenSpec := { _root_.Go.OpenSpec.ofChange s with cond := some uptoSmall }

/-- 'trucelaw08.SealMakes', WHERE WHAT IT READS IS OF BULK AT MOST 1048576: true; the input reads as it did. -/
def sealMakesUptoRow : OpenClaim := { program := "ytfhppenjbmmadaagreatdoor", sum := "5e6435cc035109be2974a89e3180ba46892dfd6ce2c47a2b89dcc21ee9ace48c", func := "truce/trucelaw08.SealMakes", spec := "sealMakes", inPlace := ["math/bits.Add64", "math/bits.Sub64"], unfollowed := true, recurses := true, named := ["truce/hash.marks", "truce/hash.places", "truce/hash.turns"], apart := false, laid := [("truce/hash.turns", laid_truce_hash_turns), ("truce/hash.places", laid_truce_hash_places), ("truce/hash.marks", laid_truce_hash_marks)], narrowed := true }
def SealMakesUptoSaid : Prop := sealMakesUptoRow.holds Tryz.pinned (OpenSpec.upto sealMakesSpec)

/-- 'trucelaw08.SealTells', WHERE WHAT IT READS IS OF BULK AT MOST 1048576: true; the input reads as it did. -/
def sealTellsUptoRow : OpenClaim := { program := "ytfhppenjbmmadaagreatdoor", sum := "5e6435cc035109be2974a89e3180ba46892dfd6ce2c47a2b89dcc21ee9ace48c", func := "truce/trucelaw08.SealTells", spec := "sealTells", inPlace := ["math/bits.Add64", "math/bits.Sub64"], unfollowed := true, recurses := true, named := ["truce/hash.marks", "truce/hash.places", "truce/hash.turns"], apart := false, laid := [("truce/hash.turns", laid_truce_hash_turns), ("truce/hash.places", laid_truce_hash_places), ("truce/hash.marks", laid_truce_hash_marks)], narrowed := true }
def SealTellsUptoSaid : Prop := sealTellsUptoRow.holds Tryz.pinned (OpenSpec.upto sealTellsSpec)

/-- 'trucelaw08.SealBack', WHERE WHAT IT READS IS OF BULK AT MOST 1048576: true; the input reads as it did. -/
def sealBackUptoRow : OpenClaim := { program := "ytfhppenjbmmadaagreatdoor", sum := "5e6435cc035109be2974a89e3180ba46892dfd6ce2c47a2b89dcc21ee9ace48c", func := "truce/trucelaw08.SealBack", spec := "sealBack", inPlace := ["math/bits.Add64", "math/bits.Sub64"], unfollowed := true, recurses := true, named := ["truce/hash.marks", "truce/hash.places", "truce/hash.turns"], apart := false, laid := [("truce/hash.turns", laid_truce_hash_turns), ("truce/hash.places", laid_truce_hash_places), ("truce/hash.marks", laid_truce_hash_marks)], narrowed := true }
def SealBackUptoSaid : Prop := sealBackUptoRow.holds Tryz.pinned (OpenSpec.upto sealBackSpec)

/-- 'trucelaw08.SealOther', WHERE WHAT IT READS IS OF BULK AT MOST 1048576: true; the input reads as it did. -/
def sealOtherUptoRow : OpenClaim := { program := "ytfhppenjbmmadaagreatdoor", sum := "5e6435cc035109be2974a89e3180ba46892dfd6ce2c47a2b89dcc21ee9ace48c", func := "truce/trucelaw08.SealOther", spec := "sealOther", inPlace := ["math/bits.Add64", "math/bits.Sub64"], unfollowed := true, recurses := true, named := ["truce/hash.marks", "truce/hash.places", "truce/hash.turns"], apart := false, laid := [("truce/hash.turns", laid_truce_hash_turns), ("truce/hash.places", laid_truce_hash_places), ("truce/hash.marks", laid_truce_hash_marks)], narrowed := true }
def SealOtherUptoSaid : Prop := sealOtherUptoRow.holds Tryz.pinned (OpenSpec.upto sealOtherSpec)

/-- 'trucelaw08.SealWrites', WHERE WHAT IT READS IS OF BULK AT MOST 1048576: true; the input reads as it did. -/
def sealWritesUptoRow : OpenClaim := { program := "ytfhppenjbmmadaagreatdoor", sum := "5e6435cc035109be2974a89e3180ba46892dfd6ce2c47a2b89dcc21ee9ace48c", func := "truce/trucelaw08.SealWrites", spec := "sealWrites", inPlace := ["math/bits.Add64", "math/bits.Sub64"], unfollowed := true, recurses := true, named := ["truce/hash.marks", "truce/hash.places", "truce/hash.turns"], apart := false, laid := [("truce/hash.turns", laid_truce_hash_turns), ("truce/hash.places", laid_truce_hash_places), ("truce/hash.marks", laid_truce_hash_marks)], narrowed := true }
def SealWritesUptoSaid : Prop := sealWritesUptoRow.holds Tryz.pinned (OpenSpec.upto sealWritesSpec)

end Rows
end Go.Proofs.YtfhppenjbmmadaaGreatDoor
