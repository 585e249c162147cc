/-
  NARROWER THAN 'FOR EVERY INPUT', by the rows' own cells (each row's printed sentence says how): HashPermutes: laid · HashSums: laid · HashUnlike: laid · HashSize: laid · HashBlocks: laid.
  DERIVED. THE GIVEN ROWS OF THIS SEAT. 5 by the template 'for every input the law returns true; each argument reads behind the call as it read before'; 0 by the template 'total and deterministic' (their statements: YthpjdnapoafkgaaDoorTotals.lean).
  GIVEN WITH THE SEED: the statements are not yours to turn. If you find one false, say at which input.
  Laid BY PROGRAM, IN A SANDBOX (cutbox-rows.mjs): the forced cells as the released guide's own fill.sh prints them over the translation 286e05c61f390667… (all of the seat's roots in one cut). By AI agents, Wed Nov 11 2026. No macro, syntax, notation, axiom, sorry.
-/
import Derived.Test.YthpjdnapoafkgaaDoorChecked
import GoSem.Claim
import GoSem.ClaimJoined
import GoSem.ClaimMapViews
import Derived.JoinedTies
import Derived.KernelRfl
namespace Go.Proofs.YthpjdnapoafkgaaDoor
/- THE CELL 'sum', in the pinned program and in every row, IS THE sha256 OF THE DUMP (.gsa) THAT YthpjdnapoafkgaaDoorProg.lean LOADS. Nothing in Lean hashes anything: it is a label: what it is worth is what the hold of that sum in a sandbox is worth. -/
noncomputable def Tryd.pinned : Pinned := { name := "ythpjdnapoafkgaadoor", sum := "286e05c61f3906678531d608f78152899afd5e05c9499e93fdb1d419d820fc98", checked := Tryd.checked }
namespace Rows
def none {H : Type} : Left H := { results := [], args := [] }

/- WHAT THE LISTED PACKAGE-LEVEL VARIABLES READ AS WHEN THE CALL BEGINS. Each datum BY PROGRAM (the guide's laid-datum.mjs) off the statement by which the dump's own 'gosem.cut.vars' lays the variable. In a bare row this is a premise. The card (YthpjdnapoafkgaaDoorCards.lean) ties it to the program's text. -/
def laid_truce_hash_turns {H : Type} : DataW H := .agg [.lit (.int .i64 0), .lit (.int .i64 1), .lit (.int .i64 62), .lit (.int .i64 28), .lit (.int .i64 27), .lit (.int .i64 36), .lit (.int .i64 44), .lit (.int .i64 6), .lit (.int .i64 55), .lit (.int .i64 20), .lit (.int .i64 3), .lit (.int .i64 10), .lit (.int .i64 43), .lit (.int .i64 25), .lit (.int .i64 39), .lit (.int .i64 41), .lit (.int .i64 45), .lit (.int .i64 15), .lit (.int .i64 21), .lit (.int .i64 8), .lit (.int .i64 18), .lit (.int .i64 2), .lit (.int .i64 61), .lit (.int .i64 56), .lit (.int .i64 14)]
def laid_truce_hash_places {H : Type} : DataW H := .agg [.lit (.int .i64 0), .lit (.int .i64 10), .lit (.int .i64 20), .lit (.int .i64 5), .lit (.int .i64 15), .lit (.int .i64 16), .lit (.int .i64 1), .lit (.int .i64 11), .lit (.int .i64 21), .lit (.int .i64 6), .lit (.int .i64 7), .lit (.int .i64 17), .lit (.int .i64 2), .lit (.int .i64 12), .lit (.int .i64 22), .lit (.int .i64 23), .lit (.int .i64 8), .lit (.int .i64 18), .lit (.int .i64 3), .lit (.int .i64 13), .lit (.int .i64 14), .lit (.int .i64 24), .lit (.int .i64 9), .lit (.int .i64 19), .lit (.int .i64 4)]
def laid_truce_hash_marks {H : Type} : DataW H := .agg [.lit (.int .u64 1), .lit (.int .u64 32898), .lit (.int .u64 9223372036854808714), .lit (.int .u64 9223372039002292224), .lit (.int .u64 32907), .lit (.int .u64 2147483649), .lit (.int .u64 9223372039002292353), .lit (.int .u64 9223372036854808585), .lit (.int .u64 138), .lit (.int .u64 136), .lit (.int .u64 2147516425), .lit (.int .u64 2147483658), .lit (.int .u64 2147516555), .lit (.int .u64 9223372036854775947), .lit (.int .u64 9223372036854808713), .lit (.int .u64 9223372036854808579), .lit (.int .u64 9223372036854808578), .lit (.int .u64 9223372036854775936), .lit (.int .u64 32778), .lit (.int .u64 9223372039002259466), .lit (.int .u64 9223372039002292353), .lit (.int .u64 9223372036854808704), .lit (.int .u64 2147483649), .lit (.int .u64 9223372039002292232)]

/-- 'trucelaw05.HashPermutes': WHATEVER THE INPUT: true; the input reads as it did. -/
def hashPermutesSpec : ChangeSpec := { name := "hashPermutes", fn := fun _ => fun
  | [d] => { results := [.lit (.bool true)], args := [d] }
  | _ => none }
def hashPermutesRow : OpenClaim := { program := "ythpjdnapoafkgaadoor", sum := "286e05c61f3906678531d608f78152899afd5e05c9499e93fdb1d419d820fc98", func := "truce/trucelaw05.HashPermutes", spec := "hashPermutes", unfollowed := true, recurses := true, named := ["truce/hash.marks", "truce/hash.places", "truce/hash.turns"], apart := false, laid := [("truce/hash.turns", laid_truce_hash_turns), ("truce/hash.places", laid_truce_hash_places), ("truce/hash.marks", laid_truce_hash_marks)] }
def HashPermutesSaid : Prop := hashPermutesRow.holds Tryd.pinned (OpenSpec.ofChange hashPermutesSpec)

/-- ITS FALSE NEIGHBOUR: 'it returns false'. Refute it at one input. -/
def hashPermutesWrong : ChangeSpec := { name := "hashPermutes", fn := fun _ => fun
  | [d] => { results := [.lit (.bool false)], args := [d] }
  | _ => none }
def HashPermutesWrongFalsely : Prop := hashPermutesRow.holds Tryd.pinned (OpenSpec.ofChange hashPermutesWrong)

/-- 'trucelaw05.HashSums': WHATEVER THE INPUT: true; the input reads as it did. -/
def hashSumsSpec : ChangeSpec := { name := "hashSums", fn := fun _ => fun
  | [d] => { results := [.lit (.bool true)], args := [d] }
  | _ => none }
def hashSumsRow : OpenClaim := { program := "ythpjdnapoafkgaadoor", sum := "286e05c61f3906678531d608f78152899afd5e05c9499e93fdb1d419d820fc98", func := "truce/trucelaw05.HashSums", spec := "hashSums", unfollowed := true, recurses := true, named := ["truce/hash.marks", "truce/hash.places", "truce/hash.turns"], apart := false, laid := [("truce/hash.turns", laid_truce_hash_turns), ("truce/hash.places", laid_truce_hash_places), ("truce/hash.marks", laid_truce_hash_marks)] }
def HashSumsSaid : Prop := hashSumsRow.holds Tryd.pinned (OpenSpec.ofChange hashSumsSpec)

/-- ITS FALSE NEIGHBOUR: 'it returns false'. Refute it at one input. -/
def hashSumsWrong : ChangeSpec := { name := "hashSums", fn := fun _ => fun
  | [d] => { results := [.lit (.bool false)], args := [d] }
  | _ => none }
def HashSumsWrongFalsely : Prop := hashSumsRow.holds Tryd.pinned (OpenSpec.ofChange hashSumsWrong)

/-- 'trucelaw05.HashUnlike': WHATEVER THE INPUT: true; the input reads as it did. -/
def hashUnlikeSpec : ChangeSpec := { name := "hashUnlike", fn := fun _ => fun
  | [d1, d2, d3] => { results := [.lit (.bool true)], args := [d1, d2, d3] }
  | _ => none }
def hashUnlikeRow : OpenClaim := { program := "ythpjdnapoafkgaadoor", sum := "286e05c61f3906678531d608f78152899afd5e05c9499e93fdb1d419d820fc98", func := "truce/trucelaw05.HashUnlike", spec := "hashUnlike", unfollowed := true, recurses := true, named := ["truce/hash.marks", "truce/hash.places", "truce/hash.turns"], apart := false, laid := [("truce/hash.turns", laid_truce_hash_turns), ("truce/hash.places", laid_truce_hash_places), ("truce/hash.marks", laid_truce_hash_marks)] }
def HashUnlikeSaid : Prop := hashUnlikeRow.holds Tryd.pinned (OpenSpec.ofChange hashUnlikeSpec)

/-- ITS FALSE NEIGHBOUR: 'it returns false'. Refute it at one input. -/
def hashUnlikeWrong : ChangeSpec := { name := "hashUnlike", fn := fun _ => fun
  | [d1, d2, d3] => { results := [.lit (.bool false)], args := [d1, d2, d3] }
  | _ => none }
def HashUnlikeWrongFalsely : Prop := hashUnlikeRow.holds Tryd.pinned (OpenSpec.ofChange hashUnlikeWrong)

/-- 'trucelaw05.HashSize': WHATEVER THE INPUT: true; the input reads as it did. -/
def hashSizeSpec : ChangeSpec := { name := "hashSize", fn := fun _ => fun
  | [d] => { results := [.lit (.bool true)], args := [d] }
  | _ => none }
def hashSizeRow : OpenClaim := { program := "ythpjdnapoafkgaadoor", sum := "286e05c61f3906678531d608f78152899afd5e05c9499e93fdb1d419d820fc98", func := "truce/trucelaw05.HashSize", spec := "hashSize", unfollowed := true, recurses := true, named := ["truce/hash.marks", "truce/hash.places", "truce/hash.turns"], apart := false, laid := [("truce/hash.turns", laid_truce_hash_turns), ("truce/hash.places", laid_truce_hash_places), ("truce/hash.marks", laid_truce_hash_marks)] }
def HashSizeSaid : Prop := hashSizeRow.holds Tryd.pinned (OpenSpec.ofChange hashSizeSpec)

/-- ITS FALSE NEIGHBOUR: 'it returns false'. Refute it at one input. -/
def hashSizeWrong : ChangeSpec := { name := "hashSize", fn := fun _ => fun
  | [d] => { results := [.lit (.bool false)], args := [d] }
  | _ => none }
def HashSizeWrongFalsely : Prop := hashSizeRow.holds Tryd.pinned (OpenSpec.ofChange hashSizeWrong)

/-- 'trucelaw05.HashBlocks': WHATEVER THE INPUT: true; the input reads as it did. -/
def hashBlocksSpec : ChangeSpec := { name := "hashBlocks", fn := fun _ => fun
  | [d] => { results := [.lit (.bool true)], args := [d] }
  | _ => none }
def hashBlocksRow : OpenClaim := { program := "ythpjdnapoafkgaadoor", sum := "286e05c61f3906678531d608f78152899afd5e05c9499e93fdb1d419d820fc98", func := "truce/trucelaw05.HashBlocks", spec := "hashBlocks", unfollowed := true, recurses := true, named := ["truce/hash.marks", "truce/hash.places", "truce/hash.turns"], apart := false, laid := [("truce/hash.turns", laid_truce_hash_turns), ("truce/hash.places", laid_truce_hash_places), ("truce/hash.marks", laid_truce_hash_marks)] }
def HashBlocksSaid : Prop := hashBlocksRow.holds Tryd.pinned (OpenSpec.ofChange hashBlocksSpec)

/-- ITS FALSE NEIGHBOUR: 'it returns false'. Refute it at one input. -/
def hashBlocksWrong : ChangeSpec := { name := "hashBlocks", fn := fun _ => fun
  | [d] => { results := [.lit (.bool false)], args := [d] }
  | _ => none }
def HashBlocksWrongFalsely : Prop := hashBlocksRow.holds Tryd.pinned (OpenSpec.ofChange hashBlocksWrong)

/- THE SECOND FORM. 'bulk': how many values and letters a reading holds, each counted each time it is reached (what is shared counts as often as it is met; a slice's spare places count too). A statement '..UptoSaid' is the law's where the arguments, and the package variables that the reading takes, are together of bulk at most 1048576: NARROWER than '..Said'. Prove '..Said' where nothing that the law and all that it calls make is longer than what came in: it says more and counts as full. Else prove '..UptoSaid'. A law counts once. -/
mutual
def uptoBulk {H : Type} : DataW H → Nat
  | .lit (.string bytes) => bytes.length + 1
  | .lit _ => 1
  | .nil => 1
  | .ptr d => uptoBulk d + 1
  | .slice elems spare => uptoBulkAll elems + uptoBulkAll spare + 1
  | .agg parts => uptoBulkAll parts + 1
  | .iface _ d => uptoBulk d + 1
  | .map entries => uptoBulkEntries entries + 1
  | .held _ => 1
def uptoBulkAll {H : Type} : List (DataW H) → Nat
  | [] => 0
  | d :: r => uptoBulk d + uptoBulkAll r
def uptoBulkEntries {H : Type} : List (Lit × DataW H) → Nat
  | [] => 0
  | x :: r => uptoBulkEntry x + uptoBulkEntries r
def uptoBulkEntry {H : Type} : Lit × DataW H → Nat
  | (.string bytes, d) => bytes.length + uptoBulk d + 1
  | (_, d) => uptoBulk d + 1
 end
def uptoSmall : (H : Type) → List (DataW H) → Bool := fun _ ds => decide (uptoBulkAll ds ≤ 1048576)
def OpenSpec.upto (s : _root_.Go.ChangeSpec) : _root_.Go.OpenSpec := { _root_.Go.OpenSpec.ofChange s with cond := some uptoSmall }

/-- 'trucelaw05.HashPermutes', WHERE WHAT IT READS IS OF BULK AT MOST 1048576: true; the input reads as it did. -/
def hashPermutesUptoRow : OpenClaim := { program := "ythpjdnapoafkgaadoor", sum := "286e05c61f3906678531d608f78152899afd5e05c9499e93fdb1d419d820fc98", func := "truce/trucelaw05.HashPermutes", spec := "hashPermutes", unfollowed := true, recurses := true, named := ["truce/hash.marks", "truce/hash.places", "truce/hash.turns"], apart := false, laid := [("truce/hash.turns", laid_truce_hash_turns), ("truce/hash.places", laid_truce_hash_places), ("truce/hash.marks", laid_truce_hash_marks)], narrowed := true }
def HashPermutesUptoSaid : Prop := hashPermutesUptoRow.holds Tryd.pinned (OpenSpec.upto hashPermutesSpec)

/-- 'trucelaw05.HashSums', WHERE WHAT IT READS IS OF BULK AT MOST 1048576: true; the input reads as it did. -/
def hashSumsUptoRow : OpenClaim := { program := "ythpjdnapoafkgaadoor", sum := "286e05c61f3906678531d608f78152899afd5e05c9499e93fdb1d419d820fc98", func := "truce/trucelaw05.HashSums", spec := "hashSums", unfollowed := true, recurses := true, named := ["truce/hash.marks", "truce/hash.places", "truce/hash.turns"], apart := false, laid := [("truce/hash.turns", laid_truce_hash_turns), ("truce/hash.places", laid_truce_hash_places), ("truce/hash.marks", laid_truce_hash_marks)], narrowed := true }
def HashSumsUptoSaid : Prop := hashSumsUptoRow.holds Tryd.pinned (OpenSpec.upto hashSumsSpec)

/-- 'trucelaw05.HashUnlike', WHERE WHAT IT READS IS OF BULK AT MOST 1048576: true; the input reads as it did. -/
def hashUnlikeUptoRow : OpenClaim := { program := "ythpjdnapoafkgaadoor", sum := "286e05c61f3906678531d608f78152899afd5e05c9499e93fdb1d419d820fc98", func := "truce/trucelaw05.HashUnlike", spec := "hashUnlike", unfollowed := true, recurses := true, named := ["truce/hash.marks", "truce/hash.places", "truce/hash.turns"], apart := false, laid := [("truce/hash.turns", laid_truce_hash_turns), ("truce/hash.places", laid_truce_hash_places), ("truce/hash.marks", laid_truce_hash_marks)], narrowed := true }
def HashUnlikeUptoSaid : Prop := hashUnlikeUptoRow.holds Tryd.pinned (OpenSpec.upto hashUnlikeSpec)

/-- 'trucelaw05.HashSize', WHERE WHAT IT READS IS OF BULK AT MOST 1048576: true; the input reads as it did. -/
def hashSizeUptoRow : OpenClaim := { program := "ythpjdnapoafkgaadoor", sum := "286e05c61f3906678531d608f78152899afd5e05c9499e93fdb1d419d820fc98", func := "truce/trucelaw05.HashSize", spec := "hashSize", unfollowed := true, recurses := true, named := ["truce/hash.marks", "truce/hash.places", "truce/hash.turns"], apart := false, laid := [("truce/hash.turns", laid_truce_hash_turns), ("truce/hash.places", laid_truce_hash_places), ("truce/hash.marks", laid_truce_hash_marks)], narrowed := true }
def HashSizeUptoSaid : Prop := hashSizeUptoRow.holds Tryd.pinned (OpenSpec.upto hashSizeSpec)

/-- 'trucelaw05.HashBlocks', WHERE WHAT IT READS IS OF BULK AT MOST 1048576: true; the input reads as it did. -/
def hashBlocksUptoRow : OpenClaim := { program := "ythpjdnapoafkgaadoor", sum := "286e05c61f3906678531d608f78152899afd5e05c9499e93fdb1d419d820fc98", func := "truce/trucelaw05.HashBlocks", spec := "hashBlocks", unfollowed := true, recurses := true, named := ["truce/hash.marks", "truce/hash.places", "truce/hash.turns"], apart := false, laid := [("truce/hash.turns", laid_truce_hash_turns), ("truce/hash.places", laid_truce_hash_places), ("truce/hash.marks", laid_truce_hash_marks)], narrowed := true }
def HashBlocksUptoSaid : Prop := hashBlocksUptoRow.holds Tryd.pinned (OpenSpec.upto hashBlocksSpec)

end Rows
end Go.Proofs.YthpjdnapoafkgaaDoor
