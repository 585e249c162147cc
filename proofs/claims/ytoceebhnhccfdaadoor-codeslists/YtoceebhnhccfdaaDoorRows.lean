/-
  NARROWER THAN 'FOR EVERY INPUT', by the rows' own cells (each row's printed sentence says how): CodesTells: laid · CodesLists: laid · CodesBack: laid · CodesNames: laid · CodesWhole: laid.
  DERIVED. THE GIVEN ROWS OF THIS SEAT. 5 by the template 'for every input the law returns true; each argument reads behind the call as it read before'; 0 by the template 'total and deterministic' (their statements: YtoceebhnhccfdaaDoorTotals.lean).
  GIVEN WITH THE SEED: the statements are not yours to turn. If you find one false, say at which input.
  Laid BY PROGRAM, IN A SANDBOX (cutbox-rows.mjs): the forced cells as the released guide's own fill.sh prints them over the translation f85b84b29fadcef7… (all of the seat's roots in one cut). By AI agents, Wed Nov 11 2026. No macro, syntax, notation, axiom, sorry.
-/
import Derived.Test.YtoceebhnhccfdaaDoorChecked
import GoSem.Claim
import GoSem.ClaimJoined
import GoSem.ClaimMapViews
import Derived.JoinedTies
import Derived.KernelRfl
namespace Go.Proofs.YtoceebhnhccfdaaDoor
/- THE CELL 'sum', in the pinned program and in every row, IS THE sha256 OF THE DUMP (.gsa) THAT YtoceebhnhccfdaaDoorProg.lean LOADS. Nothing in Lean hashes anything: it is a label: what it is worth is what the hold of that sum in a sandbox is worth. -/
noncomputable def Tryd.pinned : Pinned := { name := "ytoceebhnhccfdaadoor", sum := "f85b84b29fadcef75a5ab90980b12956b5c076d6b542f16f94f907c78efa75b0", checked := Tryd.checked }
namespace Rows
def none {H : Type} : Left H := { results := [], args := [] }

/- WHAT THE LISTED PACKAGE-LEVEL VARIABLES READ AS WHEN THE CALL BEGINS. Each datum BY PROGRAM (the guide's laid-datum.mjs) off the statement by which the dump's own 'gosem.cut.vars' lays the variable. In a bare row this is a premise. The card (YtoceebhnhccfdaaDoorCards.lean) ties it to the program's text. -/
def laid_math_bits_deBruijn32tab {H : Type} : DataW H := .agg [.lit (.int .u8 0), .lit (.int .u8 1), .lit (.int .u8 28), .lit (.int .u8 2), .lit (.int .u8 29), .lit (.int .u8 14), .lit (.int .u8 24), .lit (.int .u8 3), .lit (.int .u8 30), .lit (.int .u8 22), .lit (.int .u8 20), .lit (.int .u8 15), .lit (.int .u8 25), .lit (.int .u8 17), .lit (.int .u8 4), .lit (.int .u8 8), .lit (.int .u8 31), .lit (.int .u8 27), .lit (.int .u8 13), .lit (.int .u8 23), .lit (.int .u8 21), .lit (.int .u8 19), .lit (.int .u8 16), .lit (.int .u8 7), .lit (.int .u8 26), .lit (.int .u8 12), .lit (.int .u8 18), .lit (.int .u8 6), .lit (.int .u8 11), .lit (.int .u8 5), .lit (.int .u8 10), .lit (.int .u8 9)]
def laid_math_bits_deBruijn64tab {H : Type} : DataW H := .agg [.lit (.int .u8 0), .lit (.int .u8 1), .lit (.int .u8 56), .lit (.int .u8 2), .lit (.int .u8 57), .lit (.int .u8 49), .lit (.int .u8 28), .lit (.int .u8 3), .lit (.int .u8 61), .lit (.int .u8 58), .lit (.int .u8 42), .lit (.int .u8 50), .lit (.int .u8 38), .lit (.int .u8 29), .lit (.int .u8 17), .lit (.int .u8 4), .lit (.int .u8 62), .lit (.int .u8 47), .lit (.int .u8 59), .lit (.int .u8 36), .lit (.int .u8 45), .lit (.int .u8 43), .lit (.int .u8 51), .lit (.int .u8 22), .lit (.int .u8 53), .lit (.int .u8 39), .lit (.int .u8 33), .lit (.int .u8 30), .lit (.int .u8 24), .lit (.int .u8 18), .lit (.int .u8 12), .lit (.int .u8 5), .lit (.int .u8 63), .lit (.int .u8 55), .lit (.int .u8 48), .lit (.int .u8 27), .lit (.int .u8 60), .lit (.int .u8 41), .lit (.int .u8 37), .lit (.int .u8 16), .lit (.int .u8 46), .lit (.int .u8 35), .lit (.int .u8 44), .lit (.int .u8 21), .lit (.int .u8 52), .lit (.int .u8 32), .lit (.int .u8 23), .lit (.int .u8 11), .lit (.int .u8 54), .lit (.int .u8 26), .lit (.int .u8 40), .lit (.int .u8 15), .lit (.int .u8 34), .lit (.int .u8 20), .lit (.int .u8 31), .lit (.int .u8 10), .lit (.int .u8 25), .lit (.int .u8 14), .lit (.int .u8 19), .lit (.int .u8 9), .lit (.int .u8 13), .lit (.int .u8 8), .lit (.int .u8 7), .lit (.int .u8 6)]
def laid_internal_strconv_uint64pow10 {H : Type} : DataW H := .agg [.lit (.int .u64 1), .lit (.int .u64 10), .lit (.int .u64 100), .lit (.int .u64 1000), .lit (.int .u64 10000), .lit (.int .u64 100000), .lit (.int .u64 1000000), .lit (.int .u64 10000000), .lit (.int .u64 100000000), .lit (.int .u64 1000000000), .lit (.int .u64 10000000000), .lit (.int .u64 100000000000), .lit (.int .u64 1000000000000), .lit (.int .u64 10000000000000), .lit (.int .u64 100000000000000), .lit (.int .u64 1000000000000000), .lit (.int .u64 10000000000000000), .lit (.int .u64 100000000000000000), .lit (.int .u64 1000000000000000000), .lit (.int .u64 10000000000000000000)]
def laid_truce_codes_stopTable {H : Type} : DataW H := .agg [.agg [.lit (.string [83, 84, 79, 80]), .lit (.int .i64 0), .lit (.int .i64 0), .lit (.int .i64 0)], .agg [.lit (.string [65, 68, 68]), .lit (.int .i64 2), .lit (.int .i64 1), .lit (.int .i64 3)], .agg [.lit (.string [77, 85, 76]), .lit (.int .i64 2), .lit (.int .i64 1), .lit (.int .i64 5)], .agg [.lit (.string [83, 85, 66]), .lit (.int .i64 2), .lit (.int .i64 1), .lit (.int .i64 3)], .agg [.lit (.string [68, 73, 86]), .lit (.int .i64 2), .lit (.int .i64 1), .lit (.int .i64 5)], .agg [.lit (.string [83, 68, 73, 86]), .lit (.int .i64 2), .lit (.int .i64 1), .lit (.int .i64 5)], .agg [.lit (.string [77, 79, 68]), .lit (.int .i64 2), .lit (.int .i64 1), .lit (.int .i64 5)], .agg [.lit (.string [83, 77, 79, 68]), .lit (.int .i64 2), .lit (.int .i64 1), .lit (.int .i64 5)], .agg [.lit (.string [65, 68, 68, 77, 79, 68]), .lit (.int .i64 3), .lit (.int .i64 1), .lit (.int .i64 8)], .agg [.lit (.string [77, 85, 76, 77, 79, 68]), .lit (.int .i64 3), .lit (.int .i64 1), .lit (.int .i64 8)], .agg [.lit (.string [69, 88, 80]), .lit (.int .i64 2), .lit (.int .i64 1), .lit (.int .i64 10)], .agg [.lit (.string [83, 73, 71, 78, 69, 88, 84, 69, 78, 68]), .lit (.int .i64 2), .lit (.int .i64 1), .lit (.int .i64 5)]]
def laid_truce_codes_lessTable {H : Type} : DataW H := .agg [.agg [.lit (.string [76, 84]), .lit (.int .i64 2), .lit (.int .i64 1), .lit (.int .i64 3)], .agg [.lit (.string [71, 84]), .lit (.int .i64 2), .lit (.int .i64 1), .lit (.int .i64 3)], .agg [.lit (.string [83, 76, 84]), .lit (.int .i64 2), .lit (.int .i64 1), .lit (.int .i64 3)], .agg [.lit (.string [83, 71, 84]), .lit (.int .i64 2), .lit (.int .i64 1), .lit (.int .i64 3)], .agg [.lit (.string [69, 81]), .lit (.int .i64 2), .lit (.int .i64 1), .lit (.int .i64 3)], .agg [.lit (.string [73, 83, 90, 69, 82, 79]), .lit (.int .i64 1), .lit (.int .i64 1), .lit (.int .i64 3)], .agg [.lit (.string [65, 78, 68]), .lit (.int .i64 2), .lit (.int .i64 1), .lit (.int .i64 3)], .agg [.lit (.string [79, 82]), .lit (.int .i64 2), .lit (.int .i64 1), .lit (.int .i64 3)], .agg [.lit (.string [88, 79, 82]), .lit (.int .i64 2), .lit (.int .i64 1), .lit (.int .i64 3)], .agg [.lit (.string [78, 79, 84]), .lit (.int .i64 1), .lit (.int .i64 1), .lit (.int .i64 3)], .agg [.lit (.string [66, 89, 84, 69]), .lit (.int .i64 2), .lit (.int .i64 1), .lit (.int .i64 3)], .agg [.lit (.string [83, 72, 76]), .lit (.int .i64 2), .lit (.int .i64 1), .lit (.int .i64 3)], .agg [.lit (.string [83, 72, 82]), .lit (.int .i64 2), .lit (.int .i64 1), .lit (.int .i64 3)], .agg [.lit (.string [83, 65, 82]), .lit (.int .i64 2), .lit (.int .i64 1), .lit (.int .i64 3)]]
def laid_truce_codes_inputTable {H : Type} : DataW H := .agg [.agg [.lit (.string [67, 65, 76, 76, 68, 65, 84, 65, 76, 79, 65, 68]), .lit (.int .i64 1), .lit (.int .i64 1), .lit (.int .i64 3)], .agg [.lit (.string [67, 65, 76, 76, 68, 65, 84, 65, 83, 73, 90, 69]), .lit (.int .i64 0), .lit (.int .i64 1), .lit (.int .i64 2)], .agg [.lit (.string [67, 65, 76, 76, 68, 65, 84, 65, 67, 79, 80, 89]), .lit (.int .i64 3), .lit (.int .i64 0), .lit (.int .i64 3)], .agg [.lit (.string [67, 79, 68, 69, 83, 73, 90, 69]), .lit (.int .i64 0), .lit (.int .i64 1), .lit (.int .i64 2)], .agg [.lit (.string [67, 79, 68, 69, 67, 79, 80, 89]), .lit (.int .i64 3), .lit (.int .i64 0), .lit (.int .i64 3)]]
def laid_truce_codes_popTable {H : Type} : DataW H := .agg [.agg [.lit (.string [80, 79, 80]), .lit (.int .i64 1), .lit (.int .i64 0), .lit (.int .i64 2)], .agg [.lit (.string [77, 76, 79, 65, 68]), .lit (.int .i64 1), .lit (.int .i64 1), .lit (.int .i64 3)], .agg [.lit (.string [77, 83, 84, 79, 82, 69]), .lit (.int .i64 2), .lit (.int .i64 0), .lit (.int .i64 3)], .agg [.lit (.string [77, 83, 84, 79, 82, 69, 56]), .lit (.int .i64 2), .lit (.int .i64 0), .lit (.int .i64 3)], .agg [.lit (.string []), .lit (.int .i64 0), .lit (.int .i64 0), .lit (.int .i64 0)], .agg [.lit (.string []), .lit (.int .i64 0), .lit (.int .i64 0), .lit (.int .i64 0)], .agg [.lit (.string [74, 85, 77, 80]), .lit (.int .i64 1), .lit (.int .i64 0), .lit (.int .i64 8)], .agg [.lit (.string [74, 85, 77, 80, 73]), .lit (.int .i64 2), .lit (.int .i64 0), .lit (.int .i64 10)], .agg [.lit (.string [80, 67]), .lit (.int .i64 0), .lit (.int .i64 1), .lit (.int .i64 2)], .agg [.lit (.string [77, 83, 73, 90, 69]), .lit (.int .i64 0), .lit (.int .i64 1), .lit (.int .i64 2)], .agg [.lit (.string [71, 65, 83]), .lit (.int .i64 0), .lit (.int .i64 1), .lit (.int .i64 2)], .agg [.lit (.string [74, 85, 77, 80, 68, 69, 83, 84]), .lit (.int .i64 0), .lit (.int .i64 0), .lit (.int .i64 1)], .agg [.lit (.string []), .lit (.int .i64 0), .lit (.int .i64 0), .lit (.int .i64 0)], .agg [.lit (.string []), .lit (.int .i64 0), .lit (.int .i64 0), .lit (.int .i64 0)], .agg [.lit (.string []), .lit (.int .i64 0), .lit (.int .i64 0), .lit (.int .i64 0)], .agg [.lit (.string [80, 85, 83, 72, 48]), .lit (.int .i64 0), .lit (.int .i64 1), .lit (.int .i64 2)]]

/-- 'trucelaw11.CodesTells': WHATEVER THE INPUT: true; the input reads as it did. -/
def codesTellsSpec : ChangeSpec := { name := "codesTells", fn := fun _ => fun
  | [d1, d2] => { results := [.lit (.bool true)], args := [d1, d2] }
  | _ => none }
def codesTellsRow : OpenClaim := { program := "ytoceebhnhccfdaadoor", sum := "f85b84b29fadcef75a5ab90980b12956b5c076d6b542f16f94f907c78efa75b0", func := "truce/trucelaw11.CodesTells", spec := "codesTells", inPlace := ["internal/bytealg.IndexByteString"], unfollowed := true, recurses := true, named := ["truce/codes.stopTable", "truce/codes.lessTable", "truce/codes.inputTable", "truce/codes.popTable", "internal/strconv.uint64pow10", "math/bits.deBruijn32tab", "math/bits.deBruijn64tab"], apart := false, laid := [("math/bits.deBruijn32tab", laid_math_bits_deBruijn32tab), ("math/bits.deBruijn64tab", laid_math_bits_deBruijn64tab), ("internal/strconv.uint64pow10", laid_internal_strconv_uint64pow10), ("truce/codes.stopTable", laid_truce_codes_stopTable), ("truce/codes.lessTable", laid_truce_codes_lessTable), ("truce/codes.inputTable", laid_truce_codes_inputTable), ("truce/codes.popTable", laid_truce_codes_popTable)] }
def CodesTellsSaid : Prop := codesTellsRow.holds Tryd.pinned (OpenSpec.ofChange codesTellsSpec)

/-- ITS FALSE NEIGHBOUR: 'it returns false'. Refute it at one input. -/
def codesTellsWrong : ChangeSpec := { name := "codesTells", fn := fun _ => fun
  | [d1, d2] => { results := [.lit (.bool false)], args := [d1, d2] }
  | _ => none }
def CodesTellsWrongFalsely : Prop := codesTellsRow.holds Tryd.pinned (OpenSpec.ofChange codesTellsWrong)

/-- 'trucelaw11.CodesLists': WHATEVER THE INPUT: true; the input reads as it did. -/
def codesListsSpec : ChangeSpec := { name := "codesLists", fn := fun _ => fun
  | [d1, d2] => { results := [.lit (.bool true)], args := [d1, d2] }
  | _ => none }
def codesListsRow : OpenClaim := { program := "ytoceebhnhccfdaadoor", sum := "f85b84b29fadcef75a5ab90980b12956b5c076d6b542f16f94f907c78efa75b0", func := "truce/trucelaw11.CodesLists", spec := "codesLists", inPlace := ["internal/bytealg.IndexByteString"], unfollowed := true, recurses := true, named := ["truce/codes.stopTable", "truce/codes.lessTable", "truce/codes.inputTable", "truce/codes.popTable", "internal/strconv.uint64pow10", "math/bits.deBruijn32tab", "math/bits.deBruijn64tab"], apart := false, laid := [("math/bits.deBruijn32tab", laid_math_bits_deBruijn32tab), ("math/bits.deBruijn64tab", laid_math_bits_deBruijn64tab), ("internal/strconv.uint64pow10", laid_internal_strconv_uint64pow10), ("truce/codes.stopTable", laid_truce_codes_stopTable), ("truce/codes.lessTable", laid_truce_codes_lessTable), ("truce/codes.inputTable", laid_truce_codes_inputTable), ("truce/codes.popTable", laid_truce_codes_popTable)] }
def CodesListsSaid : Prop := codesListsRow.holds Tryd.pinned (OpenSpec.ofChange codesListsSpec)

/-- ITS FALSE NEIGHBOUR: 'it returns false'. Refute it at one input. -/
def codesListsWrong : ChangeSpec := { name := "codesLists", fn := fun _ => fun
  | [d1, d2] => { results := [.lit (.bool false)], args := [d1, d2] }
  | _ => none }
def CodesListsWrongFalsely : Prop := codesListsRow.holds Tryd.pinned (OpenSpec.ofChange codesListsWrong)

/-- 'trucelaw11.CodesBack': WHATEVER THE INPUT: true; the input reads as it did. -/
def codesBackSpec : ChangeSpec := { name := "codesBack", fn := fun _ => fun
  | [d] => { results := [.lit (.bool true)], args := [d] }
  | _ => none }
def codesBackRow : OpenClaim := { program := "ytoceebhnhccfdaadoor", sum := "f85b84b29fadcef75a5ab90980b12956b5c076d6b542f16f94f907c78efa75b0", func := "truce/trucelaw11.CodesBack", spec := "codesBack", inPlace := ["internal/bytealg.IndexByteString"], unfollowed := true, recurses := true, named := ["truce/codes.stopTable", "truce/codes.lessTable", "truce/codes.inputTable", "truce/codes.popTable", "internal/strconv.uint64pow10", "math/bits.deBruijn32tab", "math/bits.deBruijn64tab"], apart := false, laid := [("math/bits.deBruijn32tab", laid_math_bits_deBruijn32tab), ("math/bits.deBruijn64tab", laid_math_bits_deBruijn64tab), ("internal/strconv.uint64pow10", laid_internal_strconv_uint64pow10), ("truce/codes.stopTable", laid_truce_codes_stopTable), ("truce/codes.lessTable", laid_truce_codes_lessTable), ("truce/codes.inputTable", laid_truce_codes_inputTable), ("truce/codes.popTable", laid_truce_codes_popTable)] }
def CodesBackSaid : Prop := codesBackRow.holds Tryd.pinned (OpenSpec.ofChange codesBackSpec)

/-- ITS FALSE NEIGHBOUR: 'it returns false'. Refute it at one input. -/
def codesBackWrong : ChangeSpec := { name := "codesBack", fn := fun _ => fun
  | [d] => { results := [.lit (.bool false)], args := [d] }
  | _ => none }
def CodesBackWrongFalsely : Prop := codesBackRow.holds Tryd.pinned (OpenSpec.ofChange codesBackWrong)

/-- 'trucelaw11.CodesNames': WHATEVER THE INPUT: true; the input reads as it did. -/
def codesNamesSpec : ChangeSpec := { name := "codesNames", fn := fun _ => fun
  | [d1, d2, d3] => { results := [.lit (.bool true)], args := [d1, d2, d3] }
  | _ => none }
def codesNamesRow : OpenClaim := { program := "ytoceebhnhccfdaadoor", sum := "f85b84b29fadcef75a5ab90980b12956b5c076d6b542f16f94f907c78efa75b0", func := "truce/trucelaw11.CodesNames", spec := "codesNames", inPlace := ["internal/bytealg.IndexByteString"], unfollowed := true, recurses := true, named := ["truce/codes.stopTable", "truce/codes.lessTable", "truce/codes.inputTable", "truce/codes.popTable", "internal/strconv.uint64pow10", "math/bits.deBruijn32tab", "math/bits.deBruijn64tab"], apart := false, laid := [("math/bits.deBruijn32tab", laid_math_bits_deBruijn32tab), ("math/bits.deBruijn64tab", laid_math_bits_deBruijn64tab), ("internal/strconv.uint64pow10", laid_internal_strconv_uint64pow10), ("truce/codes.stopTable", laid_truce_codes_stopTable), ("truce/codes.lessTable", laid_truce_codes_lessTable), ("truce/codes.inputTable", laid_truce_codes_inputTable), ("truce/codes.popTable", laid_truce_codes_popTable)] }
def CodesNamesSaid : Prop := codesNamesRow.holds Tryd.pinned (OpenSpec.ofChange codesNamesSpec)

/-- ITS FALSE NEIGHBOUR: 'it returns false'. Refute it at one input. -/
def codesNamesWrong : ChangeSpec := { name := "codesNames", fn := fun _ => fun
  | [d1, d2, d3] => { results := [.lit (.bool false)], args := [d1, d2, d3] }
  | _ => none }
def CodesNamesWrongFalsely : Prop := codesNamesRow.holds Tryd.pinned (OpenSpec.ofChange codesNamesWrong)

/-- 'trucelaw11.CodesWhole': WHATEVER THE INPUT: true; the input reads as it did. -/
def codesWholeSpec : ChangeSpec := { name := "codesWhole", fn := fun _ => fun
  | [d1, d2] => { results := [.lit (.bool true)], args := [d1, d2] }
  | _ => none }
def codesWholeRow : OpenClaim := { program := "ytoceebhnhccfdaadoor", sum := "f85b84b29fadcef75a5ab90980b12956b5c076d6b542f16f94f907c78efa75b0", func := "truce/trucelaw11.CodesWhole", spec := "codesWhole", inPlace := ["internal/bytealg.IndexByteString"], unfollowed := true, recurses := true, named := ["truce/codes.stopTable", "truce/codes.lessTable", "truce/codes.inputTable", "truce/codes.popTable", "internal/strconv.uint64pow10", "math/bits.deBruijn32tab", "math/bits.deBruijn64tab"], apart := false, laid := [("math/bits.deBruijn32tab", laid_math_bits_deBruijn32tab), ("math/bits.deBruijn64tab", laid_math_bits_deBruijn64tab), ("internal/strconv.uint64pow10", laid_internal_strconv_uint64pow10), ("truce/codes.stopTable", laid_truce_codes_stopTable), ("truce/codes.lessTable", laid_truce_codes_lessTable), ("truce/codes.inputTable", laid_truce_codes_inputTable), ("truce/codes.popTable", laid_truce_codes_popTable)] }
def CodesWholeSaid : Prop := codesWholeRow.holds Tryd.pinned (OpenSpec.ofChange codesWholeSpec)

/-- ITS FALSE NEIGHBOUR: 'it returns false'. Refute it at one input. -/
def codesWholeWrong : ChangeSpec := { name := "codesWhole", fn := fun _ => fun
  | [d1, d2] => { results := [.lit (.bool false)], args := [d1, d2] }
  | _ => none }
def CodesWholeWrongFalsely : Prop := codesWholeRow.holds Tryd.pinned (OpenSpec.ofChange codesWholeWrong)

/- THE SECOND FORM. 'bulk': how many values and letters a reading holds, each counted each time it is reached (what is shared counts as often as it is met; a slice's spare places count too). A statement '..UptoSaid' is the law's where the arguments, and the package variables that the reading takes, are together of bulk at most 1048576: NARROWER than '..Said'. Prove '..Said' where nothing that the law and all that it calls make is longer than what came in: it says more and counts as full. Else prove '..UptoSaid'. A law counts once. -/
mutual
def uptoBulk {H : Type} : DataW H → Nat
  | .lit (.string bytes) => bytes.length + 1
  | .lit _ => 1
  | .nil => 1
  | .ptr d => uptoBulk d + 1
  | .slice elems spare => uptoBulkAll elems + uptoBulkAll spare + 1
  | .agg parts => uptoBulkAll parts + 1
  | .iface _ d => uptoBulk d + 1
  | .map entries => uptoBulkEntries entries + 1
  | .held _ => 1
def uptoBulkAll {H : Type} : List (DataW H) → Nat
  | [] => 0
  | d :: r => uptoBulk d + uptoBulkAll r
def uptoBulkEntries {H : Type} : List (Lit × DataW H) → Nat
  | [] => 0
  | x :: r => uptoBulkEntry x + uptoBulkEntries r
def uptoBulkEntry {H : Type} : Lit × DataW H → Nat
  | (.string bytes, d) => bytes.length + uptoBulk d + 1
  | (_, d) => uptoBulk d + 1
 end
def uptoSmall : (H : Type) → List (DataW H) → Bool := fun _ ds => decide (uptoBulkAll ds ≤ 1048576)
def OpenSpec.upto (s : _root_.Go.ChangeSpec) : _root_.Go.OpenSpec := { _root_.Go.OpenSpec.ofChange s with cond := some uptoSmall }

/-- 'trucelaw11.CodesTells', WHERE WHAT IT READS IS OF BULK AT MOST 1048576: true; the input reads as it did. -/
def codesTellsUptoRow : OpenClaim := { program := "ytoceebhnhccfdaadoor", sum := "f85b84b29fadcef75a5ab90980b12956b5c076d6b542f16f94f907c78efa75b0", func := "truce/trucelaw11.CodesTells", spec := "codesTells", inPlace := ["internal/bytealg.IndexByteString"], unfollowed := true, recurses := true, named := ["truce/codes.stopTable", "truce/codes.lessTable", "truce/codes.inputTable", "truce/codes.popTable", "internal/strconv.uint64pow10", "math/bits.deBruijn32tab", "math/bits.deBruijn64tab"], apart := false, laid := [("math/bits.deBruijn32tab", laid_math_bits_deBruijn32tab), ("math/bits.deBruijn64tab", laid_math_bits_deBruijn64tab), ("internal/strconv.uint64pow10", laid_internal_strconv_uint64pow10), ("truce/codes.stopTable", laid_truce_codes_stopTable), ("truce/codes.lessTable", laid_truce_codes_lessTable), ("truce/codes.inputTable", laid_truce_codes_inputTable), ("truce/codes.popTable", laid_truce_codes_popTable)], narrowed := true }
def CodesTellsUptoSaid : Prop := codesTellsUptoRow.holds Tryd.pinned (OpenSpec.upto codesTellsSpec)

/-- 'trucelaw11.CodesLists', WHERE WHAT IT READS IS OF BULK AT MOST 1048576: true; the input reads as it did. -/
def codesListsUptoRow : OpenClaim := { program := "ytoceebhnhccfdaadoor", sum := "f85b84b29fadcef75a5ab90980b12956b5c076d6b542f16f94f907c78efa75b0", func := "truce/trucelaw11.CodesLists", spec := "codesLists", inPlace := ["internal/bytealg.IndexByteString"], unfollowed := true, recurses := true, named := ["truce/codes.stopTable", "truce/codes.lessTable", "truce/codes.inputTable", "truce/codes.popTable", "internal/strconv.uint64pow10", "math/bits.deBruijn32tab", "math/bits.deBruijn64tab"], apart := false, laid := [("math/bits.deBruijn32tab", laid_math_bits_deBruijn32tab), ("math/bits.deBruijn64tab", laid_math_bits_deBruijn64tab), ("internal/strconv.uint64pow10", laid_internal_strconv_uint64pow10), ("truce/codes.stopTable", laid_truce_codes_stopTable), ("truce/codes.lessTable", laid_truce_codes_lessTable), ("truce/codes.inputTable", laid_truce_codes_inputTable), ("truce/codes.popTable", laid_truce_codes_popTable)], narrowed := true }
def CodesListsUptoSaid : Prop := codesListsUptoRow.holds Tryd.pinned (OpenSpec.upto codesListsSpec)

/-- 'trucelaw11.CodesBack', WHERE WHAT IT READS IS OF BULK AT MOST 1048576: true; the input reads as it did. -/
def codesBackUptoRow : OpenClaim := { program := "ytoceebhnhccfdaadoor", sum := "f85b84b29fadcef75a5ab90980b12956b5c076d6b542f16f94f907c78efa75b0", func := "truce/trucelaw11.CodesBack", spec := "codesBack", inPlace := ["internal/bytealg.IndexByteString"], unfollowed := true, recurses := true, named := ["truce/codes.stopTable", "truce/codes.lessTable", "truce/codes.inputTable", "truce/codes.popTable", "internal/strconv.uint64pow10", "math/bits.deBruijn32tab", "math/bits.deBruijn64tab"], apart := false, laid := [("math/bits.deBruijn32tab", laid_math_bits_deBruijn32tab), ("math/bits.deBruijn64tab", laid_math_bits_deBruijn64tab), ("internal/strconv.uint64pow10", laid_internal_strconv_uint64pow10), ("truce/codes.stopTable", laid_truce_codes_stopTable), ("truce/codes.lessTable", laid_truce_codes_lessTable), ("truce/codes.inputTable", laid_truce_codes_inputTable), ("truce/codes.popTable", laid_truce_codes_popTable)], narrowed := true }
def CodesBackUptoSaid : Prop := codesBackUptoRow.holds Tryd.pinned (OpenSpec.upto codesBackSpec)

/-- 'trucelaw11.CodesNames', WHERE WHAT IT READS IS OF BULK AT MOST 1048576: true; the input reads as it did. -/
def codesNamesUptoRow : OpenClaim := { program := "ytoceebhnhccfdaadoor", sum := "f85b84b29fadcef75a5ab90980b12956b5c076d6b542f16f94f907c78efa75b0", func := "truce/trucelaw11.CodesNames", spec := "codesNames", inPlace := ["internal/bytealg.IndexByteString"], unfollowed := true, recurses := true, named := ["truce/codes.stopTable", "truce/codes.lessTable", "truce/codes.inputTable", "truce/codes.popTable", "internal/strconv.uint64pow10", "math/bits.deBruijn32tab", "math/bits.deBruijn64tab"], apart := false, laid := [("math/bits.deBruijn32tab", laid_math_bits_deBruijn32tab), ("math/bits.deBruijn64tab", laid_math_bits_deBruijn64tab), ("internal/strconv.uint64pow10", laid_internal_strconv_uint64pow10), ("truce/codes.stopTable", laid_truce_codes_stopTable), ("truce/codes.lessTable", laid_truce_codes_lessTable), ("truce/codes.inputTable", laid_truce_codes_inputTable), ("truce/codes.popTable", laid_truce_codes_popTable)], narrowed := true }
def CodesNamesUptoSaid : Prop := codesNamesUptoRow.holds Tryd.pinned (OpenSpec.upto codesNamesSpec)

/-- 'trucelaw11.CodesWhole', WHERE WHAT IT READS IS OF BULK AT MOST 1048576: true; the input reads as it did. -/
def codesWholeUptoRow : OpenClaim := { program := "ytoceebhnhccfdaadoor", sum := "f85b84b29fadcef75a5ab90980b12956b5c076d6b542f16f94f907c78efa75b0", func := "truce/trucelaw11.CodesWhole", spec := "codesWhole", inPlace := ["internal/bytealg.IndexByteString"], unfollowed := true, recurses := true, named := ["truce/codes.stopTable", "truce/codes.lessTable", "truce/codes.inputTable", "truce/codes.popTable", "internal/strconv.uint64pow10", "math/bits.deBruijn32tab", "math/bits.deBruijn64tab"], apart := false, laid := [("math/bits.deBruijn32tab", laid_math_bits_deBruijn32tab), ("math/bits.deBruijn64tab", laid_math_bits_deBruijn64tab), ("internal/strconv.uint64pow10", laid_internal_strconv_uint64pow10), ("truce/codes.stopTable", laid_truce_codes_stopTable), ("truce/codes.lessTable", laid_truce_codes_lessTable), ("truce/codes.inputTable", laid_truce_codes_inputTable), ("truce/codes.popTable", laid_truce_codes_popTable)], narrowed := true }
def CodesWholeUptoSaid : Prop := codesWholeUptoRow.holds Tryd.pinned (OpenSpec.upto codesWholeSpec)

end Rows
end Go.Proofs.YtoceebhnhccfdaaDoor
