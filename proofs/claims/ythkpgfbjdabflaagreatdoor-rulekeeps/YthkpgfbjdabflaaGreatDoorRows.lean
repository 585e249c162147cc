/-
  NARROWER THAN 'FOR EVERY INPUT', by the rows' own cells (each row's printed sentence says how): RuleTells: laid · RuleFollows: laid · RuleKeeps: laid · RuleAlone: laid · RuleInputs: laid.
  DERIVED. THE GIVEN ROWS OF THIS SEAT. 5 by the template 'for every input the law returns true; each argument reads behind the call as it read before'; 0 by the template 'total and deterministic' (their statements: YthkpgfbjdabflaaGreatDoorTotals.lean).
  GIVEN WITH THE SEED: the statements are not yours to turn. If you find one false, say at which input.
  Laid BY PROGRAM, IN A SANDBOX (cutbox-rows.mjs): the forced cells as the released guide's own fill.sh prints them over the translation 8c2f7b7e4863fc73… (all of the seat's roots in one cut). By AI agents, Wed Nov 11 2026. No macro, syntax, notation, axiom, sorry.
-/
import Derived.Test.YthkpgfbjdabflaaGreatDoorChecked
import GoSem.Claim
import GoSem.ClaimJoined
import GoSem.ClaimMapViews
import Derived.JoinedTies
import Derived.KernelRfl
namespace Go.Proofs.YthkpgfbjdabflaaGreatDoor
/- THE CELL 'sum', in the pinned program and in every row, IS THE sha256 OF THE DUMP (.gsa) THAT YthkpgfbjdabflaaGreatDoorProg.lean LOADS. Nothing in Lean hashes anything: it is a label: what it is worth is what the hold of that sum in a sandbox is worth. -/
noncomputable def Tryz.pinned : Pinned := { name := "ythkpgfbjdabflaagreatdoor", sum := "8c2f7b7e4863fc73822462fa7bfbb0492d0dbc4026311cfda08c16f4373e4559", checked := Tryz.checked }
namespace Rows
def none {H : Type} : Left H := { results := [], args := [] }

/- WHAT THE LISTED PACKAGE-LEVEL VARIABLES READ AS WHEN THE CALL BEGINS. Each datum BY PROGRAM (the guide's laid-datum.mjs) off the statement by which the dump's own 'gosem.cut.vars' lays the variable. In a bare row this is a premise. The card (YthkpgfbjdabflaaGreatDoorCards.lean) ties it to the program's text. -/
def laid_truce_hash_turns {H : Type} : DataW H := .agg [.lit (.int .i64 0), .lit (.int .i64 1), .lit (.int .i64 62), .lit (.int .i64 28), .lit (.int .i64 27), .lit (.int .i64 36), .lit (.int .i64 44), .lit (.int .i64 6), .lit (.int .i64 55), .lit (.int .i64 20), .lit (.int .i64 3), .lit (.int .i64 10), .lit (.int .i64 43), .lit (.int .i64 25), .lit (.int .i64 39), .lit (.int .i64 41), .lit (.int .i64 45), .lit (.int .i64 15), .lit (.int .i64 21), .lit (.int .i64 8), .lit (.int .i64 18), .lit (.int .i64 2), .lit (.int .i64 61), .lit (.int .i64 56), .lit (.int .i64 14)]
def laid_truce_hash_places {H : Type} : DataW H := .agg [.lit (.int .i64 0), .lit (.int .i64 10), .lit (.int .i64 20), .lit (.int .i64 5), .lit (.int .i64 15), .lit (.int .i64 16), .lit (.int .i64 1), .lit (.int .i64 11), .lit (.int .i64 21), .lit (.int .i64 6), .lit (.int .i64 7), .lit (.int .i64 17), .lit (.int .i64 2), .lit (.int .i64 12), .lit (.int .i64 22), .lit (.int .i64 23), .lit (.int .i64 8), .lit (.int .i64 18), .lit (.int .i64 3), .lit (.int .i64 13), .lit (.int .i64 14), .lit (.int .i64 24), .lit (.int .i64 9), .lit (.int .i64 19), .lit (.int .i64 4)]
def laid_truce_hash_marks {H : Type} : DataW H := .agg [.lit (.int .u64 1), .lit (.int .u64 32898), .lit (.int .u64 9223372036854808714), .lit (.int .u64 9223372039002292224), .lit (.int .u64 32907), .lit (.int .u64 2147483649), .lit (.int .u64 9223372039002292353), .lit (.int .u64 9223372036854808585), .lit (.int .u64 138), .lit (.int .u64 136), .lit (.int .u64 2147516425), .lit (.int .u64 2147483658), .lit (.int .u64 2147516555), .lit (.int .u64 9223372036854775947), .lit (.int .u64 9223372036854808713), .lit (.int .u64 9223372036854808579), .lit (.int .u64 9223372036854808578), .lit (.int .u64 9223372036854775936), .lit (.int .u64 32778), .lit (.int .u64 9223372039002259466), .lit (.int .u64 9223372039002292353), .lit (.int .u64 9223372036854808704), .lit (.int .u64 2147483649), .lit (.int .u64 9223372039002292232)]
def laid_truce_codes_stopTable {H : Type} : DataW H := .agg [.agg [.lit (.string [83, 84, 79, 80]), .lit (.int .i64 0), .lit (.int .i64 0), .lit (.int .i64 0)], .agg [.lit (.string [65, 68, 68]), .lit (.int .i64 2), .lit (.int .i64 1), .lit (.int .i64 3)], .agg [.lit (.string [77, 85, 76]), .lit (.int .i64 2), .lit (.int .i64 1), .lit (.int .i64 5)], .agg [.lit (.string [83, 85, 66]), .lit (.int .i64 2), .lit (.int .i64 1), .lit (.int .i64 3)], .agg [.lit (.string [68, 73, 86]), .lit (.int .i64 2), .lit (.int .i64 1), .lit (.int .i64 5)], .agg [.lit (.string [83, 68, 73, 86]), .lit (.int .i64 2), .lit (.int .i64 1), .lit (.int .i64 5)], .agg [.lit (.string [77, 79, 68]), .lit (.int .i64 2), .lit (.int .i64 1), .lit (.int .i64 5)], .agg [.lit (.string [83, 77, 79, 68]), .lit (.int .i64 2), .lit (.int .i64 1), .lit (.int .i64 5)], .agg [.lit (.string [65, 68, 68, 77, 79, 68]), .lit (.int .i64 3), .lit (.int .i64 1), .lit (.int .i64 8)], .agg [.lit (.string [77, 85, 76, 77, 79, 68]), .lit (.int .i64 3), .lit (.int .i64 1), .lit (.int .i64 8)], .agg [.lit (.string [69, 88, 80]), .lit (.int .i64 2), .lit (.int .i64 1), .lit (.int .i64 10)], .agg [.lit (.string [83, 73, 71, 78, 69, 88, 84, 69, 78, 68]), .lit (.int .i64 2), .lit (.int .i64 1), .lit (.int .i64 5)]]
def laid_truce_codes_lessTable {H : Type} : DataW H := .agg [.agg [.lit (.string [76, 84]), .lit (.int .i64 2), .lit (.int .i64 1), .lit (.int .i64 3)], .agg [.lit (.string [71, 84]), .lit (.int .i64 2), .lit (.int .i64 1), .lit (.int .i64 3)], .agg [.lit (.string [83, 76, 84]), .lit (.int .i64 2), .lit (.int .i64 1), .lit (.int .i64 3)], .agg [.lit (.string [83, 71, 84]), .lit (.int .i64 2), .lit (.int .i64 1), .lit (.int .i64 3)], .agg [.lit (.string [69, 81]), .lit (.int .i64 2), .lit (.int .i64 1), .lit (.int .i64 3)], .agg [.lit (.string [73, 83, 90, 69, 82, 79]), .lit (.int .i64 1), .lit (.int .i64 1), .lit (.int .i64 3)], .agg [.lit (.string [65, 78, 68]), .lit (.int .i64 2), .lit (.int .i64 1), .lit (.int .i64 3)], .agg [.lit (.string [79, 82]), .lit (.int .i64 2), .lit (.int .i64 1), .lit (.int .i64 3)], .agg [.lit (.string [88, 79, 82]), .lit (.int .i64 2), .lit (.int .i64 1), .lit (.int .i64 3)], .agg [.lit (.string [78, 79, 84]), .lit (.int .i64 1), .lit (.int .i64 1), .lit (.int .i64 3)], .agg [.lit (.string [66, 89, 84, 69]), .lit (.int .i64 2), .lit (.int .i64 1), .lit (.int .i64 3)], .agg [.lit (.string [83, 72, 76]), .lit (.int .i64 2), .lit (.int .i64 1), .lit (.int .i64 3)], .agg [.lit (.string [83, 72, 82]), .lit (.int .i64 2), .lit (.int .i64 1), .lit (.int .i64 3)], .agg [.lit (.string [83, 65, 82]), .lit (.int .i64 2), .lit (.int .i64 1), .lit (.int .i64 3)]]
def laid_truce_codes_inputTable {H : Type} : DataW H := .agg [.agg [.lit (.string [67, 65, 76, 76, 68, 65, 84, 65, 76, 79, 65, 68]), .lit (.int .i64 1), .lit (.int .i64 1), .lit (.int .i64 3)], .agg [.lit (.string [67, 65, 76, 76, 68, 65, 84, 65, 83, 73, 90, 69]), .lit (.int .i64 0), .lit (.int .i64 1), .lit (.int .i64 2)], .agg [.lit (.string [67, 65, 76, 76, 68, 65, 84, 65, 67, 79, 80, 89]), .lit (.int .i64 3), .lit (.int .i64 0), .lit (.int .i64 3)], .agg [.lit (.string [67, 79, 68, 69, 83, 73, 90, 69]), .lit (.int .i64 0), .lit (.int .i64 1), .lit (.int .i64 2)], .agg [.lit (.string [67, 79, 68, 69, 67, 79, 80, 89]), .lit (.int .i64 3), .lit (.int .i64 0), .lit (.int .i64 3)]]
def laid_truce_codes_popTable {H : Type} : DataW H := .agg [.agg [.lit (.string [80, 79, 80]), .lit (.int .i64 1), .lit (.int .i64 0), .lit (.int .i64 2)], .agg [.lit (.string [77, 76, 79, 65, 68]), .lit (.int .i64 1), .lit (.int .i64 1), .lit (.int .i64 3)], .agg [.lit (.string [77, 83, 84, 79, 82, 69]), .lit (.int .i64 2), .lit (.int .i64 0), .lit (.int .i64 3)], .agg [.lit (.string [77, 83, 84, 79, 82, 69, 56]), .lit (.int .i64 2), .lit (.int .i64 0), .lit (.int .i64 3)], .agg [.lit (.string []), .lit (.int .i64 0), .lit (.int .i64 0), .lit (.int .i64 0)], .agg [.lit (.string []), .lit (.int .i64 0), .lit (.int .i64 0), .lit (.int .i64 0)], .agg [.lit (.string [74, 85, 77, 80]), .lit (.int .i64 1), .lit (.int .i64 0), .lit (.int .i64 8)], .agg [.lit (.string [74, 85, 77, 80, 73]), .lit (.int .i64 2), .lit (.int .i64 0), .lit (.int .i64 10)], .agg [.lit (.string [80, 67]), .lit (.int .i64 0), .lit (.int .i64 1), .lit (.int .i64 2)], .agg [.lit (.string [77, 83, 73, 90, 69]), .lit (.int .i64 0), .lit (.int .i64 1), .lit (.int .i64 2)], .agg [.lit (.string [71, 65, 83]), .lit (.int .i64 0), .lit (.int .i64 1), .lit (.int .i64 2)], .agg [.lit (.string [74, 85, 77, 80, 68, 69, 83, 84]), .lit (.int .i64 0), .lit (.int .i64 0), .lit (.int .i64 1)], .agg [.lit (.string []), .lit (.int .i64 0), .lit (.int .i64 0), .lit (.int .i64 0)], .agg [.lit (.string []), .lit (.int .i64 0), .lit (.int .i64 0), .lit (.int .i64 0)], .agg [.lit (.string []), .lit (.int .i64 0), .lit (.int .i64 0), .lit (.int .i64 0)], .agg [.lit (.string [80, 85, 83, 72, 48]), .lit (.int .i64 0), .lit (.int .i64 1), .lit (.int .i64 2)]]

/-- 'trucelaw14.RuleTells': WHATEVER THE INPUT: true; the input reads as it did. -/
def ruleTellsSpec : ChangeSpec := { name := "ruleTells", fn := fun _ => fun
  | [d1, d2, d3, d4] => { results := [.lit (.bool true)], args := [d1, d2, d3, d4] }
  | _ => none }
def ruleTellsRow : OpenClaim := { program := "ythkpgfbjdabflaagreatdoor", sum := "8c2f7b7e4863fc73822462fa7bfbb0492d0dbc4026311cfda08c16f4373e4559", func := "truce/trucelaw14.RuleTells", spec := "ruleTells", inPlace := ["math/bits.Add64", "math/bits.Sub64", "internal/abi.NoEscape", "internal/bytealg.MakeNoZero"], unfollowed := true, recurses := true, named := ["truce/hash.marks", "truce/hash.places", "truce/hash.turns", "truce/codes.stopTable", "truce/codes.lessTable", "truce/codes.inputTable", "truce/codes.popTable"], apart := false, laid := [("truce/hash.turns", laid_truce_hash_turns), ("truce/hash.places", laid_truce_hash_places), ("truce/hash.marks", laid_truce_hash_marks), ("truce/codes.stopTable", laid_truce_codes_stopTable), ("truce/codes.lessTable", laid_truce_codes_lessTable), ("truce/codes.inputTable", laid_truce_codes_inputTable), ("truce/codes.popTable", laid_truce_codes_popTable)] }
def RuleTellsSaid : Prop := ruleTellsRow.holds Tryz.pinned (OpenSpec.ofChange ruleTellsSpec)

/-- ITS FALSE NEIGHBOUR: 'it returns false'. Refute it at one input. -/
def ruleTellsWrong : ChangeSpec := { name := "ruleTells", fn := fun _ => fun
  | [d1, d2, d3, d4] => { results := [.lit (.bool false)], args := [d1, d2, d3, d4] }
  | _ => none }
def RuleTellsWrongFalsely : Prop := ruleTellsRow.holds Tryz.pinned (OpenSpec.ofChange ruleTellsWrong)

/-- 'trucelaw14.RuleFollows': WHATEVER THE INPUT: true; the input reads as it did. -/
def ruleFollowsSpec : ChangeSpec := { name := "ruleFollows", fn := fun _ => fun
  | [d1, d2, d3] => { results := [.lit (.bool true)], args := [d1, d2, d3] }
  | _ => none }
def ruleFollowsRow : OpenClaim := { program := "ythkpgfbjdabflaagreatdoor", sum := "8c2f7b7e4863fc73822462fa7bfbb0492d0dbc4026311cfda08c16f4373e4559", func := "truce/trucelaw14.RuleFollows", spec := "ruleFollows", inPlace := ["math/bits.Add64", "math/bits.Sub64", "internal/abi.NoEscape", "internal/bytealg.MakeNoZero"], unfollowed := true, recurses := true, named := ["truce/hash.marks", "truce/hash.places", "truce/hash.turns", "truce/codes.stopTable", "truce/codes.lessTable", "truce/codes.inputTable", "truce/codes.popTable"], apart := false, laid := [("truce/hash.turns", laid_truce_hash_turns), ("truce/hash.places", laid_truce_hash_places), ("truce/hash.marks", laid_truce_hash_marks), ("truce/codes.stopTable", laid_truce_codes_stopTable), ("truce/codes.lessTable", laid_truce_codes_lessTable), ("truce/codes.inputTable", laid_truce_codes_inputTable), ("truce/codes.popTable", laid_truce_codes_popTable)] }
def RuleFollowsSaid : Prop := ruleFollowsRow.holds Tryz.pinned (OpenSpec.ofChange ruleFollowsSpec)

/-- ITS FALSE NEIGHBOUR: 'it returns false'. Refute it at one input. -/
def ruleFollowsWrong : ChangeSpec := { name := "ruleFollows", fn := fun _ => fun
  | [d1, d2, d3] => { results := [.lit (.bool false)], args := [d1, d2, d3] }
  | _ => none }
def RuleFollowsWrongFalsely : Prop := ruleFollowsRow.holds Tryz.pinned (OpenSpec.ofChange ruleFollowsWrong)

/-- 'trucelaw14.RuleKeeps': WHATEVER THE INPUT: true; the input reads as it did. -/
def ruleKeepsSpec : ChangeSpec := { name := "ruleKeeps", fn := fun _ => fun
  | [d1, d2, d3] => { results := [.lit (.bool true)], args := [d1, d2, d3] }
  | _ => none }
def ruleKeepsRow : OpenClaim := { program := "ythkpgfbjdabflaagreatdoor", sum := "8c2f7b7e4863fc73822462fa7bfbb0492d0dbc4026311cfda08c16f4373e4559", func := "truce/trucelaw14.RuleKeeps", spec := "ruleKeeps", inPlace := ["math/bits.Add64", "math/bits.Sub64", "internal/abi.NoEscape", "internal/bytealg.MakeNoZero"], unfollowed := true, recurses := true, named := ["truce/hash.marks", "truce/hash.places", "truce/hash.turns", "truce/codes.stopTable", "truce/codes.lessTable", "truce/codes.inputTable", "truce/codes.popTable"], apart := false, laid := [("truce/hash.turns", laid_truce_hash_turns), ("truce/hash.places", laid_truce_hash_places), ("truce/hash.marks", laid_truce_hash_marks), ("truce/codes.stopTable", laid_truce_codes_stopTable), ("truce/codes.lessTable", laid_truce_codes_lessTable), ("truce/codes.inputTable", laid_truce_codes_inputTable), ("truce/codes.popTable", laid_truce_codes_popTable)] }
def RuleKeepsSaid : Prop := ruleKeepsRow.holds Tryz.pinned (OpenSpec.ofChange ruleKeepsSpec)

/-- ITS FALSE NEIGHBOUR: 'it returns false'. Refute it at one input. -/
def ruleKeepsWrong : ChangeSpec := { name := "ruleKeeps", fn := fun _ => fun
  | [d1, d2, d3] => { results := [.lit (.bool false)], args := [d1, d2, d3] }
  | _ => none }
def RuleKeepsWrongFalsely : Prop := ruleKeepsRow.holds Tryz.pinned (OpenSpec.ofChange ruleKeepsWrong)

/-- 'trucelaw14.RuleAlone': WHATEVER THE INPUT: true; the input reads as it did. -/
def ruleAloneSpec : ChangeSpec := { name := "ruleAlone", fn := fun _ => fun
  | [d1, d2, d3] => { results := [.lit (.bool true)], args := [d1, d2, d3] }
  | _ => none }
def ruleAloneRow : OpenClaim := { program := "ythkpgfbjdabflaagreatdoor", sum := "8c2f7b7e4863fc73822462fa7bfbb0492d0dbc4026311cfda08c16f4373e4559", func := "truce/trucelaw14.RuleAlone", spec := "ruleAlone", inPlace := ["math/bits.Add64", "math/bits.Sub64", "internal/abi.NoEscape", "internal/bytealg.MakeNoZero"], unfollowed := true, recurses := true, named := ["truce/hash.marks", "truce/hash.places", "truce/hash.turns", "truce/codes.stopTable", "truce/codes.lessTable", "truce/codes.inputTable", "truce/codes.popTable"], apart := false, laid := [("truce/hash.turns", laid_truce_hash_turns), ("truce/hash.places", laid_truce_hash_places), ("truce/hash.marks", laid_truce_hash_marks), ("truce/codes.stopTable", laid_truce_codes_stopTable), ("truce/codes.lessTable", laid_truce_codes_lessTable), ("truce/codes.inputTable", laid_truce_codes_inputTable), ("truce/codes.popTable", laid_truce_codes_popTable)] }
def RuleAloneSaid : Prop := ruleAloneRow.holds Tryz.pinned (OpenSpec.ofChange ruleAloneSpec)

/-- ITS FALSE NEIGHBOUR: 'it returns false'. Refute it at one input. -/
def ruleAloneWrong : ChangeSpec := { name := "ruleAlone", fn := fun _ => fun
  | [d1, d2, d3] => { results := [.lit (.bool false)], args := [d1, d2, d3] }
  | _ => none }
def RuleAloneWrongFalsely : Prop := ruleAloneRow.holds Tryz.pinned (OpenSpec.ofChange ruleAloneWrong)

/-- 'trucelaw14.RuleInputs': WHATEVER THE INPUT: true; the input reads as it did. -/
def ruleInputsSpec : ChangeSpec := { name := "ruleInputs", fn := fun _ => fun
  | [d1, d2, d3, d4] => { results := [.lit (.bool true)], args := [d1, d2, d3, d4] }
  | _ => none }
def ruleInputsRow : OpenClaim := { program := "ythkpgfbjdabflaagreatdoor", sum := "8c2f7b7e4863fc73822462fa7bfbb0492d0dbc4026311cfda08c16f4373e4559", func := "truce/trucelaw14.RuleInputs", spec := "ruleInputs", inPlace := ["math/bits.Add64", "math/bits.Sub64", "internal/abi.NoEscape", "internal/bytealg.MakeNoZero"], unfollowed := true, recurses := true, named := ["truce/hash.marks", "truce/hash.places", "truce/hash.turns", "truce/codes.stopTable", "truce/codes.lessTable", "truce/codes.inputTable", "truce/codes.popTable"], apart := false, laid := [("truce/hash.turns", laid_truce_hash_turns), ("truce/hash.places", laid_truce_hash_places), ("truce/hash.marks", laid_truce_hash_marks), ("truce/codes.stopTable", laid_truce_codes_stopTable), ("truce/codes.lessTable", laid_truce_codes_lessTable), ("truce/codes.inputTable", laid_truce_codes_inputTable), ("truce/codes.popTable", laid_truce_codes_popTable)] }
def RuleInputsSaid : Prop := ruleInputsRow.holds Tryz.pinned (OpenSpec.ofChange ruleInputsSpec)

/-- ITS FALSE NEIGHBOUR: 'it returns false'. Refute it at one input. -/
def ruleInputsWrong : ChangeSpec := { name := "ruleInputs", fn := fun _ => fun
  | [d1, d2, d3, d4] => { results := [.lit (.bool false)], args := [d1, d2, d3, d4] }
  | _ => none }
def RuleInputsWrongFalsely : Prop := ruleInputsRow.holds Tryz.pinned (OpenSpec.ofChange ruleInputsWrong)

/- THE SECOND FORM. 'bulk': how many values and letters a reading holds, each counted each time it is reached (what is shared counts as often as it is met; a slice's spare places count too). A statement '..UptoSaid' is the law's where the arguments, and the package variables that the reading takes, are together of bulk at most 1048576: NARROWER than '..Said'. Prove '..Said' where nothing that the law and all that it calls make is longer than what came in: it says more and counts as full. Else prove '..UptoSaid'. A law counts once. -/
mutual
def uptoBulk {H : Type} : DataW H → Nat
  | .lit (.string bytes) => bytes.length + 1
  | .lit _ => 1
  | .nil => 1
  | .ptr d => uptoBulk d + 1
  | .slice elems spare => uptoBulkAll elems + uptoBulkAll spare + 1
  | .agg parts => uptoBulkAll parts + 1
  | .iface _ d => uptoBulk d + 1
  | .map entries => uptoBulkEntries entries + 1
  | .held _ => 1
def uptoBulkAll {H : Type} : List (DataW H) → Nat
  | [] => 0
  | d :: r => uptoBulk d + uptoBulkAll r
def uptoBulkEntries {H : Type} : List (Lit × DataW H) → Nat
  | [] => 0
  | x :: r => uptoBulkEntry x + uptoBulkEntries r
def uptoBulkEntry {H : Type} : Lit × DataW H → Nat
  | (.string bytes, d) => bytes.length + uptoBulk d + 1
  | (_, d) => uptoBulk d + 1
 end
def uptoSmall : (H : Type) → List (DataW H) → Bool := fun _ ds => decide (uptoBulkAll ds ≤ 1048576)
def OpenSpec.upto (s : _root_.Go.ChangeSpec) : _root_.Go.OpenSpec := { _root_.Go.OpenSpec.ofChange s with cond := some uptoSmall }

/-- 'trucelaw14.RuleTells', WHERE WHAT IT READS IS OF BULK AT MOST 1048576: true; the input reads as it did. -/
def ruleTellsUptoRow : OpenClaim := { program := "ythkpgfbjdabflaagreatdoor", sum := "8c2f7b7e4863fc73822462fa7bfbb0492d0dbc4026311cfda08c16f4373e4559", func := "truce/trucelaw14.RuleTells", spec := "ruleTells", inPlace := ["math/bits.Add64", "math/bits.Sub64", "internal/abi.NoEscape", "internal/bytealg.MakeNoZero"], unfollowed := true, recurses := true, named := ["truce/hash.marks", "truce/hash.places", "truce/hash.turns", "truce/codes.stopTable", "truce/codes.lessTable", "truce/codes.inputTable", "truce/codes.popTable"], apart := false, laid := [("truce/hash.turns", laid_truce_hash_turns), ("truce/hash.places", laid_truce_hash_places), ("truce/hash.marks", laid_truce_hash_marks), ("truce/codes.stopTable", laid_truce_codes_stopTable), ("truce/codes.lessTable", laid_truce_codes_lessTable), ("truce/codes.inputTable", laid_truce_codes_inputTable), ("truce/codes.popTable", laid_truce_codes_popTable)], narrowed := true }
def RuleTellsUptoSaid : Prop := ruleTellsUptoRow.holds Tryz.pinned (OpenSpec.upto ruleTellsSpec)

/-- 'trucelaw14.RuleFollows', WHERE WHAT IT READS IS OF BULK AT MOST 1048576: true; the input reads as it did. -/
def ruleFollowsUptoRow : OpenClaim := { program := "ythkpgfbjdabflaagreatdoor", sum := "8c2f7b7e4863fc73822462fa7bfbb0492d0dbc4026311cfda08c16f4373e4559", func := "truce/trucelaw14.RuleFollows", spec := "ruleFollows", inPlace := ["math/bits.Add64", "math/bits.Sub64", "internal/abi.NoEscape", "internal/bytealg.MakeNoZero"], unfollowed := true, recurses := true, named := ["truce/hash.marks", "truce/hash.places", "truce/hash.turns", "truce/codes.stopTable", "truce/codes.lessTable", "truce/codes.inputTable", "truce/codes.popTable"], apart := false, laid := [("truce/hash.turns", laid_truce_hash_turns), ("truce/hash.places", laid_truce_hash_places), ("truce/hash.marks", laid_truce_hash_marks), ("truce/codes.stopTable", laid_truce_codes_stopTable), ("truce/codes.lessTable", laid_truce_codes_lessTable), ("truce/codes.inputTable", laid_truce_codes_inputTable), ("truce/codes.popTable", laid_truce_codes_popTable)], narrowed := true }
def RuleFollowsUptoSaid : Prop := ruleFollowsUptoRow.holds Tryz.pinned (OpenSpec.upto ruleFollowsSpec)

/-- 'trucelaw14.RuleKeeps', WHERE WHAT IT READS IS OF BULK AT MOST 1048576: true; the input reads as it did. -/
def ruleKeepsUptoRow : OpenClaim := { program := "ythkpgfbjdabflaagreatdoor", sum := "8c2f7b7e4863fc73822462fa7bfbb0492d0dbc4026311cfda08c16f4373e4559", func := "truce/trucelaw14.RuleKeeps", spec := "ruleKeeps", inPlace := ["math/bits.Add64", "math/bits.Sub64", "internal/abi.NoEscape", "internal/bytealg.MakeNoZero"], unfollowed := true, recurses := true, named := ["truce/hash.marks", "truce/hash.places", "truce/hash.turns", "truce/codes.stopTable", "truce/codes.lessTable", "truce/codes.inputTable", "truce/codes.popTable"], apart := false, laid := [("truce/hash.turns", laid_truce_hash_turns), ("truce/hash.places", laid_truce_hash_places), ("truce/hash.marks", laid_truce_hash_marks), ("truce/codes.stopTable", laid_truce_codes_stopTable), ("truce/codes.lessTable", laid_truce_codes_lessTable), ("truce/codes.inputTable", laid_truce_codes_inputTable), ("truce/codes.popTable", laid_truce_codes_popTable)], narrowed := true }
def RuleKeepsUptoSaid : Prop := ruleKeepsUptoRow.holds Tryz.pinned (OpenSpec.upto ruleKeepsSpec)

/-- 'trucelaw14.RuleAlone', WHERE WHAT IT READS IS OF BULK AT MOST 1048576: true; the input reads as it did. -/
def ruleAloneUptoRow : OpenClaim := { program := "ythkpgfbjdabflaagreatdoor", sum := "8c2f7b7e4863fc73822462fa7bfbb0492d0dbc4026311cfda08c16f4373e4559", func := "truce/trucelaw14.RuleAlone", spec := "ruleAlone", inPlace := ["math/bits.Add64", "math/bits.Sub64", "internal/abi.NoEscape", "internal/bytealg.MakeNoZero"], unfollowed := true, recurses := true, named := ["truce/hash.marks", "truce/hash.places", "truce/hash.turns", "truce/codes.stopTable", "truce/codes.lessTable", "truce/codes.inputTable", "truce/codes.popTable"], apart := false, laid := [("truce/hash.turns", laid_truce_hash_turns), ("truce/hash.places", laid_truce_hash_places), ("truce/hash.marks", laid_truce_hash_marks), ("truce/codes.stopTable", laid_truce_codes_stopTable), ("truce/codes.lessTable", laid_truce_codes_lessTable), ("truce/codes.inputTable", laid_truce_codes_inputTable), ("truce/codes.popTable", laid_truce_codes_popTable)], narrowed := true }
def RuleAloneUptoSaid : Prop := ruleAloneUptoRow.holds Tryz.pinned (OpenSpec.upto ruleAloneSpec)

/-- 'trucelaw14.RuleInputs', WHERE WHAT IT READS IS OF BULK AT MOST 1048576: true; the input reads as it did. -/
def ruleInputsUptoRow : OpenClaim := { program := "ythkpgfbjdabflaagreatdoor", sum := "8c2f7b7e4863fc73822462fa7bfbb0492d0dbc4026311cfda08c16f4373e4559", func := "truce/trucelaw14.RuleInputs", spec := "ruleInputs", inPlace := ["math/bits.Add64", "math/bits.Sub64", "internal/abi.NoEscape", "internal/bytealg.MakeNoZero"], unfollowed := true, recurses := true, named := ["truce/hash.marks", "truce/hash.places", "truce/hash.turns", "truce/codes.stopTable", "truce/codes.lessTable", "truce/codes.inputTable", "truce/codes.popTable"], apart := false, laid := [("truce/hash.turns", laid_truce_hash_turns), ("truce/hash.places", laid_truce_hash_places), ("truce/hash.marks", laid_truce_hash_marks), ("truce/codes.stopTable", laid_truce_codes_stopTable), ("truce/codes.lessTable", laid_truce_codes_lessTable), ("truce/codes.inputTable", laid_truce_codes_inputTable), ("truce/codes.popTable", laid_truce_codes_popTable)], narrowed := true }
def RuleInputsUptoSaid : Prop := ruleInputsUptoRow.holds Tryz.pinned (OpenSpec.upto ruleInputsSpec)

end Rows
end Go.Proofs.YthkpgfbjdabflaaGreatDoor
