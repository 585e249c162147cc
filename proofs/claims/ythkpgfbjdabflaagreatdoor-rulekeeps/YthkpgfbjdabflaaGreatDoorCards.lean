/-
  DERIVED. GIVEN WITH THE SEED: THE CARDS: each row of YthkpgfbjdabflaaGreatDoorRows.lean that lists a variable, with what it lists TIED to the program's text (the seventh form; the later family's looks); each row that meets fmt, with fmt's text TOLD by the authors' own Lean function (tested against real Go, not proved from fmt's source: count such statements apart). THE CARD IS WHAT COUNTS. Prove the row's statement (the work); the ties are given (YthkpgfbjdabflaaGreatDoorTie.lean); close each card by the builder's one call (the guide's Derived/Test/ToyasCard.lean, 'card_holds'). Laid BY PROGRAM, IN A SANDBOX (cutbox-door.mjs). By AI agents, Wed Nov 11 2026. No macro, syntax, notation, axiom, sorry.
-/
import Derived.Test.YthkpgfbjdabflaaGreatDoorRows
import GoSem.ClaimSeven
namespace Go.Proofs.YthkpgfbjdabflaaGreatDoor
namespace Rows

/-- THE TIED CARD OF 'trucelaw14.RuleTells'. -/
def ruleTellsCard : Claim7 := { stood := { row := ruleTellsRow, standIns := [], harness := (true, "637df5d24613b997e7afd9dab57fefb431f831ee6beeef2c9290925bac86615d"), looks := true }, kinds := [], alts := [], laidByText := true, laidKinds := [.data, .data, .data, .data, .data, .data, .data], laidTests := true, laidLooks := .later }
def RuleTellsCardSaid : Prop := Claim7.holds Tryz.pinned (.plain (OpenSpec.ofChange ruleTellsSpec)) ruleTellsCard

/-- THE TIED CARD OF 'trucelaw14.RuleFollows'. -/
def ruleFollowsCard : Claim7 := { stood := { row := ruleFollowsRow, standIns := [], harness := (true, "637df5d24613b997e7afd9dab57fefb431f831ee6beeef2c9290925bac86615d"), looks := true }, kinds := [], alts := [], laidByText := true, laidKinds := [.data, .data, .data, .data, .data, .data, .data], laidTests := true, laidLooks := .later }
def RuleFollowsCardSaid : Prop := Claim7.holds Tryz.pinned (.plain (OpenSpec.ofChange ruleFollowsSpec)) ruleFollowsCard

/-- THE TIED CARD OF 'trucelaw14.RuleKeeps'. -/
def ruleKeepsCard : Claim7 := { stood := { row := ruleKeepsRow, standIns := [], harness := (true, "637df5d24613b997e7afd9dab57fefb431f831ee6beeef2c9290925bac86615d"), looks := true }, kinds := [], alts := [], laidByText := true, laidKinds := [.data, .data, .data, .data, .data, .data, .data], laidTests := true, laidLooks := .later }
def RuleKeepsCardSaid : Prop := Claim7.holds Tryz.pinned (.plain (OpenSpec.ofChange ruleKeepsSpec)) ruleKeepsCard

/-- THE TIED CARD OF 'trucelaw14.RuleAlone'. -/
def ruleAloneCard : Claim7 := { stood := { row := ruleAloneRow, standIns := [], harness := (true, "637df5d24613b997e7afd9dab57fefb431f831ee6beeef2c9290925bac86615d"), looks := true }, kinds := [], alts := [], laidByText := true, laidKinds := [.data, .data, .data, .data, .data, .data, .data], laidTests := true, laidLooks := .later }
def RuleAloneCardSaid : Prop := Claim7.holds Tryz.pinned (.plain (OpenSpec.ofChange ruleAloneSpec)) ruleAloneCard

/-- THE TIED CARD OF 'trucelaw14.RuleInputs'. -/
def ruleInputsCard : Claim7 := { stood := { row := ruleInputsRow, standIns := [], harness := (true, "637df5d24613b997e7afd9dab57fefb431f831ee6beeef2c9290925bac86615d"), looks := true }, kinds := [], alts := [], laidByText := true, laidKinds := [.data, .data, .data, .data, .data, .data, .data], laidTests := true, laidLooks := .later }
def RuleInputsCardSaid : Prop := Claim7.holds Tryz.pinned (.plain (OpenSpec.ofChange ruleInputsSpec)) ruleInputsCard

/-- THE SECOND FORM's CARD OF 'trucelaw14.RuleTells'. -/
def ruleTellsUptoCard : Claim7 := { stood := { row := ruleTellsUptoRow, standIns := [], harness := (true, "637df5d24613b997e7afd9dab57fefb431f831ee6beeef2c9290925bac86615d"), looks := true }, kinds := [], alts := [], laidByText := true, laidKinds := [.data, .data, .data, .data, .data, .data, .data], laidTests := true, laidLooks := .later }
def RuleTellsUptoCardSaid : Prop := Claim7.holds Tryz.pinned (.plain (OpenSpec.upto ruleTellsSpec)) ruleTellsUptoCard

/-- THE SECOND FORM's CARD OF 'trucelaw14.RuleFollows'. -/
def ruleFollowsUptoCard : Claim7 := { stood := { row := ruleFollowsUptoRow, standIns := [], harness := (true, "637df5d24613b997e7afd9dab57fefb431f831ee6beeef2c9290925bac86615d"), looks := true }, kinds := [], alts := [], laidByText := true, laidKinds := [.data, .data, .data, .data, .data, .data, .data], laidTests := true, laidLooks := .later }
def RuleFollowsUptoCardSaid : Prop := Claim7.holds Tryz.pinned (.plain (OpenSpec.upto ruleFollowsSpec)) ruleFollowsUptoCard

/-- THE SECOND FORM's CARD OF 'trucelaw14.RuleKeeps'. -/
def ruleKeepsUptoCard : Claim7 := { stood := { row := ruleKeepsUptoRow, standIns := [], harness := (true, "637df5d24613b997e7afd9dab57fefb431f831ee6beeef2c9290925bac86615d"), looks := true }, kinds := [], alts := [], laidByText := true, laidKinds := [.data, .data, .data, .data, .data, .data, .data], laidTests := true, laidLooks := .later }
def RuleKeepsUptoCardSaid : Prop := Claim7.holds Tryz.pinned (.plain (OpenSpec.upto ruleKeepsSpec)) ruleKeepsUptoCard

/-- THE SECOND FORM's CARD OF 'trucelaw14.RuleAlone'. -/
def ruleAloneUptoCard : Claim7 := { stood := { row := ruleAloneUptoRow, standIns := [], harness := (true, "637df5d24613b997e7afd9dab57fefb431f831ee6beeef2c9290925bac86615d"), looks := true }, kinds := [], alts := [], laidByText := true, laidKinds := [.data, .data, .data, .data, .data, .data, .data], laidTests := true, laidLooks := .later }
def RuleAloneUptoCardSaid : Prop := Claim7.holds Tryz.pinned (.plain (OpenSpec.upto ruleAloneSpec)) ruleAloneUptoCard

/-- THE SECOND FORM's CARD OF 'trucelaw14.RuleInputs'. -/
def ruleInputsUptoCard : Claim7 := { stood := { row := ruleInputsUptoRow, standIns := [], harness := (true, "637df5d24613b997e7afd9dab57fefb431f831ee6beeef2c9290925bac86615d"), looks := true }, kinds := [], alts := [], laidByText := true, laidKinds := [.data, .data, .data, .data, .data, .data, .data], laidTests := true, laidLooks := .later }
def RuleInputsUptoCardSaid : Prop := Claim7.holds Tryz.pinned (.plain (OpenSpec.upto ruleInputsSpec)) ruleInputsUptoCard
end Rows
end Go.Proofs.YthkpgfbjdabflaaGreatDoor
