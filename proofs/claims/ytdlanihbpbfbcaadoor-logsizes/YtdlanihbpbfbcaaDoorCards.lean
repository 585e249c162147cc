/-
  DERIVED. GIVEN WITH THE SEED: THE CARDS: each row of YtdlanihbpbfbcaaDoorRows.lean that lists a variable, with what it lists TIED to the program's text (the seventh form; the later family's looks); each row that meets fmt, with fmt's text TOLD by the authors' own Lean function (tested against real Go, not proved from fmt's source: count such statements apart). THE CARD IS WHAT COUNTS. Prove the row's statement (the work); the ties are given (YtdlanihbpbfbcaaDoorTie.lean); close each card by the builder's one call (the guide's Derived/Test/ToyasCard.lean, 'card_holds'). Laid BY PROGRAM, IN A SANDBOX (cutbox-door.mjs). By AI agents, Wed Nov 11 2026. No macro, syntax, notation, axiom, sorry.
-/
import Derived.Test.YtdlanihbpbfbcaaDoorRows
import GoSem.ClaimSeven
namespace Go.Proofs.YtdlanihbpbfbcaaDoor
namespace Rows

/-- THE TIED CARD OF 'trucelaw23.LogTells'. -/
def logTellsCard : Claim7 := { stood := { row := logTellsRow, standIns := [], harness := (true, "b4fc397a856909af2fb6c3e252ae3c34b3767ec4fc23d8a3eabff91f4602d20a"), looks := false }, kinds := [], alts := [], laidByText := true, laidKinds := [.data, .data, .data], laidTests := true, laidLooks := .later }
def LogTellsCardSaid : Prop := Claim7.holds Tryd.pinned (.plain (OpenSpec.ofChange logTellsSpec)) logTellsCard

/-- THE TIED CARD OF 'trucelaw23.LogBack'. -/
def logBackCard : Claim7 := { stood := { row := logBackRow, standIns := [], harness := (true, "b4fc397a856909af2fb6c3e252ae3c34b3767ec4fc23d8a3eabff91f4602d20a"), looks := false }, kinds := [], alts := [], laidByText := true, laidKinds := [.data, .data, .data], laidTests := true, laidLooks := .later }
def LogBackCardSaid : Prop := Claim7.holds Tryd.pinned (.plain (OpenSpec.ofChange logBackSpec)) logBackCard

/-- THE TIED CARD OF 'trucelaw23.LogBegins'. -/
def logBeginsCard : Claim7 := { stood := { row := logBeginsRow, standIns := [], harness := (true, "b4fc397a856909af2fb6c3e252ae3c34b3767ec4fc23d8a3eabff91f4602d20a"), looks := false }, kinds := [], alts := [], laidByText := true, laidKinds := [.data, .data, .data], laidTests := true, laidLooks := .later }
def LogBeginsCardSaid : Prop := Claim7.holds Tryd.pinned (.plain (OpenSpec.ofChange logBeginsSpec)) logBeginsCard

/-- THE TIED CARD OF 'trucelaw23.LogSizes'. -/
def logSizesCard : Claim7 := { stood := { row := logSizesRow, standIns := [], harness := (true, "b4fc397a856909af2fb6c3e252ae3c34b3767ec4fc23d8a3eabff91f4602d20a"), looks := false }, kinds := [], alts := [], laidByText := true, laidKinds := [.data, .data, .data], laidTests := true, laidLooks := .later }
def LogSizesCardSaid : Prop := Claim7.holds Tryd.pinned (.plain (OpenSpec.ofChange logSizesSpec)) logSizesCard

/-- THE SECOND FORM's CARD OF 'trucelaw23.LogTells'. -/
def logTellsUptoCard : Claim7 := { stood := { row := logTellsUptoRow, standIns := [], harness := (true, "b4fc397a856909af2fb6c3e252ae3c34b3767ec4fc23d8a3eabff91f4602d20a"), looks := false }, kinds := [], alts := [], laidByText := true, laidKinds := [.data, .data, .data], laidTests := true, laidLooks := .later }
def LogTellsUptoCardSaid : Prop := Claim7.holds Tryd.pinned (.plain (OpenSpec.upto logTellsSpec)) logTellsUptoCard

/-- THE SECOND FORM's CARD OF 'trucelaw23.LogBack'. -/
def logBackUptoCard : Claim7 := { stood := { row := logBackUptoRow, standIns := [], harness := (true, "b4fc397a856909af2fb6c3e252ae3c34b3767ec4fc23d8a3eabff91f4602d20a"), looks := false }, kinds := [], alts := [], laidByText := true, laidKinds := [.data, .data, .data], laidTests := true, laidLooks := .later }
def LogBackUptoCardSaid : Prop := Claim7.holds Tryd.pinned (.plain (OpenSpec.upto logBackSpec)) logBackUptoCard

/-- THE SECOND FORM's CARD OF 'trucelaw23.LogBegins'. -/
def logBeginsUptoCard : Claim7 := { stood := { row := logBeginsUptoRow, standIns := [], harness := (true, "b4fc397a856909af2fb6c3e252ae3c34b3767ec4fc23d8a3eabff91f4602d20a"), looks := false }, kinds := [], alts := [], laidByText := true, laidKinds := [.data, .data, .data], laidTests := true, laidLooks := .later }
def LogBeginsUptoCardSaid : Prop := Claim7.holds Tryd.pinned (.plain (OpenSpec.upto logBeginsSpec)) logBeginsUptoCard

/-- THE SECOND FORM's CARD OF 'trucelaw23.LogSizes'. -/
def logSizesUptoCard : Claim7 := { stood := { row := logSizesUptoRow, standIns := [], harness := (true, "b4fc397a856909af2fb6c3e252ae3c34b3767ec4fc23d8a3eabff91f4602d20a"), looks := false }, kinds := [], alts := [], laidByText := true, laidKinds := [.data, .data, .data], laidTests := true, laidLooks := .later }
def LogSizesUptoCardSaid : Prop := Claim7.holds Tryd.pinned (.plain (OpenSpec.upto logSizesSpec)) logSizesUptoCard
end Rows
end Go.Proofs.YtdlanihbpbfbcaaDoor
