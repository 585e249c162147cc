/-
  DERIVED. GIVEN WITH THE SEED: THE CARDS: each row of YtceedgdbhlpjlaaGreatDoorRows.lean that lists a variable, with what it lists TIED to the program's text (the seventh form; the later family's looks); each row that meets fmt, with fmt's text TOLD by the authors' own Lean function (tested against real Go, not proved from fmt's source: count such statements apart). THE CARD IS WHAT COUNTS. Prove the row's statement (the work); the ties are given (YtceedgdbhlpjlaaGreatDoorTie.lean); close each card by the builder's one call (the guide's Derived/Test/ToyasCard.lean, 'card_holds'). Laid BY PROGRAM, IN A SANDBOX (cutbox-door.mjs). By AI agents, Wed Nov 11 2026. No macro, syntax, notation, axiom, sorry.
-/
import Derived.Test.YtceedgdbhlpjlaaGreatDoorRows
import GoSem.ClaimSeven
namespace Go.Proofs.YtceedgdbhlpjlaaGreatDoor
namespace Rows

/-- THE TIED CARD OF 'trucelaw13.VmSteps'. -/
def vmStepsCard : Claim7 := { stood := { row := vmStepsRow, standIns := [], harness := (true, "f6278f8aae92d3454f3096059c9d45e56ec10d3f32a0111ef5915b508ba788d3"), looks := true }, kinds := [], alts := [], laidByText := true, laidKinds := [.data, .data, .data, .data, .data, .data, .data], laidTests := true, laidLooks := .later }
def VmStepsCardSaid : Prop := Claim7.holds Tryz.pinned (.plain (OpenSpec.ofChange vmStepsSpec)) vmStepsCard

/-- THE TIED CARD OF 'trucelaw13.VmRuns'. -/
def vmRunsCard : Claim7 := { stood := { row := vmRunsRow, standIns := [], harness := (true, "f6278f8aae92d3454f3096059c9d45e56ec10d3f32a0111ef5915b508ba788d3"), looks := true }, kinds := [], alts := [], laidByText := true, laidKinds := [.data, .data, .data, .data, .data, .data, .data], laidTests := true, laidLooks := .later }
def VmRunsCardSaid : Prop := Claim7.holds Tryz.pinned (.plain (OpenSpec.ofChange vmRunsSpec)) vmRunsCard

/-- THE TIED CARD OF 'trucelaw13.VmGas'. -/
def vmGasCard : Claim7 := { stood := { row := vmGasRow, standIns := [], harness := (true, "f6278f8aae92d3454f3096059c9d45e56ec10d3f32a0111ef5915b508ba788d3"), looks := true }, kinds := [], alts := [], laidByText := true, laidKinds := [.data, .data, .data, .data, .data, .data, .data], laidTests := true, laidLooks := .later }
def VmGasCardSaid : Prop := Claim7.holds Tryz.pinned (.plain (OpenSpec.ofChange vmGasSpec)) vmGasCard

/-- THE TIED CARD OF 'trucelaw13.VmEnds'. -/
def vmEndsCard : Claim7 := { stood := { row := vmEndsRow, standIns := [], harness := (true, "f6278f8aae92d3454f3096059c9d45e56ec10d3f32a0111ef5915b508ba788d3"), looks := true }, kinds := [], alts := [], laidByText := true, laidKinds := [.data, .data, .data, .data, .data, .data, .data], laidTests := true, laidLooks := .later }
def VmEndsCardSaid : Prop := Claim7.holds Tryz.pinned (.plain (OpenSpec.ofChange vmEndsSpec)) vmEndsCard

/-- THE TIED CARD OF 'trucelaw13.VmFolds'. -/
def vmFoldsCard : Claim7 := { stood := { row := vmFoldsRow, standIns := [], harness := (true, "f6278f8aae92d3454f3096059c9d45e56ec10d3f32a0111ef5915b508ba788d3"), looks := true }, kinds := [], alts := [], laidByText := true, laidKinds := [.data, .data, .data, .data, .data, .data, .data], laidTests := true, laidLooks := .later }
def VmFoldsCardSaid : Prop := Claim7.holds Tryz.pinned (.plain (OpenSpec.ofChange vmFoldsSpec)) vmFoldsCard

/-- THE SECOND FORM's CARD OF 'trucelaw13.VmSteps'. -/
def vmStepsUptoCard : Claim7 := { stood := { row := vmStepsUptoRow, standIns := [], harness := (true, "f6278f8aae92d3454f3096059c9d45e56ec10d3f32a0111ef5915b508ba788d3"), looks := true }, kinds := [], alts := [], laidByText := true, laidKinds := [.data, .data, .data, .data, .data, .data, .data], laidTests := true, laidLooks := .later }
def VmStepsUptoCardSaid : Prop := Claim7.holds Tryz.pinned (.plain (OpenSpec.upto vmStepsSpec)) vmStepsUptoCard

/-- THE SECOND FORM's CARD OF 'trucelaw13.VmRuns'. -/
def vmRunsUptoCard : Claim7 := { stood := { row := vmRunsUptoRow, standIns := [], harness := (true, "f6278f8aae92d3454f3096059c9d45e56ec10d3f32a0111ef5915b508ba788d3"), looks := true }, kinds := [], alts := [], laidByText := true, laidKinds := [.data, .data, .data, .data, .data, .data, .data], laidTests := true, laidLooks := .later }
def VmRunsUptoCardSaid : Prop := Claim7.holds Tryz.pinned (.plain (OpenSpec.upto vmRunsSpec)) vmRunsUptoCard

/-- THE SECOND FORM's CARD OF 'trucelaw13.VmGas'. -/
def vmGasUptoCard : Claim7 := { stood := { row := vmGasUptoRow, standIns := [], harness := (true, "f6278f8aae92d3454f3096059c9d45e56ec10d3f32a0111ef5915b508ba788d3"), looks := true }, kinds := [], alts := [], laidByText := true, laidKinds := [.data, .data, .data, .data, .data, .data, .data], laidTests := true, laidLooks := .later }
def VmGasUptoCardSaid : Prop := Claim7.holds Tryz.pinned (.plain (OpenSpec.upto vmGasSpec)) vmGasUptoCard

/-- THE SECOND FORM's CARD OF 'trucelaw13.VmEnds'. -/
def vmEndsUptoCard : Claim7 := { stood := { row := vmEndsUptoRow, standIns := [], harness := (true, "f6278f8aae92d3454f3096059c9d45e56ec10d3f32a0111ef5915b508ba788d3"), looks := true }, kinds := [], alts := [], laidByText := true, laidKinds := [.data, .data, .data, .data, .data, .data, .data], laidTests := true, laidLooks := .later }
def VmEndsUptoCardSaid : Prop := Claim7.holds Tryz.pinned (.plain (OpenSpec.upto vmEndsSpec)) vmEndsUptoCard

/-- THE SECOND FORM's CARD OF 'trucelaw13.VmFolds'. -/
def vmFoldsUptoCard : Claim7 := { stood := { row := vmFoldsUptoRow, standIns := [], harness := (true, "f6278f8aae92d3454f3096059c9d45e56ec10d3f32a0111ef5915b508ba788d3"), looks := true }, kinds := [], alts := [], laidByText := true, laidKinds := [.data, .data, .data, .data, .data, .data, .data], laidTests := true, laidLooks := .later }
def VmFoldsUptoCardSaid : Prop := Claim7.holds Tryz.pinned (.plain (OpenSpec.upto vmFoldsSpec)) vmFoldsUptoCard
end Rows
end Go.Proofs.YtceedgdbhlpjlaaGreatDoor
