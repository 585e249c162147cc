/-
  DERIVED. GIVEN WITH THE SEED: THE CARDS: each row of YtfhppenjbmmadaaGreatDoorRows.lean that lists a variable, with what it lists TIED to the program's text (the seventh form; the later family's looks); each row that meets fmt, with fmt's text TOLD by the authors' own Lean function (tested against real Go, not proved from fmt's source: count such statements apart). THE CARD IS WHAT COUNTS. Prove the row's statement (the work); the ties are given (YtfhppenjbmmadaaGreatDoorTie.lean); close each card by the builder's one call (the guide's Derived/Test/ToyasCard.lean, 'card_holds'). Laid BY PROGRAM, IN A SANDBOX (cutbox-door.mjs). By AI agents, Wed Nov 11 2026. No macro, syntax, notation, axiom, sorry.
-/
import Derived.Test.YtfhppenjbmmadaaGreatDoorRows
import GoSem.ClaimSeven
namespace Go.Proofs.YtfhppenjbmmadaaGreatDoor
namespace Rows

/-- THE TIED CARD OF 'trucelaw08.SealMakes'. -/
def sealMakesCard : Claim7 := { stood := { row := sealMakesRow, standIns := [], harness := (true, "4fd91a243fd5ad4a72444be735fcac717db6819a0ab6bb02f28066eb59c98188"), looks := false }, kinds := [], alts := [], laidByText := true, laidKinds := [.data, .data, .data], laidTests := true, laidLooks := .later }
def SealMakesCardSaid : Prop := Claim7.holds Tryz.pinned (.plain (OpenSpec.ofChange sealMakesSpec)) sealMakesCard

/-- THE TIED CARD OF 'trucelaw08.SealTells'. -/
def sealTellsCard : Claim7 := { stood := { row := sealTellsRow, standIns := [], harness := (true, "4fd91a243fd5ad4a72444be735fcac717db6819a0ab6bb02f28066eb59c98188"), looks := false }, kinds := [], alts := [], laidByText := true, laidKinds := [.data, .data, .data], laidTests := true, laidLooks := .later }
def SealTellsCardSaid : Prop := Claim7.holds Tryz.pinned (.plain (OpenSpec.ofChange sealTellsSpec)) sealTellsCard

/-- THE TIED CARD OF 'trucelaw08.SealBack'. -/
def sealBackCard : Claim7 := { stood := { row := sealBackRow, standIns := [], harness := (true, "4fd91a243fd5ad4a72444be735fcac717db6819a0ab6bb02f28066eb59c98188"), looks := false }, kinds := [], alts := [], laidByText := true, laidKinds := [.data, .data, .data], laidTests := true, laidLooks := .later }
def SealBackCardSaid : Prop := Claim7.holds Tryz.pinned (.plain (OpenSpec.ofChange sealBackSpec)) sealBackCard

/-- THE TIED CARD OF 'trucelaw08.SealOther'. -/
def sealOtherCard : Claim7 := { stood := { row := sealOtherRow, standIns := [], harness := (true, "4fd91a243fd5ad4a72444be735fcac717db6819a0ab6bb02f28066eb59c98188"), looks := false }, kinds := [], alts := [], laidByText := true, laidKinds := [.data, .data, .data], laidTests := true, laidLooks := .later }
def SealOtherCardSaid : Prop := Claim7.holds Tryz.pinned (.plain (OpenSpec.ofChange sealOtherSpec)) sealOtherCard

/-- THE TIED CARD OF 'trucelaw08.SealWrites'. -/
def sealWritesCard : Claim7 := { stood := { row := sealWritesRow, standIns := [], harness := (true, "4fd91a243fd5ad4a72444be735fcac717db6819a0ab6bb02f28066eb59c98188"), looks := false }, kinds := [], alts := [], laidByText := true, laidKinds := [.data, .data, .data], laidTests := true, laidLooks := .later }
def SealWritesCardSaid : Prop := Claim7.holds Tryz.pinned (.plain (OpenSpec.ofChange sealWritesSpec)) sealWritesCard

/-- THE SECOND FORM's CARD OF 'trucelaw08.SealMakes'. -/
def sealMakesUptoCard : Claim7 := { stood := { row := sealMakesUptoRow, standIns := [], harness := (true, "4fd91a243fd5ad4a72444be735fcac717db6819a0ab6bb02f28066eb59c98188"), looks := false }, kinds := [], alts := [], laidByText := true, laidKinds := [.data, .data, .data], laidTests := true, laidLooks := .later }
def SealMakesUptoCardSaid : Prop := Claim7.holds Tryz.pinned (.plain (OpenSpec.upto sealMakesSpec)) sealMakesUptoCard

/-- THE SECOND FORM's CARD OF 'trucelaw08.SealTells'. -/
def sealTellsUptoCard : Claim7 := { stood := { row := sealTellsUptoRow, standIns := [], harness := (true, "4fd91a243fd5ad4a72444be735fcac717db6819a0ab6bb02f28066eb59c98188"), looks := false }, kinds := [], alts := [], laidByText := true, laidKinds := [.data, .data, .data], laidTests := true, laidLooks := .later }
def SealTellsUptoCardSaid : Prop := Claim7.holds Tryz.pinned (.plain (OpenSpec.upto sealTellsSpec)) sealTellsUptoCard

/-- THE SECOND FORM's CARD OF 'trucelaw08.SealBack'. -/
def sealBackUptoCard : Claim7 := { stood := { row := sealBackUptoRow, standIns := [], harness := (true, "4fd91a243fd5ad4a72444be735fcac717db6819a0ab6bb02f28066eb59c98188"), looks := false }, kinds := [], alts := [], laidByText := true, laidKinds := [.data, .data, .data], laidTests := true, laidLooks := .later }
def SealBackUptoCardSaid : Prop := Claim7.holds Tryz.pinned (.plain (OpenSpec.upto sealBackSpec)) sealBackUptoCard

/-- THE SECOND FORM's CARD OF 'trucelaw08.SealOther'. -/
def sealOtherUptoCard : Claim7 := { stood := { row := sealOtherUptoRow, standIns := [], harness := (true, "4fd91a243fd5ad4a72444be735fcac717db6819a0ab6bb02f28066eb59c98188"), looks := false }, kinds := [], alts := [], laidByText := true, laidKinds := [.data, .data, .data], laidTests := true, laidLooks := .later }
def SealOtherUptoCardSaid : Prop := Claim7.holds Tryz.pinned (.plain (OpenSpec.upto sealOtherSpec)) sealOtherUptoCard

/-- THE SECOND FORM's CARD OF 'trucelaw08.SealWrites'. -/
def sealWritesUptoCard : Claim7 := { stood := { row := sealWritesUptoRow, standIns := [], harness := (true, "4fd91a243fd5ad4a72444be735fcac717db6819a0ab6bb02f28066eb59c98188"), looks := false }, kinds := [], alts := [], laidByText := true, laidKinds := [.data, .data, .data], laidTests := true, laidLooks := .later }
def SealWritesUptoCardSaid : Prop := Claim7.holds Tryz.pinned (.plain (OpenSpec.upto sealWritesSpec)) sealWritesUptoCard
end Rows
end Go.Proofs.YtfhppenjbmmadaaGreatDoor
