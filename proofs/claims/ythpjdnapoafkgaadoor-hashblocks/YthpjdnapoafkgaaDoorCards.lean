/-
  DERIVED. GIVEN WITH THE SEED: THE CARDS: each row of YthpjdnapoafkgaaDoorRows.lean that lists a variable, with what it lists TIED to the program's text (the seventh form; the later family's looks); each row that meets fmt, with fmt's text TOLD by the authors' own Lean function (tested against real Go, not proved from fmt's source: count such statements apart). THE CARD IS WHAT COUNTS. Prove the row's statement (the work); the ties are given (YthpjdnapoafkgaaDoorTie.lean); close each card by the builder's one call (the guide's Derived/Test/ToyasCard.lean, 'card_holds'). Laid BY PROGRAM, IN A SANDBOX (cutbox-door.mjs). By AI agents, Wed Nov 11 2026. No macro, syntax, notation, axiom, sorry.
-/
import Derived.Test.YthpjdnapoafkgaaDoorRows
import GoSem.ClaimSeven
namespace Go.Proofs.YthpjdnapoafkgaaDoor
namespace Rows

/-- THE TIED CARD OF 'trucelaw05.HashPermutes'. -/
def hashPermutesCard : Claim7 := { stood := { row := hashPermutesRow, standIns := [], harness := (true, "341fa4c7235312b63bc0cfd1135d2c8af3ef41a3e39e76ebd2f7eefbea4953e4"), looks := false }, kinds := [], alts := [], laidByText := true, laidKinds := [.data, .data, .data], laidTests := true, laidLooks := .later }
def HashPermutesCardSaid : Prop := Claim7.holds Tryd.pinned (.plain (OpenSpec.ofChange hashPermutesSpec)) hashPermutesCard

/-- THE TIED CARD OF 'trucelaw05.HashSums'. -/
def hashSumsCard : Claim7 := { stood := { row := hashSumsRow, standIns := [], harness := (true, "341fa4c7235312b63bc0cfd1135d2c8af3ef41a3e39e76ebd2f7eefbea4953e4"), looks := false }, kinds := [], alts := [], laidByText := true, laidKinds := [.data, .data, .data], laidTests := true, laidLooks := .later }
def HashSumsCardSaid : Prop := Claim7.holds Tryd.pinned (.plain (OpenSpec.ofChange hashSumsSpec)) hashSumsCard

/-- THE TIED CARD OF 'trucelaw05.HashUnlike'. -/
def hashUnlikeCard : Claim7 := { stood := { row := hashUnlikeRow, standIns := [], harness := (true, "341fa4c7235312b63bc0cfd1135d2c8af3ef41a3e39e76ebd2f7eefbea4953e4"), looks := false }, kinds := [], alts := [], laidByText := true, laidKinds := [.data, .data, .data], laidTests := true, laidLooks := .later }
def HashUnlikeCardSaid : Prop := Claim7.holds Tryd.pinned (.plain (OpenSpec.ofChange hashUnlikeSpec)) hashUnlikeCard

/-- THE TIED CARD OF 'trucelaw05.HashSize'. -/
def hashSizeCard : Claim7 := { stood := { row := hashSizeRow, standIns := [], harness := (true, "341fa4c7235312b63bc0cfd1135d2c8af3ef41a3e39e76ebd2f7eefbea4953e4"), looks := false }, kinds := [], alts := [], laidByText := true, laidKinds := [.data, .data, .data], laidTests := true, laidLooks := .later }
def HashSizeCardSaid : Prop := Claim7.holds Tryd.pinned (.plain (OpenSpec.ofChange hashSizeSpec)) hashSizeCard

/-- THE TIED CARD OF 'trucelaw05.HashBlocks'. -/
def hashBlocksCard : Claim7 := { stood := { row := hashBlocksRow, standIns := [], harness := (true, "341fa4c7235312b63bc0cfd1135d2c8af3ef41a3e39e76ebd2f7eefbea4953e4"), looks := false }, kinds := [], alts := [], laidByText := true, laidKinds := [.data, .data, .data], laidTests := true, laidLooks := .later }
def HashBlocksCardSaid : Prop := Claim7.holds Tryd.pinned (.plain (OpenSpec.ofChange hashBlocksSpec)) hashBlocksCard

/-- THE SECOND FORM's CARD OF 'trucelaw05.HashPermutes'. -/
def hashPermutesUptoCard : Claim7 := { stood := { row := hashPermutesUptoRow, standIns := [], harness := (true, "341fa4c7235312b63bc0cfd1135d2c8af3ef41a3e39e76ebd2f7eefbea4953e4"), looks := false }, kinds := [], alts := [], laidByText := true, laidKinds := [.data, .data, .data], laidTests := true, laidLooks := .later }
def HashPermutesUptoCardSaid : Prop := Claim7.holds Tryd.pinned (.plain (OpenSpec.upto hashPermutesSpec)) hashPermutesUptoCard

/-- THE SECOND FORM's CARD OF 'trucelaw05.HashSums'. -/
def hashSumsUptoCard : Claim7 := { stood := { row := hashSumsUptoRow, standIns := [], harness := (true, "341fa4c7235312b63bc0cfd1135d2c8af3ef41a3e39e76ebd2f7eefbea4953e4"), looks := false }, kinds := [], alts := [], laidByText := true, laidKinds := [.data, .data, .data], laidTests := true, laidLooks := .later }
def HashSumsUptoCardSaid : Prop := Claim7.holds Tryd.pinned (.plain (OpenSpec.upto hashSumsSpec)) hashSumsUptoCard

/-- THE SECOND FORM's CARD OF 'trucelaw05.HashUnlike'. -/
def hashUnlikeUptoCard : Claim7 := { stood := { row := hashUnlikeUptoRow, standIns := [], harness := (true, "341fa4c7235312b63bc0cfd1135d2c8af3ef41a3e39e76ebd2f7eefbea4953e4"), looks := false }, kinds := [], alts := [], laidByText := true, laidKinds := [.data, .data, .data], laidTests := true, laidLooks := .later }
def HashUnlikeUptoCardSaid : Prop := Claim7.holds Tryd.pinned (.plain (OpenSpec.upto hashUnlikeSpec)) hashUnlikeUptoCard

/-- THE SECOND FORM's CARD OF 'trucelaw05.HashSize'. -/
def hashSizeUptoCard : Claim7 := { stood := { row := hashSizeUptoRow, standIns := [], harness := (true, "341fa4c7235312b63bc0cfd1135d2c8af3ef41a3e39e76ebd2f7eefbea4953e4"), looks := false }, kinds := [], alts := [], laidByText := true, laidKinds := [.data, .data, .data], laidTests := true, laidLooks := .later }
def HashSizeUptoCardSaid : Prop := Claim7.holds Tryd.pinned (.plain (OpenSpec.upto hashSizeSpec)) hashSizeUptoCard

/-- THE SECOND FORM's CARD OF 'trucelaw05.HashBlocks'. -/
def hashBlocksUptoCard : Claim7 := { stood := { row := hashBlocksUptoRow, standIns := [], harness := (true, "341fa4c7235312b63bc0cfd1135d2c8af3ef41a3e39e76ebd2f7eefbea4953e4"), looks := false }, kinds := [], alts := [], laidByText := true, laidKinds := [.data, .data, .data], laidTests := true, laidLooks := .later }
def HashBlocksUptoCardSaid : Prop := Claim7.holds Tryd.pinned (.plain (OpenSpec.upto hashBlocksSpec)) hashBlocksUptoCard
end Rows
end Go.Proofs.YthpjdnapoafkgaaDoor
