/-
  DERIVED. GIVEN WITH THE SEED: THE CARDS: each row of YtpdoonofipcbeaaDoorRows.lean that lists a variable, with what it lists TIED to the program's text (the seventh form; the later family's looks); each row that meets fmt, with fmt's text TOLD by the authors' own Lean function (tested against real Go, not proved from fmt's source: count such statements apart). THE CARD IS WHAT COUNTS. Prove the row's statement (the work); the ties are given (YtpdoonofipcbeaaDoorTie.lean); close each card by the builder's one call (the guide's Derived/Test/ToyasCard.lean, 'card_holds'). Laid BY PROGRAM, IN A SANDBOX (cutbox-door.mjs). By AI agents, Wed Nov 11 2026. No macro, syntax, notation, axiom, sorry.
-/
import Derived.Test.YtpdoonofipcbeaaDoorRows
import GoSem.ClaimSeven
namespace Go.Proofs.YtpdoonofipcbeaaDoor
namespace Rows

/-- THE TIED CARD OF 'trucelaw07.KeyTells'. -/
def keyTellsCard : Claim7 := { stood := { row := keyTellsRow, standIns := [], harness := (true, "c50cef7a3e6fd4cf1767ddb483b9adc7e4aea2d9531f33ab69e6ab29623935b0"), looks := false }, kinds := [], alts := [], laidByText := true, laidKinds := [.data, .data, .data], laidTests := true, laidLooks := .later }
def KeyTellsCardSaid : Prop := Claim7.holds Tryd.pinned (.plain (OpenSpec.ofChange keyTellsSpec)) keyTellsCard

/-- THE TIED CARD OF 'trucelaw07.KeySmall'. -/
def keySmallCard : Claim7 := { stood := { row := keySmallRow, standIns := [], harness := (true, "c50cef7a3e6fd4cf1767ddb483b9adc7e4aea2d9531f33ab69e6ab29623935b0"), looks := false }, kinds := [], alts := [], laidByText := true, laidKinds := [.data, .data, .data], laidTests := true, laidLooks := .later }
def KeySmallCardSaid : Prop := Claim7.holds Tryd.pinned (.plain (OpenSpec.ofChange keySmallSpec)) keySmallCard

/-- THE TIED CARD OF 'trucelaw07.KeySides'. -/
def keySidesCard : Claim7 := { stood := { row := keySidesRow, standIns := [], harness := (true, "c50cef7a3e6fd4cf1767ddb483b9adc7e4aea2d9531f33ab69e6ab29623935b0"), looks := false }, kinds := [], alts := [], laidByText := true, laidKinds := [.data, .data, .data], laidTests := true, laidLooks := .later }
def KeySidesCardSaid : Prop := Claim7.holds Tryd.pinned (.plain (OpenSpec.ofChange keySidesSpec)) keySidesCard

/-- THE TIED CARD OF 'trucelaw07.KeySums'. -/
def keySumsCard : Claim7 := { stood := { row := keySumsRow, standIns := [], harness := (true, "c50cef7a3e6fd4cf1767ddb483b9adc7e4aea2d9531f33ab69e6ab29623935b0"), looks := false }, kinds := [], alts := [], laidByText := true, laidKinds := [.data, .data, .data], laidTests := true, laidLooks := .later }
def KeySumsCardSaid : Prop := Claim7.holds Tryd.pinned (.plain (OpenSpec.ofChange keySumsSpec)) keySumsCard

/-- THE SECOND FORM's CARD OF 'trucelaw07.KeyTells'. -/
def keyTellsUptoCard : Claim7 := { stood := { row := keyTellsUptoRow, standIns := [], harness := (true, "c50cef7a3e6fd4cf1767ddb483b9adc7e4aea2d9531f33ab69e6ab29623935b0"), looks := false }, kinds := [], alts := [], laidByText := true, laidKinds := [.data, .data, .data], laidTests := true, laidLooks := .later }
def KeyTellsUptoCardSaid : Prop := Claim7.holds Tryd.pinned (.plain (OpenSpec.upto keyTellsSpec)) keyTellsUptoCard

/-- THE SECOND FORM's CARD OF 'trucelaw07.KeySmall'. -/
def keySmallUptoCard : Claim7 := { stood := { row := keySmallUptoRow, standIns := [], harness := (true, "c50cef7a3e6fd4cf1767ddb483b9adc7e4aea2d9531f33ab69e6ab29623935b0"), looks := false }, kinds := [], alts := [], laidByText := true, laidKinds := [.data, .data, .data], laidTests := true, laidLooks := .later }
def KeySmallUptoCardSaid : Prop := Claim7.holds Tryd.pinned (.plain (OpenSpec.upto keySmallSpec)) keySmallUptoCard

/-- THE SECOND FORM's CARD OF 'trucelaw07.KeySides'. -/
def keySidesUptoCard : Claim7 := { stood := { row := keySidesUptoRow, standIns := [], harness := (true, "c50cef7a3e6fd4cf1767ddb483b9adc7e4aea2d9531f33ab69e6ab29623935b0"), looks := false }, kinds := [], alts := [], laidByText := true, laidKinds := [.data, .data, .data], laidTests := true, laidLooks := .later }
def KeySidesUptoCardSaid : Prop := Claim7.holds Tryd.pinned (.plain (OpenSpec.upto keySidesSpec)) keySidesUptoCard

/-- THE SECOND FORM's CARD OF 'trucelaw07.KeySums'. -/
def keySumsUptoCard : Claim7 := { stood := { row := keySumsUptoRow, standIns := [], harness := (true, "c50cef7a3e6fd4cf1767ddb483b9adc7e4aea2d9531f33ab69e6ab29623935b0"), looks := false }, kinds := [], alts := [], laidByText := true, laidKinds := [.data, .data, .data], laidTests := true, laidLooks := .later }
def KeySumsUptoCardSaid : Prop := Claim7.holds Tryd.pinned (.plain (OpenSpec.upto keySumsSpec)) keySumsUptoCard
end Rows
end Go.Proofs.YtpdoonofipcbeaaDoor
