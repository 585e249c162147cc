/-
  DERIVED. GIVEN WITH THE SEED: THE CARDS: each row of YtjjiendgmnlokaaDoorRows.lean that lists a variable, with what it lists TIED to the program's text (the seventh form; the later family's looks); each row that meets fmt, with fmt's text TOLD by the authors' own Lean function (tested against real Go, not proved from fmt's source: count such statements apart). THE CARD IS WHAT COUNTS. Prove the row's statement (the work); the ties are given (YtjjiendgmnlokaaDoorTie.lean); close each card by the builder's one call (the guide's Derived/Test/ToyasCard.lean, 'card_holds'). Laid BY PROGRAM, IN A SANDBOX (cutbox-door.mjs). By AI agents, Wed Nov 11 2026. No macro, syntax, notation, axiom, sorry.
-/
import Derived.Test.YtjjiendgmnlokaaDoorRows
import GoSem.ClaimSeven
namespace Go.Proofs.YtjjiendgmnlokaaDoor
namespace Rows

/-- THE TIED CARD OF 'trucelaw09.WordDoes'. -/
def wordDoesCard : Claim7 := { stood := { row := wordDoesRow, standIns := [], harness := (true, "d656604f4b030cd87bd249090e871f5881fe2b40c36fef3ed88c91043e66b3f5"), looks := true }, kinds := [], alts := [], laidByText := true, laidKinds := [.data, .pinned], laidTests := true, laidLooks := .later }
def WordDoesCardSaid : Prop := Claim7.holds Tryd.pinned (.plain (OpenSpec.ofChange wordDoesSpec)) wordDoesCard

/-- THE TIED CARD OF 'trucelaw09.WordBack'. -/
def wordBackCard : Claim7 := { stood := { row := wordBackRow, standIns := [], harness := (true, "d656604f4b030cd87bd249090e871f5881fe2b40c36fef3ed88c91043e66b3f5"), looks := true }, kinds := [], alts := [], laidByText := true, laidKinds := [.data, .pinned], laidTests := true, laidLooks := .later }
def WordBackCardSaid : Prop := Claim7.holds Tryd.pinned (.plain (OpenSpec.ofChange wordBackSpec)) wordBackCard

/-- THE TIED CARD OF 'trucelaw09.WordUnlike'. -/
def wordUnlikeCard : Claim7 := { stood := { row := wordUnlikeRow, standIns := [], harness := (true, "d656604f4b030cd87bd249090e871f5881fe2b40c36fef3ed88c91043e66b3f5"), looks := true }, kinds := [], alts := [], laidByText := true, laidKinds := [.data, .pinned], laidTests := true, laidLooks := .later }
def WordUnlikeCardSaid : Prop := Claim7.holds Tryd.pinned (.plain (OpenSpec.ofChange wordUnlikeSpec)) wordUnlikeCard

/-- THE TIED CARD OF 'trucelaw09.WordSize'. -/
def wordSizeCard : Claim7 := { stood := { row := wordSizeRow, standIns := [], harness := (true, "d656604f4b030cd87bd249090e871f5881fe2b40c36fef3ed88c91043e66b3f5"), looks := true }, kinds := [], alts := [], laidByText := true, laidKinds := [.data, .pinned], laidTests := true, laidLooks := .later }
def WordSizeCardSaid : Prop := Claim7.holds Tryd.pinned (.plain (OpenSpec.ofChange wordSizeSpec)) wordSizeCard

/-- THE TIED CARD OF 'trucelaw09.WordHeads'. -/
def wordHeadsCard : Claim7 := { stood := { row := wordHeadsRow, standIns := [], harness := (true, "d656604f4b030cd87bd249090e871f5881fe2b40c36fef3ed88c91043e66b3f5"), looks := true }, kinds := [], alts := [], laidByText := true, laidKinds := [.data, .pinned], laidTests := true, laidLooks := .later }
def WordHeadsCardSaid : Prop := Claim7.holds Tryd.pinned (.plain (OpenSpec.ofChange wordHeadsSpec)) wordHeadsCard

/-- THE SECOND FORM's CARD OF 'trucelaw09.WordDoes'. -/
def wordDoesUptoCard : Claim7 := { stood := { row := wordDoesUptoRow, standIns := [], harness := (true, "d656604f4b030cd87bd249090e871f5881fe2b40c36fef3ed88c91043e66b3f5"), looks := true }, kinds := [], alts := [], laidByText := true, laidKinds := [.data, .pinned], laidTests := true, laidLooks := .later }
def WordDoesUptoCardSaid : Prop := Claim7.holds Tryd.pinned (.plain (OpenSpec.upto wordDoesSpec)) wordDoesUptoCard

/-- THE SECOND FORM's CARD OF 'trucelaw09.WordBack'. -/
def wordBackUptoCard : Claim7 := { stood := { row := wordBackUptoRow, standIns := [], harness := (true, "d656604f4b030cd87bd249090e871f5881fe2b40c36fef3ed88c91043e66b3f5"), looks := true }, kinds := [], alts := [], laidByText := true, laidKinds := [.data, .pinned], laidTests := true, laidLooks := .later }
def WordBackUptoCardSaid : Prop := Claim7.holds Tryd.pinned (.plain (OpenSpec.upto wordBackSpec)) wordBackUptoCard

/-- THE SECOND FORM's CARD OF 'trucelaw09.WordUnlike'. -/
def wordUnlikeUptoCard : Claim7 := { stood := { row := wordUnlikeUptoRow, standIns := [], harness := (true, "d656604f4b030cd87bd249090e871f5881fe2b40c36fef3ed88c91043e66b3f5"), looks := true }, kinds := [], alts := [], laidByText := true, laidKinds := [.data, .pinned], laidTests := true, laidLooks := .later }
def WordUnlikeUptoCardSaid : Prop := Claim7.holds Tryd.pinned (.plain (OpenSpec.upto wordUnlikeSpec)) wordUnlikeUptoCard

/-- THE SECOND FORM's CARD OF 'trucelaw09.WordSize'. -/
def wordSizeUptoCard : Claim7 := { stood := { row := wordSizeUptoRow, standIns := [], harness := (true, "d656604f4b030cd87bd249090e871f5881fe2b40c36fef3ed88c91043e66b3f5"), looks := true }, kinds := [], alts := [], laidByText := true, laidKinds := [.data, .pinned], laidTests := true, laidLooks := .later }
def WordSizeUptoCardSaid : Prop := Claim7.holds Tryd.pinned (.plain (OpenSpec.upto wordSizeSpec)) wordSizeUptoCard

/-- THE SECOND FORM's CARD OF 'trucelaw09.WordHeads'. -/
def wordHeadsUptoCard : Claim7 := { stood := { row := wordHeadsUptoRow, standIns := [], harness := (true, "d656604f4b030cd87bd249090e871f5881fe2b40c36fef3ed88c91043e66b3f5"), looks := true }, kinds := [], alts := [], laidByText := true, laidKinds := [.data, .pinned], laidTests := true, laidLooks := .later }
def WordHeadsUptoCardSaid : Prop := Claim7.holds Tryd.pinned (.plain (OpenSpec.upto wordHeadsSpec)) wordHeadsUptoCard
end Rows
end Go.Proofs.YtjjiendgmnlokaaDoor
