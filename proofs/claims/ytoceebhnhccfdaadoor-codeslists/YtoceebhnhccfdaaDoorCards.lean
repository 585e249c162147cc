/-
  DERIVED. GIVEN WITH THE SEED: THE CARDS: each row of YtoceebhnhccfdaaDoorRows.lean that lists a variable, with what it lists TIED to the program's text (the seventh form; the later family's looks); each row that meets fmt, with fmt's text TOLD by the authors' own Lean function (tested against real Go, not proved from fmt's source: count such statements apart). THE CARD IS WHAT COUNTS. Prove the row's statement (the work); the ties are given (YtoceebhnhccfdaaDoorTie.lean); close each card by the builder's one call (the guide's Derived/Test/ToyasCard.lean, 'card_holds'). Laid BY PROGRAM, IN A SANDBOX (cutbox-door.mjs). By AI agents, Wed Nov 11 2026. No macro, syntax, notation, axiom, sorry.
-/
import Derived.Test.YtoceebhnhccfdaaDoorRows
import GoSem.ClaimSeven
namespace Go.Proofs.YtoceebhnhccfdaaDoor
namespace Rows

/-- THE TIED CARD OF 'trucelaw11.CodesTells'. -/
def codesTellsCard : Claim7 := { stood := { row := codesTellsRow, standIns := [], harness := (true, "0c38ee8f9490d90c352783e180cd711ab84e8c3ff685806c254078a9b97fe037"), looks := false }, kinds := [], alts := [], laidByText := true, laidKinds := [.data, .data, .data, .data, .data, .data, .data], laidTests := true, laidLooks := .later }
def CodesTellsCardSaid : Prop := Claim7.holds Tryd.pinned (.plain (OpenSpec.ofChange codesTellsSpec)) codesTellsCard

/-- THE TIED CARD OF 'trucelaw11.CodesLists'. -/
def codesListsCard : Claim7 := { stood := { row := codesListsRow, standIns := [], harness := (true, "0c38ee8f9490d90c352783e180cd711ab84e8c3ff685806c254078a9b97fe037"), looks := false }, kinds := [], alts := [], laidByText := true, laidKinds := [.data, .data, .data, .data, .data, .data, .data], laidTests := true, laidLooks := .later }
def CodesListsCardSaid : Prop := Claim7.holds Tryd.pinned (.plain (OpenSpec.ofChange codesListsSpec)) codesListsCard

/-- THE TIED CARD OF 'trucelaw11.CodesBack'. -/
def codesBackCard : Claim7 := { stood := { row := codesBackRow, standIns := [], harness := (true, "0c38ee8f9490d90c352783e180cd711ab84e8c3ff685806c254078a9b97fe037"), looks := false }, kinds := [], alts := [], laidByText := true, laidKinds := [.data, .data, .data, .data, .data, .data, .data], laidTests := true, laidLooks := .later }
def CodesBackCardSaid : Prop := Claim7.holds Tryd.pinned (.plain (OpenSpec.ofChange codesBackSpec)) codesBackCard

/-- THE TIED CARD OF 'trucelaw11.CodesNames'. -/
def codesNamesCard : Claim7 := { stood := { row := codesNamesRow, standIns := [], harness := (true, "0c38ee8f9490d90c352783e180cd711ab84e8c3ff685806c254078a9b97fe037"), looks := false }, kinds := [], alts := [], laidByText := true, laidKinds := [.data, .data, .data, .data, .data, .data, .data], laidTests := true, laidLooks := .later }
def CodesNamesCardSaid : Prop := Claim7.holds Tryd.pinned (.plain (OpenSpec.ofChange codesNamesSpec)) codesNamesCard

/-- THE TIED CARD OF 'trucelaw11.CodesWhole'. -/
def codesWholeCard : Claim7 := { stood := { row := codesWholeRow, standIns := [], harness := (true, "0c38ee8f9490d90c352783e180cd711ab84e8c3ff685806c254078a9b97fe037"), looks := false }, kinds := [], alts := [], laidByText := true, laidKinds := [.data, .data, .data, .data, .data, .data, .data], laidTests := true, laidLooks := .later }
def CodesWholeCardSaid : Prop := Claim7.holds Tryd.pinned (.plain (OpenSpec.ofChange codesWholeSpec)) codesWholeCard

/-- THE SECOND FORM's CARD OF 'trucelaw11.CodesTells'. -/
def codesTellsUptoCard : Claim7 := { stood := { row := codesTellsUptoRow, standIns := [], harness := (true, "0c38ee8f9490d90c352783e180cd711ab84e8c3ff685806c254078a9b97fe037"), looks := false }, kinds := [], alts := [], laidByText := true, laidKinds := [.data, .data, .data, .data, .data, .data, .data], laidTests := true, laidLooks := .later }
def CodesTellsUptoCardSaid : Prop := Claim7.holds Tryd.pinned (.plain (OpenSpec.upto codesTellsSpec)) codesTellsUptoCard

/-- THE SECOND FORM's CARD OF 'trucelaw11.CodesLists'. -/
def codesListsUptoCard : Claim7 := { stood := { row := codesListsUptoRow, standIns := [], harness := (true, "0c38ee8f9490d90c352783e180cd711ab84e8c3ff685806c254078a9b97fe037"), looks := false }, kinds := [], alts := [], laidByText := true, laidKinds := [.data, .data, .data, .data, .data, .data, .data], laidTests := true, laidLooks := .later }
def CodesListsUptoCardSaid : Prop := Claim7.holds Tryd.pinned (.plain (OpenSpec.upto codesListsSpec)) codesListsUptoCard

/-- THE SECOND FORM's CARD OF 'trucelaw11.CodesBack'. -/
def codesBackUptoCard : Claim7 := { stood := { row := codesBackUptoRow, standIns := [], harness := (true, "0c38ee8f9490d90c352783e180cd711ab84e8c3ff685806c254078a9b97fe037"), looks := false }, kinds := [], alts := [], laidByText := true, laidKinds := [.data, .data, .data, .data, .data, .data, .data], laidTests := true, laidLooks := .later }
def CodesBackUptoCardSaid : Prop := Claim7.holds Tryd.pinned (.plain (OpenSpec.upto codesBackSpec)) codesBackUptoCard

/-- THE SECOND FORM's CARD OF 'trucelaw11.CodesNames'. -/
def codesNamesUptoCard : Claim7 := { stood := { row := codesNamesUptoRow, standIns := [], harness := (true, "0c38ee8f9490d90c352783e180cd711ab84e8c3ff685806c254078a9b97fe037"), looks := false }, kinds := [], alts := [], laidByText := true, laidKinds := [.data, .data, .data, .data, .data, .data, .data], laidTests := true, laidLooks := .later }
def CodesNamesUptoCardSaid : Prop := Claim7.holds Tryd.pinned (.plain (OpenSpec.upto codesNamesSpec)) codesNamesUptoCard

/-- THE SECOND FORM's CARD OF 'trucelaw11.CodesWhole'. -/
def codesWholeUptoCard : Claim7 := { stood := { row := codesWholeUptoRow, standIns := [], harness := (true, "0c38ee8f9490d90c352783e180cd711ab84e8c3ff685806c254078a9b97fe037"), looks := false }, kinds := [], alts := [], laidByText := true, laidKinds := [.data, .data, .data, .data, .data, .data, .data], laidTests := true, laidLooks := .later }
def CodesWholeUptoCardSaid : Prop := Claim7.holds Tryd.pinned (.plain (OpenSpec.upto codesWholeSpec)) codesWholeUptoCard
end Rows
end Go.Proofs.YtoceebhnhccfdaaDoor
