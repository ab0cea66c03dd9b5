/-
  DERIVED. GIVEN WITH THE SEED: THE CARDS: each row of YtngfkjlpgodfhaaGreatDoorRows.lean that lists a variable, with what it lists TIED to the program's text (the seventh form; the later family's looks); each row that meets fmt, with fmt's text TOLD by the authors' own Lean function (tested against real Go, not proved from fmt's source: count such statements apart). THE CARD IS WHAT COUNTS. Prove the row's statement (the work); the ties are given (YtngfkjlpgodfhaaGreatDoorTie.lean); close each card by the builder's one call (the guide's Derived/Test/ToyasCard.lean, 'card_holds'). Laid BY PROGRAM, IN A SANDBOX (cutbox-door.mjs). By AI agents, Wed Nov 11 2026. No macro, syntax, notation, axiom, sorry.
-/
import Derived.Test.YtngfkjlpgodfhaaGreatDoorRows
import GoSem.ClaimSeven
namespace Go.Proofs.YtngfkjlpgodfhaaGreatDoor
namespace Rows

/-- THE TIED CARD OF 'tallagelaw05.RoundTells'. -/
def roundTellsCard : Claim7 := { stood := { row := roundTellsRow, standIns := [], harness := (true, "fab154d670841f27a87a4d4cab78a381a24eea00fe3c290559dc7a4bb48629f5"), looks := false }, kinds := [], alts := [], laidByText := true, laidKinds := [.data], laidTests := true, laidLooks := .later }
def RoundTellsCardSaid : Prop := Claim7.holds Tryz.pinned (.plain (OpenSpec.ofChange roundTellsSpec)) roundTellsCard

/-- THE TIED CARD OF 'tallagelaw05.RoundPlaces'. -/
def roundPlacesCard : Claim7 := { stood := { row := roundPlacesRow, standIns := [], harness := (true, "fab154d670841f27a87a4d4cab78a381a24eea00fe3c290559dc7a4bb48629f5"), looks := false }, kinds := [], alts := [], laidByText := true, laidKinds := [.data], laidTests := true, laidLooks := .later }
def RoundPlacesCardSaid : Prop := Claim7.holds Tryz.pinned (.plain (OpenSpec.ofChange roundPlacesSpec)) roundPlacesCard

/-- THE TIED CARD OF 'tallagelaw05.RoundNear'. -/
def roundNearCard : Claim7 := { stood := { row := roundNearRow, standIns := [], harness := (true, "fab154d670841f27a87a4d4cab78a381a24eea00fe3c290559dc7a4bb48629f5"), looks := false }, kinds := [], alts := [], laidByText := true, laidKinds := [.data], laidTests := true, laidLooks := .later }
def RoundNearCardSaid : Prop := Claim7.holds Tryz.pinned (.plain (OpenSpec.ofChange roundNearSpec)) roundNearCard

/-- THE TIED CARD OF 'tallagelaw05.RoundKnown'. -/
def roundKnownCard : Claim7 := { stood := { row := roundKnownRow, standIns := [], harness := (true, "fab154d670841f27a87a4d4cab78a381a24eea00fe3c290559dc7a4bb48629f5"), looks := false }, kinds := [], alts := [], laidByText := true, laidKinds := [.data], laidTests := true, laidLooks := .later }
def RoundKnownCardSaid : Prop := Claim7.holds Tryz.pinned (.plain (OpenSpec.ofChange roundKnownSpec)) roundKnownCard

/-- THE SECOND FORM's CARD OF 'tallagelaw05.RoundTells'. -/
def roundTellsUptoCard : Claim7 := { stood := { row := roundTellsUptoRow, standIns := [], harness := (true, "fab154d670841f27a87a4d4cab78a381a24eea00fe3c290559dc7a4bb48629f5"), looks := false }, kinds := [], alts := [], laidByText := true, laidKinds := [.data], laidTests := true, laidLooks := .later }
def RoundTellsUptoCardSaid : Prop := Claim7.holds Tryz.pinned (.plain (OpenSpec.upto roundTellsSpec)) roundTellsUptoCard

/-- THE SECOND FORM's CARD OF 'tallagelaw05.RoundPlaces'. -/
def roundPlacesUptoCard : Claim7 := { stood := { row := roundPlacesUptoRow, standIns := [], harness := (true, "fab154d670841f27a87a4d4cab78a381a24eea00fe3c290559dc7a4bb48629f5"), looks := false }, kinds := [], alts := [], laidByText := true, laidKinds := [.data], laidTests := true, laidLooks := .later }
def RoundPlacesUptoCardSaid : Prop := Claim7.holds Tryz.pinned (.plain (OpenSpec.upto roundPlacesSpec)) roundPlacesUptoCard

/-- THE SECOND FORM's CARD OF 'tallagelaw05.RoundNear'. -/
def roundNearUptoCard : Claim7 := { stood := { row := roundNearUptoRow, standIns := [], harness := (true, "fab154d670841f27a87a4d4cab78a381a24eea00fe3c290559dc7a4bb48629f5"), looks := false }, kinds := [], alts := [], laidByText := true, laidKinds := [.data], laidTests := true, laidLooks := .later }
def RoundNearUptoCardSaid : Prop := Claim7.holds Tryz.pinned (.plain (OpenSpec.upto roundNearSpec)) roundNearUptoCard

/-- THE SECOND FORM's CARD OF 'tallagelaw05.RoundKnown'. -/
def roundKnownUptoCard : Claim7 := { stood := { row := roundKnownUptoRow, standIns := [], harness := (true, "fab154d670841f27a87a4d4cab78a381a24eea00fe3c290559dc7a4bb48629f5"), looks := false }, kinds := [], alts := [], laidByText := true, laidKinds := [.data], laidTests := true, laidLooks := .later }
def RoundKnownUptoCardSaid : Prop := Claim7.holds Tryz.pinned (.plain (OpenSpec.upto roundKnownSpec)) roundKnownUptoCard
end Rows
end Go.Proofs.YtngfkjlpgodfhaaGreatDoor
