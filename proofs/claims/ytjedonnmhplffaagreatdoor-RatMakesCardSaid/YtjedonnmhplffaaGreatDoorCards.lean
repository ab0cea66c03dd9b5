/-
  DERIVED. GIVEN WITH THE SEED: THE CARDS: each row of YtjedonnmhplffaaGreatDoorRows.lean that lists a variable, with what it lists TIED to the program's text (the seventh form; the later family's looks); each row that meets fmt, with fmt's text TOLD by the authors' own Lean function (tested against real Go, not proved from fmt's source: count such statements apart). THE CARD IS WHAT COUNTS. Prove the row's statement (the work); the ties are given (YtjedonnmhplffaaGreatDoorTie.lean); close each card by the builder's one call (the guide's Derived/Test/ToyasCard.lean, 'card_holds'). Laid BY PROGRAM, IN A SANDBOX (cutbox-door.mjs). By AI agents, Wed Nov 11 2026. No macro, syntax, notation, axiom, sorry.
-/
import Derived.Test.YtjedonnmhplffaaGreatDoorRows
import GoSem.ClaimSeven
namespace Go.Proofs.YtjedonnmhplffaaGreatDoor
namespace Rows

/-- THE TIED CARD OF 'tallagelaw04.RatTwo'. -/
def ratTwoCard : Claim7 := { stood := { row := ratTwoRow, standIns := [], harness := (true, "6490d053bcb930542341d60d59386bfb5503a1845fbdf8f222f59572915a371a"), looks := false }, kinds := [], alts := [], laidByText := true, laidKinds := [.data], laidTests := true, laidLooks := .later }
def RatTwoCardSaid : Prop := Claim7.holds Tryz.pinned (.plain (OpenSpec.ofChange ratTwoSpec)) ratTwoCard

/-- THE TIED CARD OF 'tallagelaw04.RatMakes'. -/
def ratMakesCard : Claim7 := { stood := { row := ratMakesRow, standIns := [], harness := (true, "6490d053bcb930542341d60d59386bfb5503a1845fbdf8f222f59572915a371a"), looks := false }, kinds := [], alts := [], laidByText := true, laidKinds := [.data], laidTests := true, laidLooks := .later }
def RatMakesCardSaid : Prop := Claim7.holds Tryz.pinned (.plain (OpenSpec.ofChange ratMakesSpec)) ratMakesCard

/-- THE TIED CARD OF 'tallagelaw04.RatRows'. -/
def ratRowsCard : Claim7 := { stood := { row := ratRowsRow, standIns := [], harness := (true, "6490d053bcb930542341d60d59386bfb5503a1845fbdf8f222f59572915a371a"), looks := false }, kinds := [], alts := [], laidByText := true, laidKinds := [.data], laidTests := true, laidLooks := .later }
def RatRowsCardSaid : Prop := Claim7.holds Tryz.pinned (.plain (OpenSpec.ofChange ratRowsSpec)) ratRowsCard

/-- THE TIED CARD OF 'tallagelaw04.RatField'. -/
def ratFieldCard : Claim7 := { stood := { row := ratFieldRow, standIns := [], harness := (true, "6490d053bcb930542341d60d59386bfb5503a1845fbdf8f222f59572915a371a"), looks := false }, kinds := [], alts := [], laidByText := true, laidKinds := [.data], laidTests := true, laidLooks := .later }
def RatFieldCardSaid : Prop := Claim7.holds Tryz.pinned (.plain (OpenSpec.ofChange ratFieldSpec)) ratFieldCard

/-- THE TIED CARD OF 'tallagelaw04.RatKnown'. -/
def ratKnownCard : Claim7 := { stood := { row := ratKnownRow, standIns := [], harness := (true, "6490d053bcb930542341d60d59386bfb5503a1845fbdf8f222f59572915a371a"), looks := false }, kinds := [], alts := [], laidByText := true, laidKinds := [.data], laidTests := true, laidLooks := .later }
def RatKnownCardSaid : Prop := Claim7.holds Tryz.pinned (.plain (OpenSpec.ofChange ratKnownSpec)) ratKnownCard

/-- THE SECOND FORM's CARD OF 'tallagelaw04.RatTwo'. -/
def ratTwoUptoCard : Claim7 := { stood := { row := ratTwoUptoRow, standIns := [], harness := (true, "6490d053bcb930542341d60d59386bfb5503a1845fbdf8f222f59572915a371a"), looks := false }, kinds := [], alts := [], laidByText := true, laidKinds := [.data], laidTests := true, laidLooks := .later }
def RatTwoUptoCardSaid : Prop := Claim7.holds Tryz.pinned (.plain (OpenSpec.upto ratTwoSpec)) ratTwoUptoCard

/-- THE SECOND FORM's CARD OF 'tallagelaw04.RatMakes'. -/
def ratMakesUptoCard : Claim7 := { stood := { row := ratMakesUptoRow, standIns := [], harness := (true, "6490d053bcb930542341d60d59386bfb5503a1845fbdf8f222f59572915a371a"), looks := false }, kinds := [], alts := [], laidByText := true, laidKinds := [.data], laidTests := true, laidLooks := .later }
def RatMakesUptoCardSaid : Prop := Claim7.holds Tryz.pinned (.plain (OpenSpec.upto ratMakesSpec)) ratMakesUptoCard

/-- THE SECOND FORM's CARD OF 'tallagelaw04.RatRows'. -/
def ratRowsUptoCard : Claim7 := { stood := { row := ratRowsUptoRow, standIns := [], harness := (true, "6490d053bcb930542341d60d59386bfb5503a1845fbdf8f222f59572915a371a"), looks := false }, kinds := [], alts := [], laidByText := true, laidKinds := [.data], laidTests := true, laidLooks := .later }
def RatRowsUptoCardSaid : Prop := Claim7.holds Tryz.pinned (.plain (OpenSpec.upto ratRowsSpec)) ratRowsUptoCard

/-- THE SECOND FORM's CARD OF 'tallagelaw04.RatField'. -/
def ratFieldUptoCard : Claim7 := { stood := { row := ratFieldUptoRow, standIns := [], harness := (true, "6490d053bcb930542341d60d59386bfb5503a1845fbdf8f222f59572915a371a"), looks := false }, kinds := [], alts := [], laidByText := true, laidKinds := [.data], laidTests := true, laidLooks := .later }
def RatFieldUptoCardSaid : Prop := Claim7.holds Tryz.pinned (.plain (OpenSpec.upto ratFieldSpec)) ratFieldUptoCard

/-- THE SECOND FORM's CARD OF 'tallagelaw04.RatKnown'. -/
def ratKnownUptoCard : Claim7 := { stood := { row := ratKnownUptoRow, standIns := [], harness := (true, "6490d053bcb930542341d60d59386bfb5503a1845fbdf8f222f59572915a371a"), looks := false }, kinds := [], alts := [], laidByText := true, laidKinds := [.data], laidTests := true, laidLooks := .later }
def RatKnownUptoCardSaid : Prop := Claim7.holds Tryz.pinned (.plain (OpenSpec.upto ratKnownSpec)) ratKnownUptoCard
end Rows
end Go.Proofs.YtjedonnmhplffaaGreatDoor
