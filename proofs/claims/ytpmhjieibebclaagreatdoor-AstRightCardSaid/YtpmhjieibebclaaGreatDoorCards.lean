/-
  DERIVED. GIVEN WITH THE SEED: THE CARDS: each row of YtpmhjieibebclaaGreatDoorRows.lean that lists a variable, with what it lists TIED to the program's text (the seventh form; the later family's looks); each row that meets fmt, with fmt's text TOLD by the authors' own Lean function (tested against real Go, not proved from fmt's source: count such statements apart). THE CARD IS WHAT COUNTS. Prove the row's statement (the work); the ties are given (YtpmhjieibebclaaGreatDoorTie.lean); close each card by the builder's one call (the guide's Derived/Test/ToyasCard.lean, 'card_holds'). Laid BY PROGRAM, IN A SANDBOX (cutbox-door.mjs). By AI agents, Wed Nov 11 2026. No macro, syntax, notation, axiom, sorry.
-/
import Derived.Test.YtpmhjieibebclaaGreatDoorRows
import GoSem.ClaimSeven
namespace Go.Proofs.YtpmhjieibebclaaGreatDoor
namespace Rows

/-- THE TIED CARD OF 'tallagelaw08.AstRight'. -/
def astRightCard : Claim7 := { stood := { row := astRightRow, standIns := [], harness := (true, "047d76db21af338465a81684ab4ecd00e318edc3e05efe34e694341901ac66e2"), looks := false }, kinds := [], alts := [], laidByText := true, laidKinds := [.data, .data, .pinned], laidTests := true, laidLooks := .later }
def AstRightCardSaid : Prop := Claim7.holds Tryz.pinned (.plain (OpenSpec.ofChange astRightSpec)) astRightCard

/-- THE TIED CARD OF 'tallagelaw08.AstLess'. -/
def astLessCard : Claim7 := { stood := { row := astLessRow, standIns := [], harness := (true, "047d76db21af338465a81684ab4ecd00e318edc3e05efe34e694341901ac66e2"), looks := false }, kinds := [], alts := [], laidByText := true, laidKinds := [.data, .data, .pinned], laidTests := true, laidLooks := .later }
def AstLessCardSaid : Prop := Claim7.holds Tryz.pinned (.plain (OpenSpec.ofChange astLessSpec)) astLessCard

/-- THE SECOND FORM's CARD OF 'tallagelaw08.AstRight'. -/
def astRightUptoCard : Claim7 := { stood := { row := astRightUptoRow, standIns := [], harness := (true, "047d76db21af338465a81684ab4ecd00e318edc3e05efe34e694341901ac66e2"), looks := false }, kinds := [], alts := [], laidByText := true, laidKinds := [.data, .data, .pinned], laidTests := true, laidLooks := .later }
def AstRightUptoCardSaid : Prop := Claim7.holds Tryz.pinned (.plain (OpenSpec.upto astRightSpec)) astRightUptoCard

/-- THE SECOND FORM's CARD OF 'tallagelaw08.AstLess'. -/
def astLessUptoCard : Claim7 := { stood := { row := astLessUptoRow, standIns := [], harness := (true, "047d76db21af338465a81684ab4ecd00e318edc3e05efe34e694341901ac66e2"), looks := false }, kinds := [], alts := [], laidByText := true, laidKinds := [.data, .data, .pinned], laidTests := true, laidLooks := .later }
def AstLessUptoCardSaid : Prop := Claim7.holds Tryz.pinned (.plain (OpenSpec.upto astLessSpec)) astLessUptoCard
end Rows
end Go.Proofs.YtpmhjieibebclaaGreatDoor
