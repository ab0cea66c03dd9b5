/-
  DERIVED. GIVEN WITH THE SEED: THE CARDS: each row of YtjjkikchncfekaaGreatDoorRows.lean that lists a variable, with what it lists TIED to the program's text (the seventh form; the later family's looks); each row that meets fmt, with fmt's text TOLD by the authors' own Lean function (tested against real Go, not proved from fmt's source: count such statements apart). THE CARD IS WHAT COUNTS. Prove the row's statement (the work); the ties are given (YtjjkikchncfekaaGreatDoorTie.lean); close each card by the builder's one call (the guide's Derived/Test/ToyasCard.lean, 'card_holds'). Laid BY PROGRAM, IN A SANDBOX (cutbox-door.mjs). By AI agents, Wed Nov 11 2026. No macro, syntax, notation, axiom, sorry.
-/
import Derived.Test.YtjjkikchncfekaaGreatDoorRows
import GoSem.ClaimSeven
namespace Go.Proofs.YtjjkikchncfekaaGreatDoor
namespace Rows

/-- THE TIED CARD OF 'tallagelaw08.AstSame'. -/
def astSameCard : Claim7 := { stood := { row := astSameRow, standIns := [], harness := (true, "04ab92784ec12667c85ef9cb093e5f366a99ed895dad0c388d199347410f0f6b"), looks := false }, kinds := [], alts := [], laidByText := true, laidKinds := [.data, .data, .pinned], laidTests := true, laidLooks := .later }
def AstSameCardSaid : Prop := Claim7.holds Tryz.pinned (.plain (OpenSpec.ofChange astSameSpec)) astSameCard

/-- THE TIED CARD OF 'tallagelaw08.AstCopies'. -/
def astCopiesCard : Claim7 := { stood := { row := astCopiesRow, standIns := [], harness := (true, "04ab92784ec12667c85ef9cb093e5f366a99ed895dad0c388d199347410f0f6b"), looks := false }, kinds := [], alts := [], laidByText := true, laidKinds := [.data, .data, .pinned], laidTests := true, laidLooks := .later }
def AstCopiesCardSaid : Prop := Claim7.holds Tryz.pinned (.plain (OpenSpec.ofChange astCopiesSpec)) astCopiesCard

/-- THE TIED CARD OF 'tallagelaw08.AstKnown'. -/
def astKnownCard : Claim7 := { stood := { row := astKnownRow, standIns := [], harness := (true, "04ab92784ec12667c85ef9cb093e5f366a99ed895dad0c388d199347410f0f6b"), looks := false }, kinds := [], alts := [], laidByText := true, laidKinds := [.data, .data, .pinned], laidTests := true, laidLooks := .later }
def AstKnownCardSaid : Prop := Claim7.holds Tryz.pinned (.plain (OpenSpec.ofChange astKnownSpec)) astKnownCard

/-- THE SECOND FORM's CARD OF 'tallagelaw08.AstSame'. -/
def astSameUptoCard : Claim7 := { stood := { row := astSameUptoRow, standIns := [], harness := (true, "04ab92784ec12667c85ef9cb093e5f366a99ed895dad0c388d199347410f0f6b"), looks := false }, kinds := [], alts := [], laidByText := true, laidKinds := [.data, .data, .pinned], laidTests := true, laidLooks := .later }
def AstSameUptoCardSaid : Prop := Claim7.holds Tryz.pinned (.plain (OpenSpec.upto astSameSpec)) astSameUptoCard

/-- THE SECOND FORM's CARD OF 'tallagelaw08.AstCopies'. -/
def astCopiesUptoCard : Claim7 := { stood := { row := astCopiesUptoRow, standIns := [], harness := (true, "04ab92784ec12667c85ef9cb093e5f366a99ed895dad0c388d199347410f0f6b"), looks := false }, kinds := [], alts := [], laidByText := true, laidKinds := [.data, .data, .pinned], laidTests := true, laidLooks := .later }
def AstCopiesUptoCardSaid : Prop := Claim7.holds Tryz.pinned (.plain (OpenSpec.upto astCopiesSpec)) astCopiesUptoCard

/-- THE SECOND FORM's CARD OF 'tallagelaw08.AstKnown'. -/
def astKnownUptoCard : Claim7 := { stood := { row := astKnownUptoRow, standIns := [], harness := (true, "04ab92784ec12667c85ef9cb093e5f366a99ed895dad0c388d199347410f0f6b"), looks := false }, kinds := [], alts := [], laidByText := true, laidKinds := [.data, .data, .pinned], laidTests := true, laidLooks := .later }
def AstKnownUptoCardSaid : Prop := Claim7.holds Tryz.pinned (.plain (OpenSpec.upto astKnownSpec)) astKnownUptoCard
end Rows
end Go.Proofs.YtjjkikchncfekaaGreatDoor
