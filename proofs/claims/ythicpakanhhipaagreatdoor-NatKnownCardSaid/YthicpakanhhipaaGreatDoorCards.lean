/-
  DERIVED. GIVEN WITH THE SEED: THE CARDS: each row of YthicpakanhhipaaGreatDoorRows.lean that lists a variable, with what it lists TIED to the program's text (the seventh form; the later family's looks); each row that meets fmt, with fmt's text TOLD by the authors' own Lean function (tested against real Go, not proved from fmt's source: count such statements apart). THE CARD IS WHAT COUNTS. Prove the row's statement (the work); the ties are given (YthicpakanhhipaaGreatDoorTie.lean); close each card by the builder's one call (the guide's Derived/Test/ToyasCard.lean, 'card_holds'). Laid BY PROGRAM, IN A SANDBOX (cutbox-door.mjs). By AI agents, Wed Nov 11 2026. No macro, syntax, notation, axiom, sorry.
-/
import Derived.Test.YthicpakanhhipaaGreatDoorRows
import GoSem.ClaimSeven
namespace Go.Proofs.YthicpakanhhipaaGreatDoor
namespace Rows

/-- THE TIED CARD OF 'tallagelaw02.NatMul'. -/
def natMulCard : Claim7 := { stood := { row := natMulRow, standIns := [], harness := (true, "eb75b3129135ecac702834c5ed15735222ee48b801668fdbc3f8ed7b44e68151"), looks := true }, kinds := [], alts := [], laidByText := true, laidKinds := [.data, .data, .data, .sentinel, .sentinel, .data], laidTests := true, laidLooks := .later }
def NatMulCardSaid : Prop := Claim7.holds Tryz.pinned (.plain (OpenSpec.ofChange natMulSpec)) natMulCard

/-- THE TIED CARD OF 'tallagelaw02.NatDivMod'. -/
def natDivModCard : Claim7 := { stood := { row := natDivModRow, standIns := [], harness := (true, "eb75b3129135ecac702834c5ed15735222ee48b801668fdbc3f8ed7b44e68151"), looks := true }, kinds := [], alts := [], laidByText := true, laidKinds := [.data, .data, .data, .sentinel, .sentinel, .data], laidTests := true, laidLooks := .later }
def NatDivModCardSaid : Prop := Claim7.holds Tryz.pinned (.plain (OpenSpec.ofChange natDivModSpec)) natDivModCard

/-- THE TIED CARD OF 'tallagelaw02.NatWords'. -/
def natWordsCard : Claim7 := { stood := { row := natWordsRow, standIns := [], harness := (true, "eb75b3129135ecac702834c5ed15735222ee48b801668fdbc3f8ed7b44e68151"), looks := true }, kinds := [], alts := [], laidByText := true, laidKinds := [.data, .data, .data, .sentinel, .sentinel, .data], laidTests := true, laidLooks := .later }
def NatWordsCardSaid : Prop := Claim7.holds Tryz.pinned (.plain (OpenSpec.ofChange natWordsSpec)) natWordsCard

/-- THE TIED CARD OF 'tallagelaw02.NatKnown'. -/
def natKnownCard : Claim7 := { stood := { row := natKnownRow, standIns := [], harness := (true, "eb75b3129135ecac702834c5ed15735222ee48b801668fdbc3f8ed7b44e68151"), looks := true }, kinds := [], alts := [], laidByText := true, laidKinds := [.data, .data, .data, .sentinel, .sentinel, .data], laidTests := true, laidLooks := .later }
def NatKnownCardSaid : Prop := Claim7.holds Tryz.pinned (.plain (OpenSpec.ofChange natKnownSpec)) natKnownCard

/-- THE SECOND FORM's CARD OF 'tallagelaw02.NatMul'. -/
def natMulUptoCard : Claim7 := { stood := { row := natMulUptoRow, standIns := [], harness := (true, "eb75b3129135ecac702834c5ed15735222ee48b801668fdbc3f8ed7b44e68151"), looks := true }, kinds := [], alts := [], laidByText := true, laidKinds := [.data, .data, .data, .sentinel, .sentinel, .data], laidTests := true, laidLooks := .later }
def NatMulUptoCardSaid : Prop := Claim7.holds Tryz.pinned (.plain (OpenSpec.upto natMulSpec)) natMulUptoCard

/-- THE SECOND FORM's CARD OF 'tallagelaw02.NatDivMod'. -/
def natDivModUptoCard : Claim7 := { stood := { row := natDivModUptoRow, standIns := [], harness := (true, "eb75b3129135ecac702834c5ed15735222ee48b801668fdbc3f8ed7b44e68151"), looks := true }, kinds := [], alts := [], laidByText := true, laidKinds := [.data, .data, .data, .sentinel, .sentinel, .data], laidTests := true, laidLooks := .later }
def NatDivModUptoCardSaid : Prop := Claim7.holds Tryz.pinned (.plain (OpenSpec.upto natDivModSpec)) natDivModUptoCard

/-- THE SECOND FORM's CARD OF 'tallagelaw02.NatWords'. -/
def natWordsUptoCard : Claim7 := { stood := { row := natWordsUptoRow, standIns := [], harness := (true, "eb75b3129135ecac702834c5ed15735222ee48b801668fdbc3f8ed7b44e68151"), looks := true }, kinds := [], alts := [], laidByText := true, laidKinds := [.data, .data, .data, .sentinel, .sentinel, .data], laidTests := true, laidLooks := .later }
def NatWordsUptoCardSaid : Prop := Claim7.holds Tryz.pinned (.plain (OpenSpec.upto natWordsSpec)) natWordsUptoCard

/-- THE SECOND FORM's CARD OF 'tallagelaw02.NatKnown'. -/
def natKnownUptoCard : Claim7 := { stood := { row := natKnownUptoRow, standIns := [], harness := (true, "eb75b3129135ecac702834c5ed15735222ee48b801668fdbc3f8ed7b44e68151"), looks := true }, kinds := [], alts := [], laidByText := true, laidKinds := [.data, .data, .data, .sentinel, .sentinel, .data], laidTests := true, laidLooks := .later }
def NatKnownUptoCardSaid : Prop := Claim7.holds Tryz.pinned (.plain (OpenSpec.upto natKnownSpec)) natKnownUptoCard
end Rows
end Go.Proofs.YthicpakanhhipaaGreatDoor
