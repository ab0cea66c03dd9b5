/-
  DERIVED. GIVEN WITH THE SEED: THE CARDS: each row of YtgdfjfmgcnbdaaaDoorRows.lean that lists a variable, with what it lists TIED to the program's text (the seventh form; the later family's looks); each row that meets fmt, with fmt's text TOLD by the authors' own Lean function (tested against real Go, not proved from fmt's source: count such statements apart). THE CARD IS WHAT COUNTS. Prove the row's statement (the work); the ties are given (YtgdfjfmgcnbdaaaDoorTie.lean); close each card by the builder's one call (the guide's Derived/Test/ToyasCard.lean, 'card_holds'). Laid BY PROGRAM, IN A SANDBOX (cutbox-door.mjs). By AI agents, Wed Nov 11 2026. No macro, syntax, notation, axiom, sorry.
-/
import Derived.Test.YtgdfjfmgcnbdaaaDoorRows
import GoSem.ClaimSeven
namespace Go.Proofs.YtgdfjfmgcnbdaaaDoor
namespace Rows

/-- THE TIED CARD OF 'tallagelaw01.LimbSums'. -/
def limbSumsCard : Claim7 := { stood := { row := limbSumsRow, standIns := [], harness := (true, "34ceda9a8cce29acdb87a57aa071689f205207ddd6f9ca21929f694bc938ea22"), looks := false }, kinds := [], alts := [], laidByText := true, laidKinds := [.data], laidTests := true, laidLooks := .later }
def LimbSumsCardSaid : Prop := Claim7.holds Tryd.pinned (.plain (OpenSpec.ofChange limbSumsSpec)) limbSumsCard

/-- THE TIED CARD OF 'tallagelaw01.LimbSmall'. -/
def limbSmallCard : Claim7 := { stood := { row := limbSmallRow, standIns := [], harness := (true, "34ceda9a8cce29acdb87a57aa071689f205207ddd6f9ca21929f694bc938ea22"), looks := false }, kinds := [], alts := [], laidByText := true, laidKinds := [.data], laidTests := true, laidLooks := .later }
def LimbSmallCardSaid : Prop := Claim7.holds Tryd.pinned (.plain (OpenSpec.ofChange limbSmallSpec)) limbSmallCard

/-- THE TIED CARD OF 'tallagelaw01.LimbShift'. -/
def limbShiftCard : Claim7 := { stood := { row := limbShiftRow, standIns := [], harness := (true, "34ceda9a8cce29acdb87a57aa071689f205207ddd6f9ca21929f694bc938ea22"), looks := false }, kinds := [], alts := [], laidByText := true, laidKinds := [.data], laidTests := true, laidLooks := .later }
def LimbShiftCardSaid : Prop := Claim7.holds Tryd.pinned (.plain (OpenSpec.ofChange limbShiftSpec)) limbShiftCard

/-- THE TIED CARD OF 'tallagelaw01.LimbBack'. -/
def limbBackCard : Claim7 := { stood := { row := limbBackRow, standIns := [], harness := (true, "34ceda9a8cce29acdb87a57aa071689f205207ddd6f9ca21929f694bc938ea22"), looks := false }, kinds := [], alts := [], laidByText := true, laidKinds := [.data], laidTests := true, laidLooks := .later }
def LimbBackCardSaid : Prop := Claim7.holds Tryd.pinned (.plain (OpenSpec.ofChange limbBackSpec)) limbBackCard

/-- THE TIED CARD OF 'tallagelaw01.LimbKnown'. -/
def limbKnownCard : Claim7 := { stood := { row := limbKnownRow, standIns := [], harness := (true, "34ceda9a8cce29acdb87a57aa071689f205207ddd6f9ca21929f694bc938ea22"), looks := false }, kinds := [], alts := [], laidByText := true, laidKinds := [.data], laidTests := true, laidLooks := .later }
def LimbKnownCardSaid : Prop := Claim7.holds Tryd.pinned (.plain (OpenSpec.ofChange limbKnownSpec)) limbKnownCard

/-- THE SECOND FORM's CARD OF 'tallagelaw01.LimbSums'. -/
def limbSumsUptoCard : Claim7 := { stood := { row := limbSumsUptoRow, standIns := [], harness := (true, "34ceda9a8cce29acdb87a57aa071689f205207ddd6f9ca21929f694bc938ea22"), looks := false }, kinds := [], alts := [], laidByText := true, laidKinds := [.data], laidTests := true, laidLooks := .later }
def LimbSumsUptoCardSaid : Prop := Claim7.holds Tryd.pinned (.plain (OpenSpec.upto limbSumsSpec)) limbSumsUptoCard

/-- THE SECOND FORM's CARD OF 'tallagelaw01.LimbSmall'. -/
def limbSmallUptoCard : Claim7 := { stood := { row := limbSmallUptoRow, standIns := [], harness := (true, "34ceda9a8cce29acdb87a57aa071689f205207ddd6f9ca21929f694bc938ea22"), looks := false }, kinds := [], alts := [], laidByText := true, laidKinds := [.data], laidTests := true, laidLooks := .later }
def LimbSmallUptoCardSaid : Prop := Claim7.holds Tryd.pinned (.plain (OpenSpec.upto limbSmallSpec)) limbSmallUptoCard

/-- THE SECOND FORM's CARD OF 'tallagelaw01.LimbShift'. -/
def limbShiftUptoCard : Claim7 := { stood := { row := limbShiftUptoRow, standIns := [], harness := (true, "34ceda9a8cce29acdb87a57aa071689f205207ddd6f9ca21929f694bc938ea22"), looks := false }, kinds := [], alts := [], laidByText := true, laidKinds := [.data], laidTests := true, laidLooks := .later }
def LimbShiftUptoCardSaid : Prop := Claim7.holds Tryd.pinned (.plain (OpenSpec.upto limbShiftSpec)) limbShiftUptoCard

/-- THE SECOND FORM's CARD OF 'tallagelaw01.LimbBack'. -/
def limbBackUptoCard : Claim7 := { stood := { row := limbBackUptoRow, standIns := [], harness := (true, "34ceda9a8cce29acdb87a57aa071689f205207ddd6f9ca21929f694bc938ea22"), looks := false }, kinds := [], alts := [], laidByText := true, laidKinds := [.data], laidTests := true, laidLooks := .later }
def LimbBackUptoCardSaid : Prop := Claim7.holds Tryd.pinned (.plain (OpenSpec.upto limbBackSpec)) limbBackUptoCard

/-- THE SECOND FORM's CARD OF 'tallagelaw01.LimbKnown'. -/
def limbKnownUptoCard : Claim7 := { stood := { row := limbKnownUptoRow, standIns := [], harness := (true, "34ceda9a8cce29acdb87a57aa071689f205207ddd6f9ca21929f694bc938ea22"), looks := false }, kinds := [], alts := [], laidByText := true, laidKinds := [.data], laidTests := true, laidLooks := .later }
def LimbKnownUptoCardSaid : Prop := Claim7.holds Tryd.pinned (.plain (OpenSpec.upto limbKnownSpec)) limbKnownUptoCard
end Rows
end Go.Proofs.YtgdfjfmgcnbdaaaDoor
