/-
  NARROWER THAN 'FOR EVERY INPUT', by the rows' own cells (each row's printed sentence says how): LimbSums: laid · LimbSmall: laid · LimbShift: laid · LimbBack: laid · LimbKnown: laid.
  DERIVED. THE GIVEN ROWS OF THIS SEAT. 5 by the template 'for every input the law returns true; each argument reads behind the call as it read before'; 0 by the template 'total and deterministic' (their statements: YtgdfjfmgcnbdaaaDoorTotals.lean).
  GIVEN WITH THE SEED: the statements are not yours to turn. If you find one false, say at which input.
  Laid BY PROGRAM, IN A SANDBOX (cutbox-rows.mjs): the forced cells as the released guide's own fill.sh prints them over the translation 7b346eb49cb42f09… (all of the seat's roots in one cut). By AI agents, Wed Nov 11 2026. No macro, syntax, notation, axiom, sorry.
-/
import Derived.Test.YtgdfjfmgcnbdaaaDoorChecked
import GoSem.Claim
import GoSem.ClaimJoined
import GoSem.ClaimMapViews
import Derived.JoinedTies
import Derived.KernelRfl
namespace Go.Proofs.YtgdfjfmgcnbdaaaDoor
/- THE CELL 'sum', in the pinned program and in every row, IS THE sha256 OF THE DUMP (.gsa) THAT YtgdfjfmgcnbdaaaDoorProg.lean LOADS. Nothing in Lean hashes anything: it is a label: what it is worth is what the hold of that sum in a sandbox is worth. -/
noncomputable def Tryd.pinned : Pinned := { name := "ytgdfjfmgcnbdaaadoor", sum := "7b346eb49cb42f0974f78bd21d85bc7897c5c11edf39b64e48fb11be11a376c2", checked := Tryd.checked }
namespace Rows
def none {H : Type} : Left H := { results := [], args := [] }

/- WHAT THE LISTED PACKAGE-LEVEL VARIABLES READ AS WHEN THE CALL BEGINS. Each datum BY PROGRAM (the guide's laid-datum.mjs) off the statement by which the dump's own 'gosem.cut.vars' lays the variable. In a bare row this is a premise. The card (YtgdfjfmgcnbdaaaDoorCards.lean) ties it to the program's text. -/
def laid_tallage_limb_halfDigits {H : Type} : DataW H := .agg [.lit (.int .u8 0), .lit (.int .u8 1), .lit (.int .u8 2), .lit (.int .u8 2), .lit (.int .u8 3), .lit (.int .u8 3), .lit (.int .u8 3), .lit (.int .u8 3), .lit (.int .u8 4), .lit (.int .u8 4), .lit (.int .u8 4), .lit (.int .u8 4), .lit (.int .u8 4), .lit (.int .u8 4), .lit (.int .u8 4), .lit (.int .u8 4), .lit (.int .u8 5), .lit (.int .u8 5), .lit (.int .u8 5), .lit (.int .u8 5), .lit (.int .u8 5), .lit (.int .u8 5), .lit (.int .u8 5), .lit (.int .u8 5), .lit (.int .u8 5), .lit (.int .u8 5), .lit (.int .u8 5), .lit (.int .u8 5), .lit (.int .u8 5), .lit (.int .u8 5), .lit (.int .u8 5), .lit (.int .u8 5), .lit (.int .u8 6), .lit (.int .u8 6), .lit (.int .u8 6), .lit (.int .u8 6), .lit (.int .u8 6), .lit (.int .u8 6), .lit (.int .u8 6), .lit (.int .u8 6), .lit (.int .u8 6), .lit (.int .u8 6), .lit (.int .u8 6), .lit (.int .u8 6), .lit (.int .u8 6), .lit (.int .u8 6), .lit (.int .u8 6), .lit (.int .u8 6), .lit (.int .u8 6), .lit (.int .u8 6), .lit (.int .u8 6), .lit (.int .u8 6), .lit (.int .u8 6), .lit (.int .u8 6), .lit (.int .u8 6), .lit (.int .u8 6), .lit (.int .u8 6), .lit (.int .u8 6), .lit (.int .u8 6), .lit (.int .u8 6), .lit (.int .u8 6), .lit (.int .u8 6), .lit (.int .u8 6), .lit (.int .u8 6), .lit (.int .u8 7), .lit (.int .u8 7), .lit (.int .u8 7), .lit (.int .u8 7), .lit (.int .u8 7), .lit (.int .u8 7), .lit (.int .u8 7), .lit (.int .u8 7), .lit (.int .u8 7), .lit (.int .u8 7), .lit (.int .u8 7), .lit (.int .u8 7), .lit (.int .u8 7), .lit (.int .u8 7), .lit (.int .u8 7), .lit (.int .u8 7), .lit (.int .u8 7), .lit (.int .u8 7), .lit (.int .u8 7), .lit (.int .u8 7), .lit (.int .u8 7), .lit (.int .u8 7), .lit (.int .u8 7), .lit (.int .u8 7), .lit (.int .u8 7), .lit (.int .u8 7), .lit (.int .u8 7), .lit (.int .u8 7), .lit (.int .u8 7), .lit (.int .u8 7), .lit (.int .u8 7), .lit (.int .u8 7), .lit (.int .u8 7), .lit (.int .u8 7), .lit (.int .u8 7), .lit (.int .u8 7), .lit (.int .u8 7), .lit (.int .u8 7), .lit (.int .u8 7), .lit (.int .u8 7), .lit (.int .u8 7), .lit (.int .u8 7), .lit (.int .u8 7), .lit (.int .u8 7), .lit (.int .u8 7), .lit (.int .u8 7), .lit (.int .u8 7), .lit (.int .u8 7), .lit (.int .u8 7), .lit (.int .u8 7), .lit (.int .u8 7), .lit (.int .u8 7), .lit (.int .u8 7), .lit (.int .u8 7), .lit (.int .u8 7), .lit (.int .u8 7), .lit (.int .u8 7), .lit (.int .u8 7), .lit (.int .u8 7), .lit (.int .u8 7), .lit (.int .u8 7), .lit (.int .u8 7), .lit (.int .u8 7), .lit (.int .u8 7)]

/-- 'tallagelaw01.LimbSums': WHATEVER THE INPUT: true; the input reads as it did. -/
def limbSumsSpec : ChangeSpec := { name := "limbSums", fn := fun _ => fun
  | [d1, d2, d3] => { results := [.lit (.bool true)], args := [d1, d2, d3] }
  | _ => none }
def limbSumsRow : OpenClaim := { program := "ytgdfjfmgcnbdaaadoor", sum := "7b346eb49cb42f0974f78bd21d85bc7897c5c11edf39b64e48fb11be11a376c2", func := "tallage/tallagelaw01.LimbSums", spec := "limbSums", named := ["math/bits.overflowError", "tallage/limb.halfDigits"], apart := false, laid := [("tallage/limb.halfDigits", laid_tallage_limb_halfDigits)] }
def LimbSumsSaid : Prop := limbSumsRow.holds Tryd.pinned (OpenSpec.ofChange limbSumsSpec)

/-- ITS FALSE NEIGHBOUR: 'it returns false'. Refute it at one input. -/
def limbSumsWrong : ChangeSpec := { name := "limbSums", fn := fun _ => fun
  | [d1, d2, d3] => { results := [.lit (.bool false)], args := [d1, d2, d3] }
  | _ => none }
def LimbSumsWrongFalsely : Prop := limbSumsRow.holds Tryd.pinned (OpenSpec.ofChange limbSumsWrong)

/-- 'tallagelaw01.LimbSmall': WHATEVER THE INPUT: true; the input reads as it did. -/
def limbSmallSpec : ChangeSpec := { name := "limbSmall", fn := fun _ => fun
  | [d1, d2] => { results := [.lit (.bool true)], args := [d1, d2] }
  | _ => none }
def limbSmallRow : OpenClaim := { program := "ytgdfjfmgcnbdaaadoor", sum := "7b346eb49cb42f0974f78bd21d85bc7897c5c11edf39b64e48fb11be11a376c2", func := "tallage/tallagelaw01.LimbSmall", spec := "limbSmall", named := ["math/bits.overflowError", "tallage/limb.halfDigits"], apart := false, laid := [("tallage/limb.halfDigits", laid_tallage_limb_halfDigits)] }
def LimbSmallSaid : Prop := limbSmallRow.holds Tryd.pinned (OpenSpec.ofChange limbSmallSpec)

/-- ITS FALSE NEIGHBOUR: 'it returns false'. Refute it at one input. -/
def limbSmallWrong : ChangeSpec := { name := "limbSmall", fn := fun _ => fun
  | [d1, d2] => { results := [.lit (.bool false)], args := [d1, d2] }
  | _ => none }
def LimbSmallWrongFalsely : Prop := limbSmallRow.holds Tryd.pinned (OpenSpec.ofChange limbSmallWrong)

/-- 'tallagelaw01.LimbShift': WHATEVER THE INPUT: true; the input reads as it did. -/
def limbShiftSpec : ChangeSpec := { name := "limbShift", fn := fun _ => fun
  | [d1, d2] => { results := [.lit (.bool true)], args := [d1, d2] }
  | _ => none }
def limbShiftRow : OpenClaim := { program := "ytgdfjfmgcnbdaaadoor", sum := "7b346eb49cb42f0974f78bd21d85bc7897c5c11edf39b64e48fb11be11a376c2", func := "tallage/tallagelaw01.LimbShift", spec := "limbShift", named := ["math/bits.overflowError", "tallage/limb.halfDigits"], apart := false, laid := [("tallage/limb.halfDigits", laid_tallage_limb_halfDigits)] }
def LimbShiftSaid : Prop := limbShiftRow.holds Tryd.pinned (OpenSpec.ofChange limbShiftSpec)

/-- ITS FALSE NEIGHBOUR: 'it returns false'. Refute it at one input. -/
def limbShiftWrong : ChangeSpec := { name := "limbShift", fn := fun _ => fun
  | [d1, d2] => { results := [.lit (.bool false)], args := [d1, d2] }
  | _ => none }
def LimbShiftWrongFalsely : Prop := limbShiftRow.holds Tryd.pinned (OpenSpec.ofChange limbShiftWrong)

/-- 'tallagelaw01.LimbBack': WHATEVER THE INPUT: true; the input reads as it did. -/
def limbBackSpec : ChangeSpec := { name := "limbBack", fn := fun _ => fun
  | [d1, d2, d3, d4] => { results := [.lit (.bool true)], args := [d1, d2, d3, d4] }
  | _ => none }
def limbBackRow : OpenClaim := { program := "ytgdfjfmgcnbdaaadoor", sum := "7b346eb49cb42f0974f78bd21d85bc7897c5c11edf39b64e48fb11be11a376c2", func := "tallage/tallagelaw01.LimbBack", spec := "limbBack", named := ["math/bits.overflowError", "tallage/limb.halfDigits"], apart := false, laid := [("tallage/limb.halfDigits", laid_tallage_limb_halfDigits)] }
def LimbBackSaid : Prop := limbBackRow.holds Tryd.pinned (OpenSpec.ofChange limbBackSpec)

/-- ITS FALSE NEIGHBOUR: 'it returns false'. Refute it at one input. -/
def limbBackWrong : ChangeSpec := { name := "limbBack", fn := fun _ => fun
  | [d1, d2, d3, d4] => { results := [.lit (.bool false)], args := [d1, d2, d3, d4] }
  | _ => none }
def LimbBackWrongFalsely : Prop := limbBackRow.holds Tryd.pinned (OpenSpec.ofChange limbBackWrong)

/-- 'tallagelaw01.LimbKnown': WHATEVER THE INPUT: true; the input reads as it did. -/
def limbKnownSpec : ChangeSpec := { name := "limbKnown", fn := fun _ => fun
  | [] => { results := [.lit (.bool true)], args := [] }
  | _ => none }
def limbKnownRow : OpenClaim := { program := "ytgdfjfmgcnbdaaadoor", sum := "7b346eb49cb42f0974f78bd21d85bc7897c5c11edf39b64e48fb11be11a376c2", func := "tallage/tallagelaw01.LimbKnown", spec := "limbKnown", named := ["math/bits.overflowError", "tallage/limb.halfDigits"], apart := false, laid := [("tallage/limb.halfDigits", laid_tallage_limb_halfDigits)] }
def LimbKnownSaid : Prop := limbKnownRow.holds Tryd.pinned (OpenSpec.ofChange limbKnownSpec)

/-- ITS FALSE NEIGHBOUR: 'it returns false'. Refute it at one input. -/
def limbKnownWrong : ChangeSpec := { name := "limbKnown", fn := fun _ => fun
  | [] => { results := [.lit (.bool false)], args := [] }
  | _ => none }
def LimbKnownWrongFalsely : Prop := limbKnownRow.holds Tryd.pinned (OpenSpec.ofChange limbKnownWrong)

/- THE SECOND FORM. 'bulk': how many values and letters a reading holds, each counted each time it is reached (what is shared counts as often as it is met; a slice's spare places count too). A statement '..UptoSaid' is the law's where the arguments, and the package variables that the reading takes, are together of bulk at most 1048576: NARROWER than '..Said'. Prove '..Said' where nothing that the law and all that it calls make is longer than what came in: it says more and counts as full. Else prove '..UptoSaid'. A law counts once. -/
mutual
def uptoBulk {H : Type} : DataW H → Nat
  | .lit (.string bytes) => bytes.length + 1
  | .lit _ => 1
  | .nil => 1
  | .ptr d => uptoBulk d + 1
  | .slice elems spare => uptoBulkAll elems + uptoBulkAll spare + 1
  | .agg parts => uptoBulkAll parts + 1
  | .iface _ d => uptoBulk d + 1
  | .map entries => uptoBulkEntries entries + 1
  | .held _ => 1
def uptoBulkAll {H : Type} : List (DataW H) → Nat
  | [] => 0
  | d :: r => uptoBulk d + uptoBulkAll r
def uptoBulkEntries {H : Type} : List (Lit × DataW H) → Nat
  | [] => 0
  | x :: r => uptoBulkEntry x + uptoBulkEntries r
def uptoBulkEntry {H : Type} : Lit × DataW H → Nat
  | (.string bytes, d) => bytes.length + uptoBulk d + 1
  | (_, d) => uptoBulk d + 1
 end
def uptoSmall : (H : Type) → List (DataW H) → Bool := fun _ ds => decide (uptoBulkAll ds ≤ 1048576)
def OpenSpec.upto (s : _root_.Go.ChangeSpec) : _root_.Go.OpenSpec := { _root_.Go.OpenSpec.ofChange s with cond := some uptoSmall }

/-- 'tallagelaw01.LimbSums', WHERE WHAT IT READS IS OF BULK AT MOST 1048576: true; the input reads as it did. -/
def limbSumsUptoRow : OpenClaim := { program := "ytgdfjfmgcnbdaaadoor", sum := "7b346eb49cb42f0974f78bd21d85bc7897c5c11edf39b64e48fb11be11a376c2", func := "tallage/tallagelaw01.LimbSums", spec := "limbSums", named := ["math/bits.overflowError", "tallage/limb.halfDigits"], apart := false, laid := [("tallage/limb.halfDigits", laid_tallage_limb_halfDigits)], narrowed := true }
def LimbSumsUptoSaid : Prop := limbSumsUptoRow.holds Tryd.pinned (OpenSpec.upto limbSumsSpec)

/-- 'tallagelaw01.LimbSmall', WHERE WHAT IT READS IS OF BULK AT MOST 1048576: true; the input reads as it did. -/
def limbSmallUptoRow : OpenClaim := { program := "ytgdfjfmgcnbdaaadoor", sum := "7b346eb49cb42f0974f78bd21d85bc7897c5c11edf39b64e48fb11be11a376c2", func := "tallage/tallagelaw01.LimbSmall", spec := "limbSmall", named := ["math/bits.overflowError", "tallage/limb.halfDigits"], apart := false, laid := [("tallage/limb.halfDigits", laid_tallage_limb_halfDigits)], narrowed := true }
def LimbSmallUptoSaid : Prop := limbSmallUptoRow.holds Tryd.pinned (OpenSpec.upto limbSmallSpec)

/-- 'tallagelaw01.LimbShift', WHERE WHAT IT READS IS OF BULK AT MOST 1048576: true; the input reads as it did. -/
def limbShiftUptoRow : OpenClaim := { program := "ytgdfjfmgcnbdaaadoor", sum := "7b346eb49cb42f0974f78bd21d85bc7897c5c11edf39b64e48fb11be11a376c2", func := "tallage/tallagelaw01.LimbShift", spec := "limbShift", named := ["math/bits.overflowError", "tallage/limb.halfDigits"], apart := false, laid := [("tallage/limb.halfDigits", laid_tallage_limb_halfDigits)], narrowed := true }
def LimbShiftUptoSaid : Prop := limbShiftUptoRow.holds Tryd.pinned (OpenSpec.upto limbShiftSpec)

/-- 'tallagelaw01.LimbBack', WHERE WHAT IT READS IS OF BULK AT MOST 1048576: true; the input reads as it did. -/
def limbBackUptoRow : OpenClaim := { program := "ytgdfjfmgcnbdaaadoor", sum := "7b346eb49cb42f0974f78bd21d85bc7897c5c11edf39b64e48fb11be11a376c2", func := "tallage/tallagelaw01.LimbBack", spec := "limbBack", named := ["math/bits.overflowError", "tallage/limb.halfDigits"], apart := false, laid := [("tallage/limb.halfDigits", laid_tallage_limb_halfDigits)], narrowed := true }
def LimbBackUptoSaid : Prop := limbBackUptoRow.holds Tryd.pinned (OpenSpec.upto limbBackSpec)

/-- 'tallagelaw01.LimbKnown', WHERE WHAT IT READS IS OF BULK AT MOST 1048576: true; the input reads as it did. -/
def limbKnownUptoRow : OpenClaim := { program := "ytgdfjfmgcnbdaaadoor", sum := "7b346eb49cb42f0974f78bd21d85bc7897c5c11edf39b64e48fb11be11a376c2", func := "tallage/tallagelaw01.LimbKnown", spec := "limbKnown", named := ["math/bits.overflowError", "tallage/limb.halfDigits"], apart := false, laid := [("tallage/limb.halfDigits", laid_tallage_limb_halfDigits)], narrowed := true }
def LimbKnownUptoSaid : Prop := limbKnownUptoRow.holds Tryd.pinned (OpenSpec.upto limbKnownSpec)

end Rows
end Go.Proofs.YtgdfjfmgcnbdaaaDoor
