/-
  NARROWER THAN 'FOR EVERY INPUT', by the rows' own cells (each row's printed sentence says how): RoundTells: laid · RoundPlaces: laid · RoundNear: laid · RoundKnown: laid.
  DERIVED. THE GIVEN ROWS OF THIS SEAT. 4 by the template 'for every input the law returns true; each argument reads behind the call as it read before'; 0 by the template 'total and deterministic' (their statements: YtngfkjlpgodfhaaGreatDoorTotals.lean).
  GIVEN WITH THE SEED: the statements are not yours to turn. If you find one false, say at which input.
  Laid BY PROGRAM, IN A SANDBOX (cutbox-rows.mjs): the forced cells as the released guide's own fill.sh prints them over the translation 14434f38d1b20e44… (all of the seat's roots in one cut). By AI agents, Wed Nov 11 2026. No macro, syntax, notation, axiom, sorry.
-/
import Derived.Test.YtngfkjlpgodfhaaGreatDoorChecked
import GoSem.Claim
import GoSem.ClaimJoined
import GoSem.ClaimMapViews
import Derived.JoinedTies
import Derived.KernelRfl
namespace Go.Proofs.YtngfkjlpgodfhaaGreatDoor
/- THE CELL 'sum', in the pinned program and in every row, IS THE sha256 OF THE DUMP (.gsa) THAT YtngfkjlpgodfhaaGreatDoorProg.lean LOADS. Nothing in Lean hashes anything: it is a label: what it is worth is what the hold of that sum in a sandbox is worth. -/
noncomputable def Tryz.pinned : Pinned := { name := "ytngfkjlpgodfhaagreatdoor", sum := "14434f38d1b20e44405258b092de685f4f7b8e450fbc10978807d13ed41e87f3", checked := Tryz.checked }
namespace Rows
def none {H : Type} : Left H := { results := [], args := [] }

/- WHAT THE LISTED PACKAGE-LEVEL VARIABLES READ AS WHEN THE CALL BEGINS. Each datum BY PROGRAM (the guide's laid-datum.mjs) off the statement by which the dump's own 'gosem.cut.vars' lays the variable. In a bare row this is a premise. The card (YtngfkjlpgodfhaaGreatDoorCards.lean) ties it to the program's text. -/
def laid_tallage_limb_halfDigits {H : Type} : DataW H := .agg [.lit (.int .u8 0), .lit (.int .u8 1), .lit (.int .u8 2), .lit (.int .u8 2), .lit (.int .u8 3), .lit (.int .u8 3), .lit (.int .u8 3), .lit (.int .u8 3), .lit (.int .u8 4), .lit (.int .u8 4), .lit (.int .u8 4), .lit (.int .u8 4), .lit (.int .u8 4), .lit (.int .u8 4), .lit (.int .u8 4), .lit (.int .u8 4), .lit (.int .u8 5), .lit (.int .u8 5), .lit (.int .u8 5), .lit (.int .u8 5), .lit (.int .u8 5), .lit (.int .u8 5), .lit (.int .u8 5), .lit (.int .u8 5), .lit (.int .u8 5), .lit (.int .u8 5), .lit (.int .u8 5), .lit (.int .u8 5), .lit (.int .u8 5), .lit (.int .u8 5), .lit (.int .u8 5), .lit (.int .u8 5), .lit (.int .u8 6), .lit (.int .u8 6), .lit (.int .u8 6), .lit (.int .u8 6), .lit (.int .u8 6), .lit (.int .u8 6), .lit (.int .u8 6), .lit (.int .u8 6), .lit (.int .u8 6), .lit (.int .u8 6), .lit (.int .u8 6), .lit (.int .u8 6), .lit (.int .u8 6), .lit (.int .u8 6), .lit (.int .u8 6), .lit (.int .u8 6), .lit (.int .u8 6), .lit (.int .u8 6), .lit (.int .u8 6), .lit (.int .u8 6), .lit (.int .u8 6), .lit (.int .u8 6), .lit (.int .u8 6), .lit (.int .u8 6), .lit (.int .u8 6), .lit (.int .u8 6), .lit (.int .u8 6), .lit (.int .u8 6), .lit (.int .u8 6), .lit (.int .u8 6), .lit (.int .u8 6), .lit (.int .u8 6), .lit (.int .u8 7), .lit (.int .u8 7), .lit (.int .u8 7), .lit (.int .u8 7), .lit (.int .u8 7), .lit (.int .u8 7), .lit (.int .u8 7), .lit (.int .u8 7), .lit (.int .u8 7), .lit (.int .u8 7), .lit (.int .u8 7), .lit (.int .u8 7), .lit (.int .u8 7), .lit (.int .u8 7), .lit (.int .u8 7), .lit (.int .u8 7), .lit (.int .u8 7), .lit (.int .u8 7), .lit (.int .u8 7), .lit (.int .u8 7), .lit (.int .u8 7), .lit (.int .u8 7), .lit (.int .u8 7), .lit (.int .u8 7), .lit (.int .u8 7), .lit (.int .u8 7), .lit (.int .u8 7), .lit (.int .u8 7), .lit (.int .u8 7), .lit (.int .u8 7), .lit (.int .u8 7), .lit (.int .u8 7), .lit (.int .u8 7), .lit (.int .u8 7), .lit (.int .u8 7), .lit (.int .u8 7), .lit (.int .u8 7), .lit (.int .u8 7), .lit (.int .u8 7), .lit (.int .u8 7), .lit (.int .u8 7), .lit (.int .u8 7), .lit (.int .u8 7), .lit (.int .u8 7), .lit (.int .u8 7), .lit (.int .u8 7), .lit (.int .u8 7), .lit (.int .u8 7), .lit (.int .u8 7), .lit (.int .u8 7), .lit (.int .u8 7), .lit (.int .u8 7), .lit (.int .u8 7), .lit (.int .u8 7), .lit (.int .u8 7), .lit (.int .u8 7), .lit (.int .u8 7), .lit (.int .u8 7), .lit (.int .u8 7), .lit (.int .u8 7), .lit (.int .u8 7), .lit (.int .u8 7), .lit (.int .u8 7), .lit (.int .u8 7)]

/-- 'tallagelaw05.RoundTells': WHATEVER THE INPUT: true; the input reads as it did. -/
def roundTellsSpec : ChangeSpec := { name := "roundTells", fn := fun _ => fun
  | [d] => { results := [.lit (.bool true)], args := [d] }
  | _ => none }
def roundTellsRow : OpenClaim := { program := "ytngfkjlpgodfhaagreatdoor", sum := "14434f38d1b20e44405258b092de685f4f7b8e450fbc10978807d13ed41e87f3", func := "tallage/tallagelaw05.RoundTells", spec := "roundTells", unfollowed := true, recurses := true, named := ["tallage/limb.halfDigits", "math/bits.overflowError"], apart := false, laid := [("tallage/limb.halfDigits", laid_tallage_limb_halfDigits)] }
def RoundTellsSaid : Prop := roundTellsRow.holds Tryz.pinned (OpenSpec.ofChange roundTellsSpec)

/-- ITS FALSE NEIGHBOUR: 'it returns false'. Refute it at one input. -/
def roundTellsWrong : ChangeSpec := { name := "roundTells", fn := fun _ => fun
  | [d] => { results := [.lit (.bool false)], args := [d] }
  | _ => none }
def RoundTellsWrongFalsely : Prop := roundTellsRow.holds Tryz.pinned (OpenSpec.ofChange roundTellsWrong)

/-- 'tallagelaw05.RoundPlaces': WHATEVER THE INPUT: true; the input reads as it did. -/
def roundPlacesSpec : ChangeSpec := { name := "roundPlaces", fn := fun _ => fun
  | [d1, d2, d3] => { results := [.lit (.bool true)], args := [d1, d2, d3] }
  | _ => none }
def roundPlacesRow : OpenClaim := { program := "ytngfkjlpgodfhaagreatdoor", sum := "14434f38d1b20e44405258b092de685f4f7b8e450fbc10978807d13ed41e87f3", func := "tallage/tallagelaw05.RoundPlaces", spec := "roundPlaces", unfollowed := true, recurses := true, named := ["tallage/limb.halfDigits", "math/bits.overflowError"], apart := false, laid := [("tallage/limb.halfDigits", laid_tallage_limb_halfDigits)] }
def RoundPlacesSaid : Prop := roundPlacesRow.holds Tryz.pinned (OpenSpec.ofChange roundPlacesSpec)

/-- ITS FALSE NEIGHBOUR: 'it returns false'. Refute it at one input. -/
def roundPlacesWrong : ChangeSpec := { name := "roundPlaces", fn := fun _ => fun
  | [d1, d2, d3] => { results := [.lit (.bool false)], args := [d1, d2, d3] }
  | _ => none }
def RoundPlacesWrongFalsely : Prop := roundPlacesRow.holds Tryz.pinned (OpenSpec.ofChange roundPlacesWrong)

/-- 'tallagelaw05.RoundNear': WHATEVER THE INPUT: true; the input reads as it did. -/
def roundNearSpec : ChangeSpec := { name := "roundNear", fn := fun _ => fun
  | [d1, d2] => { results := [.lit (.bool true)], args := [d1, d2] }
  | _ => none }
def roundNearRow : OpenClaim := { program := "ytngfkjlpgodfhaagreatdoor", sum := "14434f38d1b20e44405258b092de685f4f7b8e450fbc10978807d13ed41e87f3", func := "tallage/tallagelaw05.RoundNear", spec := "roundNear", unfollowed := true, recurses := true, named := ["tallage/limb.halfDigits", "math/bits.overflowError"], apart := false, laid := [("tallage/limb.halfDigits", laid_tallage_limb_halfDigits)] }
def RoundNearSaid : Prop := roundNearRow.holds Tryz.pinned (OpenSpec.ofChange roundNearSpec)

/-- ITS FALSE NEIGHBOUR: 'it returns false'. Refute it at one input. -/
def roundNearWrong : ChangeSpec := { name := "roundNear", fn := fun _ => fun
  | [d1, d2] => { results := [.lit (.bool false)], args := [d1, d2] }
  | _ => none }
def RoundNearWrongFalsely : Prop := roundNearRow.holds Tryz.pinned (OpenSpec.ofChange roundNearWrong)

/-- 'tallagelaw05.RoundKnown': WHATEVER THE INPUT: true; the input reads as it did. -/
def roundKnownSpec : ChangeSpec := { name := "roundKnown", fn := fun _ => fun
  | [] => { results := [.lit (.bool true)], args := [] }
  | _ => none }
def roundKnownRow : OpenClaim := { program := "ytngfkjlpgodfhaagreatdoor", sum := "14434f38d1b20e44405258b092de685f4f7b8e450fbc10978807d13ed41e87f3", func := "tallage/tallagelaw05.RoundKnown", spec := "roundKnown", unfollowed := true, recurses := true, named := ["tallage/limb.halfDigits", "math/bits.overflowError"], apart := false, laid := [("tallage/limb.halfDigits", laid_tallage_limb_halfDigits)] }
def RoundKnownSaid : Prop := roundKnownRow.holds Tryz.pinned (OpenSpec.ofChange roundKnownSpec)

/-- ITS FALSE NEIGHBOUR: 'it returns false'. Refute it at one input. -/
def roundKnownWrong : ChangeSpec := { name := "roundKnown", fn := fun _ => fun
  | [] => { results := [.lit (.bool false)], args := [] }
  | _ => none }
def RoundKnownWrongFalsely : Prop := roundKnownRow.holds Tryz.pinned (OpenSpec.ofChange roundKnownWrong)

/- THE SECOND FORM. 'bulk': how many values and letters a reading holds, each counted each time it is reached (what is shared counts as often as it is met; a slice's spare places count too). A statement '..UptoSaid' is the law's where the arguments, and the package variables that the reading takes, are together of bulk at most 1048576: NARROWER than '..Said'. Prove '..Said' where nothing that the law and all that it calls make is longer than what came in: it says more and counts as full. Else prove '..UptoSaid'. A law counts once. -/
mutual
def uptoBulk {H : Type} : DataW H → Nat
  | .lit (.string bytes) => bytes.length + 1
  | .lit _ => 1
  | .nil => 1
  | .ptr d => uptoBulk d + 1
  | .slice elems spare => uptoBulkAll elems + uptoBulkAll spare + 1
  | .agg parts => uptoBulkAll parts + 1
  | .iface _ d => uptoBulk d + 1
  | .map entries => uptoBulkEntries entries + 1
  | .held _ => 1
def uptoBulkAll {H : Type} : List (DataW H) → Nat
  | [] => 0
  | d :: r => uptoBulk d + uptoBulkAll r
def uptoBulkEntries {H : Type} : List (Lit × DataW H) → Nat
  | [] => 0
  | x :: r => uptoBulkEntry x + uptoBulkEntries r
def uptoBulkEntry {H : Type} : Lit × DataW H → Nat
  | (.string bytes, d) => bytes.length + uptoBulk d + 1
  | (_, d) => uptoBulk d + 1
 end
def uptoSmall : (H : Type) → List (DataW H) → Bool := fun _ ds => decide (uptoBulkAll ds ≤ 1048576)
def OpenSpec.upto (s : _root_.Go.ChangeSpec) : _root_.Go.OpenSpec := { _root_.Go.OpenSpec.ofChange s with cond := some uptoSmall }

/-- 'tallagelaw05.RoundTells', WHERE WHAT IT READS IS OF BULK AT MOST 1048576: true; the input reads as it did. -/
def roundTellsUptoRow : OpenClaim := { program := "ytngfkjlpgodfhaagreatdoor", sum := "14434f38d1b20e44405258b092de685f4f7b8e450fbc10978807d13ed41e87f3", func := "tallage/tallagelaw05.RoundTells", spec := "roundTells", unfollowed := true, recurses := true, named := ["tallage/limb.halfDigits", "math/bits.overflowError"], apart := false, laid := [("tallage/limb.halfDigits", laid_tallage_limb_halfDigits)], narrowed := true }
def RoundTellsUptoSaid : Prop := roundTellsUptoRow.holds Tryz.pinned (OpenSpec.upto roundTellsSpec)

/-- 'tallagelaw05.RoundPlaces', WHERE WHAT IT READS IS OF BULK AT MOST 1048576: true; the input reads as it did. -/
def roundPlacesUptoRow : OpenClaim := { program := "ytngfkjlpgodfhaagreatdoor", sum := "14434f38d1b20e44405258b092de685f4f7b8e450fbc10978807d13ed41e87f3", func := "tallage/tallagelaw05.RoundPlaces", spec := "roundPlaces", unfollowed := true, recurses := true, named := ["tallage/limb.halfDigits", "math/bits.overflowError"], apart := false, laid := [("tallage/limb.halfDigits", laid_tallage_limb_halfDigits)], narrowed := true }
def RoundPlacesUptoSaid : Prop := roundPlacesUptoRow.holds Tryz.pinned (OpenSpec.upto roundPlacesSpec)

/-- 'tallagelaw05.RoundNear', WHERE WHAT IT READS IS OF BULK AT MOST 1048576: true; the input reads as it did. -/
def roundNearUptoRow : OpenClaim := { program := "ytngfkjlpgodfhaagreatdoor", sum := "14434f38d1b20e44405258b092de685f4f7b8e450fbc10978807d13ed41e87f3", func := "tallage/tallagelaw05.RoundNear", spec := "roundNear", unfollowed := true, recurses := true, named := ["tallage/limb.halfDigits", "math/bits.overflowError"], apart := false, laid := [("tallage/limb.halfDigits", laid_tallage_limb_halfDigits)], narrowed := true }
def RoundNearUptoSaid : Prop := roundNearUptoRow.holds Tryz.pinned (OpenSpec.upto roundNearSpec)

/-- 'tallagelaw05.RoundKnown', WHERE WHAT IT READS IS OF BULK AT MOST 1048576: true; the input reads as it did. -/
def roundKnownUptoRow : OpenClaim := { program := "ytngfkjlpgodfhaagreatdoor", sum := "14434f38d1b20e44405258b092de685f4f7b8e450fbc10978807d13ed41e87f3", func := "tallage/tallagelaw05.RoundKnown", spec := "roundKnown", unfollowed := true, recurses := true, named := ["tallage/limb.halfDigits", "math/bits.overflowError"], apart := false, laid := [("tallage/limb.halfDigits", laid_tallage_limb_halfDigits)], narrowed := true }
def RoundKnownUptoSaid : Prop := roundKnownUptoRow.holds Tryz.pinned (OpenSpec.upto roundKnownSpec)

end Rows
end Go.Proofs.YtngfkjlpgodfhaaGreatDoor
