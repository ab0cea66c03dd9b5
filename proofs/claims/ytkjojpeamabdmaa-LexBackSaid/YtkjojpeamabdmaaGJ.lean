/- LexJoins: a text with a byte 10 behind, and another one behind that, has both's lines, or an error of one of them. -/
import Derived.Test.YtkjojpeamabdmaaGI
set_option linter.unusedSimpArgs false
set_option linter.unusedVariables false
namespace Go.Proofs.Ytkjojpeamabdmaa
open Go Go.RowKit
theorem eqA_map {α β : Type} [BEq β] [LawfulBEq β] {f : α → α → Bool} {g : α → β} (h : ∀ x y, g x = g y → f x y = true) : ∀ {a b : List α}, a.map g = b.map g → eqA f a b = true
  | [], [], _ => rfl
  | x :: a, y :: b, e => by
    rw [List.map_cons, List.map_cons] at e
    injection e with e1 e2
    show (f x y && eqA f a b) = true
    rw [h x y e1, eqA_map h e2]; rfl
  | [], _ :: _, e => by cases e
  | _ :: _, [], e => by cases e
theorem sameB_txs {a b : List Ln} (h : txs a = txs b) : sameB false a b = true := eqA_map (fun x y e => by
  show (true && eqA (sameW false) x.1 y.1) = true
  rw [Bool.true_and]
  exact eqA_map (g := Prod.fst) (fun u v e => by show ((u.1 == v.1) && true) = true; rw [e, beq_self_eq_true]; rfl) e) h
section
variable {P : Program} {w00 : World} {X : List Nat} {L : List Loc} {E E0 : List (Nat × VTy)} {n : Nat} {ops : Array Oper} {rest : List Oper} {Q : Exit → Act → World → Prop} {cs : List Code} {t0 : TypeId} {pos : String} {af : Array Edge}
end
end Go.Proofs.Ytkjojpeamabdmaa
