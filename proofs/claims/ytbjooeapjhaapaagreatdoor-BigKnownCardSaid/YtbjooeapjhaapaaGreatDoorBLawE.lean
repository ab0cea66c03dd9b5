/- tallagelaw03.BigBack: whatever it is given. -/
import Derived.Test.YtbjooeapjhaapaaGreatDoorBLawD
namespace Go.Proofs.YtbjooeapjhaapaaGreatDoor
open Go Go.RowKit

theorem BigBack_any {w : World} {B : Nat} {s t u : Bool} {A1 A2 A3 : Option Addr} {n1 c1 n2 c2 n3 c3 : Nat} {xs ys zs : List Int} (h1 : Sl .u32 w B A1 n1 c1 xs) (h2 : Sl .u32 w B A2 n2 c2 ys) (h3 : Sl .u32 w B A3 n3 c3 zs) (hB : B ≤ w.heap.size) (hE : Env w) (hx : Dg 4294967296 xs) (hy : Dg 4294967296 ys) (hz : Dg 4294967296 zs) :
    Calls Tryz.prog 6 #[.agg #[.bool s, .slice A1 n1 c1], .agg #[.bool t, .slice A2 n2 c2], .agg #[.bool u, .slice A3 n3 c3]] w fun e w' => e = .returned (.bool true) ∧ Below w.heap.size w w' := by
  cases HA : decide ((20 : Int) < (n1 : Int)) with
  | true => exact bback_la h1 h2 h3 hB hE hx hy hz HA
  | false =>
    cases HB : decide ((20 : Int) < (n2 : Int)) with
    | true => exact bback_lb h1 h2 h3 hB hE hx hy hz HA HB
    | false =>
      cases HC : decide ((20 : Int) < (n3 : Int)) with
      | true => exact bback_lc h1 h2 h3 hB hE hx hy hz HA HB HC
      | false =>
        cases RA : rgt s xs with
        | false => exact bback_ra h1 h2 h3 hB hE hx hy hz HA HB HC RA
        | true =>
          cases RB : rgt t ys with
          | false => exact bback_rb h1 h2 h3 hB hE hx hy hz HA HB HC RA RB
          | true =>
            cases RC : rgt u zs with
            | false => exact bback_rc h1 h2 h3 hB hE hx hy hz HA HB HC RA RB RC
            | true => exact bback_main h1 h2 h3 hB hE hx hy hz HA HB HC RA RB RC
end Go.Proofs.YtbjooeapjhaapaaGreatDoor
