/- tallageref03: Sign, Abs, Neg: what each call answers. -/
import Derived.Test.YtcpeiijdgabenaaGreatDoorED
import Derived.Test.YtcpeiijdgabenaaGreatDoorEE
set_option linter.unusedSimpArgs false
set_option linter.unusedVariables false
namespace Go.Proofs.YtcpeiijdgabenaaGreatDoor
open Go Go.RowKit
def Iv (w:World) (a b:Int) (e:Ending) (w':World):Prop:=
 (b=0∧e= .returned (.tuple #[.agg #[.bool false, .slice none 0 0], .agg #[.bool false, .slice none 0 0], .int .i64 20])∧Below w.heap.size w w')∨
 (b≠0∧∃ s1 qs s2 rs A1 n1 c1 A2 n2 c2,e= .returned (.tuple #[.agg #[.bool s1, .slice A1 n1 c1], .agg #[.bool s2, .slice A2 n2 c2], .int .i64 0])∧Whole (a.fdiv b) s1 qs∧Whole (a.fmod b) s2 rs∧cG .u32 128 w' w.heap.size A1 n1 c1 qs∧cG .u32 128 w' w.heap.size A2 n2 c2 rs∧Below w.heap.size w w')
theorem Iv.put {w w1:World} {B:Nat} {a b:Int} {s1 s2:Bool} {qs rs:List Int} {A1 A2:Option Addr} {n1 c1 n2 c2:Nat} {u v x y:Value} (hb0:b≠0) (hq:Whole (a.fdiv b) s1 qs) (hr:Whole (a.fmod b) s2 rs) (o1:cG .u32 128 w1 B A1 n1 c1 qs) (o2:cG .u32 128 w1 B A2 n2 c2 rs) (hB:w.heap.size+3<B) (hb:Below w.heap.size w w1):
 Iv w a b (.returned (.tuple #[.agg #[.bool s1, .slice A1 n1 c1], .agg #[.bool s2, .slice A2 n2 c2], .int .i64 0])) ((((w1.setCell ⟨w.heap.size+2,0,none⟩ u).setCell ⟨w.heap.size+2,1,none⟩ v).setCell ⟨w.heap.size+3,0,none⟩ x).setCell ⟨w.heap.size+3,1,none⟩ y).drew:=
 .inr ⟨hb0,s1,qs,s2,rs,A1,n1,c1,A2,n2,c2,rfl,hq,hr,(((((o1.box qO 0 u).box qO 1 v).box (r:=w.heap.size+3) qO 0 x).box qO 1 y).lower qO).drew1,(((((o2.box qO 0 u).box qO 1 v).box (r:=w.heap.size+3) qO 0 x).box qO 1 y).lower qO).drew1,
  ((((hb.setCell (p:=⟨w.heap.size+2,0,none⟩) (show w.heap.size≤w.heap.size+2 by omega) u).setCell (p:=⟨w.heap.size+2,1,none⟩) (show w.heap.size≤w.heap.size+2 by omega) v).setCell (p:=⟨w.heap.size+3,0,none⟩) (show w.heap.size≤w.heap.size+3 by omega) x).setCell (p:=⟨w.heap.size+3,1,none⟩) (show w.heap.size≤w.heap.size+3 by omega) y).drew⟩
end Go.Proofs.YtcpeiijdgabenaaGreatDoor
