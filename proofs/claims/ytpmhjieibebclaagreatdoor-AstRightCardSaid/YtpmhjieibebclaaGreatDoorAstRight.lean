/- AstRight, for every input: it returns true, and its arguments read as before. No condition but that the listed table reads as the program's text lays it, which the card ties to that text. -/
import Derived.Test.YtpmhjieibebclaaGreatDoorCards
import Derived.Deep.DeepLaidRun
import Derived.Stop.LaidErr
import Derived.Test.YtpmhjieibebclaaGreatDoorTie
import Derived.Test.YtpmhjieibebclaaGreatDoorDD
import Derived.Test.YtpmhjieibebclaaGreatDoorCT
import Derived.Test.YtpmhjieibebclaaGreatDoorCK
import Derived.Test.YtpmhjieibebclaaGreatDoorCW
set_option maxRecDepth 100000
set_option linter.unusedSimpArgs false
set_option linter.unusedVariables false
namespace Go.Proofs.YtpmhjieibebclaaGreatDoor.astRight
open Go Go.ChangeShapes Go.WideShapes Go.ChangeAt Go.RowKit
theorem own:ownKnob Tryz.prog.godebug=none:=by kernel_rfl
theorem tI:laidOutB Tryz.prog=true:=by kernel_rfl
theorem uD : Tryz.prog.globalNamed "tallage/limb.halfDigits" = some 3 := by kernel_rfl
theorem xd:(Tryz.prog.globals[3]?).map (·.type)=some 254:=by kernel_rfl
theorem tk:Tryz.prog.underlying 254=some (.array 128 5):=by kernel_rfl
theorem xq:Tryz.prog.underlying 5=some (.int .u8):=by kernel_rfl
theorem nZ:Tryz.prog.cellsOf 254=128:=by kernel_rfl
theorem tJ:Tryz.prog.cellsOf 5=1:=by kernel_rfl
theorem AW:(Tryz.f3.params.toList.all fun t=>Tryz.prog.readableRec t&&decide (t<Tryz.prog.types.size))=true:=by kernel_rfl
theorem vu {W:World} (h:laidMetH Tryz.prog Rows.astRightRow.laid W):f_ W∧3<W.heap.size:=by
 have h0 : laidMet Tryz.prog [("unicode/utf8.acceptRanges", Rows.laid_unicode_utf8_acceptRanges), ("tallage/limb.halfDigits", Rows.laid_tallage_limb_halfDigits), ("unicode/utf8.first", Rows.laid_unicode_utf8_first)] W := h
 have h1 : laidMet Tryz.prog [("tallage/limb.halfDigits", Rows.laid_tallage_limb_halfDigits), ("unicode/utf8.first", Rows.laid_unicode_utf8_first)] W := h0.tail
 have hHalf : Lib.TabIs Tryz.prog W "tallage/limb.halfDigits" .u8 kH := Lib.tabIs_of_head uD xd tk xq tJ nZ h1
 have hc:f_ W:=fun i hi=>hHalf.cell uD i hi
 exact ⟨hc,World.block_lt_of_cell? _ _ (hc 0 qD)⟩
theorem qy (H:Type) (enc:TypeId×Value→H) (W:World) (base:Nat) (args:Array Value) (ds gs:List (DataW H)) (before:List MemPlace)
 (hval:∀ (j:Nat) t v,Tryz.f3.params[j]? =some t→args[j]? =some v→Value.okWide Tryz.prog W .any base t v)
 (hW:DataW.Whole enc Tryz.prog Tryz.f3.params.toList Rows.astRightSpec.vars false W args.toList ds gs before) (hL:laidMetH Tryz.prog Rows.astRightRow.laid W):
 Calls Tryz.prog 3 args W fun e W'=>∃ v,e= .returned v∧Rows.astRightSpec.post enc Tryz.prog Tryz.f3 false true false false W args v W':=by
 have hW':=hW
 obtain ⟨p,q,hA0,hV,rfl,hfz,hnd⟩:=hW
 have hA:DataW.TrodAll enc Tryz.prog W 0 (fun _=>true) true Tryz.f3.params.toList args.toList ds p:=hA0
 rw [Tryz.params3] at hA hval
 obtain ⟨v0,vs0,d0,ds0,p0,q0,hargs,rfl,rfl,h0,r0⟩:=trodAll_cons hA
 obtain ⟨rfl,rfl,rfl⟩:=trodAll_nil r0
 obtain rfl:args= #[v0]:=by cases args;simp_all
 obtain ⟨x0,s0⟩:=ye Tryz.underlying32 pj (hval 0 32 _ rfl rfl) h0
 obtain ⟨hT,hz⟩:=vu hL
 refine (qr (zm.run (X:=[]) ⟨hT,hz⟩ (fun _ h=>by cases h) (vs:=[_]) ⟨s0,trivial⟩)).mono fun e W' ⟨he,hb⟩=> ?_
 subst he
 exact ⟨_,rfl,vq tI hW' rfl AW (tb:=4) rfl Tryz.underlying4 (fun xs h=>by subst h;rfl) hb⟩
noncomputable def low:Nat:=(World.holding Tryz.prog default ⟨#[], #[],[]⟩).heap.size
noncomputable def gy (os:Os):World:=
 let w0:=World.holding Tryz.prog os ⟨#[], #[],[]⟩
 { w0 with heap:=(((w0.heap.modify 2 fun
  | .cells _ t frozen=> .cells (([128,191,160,191,128,159,144,191,128,143,0,0,0,0,0,0,0,0,0,0,0,0,0,0,0,0,0,0,0,0,0,0]:List Int).map (Value.int .u8)).toArray t frozen
  |o=>o).modify 3 fun
  | .cells _ t frozen=> .cells (([0,1,2,2,3,3,3,3,4,4,4,4,4,4,4,4,5,5,5,5,5,5,5,5,5,5,5,5,5,5,5,5,6,6,6,6,6,6,6,6,6,6,6,6,6,6,6,6,6,6,6,6,6,6,6,6,6,6,6,6,6,6,6,6,7,7,7,7,7,7,7,7,7,7,7,7,7,7,7,7,7,7,7,7,7,7,7,7,7,7,7,7,7,7,7,7,7,7,7,7,7,7,7,7,7,7,7,7,7,7,7,7,7,7,7,7,7,7,7,7,7,7,7,7,7,7,7,7]:List Int).map (Value.int .u8)).toArray t frozen
  |o=>o).modify 1 fun
  | .cells _ t frozen=> .cells (Go.Pinned.utf8FirstZ.map fun n:Nat=>Value.int .u8 (n:Int)).toArray t frozen
  |o=>o) }
def mU:Array Value:= #[.agg #[.string ⟨#[]⟩, .string ⟨#[]⟩, .slice none 0 0, .bool false, .slice none 0 0, .bool false, .slice none 0 0, .bool false, .slice none 0 0, .bool false, .slice none 0 0, .int .i64 0, .int .i64 0, .bool false, .slice none 0 0, .bool false, .slice none 0 0, .bool false, .slice none 0 0, .bool false, .slice none 0 0, .int .i64 0, .slice none 0 0, .slice none 0 0, .slice none 0 0]]
theorem qU (os:Os):laidMet Tryz.prog Rows.astRightRow.laid ((gy os).forCall (fun _ _=>0) ⟨#[],mU,[]⟩).memory:=
 laidMet_of_run3 8 qK qK qK
theorem uk (os:Os) {H:Type} (enc:TypeId×Value→H):∃ places,DataW.whole enc Tryz.prog ((gy os).forCall (fun _ _=>0) ⟨#[],mU,[]⟩).memory Tryz.f3.params.toList Rows.astRightSpec.vars false mU.toList 8=some ([.agg [.lit (.string []), .lit (.string []), .nil, .agg [.agg [.lit (.bool false), .nil], .agg [.lit (.bool false), .nil]], .agg [.agg [.lit (.bool false), .nil], .agg [.lit (.bool false), .nil]], .lit (.int .i64 0), .lit (.int .i64 0), .agg [.agg [.lit (.bool false), .nil], .agg [.lit (.bool false), .nil]], .agg [.agg [.lit (.bool false), .nil], .agg [.lit (.bool false), .nil]], .lit (.int .i64 0), .nil, .nil, .nil]],[],places):=
 ⟨[],by kernel_rfl⟩
theorem xi (os:Os) (started:os.Started) (H:Type) (enc:TypeId×Value→H) (F:Stop.Interp):
 ReturnsInHanded {} Tryz.checked os 3 .any ((OpenSpec.ofChange Rows.astRightSpec).preRow enc Tryz.prog Tryz.f3 Rows.astRightRow.domain false Rows.astRightRow.laid) (((OpenSpec.ofChange Rows.astRightSpec).at F).post enc Tryz.prog Tryz.f3 false true false false):=by
 obtain ⟨places,hx⟩:=uk os enc
 refine returnsInHanded_of_row (C:=Tryz.checked) (s:=OpenSpec.ofChange Rows.astRightSpec) own started qK Tryz.func3
  (witness_row_at (enc:=enc) (C:=Tryz.checked) false (gy os) mU rfl qK qK qK
    (OpenSpec.preRow_of_cond 8 hx qK (fun k hk=>by cases hk) qK (qU os))) ?_
 intro W base args ds gs before hval hW _ _ _ hL _ _
 exact qy H enc W base args ds gs before hval hW hL
theorem closed:joinedFacts Tryz.prog 3 Tryz.f3 (OpenSpec.ofChange Rows.astRightSpec).bare Rows.astRightRow=true:=by
 unfold joinedFacts
 iterate 15 refine yv ?_ qK
 refine yv ?_ (sf m4 rfl qK)
 kernel_rfl
theorem said:Rows.AstRightSaid:=
 OpenClaim.holds_of_cond 3 Tryz.f3 rfl rfl rfl rfl rfl rfl rfl ⟨rfl,rfl,rfl,rfl,rfl⟩ rfl rfl rfl rfl rfl qK Tryz.func3 closed
  (of_decide_eq_true qK) (by unfold Func.isWrapper;first|(rw [if_pos (by decide +kernel)];kernel_rfl)|(rw [if_neg (by decide +kernel)];exact ⟨rfl,rfl⟩))
  (fun os started H enc _ F=>by rw [OpenClaim.pre_eq_preRow];exact xi os started H enc F)
theorem uK (f : FuncId) (fn : Func) (hf : Tryz.pinned.checked.prog.funcNamed "tallage/tallagelaw08.AstRight" = some f) (hfn : Tryz.pinned.checked.prog.funcs[f]? = some fn) :
 false=Tryz.pinned.checked.prog.looks []∧∀ (j:Nat) t,fn.params[j]? =some t→Tryz.pinned.checked.prog.wantsStandIn t=false:=by
 obtain rfl : f = 3 := Option.some.inj ((show Tryz.prog.funcNamed "tallage/tallagelaw08.AstRight" = some 3 by kernel_rfl).symm.trans hf) |>.symm
 obtain rfl:fn=Tryz.f3:=(Option.some.inj (Tryz.func3.symm.trans hfn)).symm
 refine ⟨by kernel_rfl,fun j t ht=> ?_⟩
 have hall:(Tryz.f3.params.toList.all fun u=> !Tryz.prog.wantsStandIn u)=true:=by kernel_rfl
 have hm:t∈Tryz.f3.params.toList:=by simpa using Array.mem_of_getElem? ht
 exact (show Tryz.prog.wantsStandIn t=false by simpa using List.all_eq_true.1 hall t hm)
theorem card:Rows.AstRightCardSaid:=
 Claim7.holds_tied_plain_at .later [] _ _ _ _ said (fun _ h=>by cases h) qK (fun _ h=>by cases h) astRight_row_tie rfl ⟨rfl,rfl⟩ qK rfl uK qK
end Go.Proofs.YtpmhjieibebclaaGreatDoor.astRight
