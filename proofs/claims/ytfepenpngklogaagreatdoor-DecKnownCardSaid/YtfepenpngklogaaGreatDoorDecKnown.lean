/- DecKnown, for every input: it returns true, and its arguments read as before. No condition but that the listed table reads as the program's text lays it, which the card ties to that text. -/
import Derived.Test.YtfepenpngklogaaGreatDoorCards
import Derived.Deep.DeepLaidRun
import Derived.Stop.LaidErr
import Derived.Test.YtfepenpngklogaaGreatDoorTie
import Derived.Test.YtfepenpngklogaaGreatDoorFrame
import Derived.Test.YtfepenpngklogaaGreatDoorGK
import Derived.Test.YtfepenpngklogaaGreatDoorGT
set_option maxRecDepth 100000
set_option linter.unusedSimpArgs false
set_option linter.unusedVariables false
namespace Go.Proofs.YtfepenpngklogaaGreatDoor.decKnown
open Go Go.ChangeShapes Go.WideShapes Go.ChangeAt Go.RowKit
theorem own:ownKnob Tryz.prog.godebug=none:=by kernel_rfl
theorem laidOut:laidOutB Tryz.prog=true:=by kernel_rfl
theorem gPow : Tryz.prog.globalNamed "internal/strconv.uint64pow10" = some 3 := by kernel_rfl
theorem tyPow:(Tryz.prog.globals[3]?).map (·.type)=some 235:=by kernel_rfl
theorem arrPow:Tryz.prog.underlying 235=some (.array 20 147):=by kernel_rfl
theorem elPow:Tryz.prog.underlying 147=some (.int .u64):=by kernel_rfl
theorem cellsPow:Tryz.prog.cellsOf 235=20:=by kernel_rfl
theorem onePow:Tryz.prog.cellsOf 147=1:=by kernel_rfl
theorem gHalf : Tryz.prog.globalNamed "tallage/limb.halfDigits" = some 0 := by kernel_rfl
theorem tyHalf:(Tryz.prog.globals[0]?).map (·.type)=some 163:=by kernel_rfl
theorem arrHalf:Tryz.prog.underlying 163=some (.array 128 5):=by kernel_rfl
theorem elHalf:Tryz.prog.underlying 5=some (.int .u8):=by kernel_rfl
theorem cellsHalf:Tryz.prog.cellsOf 163=128:=by kernel_rfl
theorem oneHalf:Tryz.prog.cellsOf 5=1:=by kernel_rfl
theorem read_:(Tryz.f3.params.toList.all fun t=>Tryz.prog.readableRec t&&decide (t<Tryz.prog.types.size))=true:=by kernel_rfl
theorem table {W:World} (h:laidMetH Tryz.prog Rows.decKnownRow.laid W):Env W:=by
 have h0 : laidMet Tryz.prog [("math/bits.deBruijn32tab", Rows.laid_math_bits_deBruijn32tab), ("math/bits.deBruijn64tab", Rows.laid_math_bits_deBruijn64tab), ("internal/strconv.uint64pow10", Rows.laid_internal_strconv_uint64pow10), ("unicode/utf8.acceptRanges", Rows.laid_unicode_utf8_acceptRanges), ("strconv.ErrRange", Rows.laid_strconv_ErrRange), ("strconv.ErrSyntax", Rows.laid_strconv_ErrSyntax), ("tallage/limb.halfDigits", Rows.laid_tallage_limb_halfDigits), ("unicode/utf8.first", Rows.laid_unicode_utf8_first)] W := h
 have h1 : laidMet Tryz.prog [("math/bits.deBruijn64tab", Rows.laid_math_bits_deBruijn64tab), ("internal/strconv.uint64pow10", Rows.laid_internal_strconv_uint64pow10), ("unicode/utf8.acceptRanges", Rows.laid_unicode_utf8_acceptRanges), ("strconv.ErrRange", Rows.laid_strconv_ErrRange), ("strconv.ErrSyntax", Rows.laid_strconv_ErrSyntax), ("tallage/limb.halfDigits", Rows.laid_tallage_limb_halfDigits), ("unicode/utf8.first", Rows.laid_unicode_utf8_first)] W := h0.tail
 have h2 : laidMet Tryz.prog [("internal/strconv.uint64pow10", Rows.laid_internal_strconv_uint64pow10), ("unicode/utf8.acceptRanges", Rows.laid_unicode_utf8_acceptRanges), ("strconv.ErrRange", Rows.laid_strconv_ErrRange), ("strconv.ErrSyntax", Rows.laid_strconv_ErrSyntax), ("tallage/limb.halfDigits", Rows.laid_tallage_limb_halfDigits), ("unicode/utf8.first", Rows.laid_unicode_utf8_first)] W := h1.tail
 have h3 : laidMet Tryz.prog [("unicode/utf8.acceptRanges", Rows.laid_unicode_utf8_acceptRanges), ("strconv.ErrRange", Rows.laid_strconv_ErrRange), ("strconv.ErrSyntax", Rows.laid_strconv_ErrSyntax), ("tallage/limb.halfDigits", Rows.laid_tallage_limb_halfDigits), ("unicode/utf8.first", Rows.laid_unicode_utf8_first)] W := h2.tail
 have h4 : laidMet Tryz.prog [("strconv.ErrRange", Rows.laid_strconv_ErrRange), ("strconv.ErrSyntax", Rows.laid_strconv_ErrSyntax), ("tallage/limb.halfDigits", Rows.laid_tallage_limb_halfDigits), ("unicode/utf8.first", Rows.laid_unicode_utf8_first)] W := h3.tail
 have h5 : laidMet Tryz.prog [("strconv.ErrSyntax", Rows.laid_strconv_ErrSyntax), ("tallage/limb.halfDigits", Rows.laid_tallage_limb_halfDigits), ("unicode/utf8.first", Rows.laid_unicode_utf8_first)] W := h4.tail
 have h6 : laidMet Tryz.prog [("tallage/limb.halfDigits", Rows.laid_tallage_limb_halfDigits), ("unicode/utf8.first", Rows.laid_unicode_utf8_first)] W := h5.tail
 have hPow : Lib.TabIs Tryz.prog W "internal/strconv.uint64pow10" .u64 Lib.pow10Tab := Lib.tabIs_of_head gPow tyPow arrPow elPow onePow cellsPow h2
 have hHalf : Lib.TabIs Tryz.prog W "tallage/limb.halfDigits" .u8 halfL := Lib.tabIs_of_head gHalf tyHalf arrHalf elHalf oneHalf cellsHalf h6
 have hc:HalfT W:=fun i hi=>hHalf.cell gHalf i hi
 exact ⟨hc,World.block_lt_of_cell? _ _ (hc 0 qD),hPow⟩
theorem contract (H:Type) (enc:TypeId×Value→H) (W:World) (base:Nat) (args:Array Value) (ds gs:List (DataW H)) (before:List MemPlace)
 (hval:∀ (j:Nat) t v,Tryz.f3.params[j]? =some t→args[j]? =some v→Value.okWide Tryz.prog W .any base t v)
 (hW:DataW.Whole enc Tryz.prog Tryz.f3.params.toList Rows.decKnownSpec.vars false W args.toList ds gs before) (hL:laidMetH Tryz.prog Rows.decKnownRow.laid W):
 Calls Tryz.prog 3 args W fun e W'=>∃ v,e= .returned v∧Rows.decKnownSpec.post enc Tryz.prog Tryz.f3 false true false false W args v W':=by
 have hW':=hW
 obtain ⟨p,q,hA0,hV,rfl,hfz,hnd⟩:=hW
 have hA:DataW.TrodAll enc Tryz.prog W 0 (fun _=>true) true Tryz.f3.params.toList args.toList ds p:=hA0
 rw [Tryz.params3] at hA hval
 obtain ⟨hargs,rfl,rfl⟩:=trodAll_nil hA
 obtain rfl:args= #[]:=by cases args;simp_all
 have hE:=table hL
 refine (gives_true (l6_known.run hE (X:=[]) (fun _ h=>by cases h) (vs:=[]) trivial)).mono fun e W' ⟨he,hb⟩=> ?_
 subst he
 exact ⟨_,rfl,law_post laidOut hW' rfl read_ (tb:=4) rfl Tryz.underlying4 (fun xs h=>by subst h;rfl) hb⟩
def sent0:ByteArray:={ data:= #[118,97,108,117,101,32,111,117,116,32,111,102,32,114,97,110,103,101] }
def sent1:ByteArray:={ data:= #[105,110,118,97,108,105,100,32,115,121,110,116,97,120] }
noncomputable def low:Nat:=(World.holding Tryz.prog default ⟨#[], #[],[]⟩).heap.size
noncomputable def laidWorld (os:Os):World:=
 let w0:=World.holding Tryz.prog os ⟨#[.cells #[.string sent0] 261, .cells #[.string sent1] 261], #[],[]⟩
 { w0 with heap:=((((((((w0.heap.modify 6 fun
  | .cells _ t frozen=> .cells (([0,1,28,2,29,14,24,3,30,22,20,15,25,17,4,8,31,27,13,23,21,19,16,7,26,12,18,6,11,5,10,9]:List Int).map (Value.int .u8)).toArray t frozen
  |o=>o).modify 7 fun
  | .cells _ t frozen=> .cells (([0,1,56,2,57,49,28,3,61,58,42,50,38,29,17,4,62,47,59,36,45,43,51,22,53,39,33,30,24,18,12,5,63,55,48,27,60,41,37,16,46,35,44,21,52,32,23,11,54,26,40,15,34,20,31,10,25,14,19,9,13,8,7,6]:List Int).map (Value.int .u8)).toArray t frozen
  |o=>o).modify 3 fun
  | .cells _ t frozen=> .cells (([1,10,100,1000,10000,100000,1000000,10000000,100000000,1000000000,10000000000,100000000000,1000000000000,10000000000000,100000000000000,1000000000000000,10000000000000000,100000000000000000,1000000000000000000,10000000000000000000]:List Int).map (Value.int .u64)).toArray t frozen
  |o=>o).modify 5 fun
  | .cells _ t frozen=> .cells (([128,191,160,191,128,159,144,191,128,143,0,0,0,0,0,0,0,0,0,0,0,0,0,0,0,0,0,0,0,0,0,0]:List Int).map (Value.int .u8)).toArray t frozen
  |o=>o).modify 0 fun
  | .cells _ t frozen=> .cells (([0,1,2,2,3,3,3,3,4,4,4,4,4,4,4,4,5,5,5,5,5,5,5,5,5,5,5,5,5,5,5,5,6,6,6,6,6,6,6,6,6,6,6,6,6,6,6,6,6,6,6,6,6,6,6,6,6,6,6,6,6,6,6,6,7,7,7,7,7,7,7,7,7,7,7,7,7,7,7,7,7,7,7,7,7,7,7,7,7,7,7,7,7,7,7,7,7,7,7,7,7,7,7,7,7,7,7,7,7,7,7,7,7,7,7,7,7,7,7,7,7,7,7,7,7,7,7,7]:List Int).map (Value.int .u8)).toArray t frozen
  |o=>o).modify 4 fun
  | .cells _ t frozen=> .cells (Go.Pinned.utf8FirstZ.map fun n:Nat=>Value.int .u8 (n:Int)).toArray t frozen
  |o=>o).modify 9 fun
  | .cells _ t frozen=> .cells #[.iface 259 (.pointer (some ⟨low,0,none⟩))] t frozen
  |o=>o).modify 8 fun
  | .cells _ t frozen=> .cells #[.iface 259 (.pointer (some ⟨low+1,0,none⟩))] t frozen
  |o=>o) }
def wargs:Array Value:= #[]
theorem laid_met (os:Os):laidMet Tryz.prog Rows.decKnownRow.laid ((laidWorld os).forCall (fun _ _=>0) ⟨#[],wargs,[]⟩).memory:=
 laidMet_of_run3 8 qK qK qK
theorem reads (os:Os) {H:Type} (enc:TypeId×Value→H):∃ places,DataW.whole enc Tryz.prog ((laidWorld os).forCall (fun _ _=>0) ⟨#[],wargs,[]⟩).memory Tryz.f3.params.toList Rows.decKnownSpec.vars false wargs.toList 8=some ([],[],places):=
 ⟨[],by kernel_rfl⟩
theorem lifted (os:Os) (started:os.Started) (H:Type) (enc:TypeId×Value→H) (F:Stop.Interp):
 ReturnsInHanded {} Tryz.checked os 3 .any ((OpenSpec.ofChange Rows.decKnownSpec).preRow enc Tryz.prog Tryz.f3 Rows.decKnownRow.domain false Rows.decKnownRow.laid) (((OpenSpec.ofChange Rows.decKnownSpec).at F).post enc Tryz.prog Tryz.f3 false true false false):=by
 obtain ⟨places,hx⟩:=reads os enc
 refine returnsInHanded_of_row (C:=Tryz.checked) (s:=OpenSpec.ofChange Rows.decKnownSpec) own started qK Tryz.func3
  (witness_row_at (enc:=enc) (C:=Tryz.checked) false (laidWorld os) wargs rfl qK qK qK
    (OpenSpec.preRow_of_cond 8 hx qK (fun k hk=>by cases hk) qK (laid_met os))) ?_
 intro W base args ds gs before hval hW _ _ _ hL _ _
 exact contract H enc W base args ds gs before hval hW hL
theorem said:Rows.DecKnownSaid:=
 OpenClaim.holds_of_cond 3 Tryz.f3 rfl rfl rfl rfl rfl rfl rfl ⟨rfl,rfl,rfl,rfl,rfl⟩ rfl rfl rfl rfl rfl qK Tryz.func3 qK
  (of_decide_eq_true qK) (by unfold Func.isWrapper;first|(rw [if_pos (by decide +kernel)];kernel_rfl)|(rw [if_neg (by decide +kernel)];exact ⟨rfl,rfl⟩))
  (fun os started H enc _ F=>by rw [OpenClaim.pre_eq_preRow];exact lifted os started H enc F)
theorem plain (f : FuncId) (fn : Func) (hf : Tryz.pinned.checked.prog.funcNamed "tallage/tallagelaw06.DecKnown" = some f) (hfn : Tryz.pinned.checked.prog.funcs[f]? = some fn) :
 true=Tryz.pinned.checked.prog.looks []∧∀ (j:Nat) t,fn.params[j]? =some t→Tryz.pinned.checked.prog.wantsStandIn t=false:=by
 obtain rfl : f = 3 := Option.some.inj ((show Tryz.prog.funcNamed "tallage/tallagelaw06.DecKnown" = some 3 by kernel_rfl).symm.trans hf) |>.symm
 obtain rfl:fn=Tryz.f3:=(Option.some.inj (Tryz.func3.symm.trans hfn)).symm
 refine ⟨by kernel_rfl,fun j t ht=> ?_⟩
 have hall:(Tryz.f3.params.toList.all fun u=> !Tryz.prog.wantsStandIn u)=true:=by kernel_rfl
 have hm:t∈Tryz.f3.params.toList:=by simpa using Array.mem_of_getElem? ht
 exact (show Tryz.prog.wantsStandIn t=false by simpa using List.all_eq_true.1 hall t hm)
theorem card:Rows.DecKnownCardSaid:=
 Claim7.holds_tied_plain_at .later [] _ _ _ _ said (fun _ h=>by cases h) qK (fun _ h=>by cases h) decKnown_row_tie rfl ⟨rfl,rfl⟩ qK rfl plain qK
end Go.Proofs.YtfepenpngklogaaGreatDoor.decKnown
