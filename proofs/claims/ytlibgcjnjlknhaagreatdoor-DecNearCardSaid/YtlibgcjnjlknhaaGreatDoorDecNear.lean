/- DecNear, for every input: it returns true, and its arguments read as before. No condition but that the listed table reads as the program's text lays it, which the card ties to that text. -/
import Derived.Test.YtlibgcjnjlknhaaGreatDoorCards
import Derived.Deep.DeepLaidRun
import Derived.Stop.LaidErr
import Derived.Test.YtlibgcjnjlknhaaGreatDoorTie
import Derived.Test.YtlibgcjnjlknhaaGreatDoorFrame
import Derived.Test.YtlibgcjnjlknhaaGreatDoorGK
import Derived.Test.YtlibgcjnjlknhaaGreatDoorHS
set_option maxRecDepth 100000
set_option linter.unusedSimpArgs false
set_option linter.unusedVariables false
namespace Go.Proofs.YtlibgcjnjlknhaaGreatDoor.decNear
open Go Go.ChangeShapes Go.WideShapes Go.ChangeAt Go.RowKit
theorem own:ownKnob Tryz.prog.godebug=none:=by kernel_rfl
theorem laidOut:laidOutB Tryz.prog=true:=by kernel_rfl
theorem gPow : Tryz.prog.globalNamed "internal/strconv.uint64pow10" = some 3 := by kernel_rfl
theorem tyPow:(Tryz.prog.globals[3]?).map (·.type)=some 236:=by kernel_rfl
theorem arrPow:Tryz.prog.underlying 236=some (.array 20 152):=by kernel_rfl
theorem elPow:Tryz.prog.underlying 152=some (.int .u64):=by kernel_rfl
theorem cellsPow:Tryz.prog.cellsOf 236=20:=by kernel_rfl
theorem onePow:Tryz.prog.cellsOf 152=1:=by kernel_rfl
theorem gHalf : Tryz.prog.globalNamed "tallage/limb.halfDigits" = some 0 := by kernel_rfl
theorem tyHalf:(Tryz.prog.globals[0]?).map (·.type)=some 170:=by kernel_rfl
theorem arrHalf:Tryz.prog.underlying 170=some (.array 128 5):=by kernel_rfl
theorem elHalf:Tryz.prog.underlying 5=some (.int .u8):=by kernel_rfl
theorem cellsHalf:Tryz.prog.cellsOf 170=128:=by kernel_rfl
theorem oneHalf:Tryz.prog.cellsOf 5=1:=by kernel_rfl
theorem read_:(Tryz.f5.params.toList.all fun t=>Tryz.prog.readableRec t&&decide (t<Tryz.prog.types.size))=true:=by kernel_rfl
theorem table {W:World} (h:laidMetH Tryz.prog Rows.decNearRow.laid W):Env W:=by
 have h0 : laidMet Tryz.prog [("math/bits.deBruijn32tab", Rows.laid_math_bits_deBruijn32tab), ("math/bits.deBruijn64tab", Rows.laid_math_bits_deBruijn64tab), ("internal/strconv.uint64pow10", Rows.laid_internal_strconv_uint64pow10), ("unicode/utf8.acceptRanges", Rows.laid_unicode_utf8_acceptRanges), ("strconv.ErrRange", Rows.laid_strconv_ErrRange), ("strconv.ErrSyntax", Rows.laid_strconv_ErrSyntax), ("tallage/limb.halfDigits", Rows.laid_tallage_limb_halfDigits), ("unicode/utf8.first", Rows.laid_unicode_utf8_first)] W := h
 have h1 : laidMet Tryz.prog [("math/bits.deBruijn64tab", Rows.laid_math_bits_deBruijn64tab), ("internal/strconv.uint64pow10", Rows.laid_internal_strconv_uint64pow10), ("unicode/utf8.acceptRanges", Rows.laid_unicode_utf8_acceptRanges), ("strconv.ErrRange", Rows.laid_strconv_ErrRange), ("strconv.ErrSyntax", Rows.laid_strconv_ErrSyntax), ("tallage/limb.halfDigits", Rows.laid_tallage_limb_halfDigits), ("unicode/utf8.first", Rows.laid_unicode_utf8_first)] W := h0.tail
 have h2 : laidMet Tryz.prog [("internal/strconv.uint64pow10", Rows.laid_internal_strconv_uint64pow10), ("unicode/utf8.acceptRanges", Rows.laid_unicode_utf8_acceptRanges), ("strconv.ErrRange", Rows.laid_strconv_ErrRange), ("strconv.ErrSyntax", Rows.laid_strconv_ErrSyntax), ("tallage/limb.halfDigits", Rows.laid_tallage_limb_halfDigits), ("unicode/utf8.first", Rows.laid_unicode_utf8_first)] W := h1.tail
 have h3 : laidMet Tryz.prog [("unicode/utf8.acceptRanges", Rows.laid_unicode_utf8_acceptRanges), ("strconv.ErrRange", Rows.laid_strconv_ErrRange), ("strconv.ErrSyntax", Rows.laid_strconv_ErrSyntax), ("tallage/limb.halfDigits", Rows.laid_tallage_limb_halfDigits), ("unicode/utf8.first", Rows.laid_unicode_utf8_first)] W := h2.tail
 have h4 : laidMet Tryz.prog [("strconv.ErrRange", Rows.laid_strconv_ErrRange), ("strconv.ErrSyntax", Rows.laid_strconv_ErrSyntax), ("tallage/limb.halfDigits", Rows.laid_tallage_limb_halfDigits), ("unicode/utf8.first", Rows.laid_unicode_utf8_first)] W := h3.tail
 have h5 : laidMet Tryz.prog [("strconv.ErrSyntax", Rows.laid_strconv_ErrSyntax), ("tallage/limb.halfDigits", Rows.laid_tallage_limb_halfDigits), ("unicode/utf8.first", Rows.laid_unicode_utf8_first)] W := h4.tail
 have h6 : laidMet Tryz.prog [("tallage/limb.halfDigits", Rows.laid_tallage_limb_halfDigits), ("unicode/utf8.first", Rows.laid_unicode_utf8_first)] W := h5.tail
 have hPow : Lib.TabIs Tryz.prog W "internal/strconv.uint64pow10" .u64 Lib.pow10Tab := Lib.tabIs_of_head gPow tyPow arrPow elPow onePow cellsPow h2
 have hHalf : Lib.TabIs Tryz.prog W "tallage/limb.halfDigits" .u8 halfL := Lib.tabIs_of_head gHalf tyHalf arrHalf elHalf oneHalf cellsHalf h6
 have hc:HalfT W:=fun i hi=>hHalf.cell gHalf i hi
 exact ⟨hc,World.block_lt_of_cell? _ _ (hc 0 (by decide)),hPow⟩
theorem contract (H:Type) (enc:TypeId×Value→H) (W:World) (base:Nat) (args:Array Value) (ds gs:List (DataW H)) (before:List MemPlace)
 (hval:∀ (j:Nat) t v,Tryz.f5.params[j]? =some t→args[j]? =some v→Value.okWide Tryz.prog W .any base t v)
 (hW:DataW.Whole enc Tryz.prog Tryz.f5.params.toList Rows.decNearSpec.vars false W args.toList ds gs before) (hL:laidMetH Tryz.prog Rows.decNearRow.laid W):
 Calls Tryz.prog 5 args W fun e W'=>∃ v,e= .returned v∧Rows.decNearSpec.post enc Tryz.prog Tryz.f5 false true false false W args v W':=by
 have hW':=hW
 obtain ⟨p,q,hA0,hV,rfl,hfz,hnd⟩:=hW
 have hA:DataW.TrodAll enc Tryz.prog W 0 (fun _=>true) true Tryz.f5.params.toList args.toList ds p:=hA0
 rw [Tryz.params5] at hA hval
 obtain ⟨v0,vs0,d0,ds0,p0,q0,hargs,rfl,rfl,h0,r0⟩:=trodAll_cons hA
 obtain ⟨v1,vs1,d1,ds1,p1,q1,rfl,rfl,rfl,h1,r1⟩:=trodAll_cons r0
 obtain ⟨v2,vs2,d2,ds2,p2,q2,rfl,rfl,rfl,h2,r2⟩:=trodAll_cons r1
 obtain ⟨rfl,rfl,rfl⟩:=trodAll_nil r2
 obtain rfl:args= #[v0,v1,v2]:=by cases args;simp_all
 obtain ⟨x0,s0⟩:=open_st Tryz.underlying27 openRat (hval 0 27 _ rfl rfl) h0
 obtain ⟨a1,rfl,rfl,rfl,k1⟩:=open_int Tryz.underlying5 (hval 1 5 _ rfl rfl) h1
 have w1:=wfU8 k1
 obtain ⟨a1,rfl⟩:∃ m:Nat,a1=(m:Int):=⟨a1.toNat,by omega⟩
 obtain ⟨a2,rfl,rfl,rfl,w2⟩:=Go.ChangeMaps.open_string Tryz.underlying9 (hval 2 9 _ rfl rfl) h2
 have hE:=table hL
 refine (gives_true ((l6_near (arg_len w2) (by omega)).run hE (X:=[]) (fun _ h=>by cases h) (vs:=[_, .int .u8 (a1:Int),_]) ⟨s0,rfl,arg_tx a2 _ _,trivial⟩)).mono fun e W' ⟨he,hb⟩=> ?_
 subst he
 exact ⟨_,rfl,law_post laidOut hW' rfl read_ (tb:=4) rfl Tryz.underlying4 (fun xs h=>by subst h;rfl) hb⟩
def sent0:ByteArray:={ data:= #[118,97,108,117,101,32,111,117,116,32,111,102,32,114,97,110,103,101] }
def sent1:ByteArray:={ data:= #[105,110,118,97,108,105,100,32,115,121,110,116,97,120] }
noncomputable def low:Nat:=(World.holding Tryz.prog default ⟨#[], #[],[]⟩).heap.size
noncomputable def laidWorld (os:Os):World:=
 let w0:=World.holding Tryz.prog os ⟨#[.cells #[.string sent0] 261, .cells #[.string sent1] 261], #[],[]⟩
 { w0 with heap:=((((((((w0.heap.modify 8 fun
  | .cells _ t frozen=> .cells (([0,1,28,2,29,14,24,3,30,22,20,15,25,17,4,8,31,27,13,23,21,19,16,7,26,12,18,6,11,5,10,9]:List Int).map (Value.int .u8)).toArray t frozen
  |o=>o).modify 9 fun
  | .cells _ t frozen=> .cells (([0,1,56,2,57,49,28,3,61,58,42,50,38,29,17,4,62,47,59,36,45,43,51,22,53,39,33,30,24,18,12,5,63,55,48,27,60,41,37,16,46,35,44,21,52,32,23,11,54,26,40,15,34,20,31,10,25,14,19,9,13,8,7,6]:List Int).map (Value.int .u8)).toArray t frozen
  |o=>o).modify 3 fun
  | .cells _ t frozen=> .cells (([1,10,100,1000,10000,100000,1000000,10000000,100000000,1000000000,10000000000,100000000000,1000000000000,10000000000000,100000000000000,1000000000000000,10000000000000000,100000000000000000,1000000000000000000,10000000000000000000]:List Int).map (Value.int .u64)).toArray t frozen
  |o=>o).modify 5 fun
  | .cells _ t frozen=> .cells (([128,191,160,191,128,159,144,191,128,143,0,0,0,0,0,0,0,0,0,0,0,0,0,0,0,0,0,0,0,0,0,0]:List Int).map (Value.int .u8)).toArray t frozen
  |o=>o).modify 0 fun
  | .cells _ t frozen=> .cells (([0,1,2,2,3,3,3,3,4,4,4,4,4,4,4,4,5,5,5,5,5,5,5,5,5,5,5,5,5,5,5,5,6,6,6,6,6,6,6,6,6,6,6,6,6,6,6,6,6,6,6,6,6,6,6,6,6,6,6,6,6,6,6,6,7,7,7,7,7,7,7,7,7,7,7,7,7,7,7,7,7,7,7,7,7,7,7,7,7,7,7,7,7,7,7,7,7,7,7,7,7,7,7,7,7,7,7,7,7,7,7,7,7,7,7,7,7,7,7,7,7,7,7,7,7,7,7,7]:List Int).map (Value.int .u8)).toArray t frozen
  |o=>o).modify 4 fun
  | .cells _ t frozen=> .cells (Go.Pinned.utf8FirstZ.map fun n:Nat=>Value.int .u8 (n:Int)).toArray t frozen
  |o=>o).modify 7 fun
  | .cells _ t frozen=> .cells #[.iface 259 (.pointer (some ⟨low,0,none⟩))] t frozen
  |o=>o).modify 6 fun
  | .cells _ t frozen=> .cells #[.iface 259 (.pointer (some ⟨low+1,0,none⟩))] t frozen
  |o=>o) }
def wargs:Array Value:= #[.agg #[.bool false, .slice none 0 0, .bool false, .slice none 0 0], .int .u8 0, .string ⟨#[]⟩]
theorem laid_met (os:Os):laidMet Tryz.prog Rows.decNearRow.laid ((laidWorld os).forCall (fun _ _=>0) ⟨#[],wargs,[]⟩).memory:=
 laidMet_of_run3 8 (by kernel_rfl) (by kernel_rfl) (by kernel_rfl)
theorem reads (os:Os) {H:Type} (enc:TypeId×Value→H):∃ places,DataW.whole enc Tryz.prog ((laidWorld os).forCall (fun _ _=>0) ⟨#[],wargs,[]⟩).memory Tryz.f5.params.toList Rows.decNearSpec.vars false wargs.toList 8=some ([.agg [.agg [.lit (.bool false), .nil], .agg [.lit (.bool false), .nil]], .lit (.int .u8 0), .lit (.string [])],[],places):=
 ⟨[],by kernel_rfl⟩
theorem lifted (os:Os) (started:os.Started) (H:Type) (enc:TypeId×Value→H) (F:Stop.Interp):
 ReturnsInHanded {} Tryz.checked os 5 .any ((OpenSpec.ofChange Rows.decNearSpec).preRow enc Tryz.prog Tryz.f5 Rows.decNearRow.domain false Rows.decNearRow.laid) (((OpenSpec.ofChange Rows.decNearSpec).at F).post enc Tryz.prog Tryz.f5 false true false false):=by
 obtain ⟨places,hx⟩:=reads os enc
 refine returnsInHanded_of_row (C:=Tryz.checked) (s:=OpenSpec.ofChange Rows.decNearSpec) own started (by kernel_rfl) Tryz.func5
  (witness_row_at (enc:=enc) (C:=Tryz.checked) false (laidWorld os) wargs rfl (by kernel_rfl) (by kernel_rfl) (by kernel_rfl)
    (OpenSpec.preRow_of_cond 8 hx (by kernel_rfl) (fun k hk=>by cases hk) (by kernel_rfl) (laid_met os))) ?_
 intro W base args ds gs before hval hW _ _ _ hL _ _
 exact contract H enc W base args ds gs before hval hW hL
theorem said:Rows.DecNearSaid:=
 OpenClaim.holds_of_cond 5 Tryz.f5 rfl rfl rfl rfl rfl rfl rfl ⟨rfl,rfl,rfl,rfl,rfl⟩ rfl rfl rfl rfl rfl (by kernel_rfl) Tryz.func5 (by kernel_rfl)
  (of_decide_eq_true (by kernel_rfl)) (by unfold Func.isWrapper;first|(rw [if_pos (by decide +kernel)];kernel_rfl)|(rw [if_neg (by decide +kernel)];exact ⟨rfl,rfl⟩))
  (fun os started H enc _ F=>by rw [OpenClaim.pre_eq_preRow];exact lifted os started H enc F)
theorem plain (f : FuncId) (fn : Func) (hf : Tryz.pinned.checked.prog.funcNamed "tallage/tallagelaw06.DecNear" = some f) (hfn : Tryz.pinned.checked.prog.funcs[f]? = some fn) :
 true=Tryz.pinned.checked.prog.looks []∧∀ (j:Nat) t,fn.params[j]? =some t→Tryz.pinned.checked.prog.wantsStandIn t=false:=by
 obtain rfl : f = 5 := Option.some.inj ((show Tryz.prog.funcNamed "tallage/tallagelaw06.DecNear" = some 5 by kernel_rfl).symm.trans hf) |>.symm
 obtain rfl:fn=Tryz.f5:=(Option.some.inj (Tryz.func5.symm.trans hfn)).symm
 refine ⟨by kernel_rfl,fun j t ht=> ?_⟩
 have hall:(Tryz.f5.params.toList.all fun u=> !Tryz.prog.wantsStandIn u)=true:=by kernel_rfl
 have hm:t∈Tryz.f5.params.toList:=by simpa using Array.mem_of_getElem? ht
 exact (show Tryz.prog.wantsStandIn t=false by simpa using List.all_eq_true.1 hall t hm)
theorem card:Rows.DecNearCardSaid:=
 Claim7.holds_tied_plain_at .later [] _ _ _ _ said (fun _ h=>by cases h) (by kernel_rfl) (fun _ h=>by cases h) decNear_row_tie rfl ⟨rfl,rfl⟩ (by kernel_rfl) rfl plain (by kernel_rfl)
end Go.Proofs.YtlibgcjnjlknhaaGreatDoor.decNear
