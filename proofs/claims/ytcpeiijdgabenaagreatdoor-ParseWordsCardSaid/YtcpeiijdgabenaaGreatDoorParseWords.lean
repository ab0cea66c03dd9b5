/- ParseWords, for every input: it returns true, and its arguments read as before. No condition but that the listed table reads as the program's text lays it, which the card ties to that text. -/
import Derived.Test.YtcpeiijdgabenaaGreatDoorCards
import Derived.Deep.DeepLaidRun
import Derived.Stop.LaidErr
import Derived.Deep.DeepWitnessRowRef
import Derived.Look9
import Derived.RowKitTokens
import Derived.Test.YtcpeiijdgabenaaGreatDoorTie
import Derived.Test.YtcpeiijdgabenaaGreatDoorFrame
import Derived.Test.YtcpeiijdgabenaaGreatDoorEK
import Derived.Test.YtcpeiijdgabenaaGreatDoorEY
set_option maxRecDepth 100000
set_option linter.unusedSimpArgs false
set_option linter.unusedVariables false
namespace Go.Proofs.YtcpeiijdgabenaaGreatDoor.parseWords
open Go Go.ChangeShapes Go.WideShapes Go.ChangeAt Go.RowKit
theorem own:ownKnob Tryz.prog.godebug=none:=by kernel_rfl
theorem DQ:laidOutB Tryz.prog=true:=by kernel_rfl
theorem I9 : Tryz.prog.globalNamed "internal/strconv.uint64pow10" = some 6 := by kernel_rfl
theorem Ij:(Tryz.prog.globals[6]?).map (·.type)=some 407:=by kernel_rfl
theorem GD:Tryz.prog.underlying 407=some (.array 20 355):=by kernel_rfl
theorem Hh:Tryz.prog.underlying 355=some (.int .u64):=by kernel_rfl
theorem AO:Tryz.prog.cellsOf 407=20:=by kernel_rfl
theorem GJ:Tryz.prog.cellsOf 355=1:=by kernel_rfl
theorem EG : Tryz.prog.globalNamed "tallage/limb.halfDigits" = some 11 := by kernel_rfl
theorem F6:(Tryz.prog.globals[11]?).map (·.type)=some 433:=by kernel_rfl
theorem Dn:Tryz.prog.underlying 433=some (.array 128 5):=by kernel_rfl
theorem Gy:Tryz.prog.underlying 5=some (.int .u8):=by kernel_rfl
theorem yG:Tryz.prog.cellsOf 433=128:=by kernel_rfl
theorem DS:Tryz.prog.cellsOf 5=1:=by kernel_rfl
theorem Gx : Tryz.prog.globalNamed "strings.asciiSpace" = some 1 := by kernel_rfl
theorem DP:(Tryz.prog.globals[1]?).map (·.type)=some 238:=by kernel_rfl
theorem zL:Tryz.prog.underlying 238=some (.array 256 5):=by kernel_rfl
theorem CR:Tryz.prog.underlying 5=some (.int .u8):=by kernel_rfl
theorem wb:Tryz.prog.cellsOf 238=256:=by kernel_rfl
theorem zC:Tryz.prog.cellsOf 5=1:=by kernel_rfl
theorem xo : Tryz.prog.globalNamed "tallage/parse.behind" = some 0 := by kernel_rfl
theorem zV:(Tryz.prog.globals[0]?).map (·.type)=some 173:=by kernel_rfl
theorem yN:Tryz.prog.underlying 173=some (.array 18 128):=by kernel_rfl
theorem BO:Tryz.prog.underlying 128=some (.int .u32):=by kernel_rfl
theorem uZ:Tryz.prog.cellsOf 173=18:=by kernel_rfl
theorem xZ:Tryz.prog.cellsOf 128=1:=by kernel_rfl
theorem Ho : "*" ++ "errors.errorString" = "*errors.errorString" := by decide
theorem Cm (u : TypeId) (h : Tryz.prog.typeName? 3 u = some "*errors.errorString") : u = 402 :=
 typeName_ptr_named (nm := "errors.errorString") (by rw [Ho]; kernel_rfl) qK qD u (by rw [Ho]; exact h)
theorem H0 : Tryz.prog.globalNamed "strconv.ErrRange" = some 5 := by kernel_rfl
theorem IC:(Tryz.prog.globals[5]?).map (·.type)=some 155:=by kernel_rfl
theorem Ib : Tryz.prog.globalNamed "strconv.ErrSyntax" = some 4 := by kernel_rfl
theorem Hs:(Tryz.prog.globals[4]?).map (·.type)=some 155:=by kernel_rfl
theorem Hn:(Tryz.f4.params.toList.all fun t=>Tryz.prog.readableRec t&&decide (t<Tryz.prog.types.size))=true:=by kernel_rfl
theorem EP {W:World} (h:laidMetH Tryz.prog Rows.parseWordsRow.laid W):fE W:=by
 have h0 : laidMet Tryz.prog [("math/bits.deBruijn32tab", Rows.laid_math_bits_deBruijn32tab), ("math/bits.deBruijn64tab", Rows.laid_math_bits_deBruijn64tab), ("internal/strconv.uint64pow10", Rows.laid_internal_strconv_uint64pow10), ("unicode/utf8.acceptRanges", Rows.laid_unicode_utf8_acceptRanges), ("strconv.ErrRange", Rows.laid_strconv_ErrRange), ("strconv.ErrSyntax", Rows.laid_strconv_ErrSyntax), ("tallage/limb.halfDigits", Rows.laid_tallage_limb_halfDigits), ("unicode.White_Space", Rows.laid_unicode_White_Space), ("strings.asciiSpace", Rows.laid_strings_asciiSpace), ("tallage/parse.behind", Rows.laid_tallage_parse_behind), ("unicode/utf8.first", Rows.laid_unicode_utf8_first)] W := h
 have h1 : laidMet Tryz.prog [("math/bits.deBruijn64tab", Rows.laid_math_bits_deBruijn64tab), ("internal/strconv.uint64pow10", Rows.laid_internal_strconv_uint64pow10), ("unicode/utf8.acceptRanges", Rows.laid_unicode_utf8_acceptRanges), ("strconv.ErrRange", Rows.laid_strconv_ErrRange), ("strconv.ErrSyntax", Rows.laid_strconv_ErrSyntax), ("tallage/limb.halfDigits", Rows.laid_tallage_limb_halfDigits), ("unicode.White_Space", Rows.laid_unicode_White_Space), ("strings.asciiSpace", Rows.laid_strings_asciiSpace), ("tallage/parse.behind", Rows.laid_tallage_parse_behind), ("unicode/utf8.first", Rows.laid_unicode_utf8_first)] W := h0.tail
 have h2 : laidMet Tryz.prog [("internal/strconv.uint64pow10", Rows.laid_internal_strconv_uint64pow10), ("unicode/utf8.acceptRanges", Rows.laid_unicode_utf8_acceptRanges), ("strconv.ErrRange", Rows.laid_strconv_ErrRange), ("strconv.ErrSyntax", Rows.laid_strconv_ErrSyntax), ("tallage/limb.halfDigits", Rows.laid_tallage_limb_halfDigits), ("unicode.White_Space", Rows.laid_unicode_White_Space), ("strings.asciiSpace", Rows.laid_strings_asciiSpace), ("tallage/parse.behind", Rows.laid_tallage_parse_behind), ("unicode/utf8.first", Rows.laid_unicode_utf8_first)] W := h1.tail
 have h3 : laidMet Tryz.prog [("unicode/utf8.acceptRanges", Rows.laid_unicode_utf8_acceptRanges), ("strconv.ErrRange", Rows.laid_strconv_ErrRange), ("strconv.ErrSyntax", Rows.laid_strconv_ErrSyntax), ("tallage/limb.halfDigits", Rows.laid_tallage_limb_halfDigits), ("unicode.White_Space", Rows.laid_unicode_White_Space), ("strings.asciiSpace", Rows.laid_strings_asciiSpace), ("tallage/parse.behind", Rows.laid_tallage_parse_behind), ("unicode/utf8.first", Rows.laid_unicode_utf8_first)] W := h2.tail
 have h4 : laidMet Tryz.prog [("strconv.ErrRange", Rows.laid_strconv_ErrRange), ("strconv.ErrSyntax", Rows.laid_strconv_ErrSyntax), ("tallage/limb.halfDigits", Rows.laid_tallage_limb_halfDigits), ("unicode.White_Space", Rows.laid_unicode_White_Space), ("strings.asciiSpace", Rows.laid_strings_asciiSpace), ("tallage/parse.behind", Rows.laid_tallage_parse_behind), ("unicode/utf8.first", Rows.laid_unicode_utf8_first)] W := h3.tail
 have h5 : laidMet Tryz.prog [("strconv.ErrSyntax", Rows.laid_strconv_ErrSyntax), ("tallage/limb.halfDigits", Rows.laid_tallage_limb_halfDigits), ("unicode.White_Space", Rows.laid_unicode_White_Space), ("strings.asciiSpace", Rows.laid_strings_asciiSpace), ("tallage/parse.behind", Rows.laid_tallage_parse_behind), ("unicode/utf8.first", Rows.laid_unicode_utf8_first)] W := h4.tail
 have h6 : laidMet Tryz.prog [("tallage/limb.halfDigits", Rows.laid_tallage_limb_halfDigits), ("unicode.White_Space", Rows.laid_unicode_White_Space), ("strings.asciiSpace", Rows.laid_strings_asciiSpace), ("tallage/parse.behind", Rows.laid_tallage_parse_behind), ("unicode/utf8.first", Rows.laid_unicode_utf8_first)] W := h5.tail
 have h7 : laidMet Tryz.prog [("unicode.White_Space", Rows.laid_unicode_White_Space), ("strings.asciiSpace", Rows.laid_strings_asciiSpace), ("tallage/parse.behind", Rows.laid_tallage_parse_behind), ("unicode/utf8.first", Rows.laid_unicode_utf8_first)] W := h6.tail
 have h8 : laidMet Tryz.prog [("strings.asciiSpace", Rows.laid_strings_asciiSpace), ("tallage/parse.behind", Rows.laid_tallage_parse_behind), ("unicode/utf8.first", Rows.laid_unicode_utf8_first)] W := h7.tail
 have h9 : laidMet Tryz.prog [("tallage/parse.behind", Rows.laid_tallage_parse_behind), ("unicode/utf8.first", Rows.laid_unicode_utf8_first)] W := h8.tail
 have hPow : Lib.TabIs Tryz.prog W "internal/strconv.uint64pow10" .u64 Lib.pow10Tab := Lib.tabIs_of_head I9 Ij GD Hh GJ AO h2
 have hHalf : Lib.TabIs Tryz.prog W "tallage/limb.halfDigits" .u8 lf := Lib.tabIs_of_head EG F6 Dn Gy DS yG h6
 have hSpace : Lib.TabIs Tryz.prog W "strings.asciiSpace" .u8 Lib.asciiSpaceTab := Lib.tabIs_of_head Gx DP zL CR zC wb h8
 have hBehind : Lib.TabIs Tryz.prog W "tallage/parse.behind" .u32 ul := Lib.tabIs_of_head xo zV yN BO xZ uZ h9
 have hc:iq W:=fun i hi=>hHalf.cell EG i hi
 obtain ⟨aRan,sRan,hvRan,_,_,_⟩:=laid_sentinel h4 H0 IC Tryz.underlying155 Cm Tryz.underlying402 Tryz.underlying404 rfl rfl Tryz.underlying9 qK qK
 have cRan:W.cell? ⟨5,0,none⟩=some (.iface 402 (.pointer (some aRan))):=by simpa using World.var?_cell H0 hvRan 0
 obtain ⟨aSyn,sSyn,hvSyn,_,_,_⟩:=laid_sentinel h5 Ib Hs Tryz.underlying155 Cm Tryz.underlying402 Tryz.underlying404 rfl rfl Tryz.underlying9 qK qK
 have cSyn:W.cell? ⟨4,0,none⟩=some (.iface 402 (.pointer (some aSyn))):=by simpa using World.var?_cell Ib hvSyn 0
 exact ⟨⟨hc,World.block_lt_of_cell? _ _ (hc 0 qD),hPow⟩,hSpace,fun i z hz=>(by have hi:=(List.getElem?_eq_some_iff.1 hz).1;rw [hBehind.cell xo i hi,List.getD_eq_getElem?_getD,hz];rfl),⟨_,cSyn, .inr ⟨_,_,rfl⟩⟩,⟨_,cRan, .inr ⟨_,_,rfl⟩⟩⟩
theorem Be (H:Type) (enc:TypeId×Value→H) (W:World) (base:Nat) (args:Array Value) (ds gs:List (DataW H)) (before:List MemPlace)
 (hval:∀ (j:Nat) t v,Tryz.f4.params[j]? =some t→args[j]? =some v→Value.okWide Tryz.prog W .any base t v)
 (hW:DataW.Whole enc Tryz.prog Tryz.f4.params.toList Rows.parseWordsSpec.vars false W args.toList ds gs before) (hL:laidMetH Tryz.prog Rows.parseWordsRow.laid W):
 Calls Tryz.prog 4 args W fun e W'=>∃ v,e= .returned v∧Rows.parseWordsSpec.post enc Tryz.prog Tryz.f4 false true false false W args v W':=by
 have hW':=hW
 obtain ⟨p,q,hA0,hV,rfl,hfz,hnd⟩:=hW
 have hA:DataW.TrodAll enc Tryz.prog W 0 (fun _=>true) true Tryz.f4.params.toList args.toList ds p:=hA0
 rw [Tryz.params4] at hA hval
 obtain ⟨v0,vs0,d0,ds0,p0,q0,hargs,rfl,rfl,h0,r0⟩:=trodAll_cons hA
 obtain ⟨v1,vs1,d1,ds1,p1,q1,rfl,rfl,rfl,h1,r1⟩:=trodAll_cons r0
 obtain ⟨rfl,rfl,rfl⟩:=trodAll_nil r1
 obtain rfl:args= #[v0,v1]:=by cases args;simp_all
 obtain ⟨a0,rfl,rfl,rfl,w0⟩:=Go.ChangeMaps.open_string Tryz.underlying9 (hval 0 9 _ rfl rfl) h0
 obtain ⟨a1,rfl,rfl,rfl,k1⟩:=open_int Tryz.underlying5 (hval 1 5 _ rfl rfl) h1
 have w1:=IZ k1
 obtain ⟨a1,rfl⟩:∃ m:Nat,a1=(m:Int):=⟨a1.toNat,by omega⟩
 have hE:=EP hL
 refine (wz ((Bn (t:=a0.data.toList) (k:=a1) qO (by have hw:=w0;unfold maxLen at hw;rw [Array.length_toList];exact hw)).run (X:=[]) hE (fun _ h=>by cases h) (vs:=[_,_]) ⟨congrArg Value.string (Ab a0),rfl,trivial⟩)).mono fun e W' ⟨he,hb⟩=> ?_
 subst he
 exact ⟨_,rfl,Bk DQ hW' rfl Hn (tb:=4) rfl Tryz.underlying4 (fun xs h=>by subst h;rfl) hb⟩
def Il:ByteArray:={ data:= #[118,97,108,117,101,32,111,117,116,32,111,102,32,114,97,110,103,101] }
def IE:ByteArray:={ data:= #[105,110,118,97,108,105,100,32,115,121,110,116,97,120] }
noncomputable def low:Nat:=(World.holding Tryz.prog default ⟨#[], #[],[]⟩).heap.size
noncomputable def nt (os:Os):World:=
 let w0:=World.holding Tryz.prog os ⟨#[.cells #[.string Il] 404, .cells #[.string IE] 404, .cells ([9,13,1,32,133,101,160,5760,5600,8192,8202,1,8232,8233,1,8239,8287,48,12288,12288,1].map fun z:Int=>Value.int .u16 z).toArray 309, .cells #[.slice (some ⟨low+2,0,none⟩) 7 7, .slice none 0 0, .int .i64 2] 306], #[],[]⟩
 { w0 with heap:=(((((((((((w0.heap.modify 9 fun
  | .cells _ t frozen=> .cells (([0,1,28,2,29,14,24,3,30,22,20,15,25,17,4,8,31,27,13,23,21,19,16,7,26,12,18,6,11,5,10,9]:List Int).map (Value.int .u8)).toArray t frozen
  |o=>o).modify 10 fun
  | .cells _ t frozen=> .cells (([0,1,56,2,57,49,28,3,61,58,42,50,38,29,17,4,62,47,59,36,45,43,51,22,53,39,33,30,24,18,12,5,63,55,48,27,60,41,37,16,46,35,44,21,52,32,23,11,54,26,40,15,34,20,31,10,25,14,19,9,13,8,7,6]:List Int).map (Value.int .u8)).toArray t frozen
  |o=>o).modify 6 fun
  | .cells _ t frozen=> .cells (([1,10,100,1000,10000,100000,1000000,10000000,100000000,1000000000,10000000000,100000000000,1000000000000,10000000000000,100000000000000,1000000000000000,10000000000000000,100000000000000000,1000000000000000000,10000000000000000000]:List Int).map (Value.int .u64)).toArray t frozen
  |o=>o).modify 8 fun
  | .cells _ t frozen=> .cells (([128,191,160,191,128,159,144,191,128,143,0,0,0,0,0,0,0,0,0,0,0,0,0,0,0,0,0,0,0,0,0,0]:List Int).map (Value.int .u8)).toArray t frozen
  |o=>o).modify 11 fun
  | .cells _ t frozen=> .cells (([0,1,2,2,3,3,3,3,4,4,4,4,4,4,4,4,5,5,5,5,5,5,5,5,5,5,5,5,5,5,5,5,6,6,6,6,6,6,6,6,6,6,6,6,6,6,6,6,6,6,6,6,6,6,6,6,6,6,6,6,6,6,6,6,7,7,7,7,7,7,7,7,7,7,7,7,7,7,7,7,7,7,7,7,7,7,7,7,7,7,7,7,7,7,7,7,7,7,7,7,7,7,7,7,7,7,7,7,7,7,7,7,7,7,7,7,7,7,7,7,7,7,7,7,7,7,7,7]:List Int).map (Value.int .u8)).toArray t frozen
  |o=>o).modify 1 fun
  | .cells _ t frozen=> .cells (([0,0,0,0,0,0,0,0,0,1,1,1,1,1,0,0,0,0,0,0,0,0,0,0,0,0,0,0,0,0,0,0,1,0,0,0,0,0,0,0,0,0,0,0,0,0,0,0,0,0,0,0,0,0,0,0,0,0,0,0,0,0,0,0,0,0,0,0,0,0,0,0,0,0,0,0,0,0,0,0,0,0,0,0,0,0,0,0,0,0,0,0,0,0,0,0,0,0,0,0,0,0,0,0,0,0,0,0,0,0,0,0,0,0,0,0,0,0,0,0,0,0,0,0,0,0,0,0,0,0,0,0,0,0,0,0,0,0,0,0,0,0,0,0,0,0,0,0,0,0,0,0,0,0,0,0,0,0,0,0,0,0,0,0,0,0,0,0,0,0,0,0,0,0,0,0,0,0,0,0,0,0,0,0,0,0,0,0,0,0,0,0,0,0,0,0,0,0,0,0,0,0,0,0,0,0,0,0,0,0,0,0,0,0,0,0,0,0,0,0,0,0,0,0,0,0,0,0,0,0,0,0,0,0,0,0,0,0,0,0,0,0,0,0,0,0,0,0,0,0,0,0,0,0,0,0]:List Int).map (Value.int .u8)).toArray t frozen
  |o=>o).modify 0 fun
  | .cells _ t frozen=> .cells (([0,12,12,16,32,64,128,132864,132864,132608,261120,261120,259072,254976,254976,230400,197632,2]:List Int).map (Value.int .u32)).toArray t frozen
  |o=>o).modify 7 fun
  | .cells _ t frozen=> .cells (Go.Pinned.utf8FirstZ.map fun n:Nat=>Value.int .u8 (n:Int)).toArray t frozen
  |o=>o).modify 5 fun
  | .cells _ t frozen=> .cells #[.iface 402 (.pointer (some ⟨low,0,none⟩))] t frozen
  |o=>o).modify 4 fun
  | .cells _ t frozen=> .cells #[.iface 402 (.pointer (some ⟨low+1,0,none⟩))] t frozen
  |o=>o).modify 2 fun
  | .cells _ t frozen=> .cells #[.pointer (some ⟨low+3,0,none⟩)] t frozen
  |o=>o) }
def xg:Array Value:= #[.string ⟨#[]⟩, .int .u8 0]
theorem Bz (os:Os):laidMet Tryz.prog Rows.parseWordsRow.laid ((nt os).forCall (fun _ _=>0) ⟨#[],xg,[]⟩).memory:=
 laidMet_of_run3 8 qK qK qK
theorem EC (os:Os) {H:Type} (enc:TypeId×Value→H):∃ places,DataW.whole enc Tryz.prog ((nt os).forCall (fun _ _=>0) ⟨#[],xg,[]⟩).memory Tryz.f4.params.toList Rows.parseWordsSpec.vars false xg.toList 8=some ([.lit (.string []), .lit (.int .u8 0)],[],places):=
 ⟨[],by kernel_rfl⟩
theorem Gl (os:Os) (started:os.Started) (H:Type) (enc:TypeId×Value→H) (F:Stop.Interp):
 ReturnsInHanded {} Tryz.checked os 4 .any ((OpenSpec.ofChange Rows.parseWordsSpec).preRow enc Tryz.prog Tryz.f4 Rows.parseWordsRow.domain false Rows.parseWordsRow.laid) (((OpenSpec.ofChange Rows.parseWordsSpec).at F).post enc Tryz.prog Tryz.f4 false true false false):=by
 obtain ⟨places,hx⟩:=EC os enc
 refine returnsInHanded_of_row (C:=Tryz.checked) (s:=OpenSpec.ofChange Rows.parseWordsSpec) own started qK Tryz.func4
  (witness_row_atRef (enc:=enc) (C:=Tryz.checked) false (nt os) xg rfl qK qK qK
    (OpenSpec.preRow_of_cond 8 hx qK (fun k hk=>by cases hk) qK (Bz os))) ?_
 intro W base args ds gs before hval hW _ _ _ hL _ _
 exact Be H enc W base args ds gs before hval hW hL
theorem jy {a b:Bool} (h:a=true) (g:b=true):(a&&b)=true:=by rw [h,g];rfl
theorem t0:OpenClaim.wf (OpenSpec.ofChange (OpenSpec.ofChange Rows.parseWordsSpec).bare) Rows.parseWordsRow=true:=by kernel_rfl
theorem t1:laidOutB Tryz.prog=true:=by kernel_rfl
theorem t2:mapsRowed Tryz.prog=true:=by kernel_rfl
theorem t3:(Tryz.f4.params.all fun x=>Tryz.prog.readableRec x)=true:=by kernel_rfl
theorem t4:namedTie Tryz.prog Rows.parseWordsRow.named (OpenSpec.ofChange Rows.parseWordsSpec).bare.vars=true:=by kernel_rfl
theorem t5:(Rows.parseWordsRow.inPlace==Tryz.prog.inPlace 4)=true:=by kernel_rfl
theorem t6:(Rows.parseWordsRow.unfollowed==Tryz.prog.unfollowed 4)=true:=by kernel_rfl
theorem t7:(Rows.parseWordsRow.recurses==Tryz.prog.recurses 4)=true:=by kernel_rfl
theorem t8:(Rows.parseWordsRow.named==Tryz.prog.varsNamed 4)=true:=by kernel_rfl
theorem t9:(Rows.parseWordsRow.loops==(Tryz.f4.params.toList++DataSpec.varTypes Tryz.prog (OpenSpec.ofChange Rows.parseWordsSpec).bare.plain).any fun x=>Tryz.prog.loopsFrom x)=true:=by kernel_rfl
theorem closed:joinedFacts Tryz.prog 4 Tryz.f4 (OpenSpec.ofChange Rows.parseWordsSpec).bare Rows.parseWordsRow=true:=by
 unfold joinedFacts
 iterate 15 refine jy ?_ qK
 refine jy ?_ t9
 refine jy ?_ qK
 refine jy ?_ qK
 refine jy ?_ qK
 refine jy ?_ t8
 refine jy ?_ t7
 refine jy ?_ t6
 refine jy ?_ t5
 iterate 4 refine jy ?_ qK
 refine jy ?_ t4
 exact jy (jy (jy t0 t1) t2) t3
theorem said:Rows.ParseWordsSaid:=
 OpenClaim.holds_of_cond 4 Tryz.f4 rfl rfl rfl rfl rfl rfl rfl ⟨rfl,rfl,rfl,rfl,rfl⟩ rfl rfl rfl rfl rfl qK Tryz.func4 closed
  (of_decide_eq_true qK) (by unfold Func.isWrapper;first|(rw [if_pos (by decide +kernel)];kernel_rfl)|(rw [if_neg (by decide +kernel)];exact ⟨rfl,rfl⟩))
  (fun os started H enc _ F=>by rw [OpenClaim.pre_eq_preRow];exact Gl os started H enc F)
theorem plain (f : FuncId) (fn : Func) (hf : Tryz.pinned.checked.prog.funcNamed "tallage/tallagelaw09.ParseWords" = some f) (hfn : Tryz.pinned.checked.prog.funcs[f]? = some fn) :
 true=Tryz.pinned.checked.prog.looks []∧∀ (j:Nat) t,fn.params[j]? =some t→Tryz.pinned.checked.prog.wantsStandIn t=false:=by
 obtain rfl : f = 4 := Option.some.inj ((show Tryz.prog.funcNamed "tallage/tallagelaw09.ParseWords" = some 4 by kernel_rfl).symm.trans hf) |>.symm
 obtain rfl:fn=Tryz.f4:=(Option.some.inj (Tryz.func4.symm.trans hfn)).symm
 refine ⟨by kernel_rfl,fun j t ht=> ?_⟩
 have hall:(Tryz.f4.params.toList.all fun u=> !Tryz.prog.wantsStandIn u)=true:=by kernel_rfl
 have hm:t∈Tryz.f4.params.toList:=by simpa using Array.mem_of_getElem? ht
 exact (show Tryz.prog.wantsStandIn t=false by simpa using List.all_eq_true.1 hall t hm)
theorem card:Rows.ParseWordsCardSaid:=
 Claim7.holds_tied_plain_at .later [] _ _ _ _ said (fun _ h=>by cases h) qK (fun _ h=>by cases h) parseWords_row_tie rfl ⟨rfl,rfl⟩ qK rfl plain qK
end Go.Proofs.YtcpeiijdgabenaaGreatDoor.parseWords
