/- What the walks want of ast's and tallageref08's structs. Written by gen_wc.py. -/
import Derived.Test.YtjjkikchncfekaaGreatDoorGM
import Derived.Test.YtjjkikchncfekaaGreatDoorGK
import Derived.Test.YtjjkikchncfekaaGreatDoorGH
import Derived.Laws.CopyRow
set_option linter.unusedSimpArgs false
set_option linter.unusedVariables false
namespace Go.Proofs.YtjjkikchncfekaaGreatDoor
open Go Go.ChangeShapes Go.WideShapes Go.ChangeAt Go.RowKit Go.Deep
instance:KC Rp.frac 4:=⟨rfl⟩
instance {b:Bool}:kA Rp.bool b (.is (.bool b)):=⟨fun h=>by
 injection (show [_]=[_] from h) with e _⟩
abbrev cM:=(aP)×(aP)
abbrev a8:Rp cM:=Rp.frac.pair (Rp.frac)
instance:KC a8 8:=⟨rfl⟩
instance:bk a8 0 Rp.frac (fun a=>a.1):=bk.fst
instance:aj a8 0 Rp.frac (fun a b=>(b,a.2)):=aj.fst
instance {a:cM}:am (.ra a8 a) 0 4 true (.ra Rp.frac a.1):=am.agg (g:=fun (a:cM)=>a.1) inferInstance ⟨rfl⟩
instance:bk a8 4 Rp.frac (fun a=>a.2):=(bk.tail (n:=4) ⟨rfl⟩ bk.self rfl)
instance:aj a8 4 Rp.frac (fun a b=>(a.1,b)):=(aj.tail (n:=4) ⟨rfl⟩ aj.self rfl)
instance {a:cM}:am (.ra a8 a) 4 4 true (.ra Rp.frac a.2):=am.agg (g:=fun (a:cM)=>a.2) inferInstance ⟨rfl⟩
instance:fw Tryz.prog 79 8 true:=⟨⟨_,Tryz.underlying79,rfl⟩,by kernel_rfl⟩
instance:ay Tryz.prog 79 0 0 4 true:=⟨⟨_,_,Tryz.underlying79,rfl,rfl,by kernel_rfl,by decide,_,Tryz.underlying27,rfl⟩⟩
instance:ay Tryz.prog 79 1 4 4 true:=⟨⟨_,_,Tryz.underlying79,rfl,rfl,by kernel_rfl,by decide,_,Tryz.underlying27,rfl⟩⟩
theorem ii:eH Tryz.prog 79 a8 (((false,[]),(false,[])),((false,[]),(false,[]))):=⟨by
 obtain ⟨i,h1,h2,h3,h4⟩:∃ i,Tryz.prog.info? 79=some i∧i.zero=some (.agg #[.bool false, .slice none 0 0, .bool false, .slice none 0 0, .bool false, .slice none 0 0, .bool false, .slice none 0 0])∧i.size=8∧i.bytes=128:=info_parts qK
 refine ⟨_,i,_,Tryz.underlying79,(fun f hf=> ?_),h1,h2,fun w S=> ?_⟩
 ·simp only [List.mem_cons,List.not_mem_nil,or_false] at hf
  rcases hf with rfl|rfl<;>exact Option.isSome_iff_exists.1 qK
 ·exact ⟨[.bool false, .slice none 0 0, .bool false, .slice none 0 0],[.bool false, .slice none 0 0, .bool false, .slice none 0 0],rfl,⟨[.bool false, .slice none 0 0],[.bool false, .slice none 0 0],rfl,⟨[.bool false],[.slice none 0 0],rfl,rfl,⟨none,0,0,rfl,⟨⟨rfl,Nat.le_refl _,Nat.zero_le _,fun _=>rfl,fun h=>absurd h qO⟩,fun h=>absurd h qO⟩,fun _ h=>by cases h⟩⟩,⟨[.bool false],[.slice none 0 0],rfl,rfl,⟨none,0,0,rfl,⟨⟨rfl,Nat.le_refl _,Nat.zero_le _,fun _=>rfl,fun h=>absurd h qO⟩,fun h=>absurd h qO⟩,fun _ h=>by cases h⟩⟩⟩,⟨[.bool false, .slice none 0 0],[.bool false, .slice none 0 0],rfl,⟨[.bool false],[.slice none 0 0],rfl,rfl,⟨none,0,0,rfl,⟨⟨rfl,Nat.le_refl _,Nat.zero_le _,fun _=>rfl,fun h=>absurd h qO⟩,fun h=>absurd h qO⟩,fun _ h=>by cases h⟩⟩,⟨[.bool false],[.slice none 0 0],rfl,rfl,⟨none,0,0,rfl,⟨⟨rfl,Nat.le_refl _,Nat.zero_le _,fun _=>rfl,fun h=>absurd h qO⟩,fun h=>absurd h qO⟩,fun _ h=>by cases h⟩⟩⟩⟩⟩
instance:fw Tryz.prog 22 1 false:=⟨⟨_,Tryz.underlying22,rfl⟩,by kernel_rfl⟩
instance:dt Tryz.prog 22 8:=⟨⟨_,Tryz.underlying22,by kernel_rfl⟩⟩
theorem kb:nY Tryz.prog 22 79 8:=⟨Tryz.underlying22,by
 obtain ⟨i,h1,h2,h3,h4⟩:∃ i,Tryz.prog.info? 79=some i∧i.zero=some (.agg #[.bool false, .slice none 0 0, .bool false, .slice none 0 0, .bool false, .slice none 0 0, .bool false, .slice none 0 0])∧i.size=8∧i.bytes=128:=info_parts qK
 exact ⟨i,_,h1,h2,h3,rfl⟩⟩
instance:fw Tryz.prog 93 8 true:=⟨⟨_,Tryz.underlying93,rfl⟩,by kernel_rfl⟩
instance:ay Tryz.prog 93 0 0 4 true:=⟨⟨_,_,Tryz.underlying93,rfl,rfl,by kernel_rfl,by decide,_,Tryz.underlying40,rfl⟩⟩
instance:ay Tryz.prog 93 1 4 4 true:=⟨⟨_,_,Tryz.underlying93,rfl,rfl,by kernel_rfl,by decide,_,Tryz.underlying40,rfl⟩⟩
theorem jd:eH Tryz.prog 93 a8 (((false,[]),(false,[])),((false,[]),(false,[]))):=⟨by
 obtain ⟨i,h1,h2,h3,h4⟩:∃ i,Tryz.prog.info? 93=some i∧i.zero=some (.agg #[.bool false, .slice none 0 0, .bool false, .slice none 0 0, .bool false, .slice none 0 0, .bool false, .slice none 0 0])∧i.size=8∧i.bytes=128:=info_parts qK
 refine ⟨_,i,_,Tryz.underlying93,(fun f hf=> ?_),h1,h2,fun w S=> ?_⟩
 ·simp only [List.mem_cons,List.not_mem_nil,or_false] at hf
  rcases hf with rfl|rfl<;>exact Option.isSome_iff_exists.1 qK
 ·exact ⟨[.bool false, .slice none 0 0, .bool false, .slice none 0 0],[.bool false, .slice none 0 0, .bool false, .slice none 0 0],rfl,⟨[.bool false, .slice none 0 0],[.bool false, .slice none 0 0],rfl,⟨[.bool false],[.slice none 0 0],rfl,rfl,⟨none,0,0,rfl,⟨⟨rfl,Nat.le_refl _,Nat.zero_le _,fun _=>rfl,fun h=>absurd h qO⟩,fun h=>absurd h qO⟩,fun _ h=>by cases h⟩⟩,⟨[.bool false],[.slice none 0 0],rfl,rfl,⟨none,0,0,rfl,⟨⟨rfl,Nat.le_refl _,Nat.zero_le _,fun _=>rfl,fun h=>absurd h qO⟩,fun h=>absurd h qO⟩,fun _ h=>by cases h⟩⟩⟩,⟨[.bool false, .slice none 0 0],[.bool false, .slice none 0 0],rfl,⟨[.bool false],[.slice none 0 0],rfl,rfl,⟨none,0,0,rfl,⟨⟨rfl,Nat.le_refl _,Nat.zero_le _,fun _=>rfl,fun h=>absurd h qO⟩,fun h=>absurd h qO⟩,fun _ h=>by cases h⟩⟩,⟨[.bool false],[.slice none 0 0],rfl,rfl,⟨none,0,0,rfl,⟨⟨rfl,Nat.le_refl _,Nat.zero_le _,fun _=>rfl,fun h=>absurd h qO⟩,fun h=>absurd h qO⟩,fun _ h=>by cases h⟩⟩⟩⟩⟩
instance:fw Tryz.prog 37 1 false:=⟨⟨_,Tryz.underlying37,rfl⟩,by kernel_rfl⟩
instance:dt Tryz.prog 37 8:=⟨⟨_,Tryz.underlying37,by kernel_rfl⟩⟩
theorem jf:nY Tryz.prog 37 93 8:=⟨Tryz.underlying37,by
 obtain ⟨i,h1,h2,h3,h4⟩:∃ i,Tryz.prog.info? 93=some i∧i.zero=some (.agg #[.bool false, .slice none 0 0, .bool false, .slice none 0 0, .bool false, .slice none 0 0, .bool false, .slice none 0 0])∧i.size=8∧i.bytes=128:=info_parts qK
 exact ⟨i,_,h1,h2,h3,rfl⟩⟩
theorem jc:io Tryz.prog 37 93 8 128:=⟨Tryz.underlying37,by decide,by
 obtain ⟨i,h1,h2,h3,h4⟩:∃ i,Tryz.prog.info? 93=some i∧i.zero=some (.agg #[.bool false, .slice none 0 0, .bool false, .slice none 0 0, .bool false, .slice none 0 0, .bool false, .slice none 0 0])∧i.size=8∧i.bytes=128:=info_parts qK
 exact ⟨i,_,h1,h2,h3,h4,rfl⟩⟩
theorem rj:bu Tryz.prog 79 a8:=bu.strct Tryz.underlying79 (.cons fH rfl rfl (.one fH rfl)) qK
abbrev ct:=(List UInt8)×(Int)×(aP)
abbrev bt:Rp ct:=Rp.str.pair (((Rp.int .u8).pair (Rp.frac)))
instance:KC bt 6:=⟨rfl⟩
instance:bk bt 0 Rp.str (fun a=>a.1):=bk.fst
instance:aj bt 0 Rp.str (fun a b=>(b,a.2)):=aj.fst
instance {a:ct}:am (.ra bt a) 0 1 false (.is (Tx a.1)):=am.cell inferInstance ⟨rfl⟩ inferInstance
instance:bk bt 1 (Rp.int .u8) (fun a=>a.2.1):=(bk.tail (n:=1) ⟨rfl⟩ bk.fst rfl)
instance:aj bt 1 (Rp.int .u8) (fun a b=>(a.1,(b,a.2.2))):=(aj.tail (n:=1) ⟨rfl⟩ aj.fst rfl)
instance {a:ct}:am (.ra bt a) 1 1 false (.is (.int .u8 a.2.1)):=am.cell inferInstance ⟨rfl⟩ inferInstance
instance:bk bt 2 Rp.frac (fun a=>a.2.2):=(bk.tail (n:=2) ⟨rfl⟩ (bk.tail (n:=1) ⟨rfl⟩ bk.self rfl) rfl)
instance:aj bt 2 Rp.frac (fun a b=>(a.1,(a.2.1,b))):=(aj.tail (n:=2) ⟨rfl⟩ (aj.tail (n:=1) ⟨rfl⟩ aj.self rfl) rfl)
instance {a:ct}:am (.ra bt a) 2 4 true (.ra Rp.frac a.2.2):=am.agg (g:=fun (a:ct)=>a.2.2) inferInstance ⟨rfl⟩
instance:fw Tryz.prog 84 6 true:=⟨⟨_,Tryz.underlying84,rfl⟩,by kernel_rfl⟩
instance:ay Tryz.prog 84 0 0 1 false:=⟨⟨_,_,Tryz.underlying84,rfl,rfl,by kernel_rfl,by decide,_,Tryz.underlying9,rfl⟩⟩
instance:ay Tryz.prog 84 1 1 1 false:=⟨⟨_,_,Tryz.underlying84,rfl,rfl,by kernel_rfl,by decide,_,Tryz.underlying5,rfl⟩⟩
instance:ay Tryz.prog 84 2 2 4 true:=⟨⟨_,_,Tryz.underlying84,rfl,rfl,by kernel_rfl,by decide,_,Tryz.underlying27,rfl⟩⟩
theorem lp:eH Tryz.prog 84 bt ([],0,((false,[]),(false,[]))):=⟨by
 obtain ⟨i,h1,h2,h3,h4⟩:∃ i,Tryz.prog.info? 84=some i∧i.zero=some (.agg #[Tx [], .int .u8 0, .bool false, .slice none 0 0, .bool false, .slice none 0 0])∧i.size=6∧i.bytes=88:=info_parts qK
 refine ⟨_,i,_,Tryz.underlying84,(fun f hf=> ?_),h1,h2,fun w S=> ?_⟩
 ·simp only [List.mem_cons,List.not_mem_nil,or_false] at hf
  rcases hf with rfl|rfl|rfl<;>exact Option.isSome_iff_exists.1 qK
 ·exact ⟨[Tx []],[.int .u8 0, .bool false, .slice none 0 0, .bool false, .slice none 0 0],rfl,⟨_,rfl,bU []⟩,⟨[.int .u8 0],[.bool false, .slice none 0 0, .bool false, .slice none 0 0],rfl,rfl,⟨[.bool false, .slice none 0 0],[.bool false, .slice none 0 0],rfl,⟨[.bool false],[.slice none 0 0],rfl,rfl,⟨none,0,0,rfl,⟨⟨rfl,Nat.le_refl _,Nat.zero_le _,fun _=>rfl,fun h=>absurd h qO⟩,fun h=>absurd h qO⟩,fun _ h=>by cases h⟩⟩,⟨[.bool false],[.slice none 0 0],rfl,rfl,⟨none,0,0,rfl,⟨⟨rfl,Nat.le_refl _,Nat.zero_le _,fun _=>rfl,fun h=>absurd h qO⟩,fun h=>absurd h qO⟩,fun _ h=>by cases h⟩⟩⟩⟩⟩⟩
instance:fw Tryz.prog 28 1 false:=⟨⟨_,Tryz.underlying28,rfl⟩,by kernel_rfl⟩
instance:dt Tryz.prog 28 6:=⟨⟨_,Tryz.underlying28,by kernel_rfl⟩⟩
theorem qQ:nY Tryz.prog 28 84 6:=⟨Tryz.underlying28,by
 obtain ⟨i,h1,h2,h3,h4⟩:∃ i,Tryz.prog.info? 84=some i∧i.zero=some (.agg #[Tx [], .int .u8 0, .bool false, .slice none 0 0, .bool false, .slice none 0 0])∧i.size=6∧i.bytes=88:=info_parts qK
 exact ⟨i,_,h1,h2,h3,rfl⟩⟩
instance:fw Tryz.prog 95 6 true:=⟨⟨_,Tryz.underlying95,rfl⟩,by kernel_rfl⟩
instance:ay Tryz.prog 95 0 0 1 false:=⟨⟨_,_,Tryz.underlying95,rfl,rfl,by kernel_rfl,by decide,_,Tryz.underlying9,rfl⟩⟩
instance:ay Tryz.prog 95 1 1 1 false:=⟨⟨_,_,Tryz.underlying95,rfl,rfl,by kernel_rfl,by decide,_,Tryz.underlying5,rfl⟩⟩
instance:ay Tryz.prog 95 2 2 4 true:=⟨⟨_,_,Tryz.underlying95,rfl,rfl,by kernel_rfl,by decide,_,Tryz.underlying40,rfl⟩⟩
theorem jA:eH Tryz.prog 95 bt ([],0,((false,[]),(false,[]))):=⟨by
 obtain ⟨i,h1,h2,h3,h4⟩:∃ i,Tryz.prog.info? 95=some i∧i.zero=some (.agg #[Tx [], .int .u8 0, .bool false, .slice none 0 0, .bool false, .slice none 0 0])∧i.size=6∧i.bytes=88:=info_parts qK
 refine ⟨_,i,_,Tryz.underlying95,(fun f hf=> ?_),h1,h2,fun w S=> ?_⟩
 ·simp only [List.mem_cons,List.not_mem_nil,or_false] at hf
  rcases hf with rfl|rfl|rfl<;>exact Option.isSome_iff_exists.1 qK
 ·exact ⟨[Tx []],[.int .u8 0, .bool false, .slice none 0 0, .bool false, .slice none 0 0],rfl,⟨_,rfl,bU []⟩,⟨[.int .u8 0],[.bool false, .slice none 0 0, .bool false, .slice none 0 0],rfl,rfl,⟨[.bool false, .slice none 0 0],[.bool false, .slice none 0 0],rfl,⟨[.bool false],[.slice none 0 0],rfl,rfl,⟨none,0,0,rfl,⟨⟨rfl,Nat.le_refl _,Nat.zero_le _,fun _=>rfl,fun h=>absurd h qO⟩,fun h=>absurd h qO⟩,fun _ h=>by cases h⟩⟩,⟨[.bool false],[.slice none 0 0],rfl,rfl,⟨none,0,0,rfl,⟨⟨rfl,Nat.le_refl _,Nat.zero_le _,fun _=>rfl,fun h=>absurd h qO⟩,fun h=>absurd h qO⟩,fun _ h=>by cases h⟩⟩⟩⟩⟩⟩
instance:fw Tryz.prog 41 1 false:=⟨⟨_,Tryz.underlying41,rfl⟩,by kernel_rfl⟩
instance:dt Tryz.prog 41 6:=⟨⟨_,Tryz.underlying41,by kernel_rfl⟩⟩
theorem j8:nY Tryz.prog 41 95 6:=⟨Tryz.underlying41,by
 obtain ⟨i,h1,h2,h3,h4⟩:∃ i,Tryz.prog.info? 95=some i∧i.zero=some (.agg #[Tx [], .int .u8 0, .bool false, .slice none 0 0, .bool false, .slice none 0 0])∧i.size=6∧i.bytes=88:=info_parts qK
 exact ⟨i,_,h1,h2,h3,rfl⟩⟩
theorem ju:io Tryz.prog 41 95 6 88:=⟨Tryz.underlying41,by decide,by
 obtain ⟨i,h1,h2,h3,h4⟩:∃ i,Tryz.prog.info? 95=some i∧i.zero=some (.agg #[Tx [], .int .u8 0, .bool false, .slice none 0 0, .bool false, .slice none 0 0])∧i.size=6∧i.bytes=88:=info_parts qK
 exact ⟨i,_,h1,h2,h3,h4,rfl⟩⟩
theorem uD:bu Tryz.prog 84 bt:=bu.strct Tryz.underlying84 (.cons (bu.str Tryz.underlying9 qK) rfl rfl (.cons (bu.int Tryz.underlying5 qK) rfl rfl (.one fH rfl))) qK
abbrev ft:=(List UInt8)×(List UInt8)×(aP)
abbrev aH:Rp ft:=Rp.str.pair (Rp.str.pair (Rp.frac))
instance:KC aH 6:=⟨rfl⟩
instance:bk aH 0 Rp.str (fun a=>a.1):=bk.fst
instance:aj aH 0 Rp.str (fun a b=>(b,a.2)):=aj.fst
instance {a:ft}:am (.ra aH a) 0 1 false (.is (Tx a.1)):=am.cell inferInstance ⟨rfl⟩ inferInstance
instance:bk aH 1 Rp.str (fun a=>a.2.1):=(bk.tail (n:=1) ⟨rfl⟩ bk.fst rfl)
instance:aj aH 1 Rp.str (fun a b=>(a.1,(b,a.2.2))):=(aj.tail (n:=1) ⟨rfl⟩ aj.fst rfl)
instance {a:ft}:am (.ra aH a) 1 1 false (.is (Tx a.2.1)):=am.cell inferInstance ⟨rfl⟩ inferInstance
instance:bk aH 2 Rp.frac (fun a=>a.2.2):=(bk.tail (n:=2) ⟨rfl⟩ (bk.tail (n:=1) ⟨rfl⟩ bk.self rfl) rfl)
instance:aj aH 2 Rp.frac (fun a b=>(a.1,(a.2.1,b))):=(aj.tail (n:=2) ⟨rfl⟩ (aj.tail (n:=1) ⟨rfl⟩ aj.self rfl) rfl)
instance {a:ft}:am (.ra aH a) 2 4 true (.ra Rp.frac a.2.2):=am.agg (g:=fun (a:ft)=>a.2.2) inferInstance ⟨rfl⟩
instance:fw Tryz.prog 119 6 true:=⟨⟨_,Tryz.underlying119,rfl⟩,by kernel_rfl⟩
instance:ay Tryz.prog 119 0 0 1 false:=⟨⟨_,_,Tryz.underlying119,rfl,rfl,by kernel_rfl,by decide,_,Tryz.underlying9,rfl⟩⟩
instance:ay Tryz.prog 119 1 1 1 false:=⟨⟨_,_,Tryz.underlying119,rfl,rfl,by kernel_rfl,by decide,_,Tryz.underlying9,rfl⟩⟩
instance:ay Tryz.prog 119 2 2 4 true:=⟨⟨_,_,Tryz.underlying119,rfl,rfl,by kernel_rfl,by decide,_,Tryz.underlying27,rfl⟩⟩
theorem l8:eH Tryz.prog 119 aH ([],[],((false,[]),(false,[]))):=⟨by
 obtain ⟨i,h1,h2,h3,h4⟩:∃ i,Tryz.prog.info? 119=some i∧i.zero=some (.agg #[Tx [],Tx [], .bool false, .slice none 0 0, .bool false, .slice none 0 0])∧i.size=6∧i.bytes=96:=info_parts qK
 refine ⟨_,i,_,Tryz.underlying119,(fun f hf=> ?_),h1,h2,fun w S=> ?_⟩
 ·simp only [List.mem_cons,List.not_mem_nil,or_false] at hf
  rcases hf with rfl|rfl|rfl<;>exact Option.isSome_iff_exists.1 qK
 ·exact ⟨[Tx []],[Tx [], .bool false, .slice none 0 0, .bool false, .slice none 0 0],rfl,⟨_,rfl,bU []⟩,⟨[Tx []],[.bool false, .slice none 0 0, .bool false, .slice none 0 0],rfl,⟨_,rfl,bU []⟩,⟨[.bool false, .slice none 0 0],[.bool false, .slice none 0 0],rfl,⟨[.bool false],[.slice none 0 0],rfl,rfl,⟨none,0,0,rfl,⟨⟨rfl,Nat.le_refl _,Nat.zero_le _,fun _=>rfl,fun h=>absurd h qO⟩,fun h=>absurd h qO⟩,fun _ h=>by cases h⟩⟩,⟨[.bool false],[.slice none 0 0],rfl,rfl,⟨none,0,0,rfl,⟨⟨rfl,Nat.le_refl _,Nat.zero_le _,fun _=>rfl,fun h=>absurd h qO⟩,fun h=>absurd h qO⟩,fun _ h=>by cases h⟩⟩⟩⟩⟩⟩
instance:fw Tryz.prog 59 1 false:=⟨⟨_,Tryz.underlying59,rfl⟩,by kernel_rfl⟩
instance:dt Tryz.prog 59 6:=⟨⟨_,Tryz.underlying59,by kernel_rfl⟩⟩
theorem ui:nY Tryz.prog 59 119 6:=⟨Tryz.underlying59,by
 obtain ⟨i,h1,h2,h3,h4⟩:∃ i,Tryz.prog.info? 119=some i∧i.zero=some (.agg #[Tx [],Tx [], .bool false, .slice none 0 0, .bool false, .slice none 0 0])∧i.size=6∧i.bytes=96:=info_parts qK
 exact ⟨i,_,h1,h2,h3,rfl⟩⟩
instance:fw Tryz.prog 171 6 true:=⟨⟨_,Tryz.underlying171,rfl⟩,by kernel_rfl⟩
instance:ay Tryz.prog 171 0 0 1 false:=⟨⟨_,_,Tryz.underlying171,rfl,rfl,by kernel_rfl,by decide,_,Tryz.underlying9,rfl⟩⟩
instance:ay Tryz.prog 171 1 1 1 false:=⟨⟨_,_,Tryz.underlying171,rfl,rfl,by kernel_rfl,by decide,_,Tryz.underlying9,rfl⟩⟩
instance:ay Tryz.prog 171 2 2 4 true:=⟨⟨_,_,Tryz.underlying171,rfl,rfl,by kernel_rfl,by decide,_,Tryz.underlying40,rfl⟩⟩
theorem fe:eH Tryz.prog 171 aH ([],[],((false,[]),(false,[]))):=⟨by
 obtain ⟨i,h1,h2,h3,h4⟩:∃ i,Tryz.prog.info? 171=some i∧i.zero=some (.agg #[Tx [],Tx [], .bool false, .slice none 0 0, .bool false, .slice none 0 0])∧i.size=6∧i.bytes=96:=info_parts qK
 refine ⟨_,i,_,Tryz.underlying171,(fun f hf=> ?_),h1,h2,fun w S=> ?_⟩
 ·simp only [List.mem_cons,List.not_mem_nil,or_false] at hf
  rcases hf with rfl|rfl|rfl<;>exact Option.isSome_iff_exists.1 qK
 ·exact ⟨[Tx []],[Tx [], .bool false, .slice none 0 0, .bool false, .slice none 0 0],rfl,⟨_,rfl,bU []⟩,⟨[Tx []],[.bool false, .slice none 0 0, .bool false, .slice none 0 0],rfl,⟨_,rfl,bU []⟩,⟨[.bool false, .slice none 0 0],[.bool false, .slice none 0 0],rfl,⟨[.bool false],[.slice none 0 0],rfl,rfl,⟨none,0,0,rfl,⟨⟨rfl,Nat.le_refl _,Nat.zero_le _,fun _=>rfl,fun h=>absurd h qO⟩,fun h=>absurd h qO⟩,fun _ h=>by cases h⟩⟩,⟨[.bool false],[.slice none 0 0],rfl,rfl,⟨none,0,0,rfl,⟨⟨rfl,Nat.le_refl _,Nat.zero_le _,fun _=>rfl,fun h=>absurd h qO⟩,fun h=>absurd h qO⟩,fun _ h=>by cases h⟩⟩⟩⟩⟩⟩
instance:fw Tryz.prog 97 1 false:=⟨⟨_,Tryz.underlying97,rfl⟩,by kernel_rfl⟩
instance:dt Tryz.prog 97 6:=⟨⟨_,Tryz.underlying97,by kernel_rfl⟩⟩
theorem gZ:nY Tryz.prog 97 171 6:=⟨Tryz.underlying97,by
 obtain ⟨i,h1,h2,h3,h4⟩:∃ i,Tryz.prog.info? 171=some i∧i.zero=some (.agg #[Tx [],Tx [], .bool false, .slice none 0 0, .bool false, .slice none 0 0])∧i.size=6∧i.bytes=96:=info_parts qK
 exact ⟨i,_,h1,h2,h3,rfl⟩⟩
theorem j3:io Tryz.prog 97 171 6 96:=⟨Tryz.underlying97,by decide,by
 obtain ⟨i,h1,h2,h3,h4⟩:∃ i,Tryz.prog.info? 171=some i∧i.zero=some (.agg #[Tx [],Tx [], .bool false, .slice none 0 0, .bool false, .slice none 0 0])∧i.size=6∧i.bytes=96:=info_parts qK
 exact ⟨i,_,h1,h2,h3,h4,rfl⟩⟩
theorem xq:bu Tryz.prog 119 aH:=bu.strct Tryz.underlying119 (.cons (bu.str Tryz.underlying9 qK) rfl rfl (.cons (bu.str Tryz.underlying9 qK) rfl rfl (.one fH rfl))) qK
abbrev fg:=(List UInt8)×(List UInt8)×(aP)
abbrev aG:Rp fg:=Rp.str.pair (Rp.str.pair (Rp.frac))
instance:KC aG 6:=⟨rfl⟩
instance:bk aG 0 Rp.str (fun a=>a.1):=bk.fst
instance:aj aG 0 Rp.str (fun a b=>(b,a.2)):=aj.fst
instance {a:fg}:am (.ra aG a) 0 1 false (.is (Tx a.1)):=am.cell inferInstance ⟨rfl⟩ inferInstance
instance:bk aG 1 Rp.str (fun a=>a.2.1):=(bk.tail (n:=1) ⟨rfl⟩ bk.fst rfl)
instance:aj aG 1 Rp.str (fun a b=>(a.1,(b,a.2.2))):=(aj.tail (n:=1) ⟨rfl⟩ aj.fst rfl)
instance {a:fg}:am (.ra aG a) 1 1 false (.is (Tx a.2.1)):=am.cell inferInstance ⟨rfl⟩ inferInstance
instance:bk aG 2 Rp.frac (fun a=>a.2.2):=(bk.tail (n:=2) ⟨rfl⟩ (bk.tail (n:=1) ⟨rfl⟩ bk.self rfl) rfl)
instance:aj aG 2 Rp.frac (fun a b=>(a.1,(a.2.1,b))):=(aj.tail (n:=2) ⟨rfl⟩ (aj.tail (n:=1) ⟨rfl⟩ aj.self rfl) rfl)
instance {a:fg}:am (.ra aG a) 2 4 true (.ra Rp.frac a.2.2):=am.agg (g:=fun (a:fg)=>a.2.2) inferInstance ⟨rfl⟩
instance:fw Tryz.prog 121 6 true:=⟨⟨_,Tryz.underlying121,rfl⟩,by kernel_rfl⟩
instance:ay Tryz.prog 121 0 0 1 false:=⟨⟨_,_,Tryz.underlying121,rfl,rfl,by kernel_rfl,by decide,_,Tryz.underlying9,rfl⟩⟩
instance:ay Tryz.prog 121 1 1 1 false:=⟨⟨_,_,Tryz.underlying121,rfl,rfl,by kernel_rfl,by decide,_,Tryz.underlying9,rfl⟩⟩
instance:ay Tryz.prog 121 2 2 4 true:=⟨⟨_,_,Tryz.underlying121,rfl,rfl,by kernel_rfl,by decide,_,Tryz.underlying27,rfl⟩⟩
theorem mm:eH Tryz.prog 121 aG ([],[],((false,[]),(false,[]))):=⟨by
 obtain ⟨i,h1,h2,h3,h4⟩:∃ i,Tryz.prog.info? 121=some i∧i.zero=some (.agg #[Tx [],Tx [], .bool false, .slice none 0 0, .bool false, .slice none 0 0])∧i.size=6∧i.bytes=96:=info_parts qK
 refine ⟨_,i,_,Tryz.underlying121,(fun f hf=> ?_),h1,h2,fun w S=> ?_⟩
 ·simp only [List.mem_cons,List.not_mem_nil,or_false] at hf
  rcases hf with rfl|rfl|rfl<;>exact Option.isSome_iff_exists.1 qK
 ·exact ⟨[Tx []],[Tx [], .bool false, .slice none 0 0, .bool false, .slice none 0 0],rfl,⟨_,rfl,bU []⟩,⟨[Tx []],[.bool false, .slice none 0 0, .bool false, .slice none 0 0],rfl,⟨_,rfl,bU []⟩,⟨[.bool false, .slice none 0 0],[.bool false, .slice none 0 0],rfl,⟨[.bool false],[.slice none 0 0],rfl,rfl,⟨none,0,0,rfl,⟨⟨rfl,Nat.le_refl _,Nat.zero_le _,fun _=>rfl,fun h=>absurd h qO⟩,fun h=>absurd h qO⟩,fun _ h=>by cases h⟩⟩,⟨[.bool false],[.slice none 0 0],rfl,rfl,⟨none,0,0,rfl,⟨⟨rfl,Nat.le_refl _,Nat.zero_le _,fun _=>rfl,fun h=>absurd h qO⟩,fun h=>absurd h qO⟩,fun _ h=>by cases h⟩⟩⟩⟩⟩⟩
instance:fw Tryz.prog 60 1 false:=⟨⟨_,Tryz.underlying60,rfl⟩,by kernel_rfl⟩
instance:dt Tryz.prog 60 6:=⟨⟨_,Tryz.underlying60,by kernel_rfl⟩⟩
theorem r_:nY Tryz.prog 60 121 6:=⟨Tryz.underlying60,by
 obtain ⟨i,h1,h2,h3,h4⟩:∃ i,Tryz.prog.info? 121=some i∧i.zero=some (.agg #[Tx [],Tx [], .bool false, .slice none 0 0, .bool false, .slice none 0 0])∧i.size=6∧i.bytes=96:=info_parts qK
 exact ⟨i,_,h1,h2,h3,rfl⟩⟩
instance:fw Tryz.prog 173 6 true:=⟨⟨_,Tryz.underlying173,rfl⟩,by kernel_rfl⟩
instance:ay Tryz.prog 173 0 0 1 false:=⟨⟨_,_,Tryz.underlying173,rfl,rfl,by kernel_rfl,by decide,_,Tryz.underlying9,rfl⟩⟩
instance:ay Tryz.prog 173 1 1 1 false:=⟨⟨_,_,Tryz.underlying173,rfl,rfl,by kernel_rfl,by decide,_,Tryz.underlying9,rfl⟩⟩
instance:ay Tryz.prog 173 2 2 4 true:=⟨⟨_,_,Tryz.underlying173,rfl,rfl,by kernel_rfl,by decide,_,Tryz.underlying40,rfl⟩⟩
theorem fh:eH Tryz.prog 173 aG ([],[],((false,[]),(false,[]))):=⟨by
 obtain ⟨i,h1,h2,h3,h4⟩:∃ i,Tryz.prog.info? 173=some i∧i.zero=some (.agg #[Tx [],Tx [], .bool false, .slice none 0 0, .bool false, .slice none 0 0])∧i.size=6∧i.bytes=96:=info_parts qK
 refine ⟨_,i,_,Tryz.underlying173,(fun f hf=> ?_),h1,h2,fun w S=> ?_⟩
 ·simp only [List.mem_cons,List.not_mem_nil,or_false] at hf
  rcases hf with rfl|rfl|rfl<;>exact Option.isSome_iff_exists.1 qK
 ·exact ⟨[Tx []],[Tx [], .bool false, .slice none 0 0, .bool false, .slice none 0 0],rfl,⟨_,rfl,bU []⟩,⟨[Tx []],[.bool false, .slice none 0 0, .bool false, .slice none 0 0],rfl,⟨_,rfl,bU []⟩,⟨[.bool false, .slice none 0 0],[.bool false, .slice none 0 0],rfl,⟨[.bool false],[.slice none 0 0],rfl,rfl,⟨none,0,0,rfl,⟨⟨rfl,Nat.le_refl _,Nat.zero_le _,fun _=>rfl,fun h=>absurd h qO⟩,fun h=>absurd h qO⟩,fun _ h=>by cases h⟩⟩,⟨[.bool false],[.slice none 0 0],rfl,rfl,⟨none,0,0,rfl,⟨⟨rfl,Nat.le_refl _,Nat.zero_le _,fun _=>rfl,fun h=>absurd h qO⟩,fun h=>absurd h qO⟩,fun _ h=>by cases h⟩⟩⟩⟩⟩⟩
instance:fw Tryz.prog 98 1 false:=⟨⟨_,Tryz.underlying98,rfl⟩,by kernel_rfl⟩
instance:dt Tryz.prog 98 6:=⟨⟨_,Tryz.underlying98,by kernel_rfl⟩⟩
theorem gW:nY Tryz.prog 98 173 6:=⟨Tryz.underlying98,by
 obtain ⟨i,h1,h2,h3,h4⟩:∃ i,Tryz.prog.info? 173=some i∧i.zero=some (.agg #[Tx [],Tx [], .bool false, .slice none 0 0, .bool false, .slice none 0 0])∧i.size=6∧i.bytes=96:=info_parts qK
 exact ⟨i,_,h1,h2,h3,rfl⟩⟩
theorem jZ:io Tryz.prog 98 173 6 96:=⟨Tryz.underlying98,by decide,by
 obtain ⟨i,h1,h2,h3,h4⟩:∃ i,Tryz.prog.info? 173=some i∧i.zero=some (.agg #[Tx [],Tx [], .bool false, .slice none 0 0, .bool false, .slice none 0 0])∧i.size=6∧i.bytes=96:=info_parts qK
 exact ⟨i,_,h1,h2,h3,h4,rfl⟩⟩
theorem yd:bu Tryz.prog 121 aG:=bu.strct Tryz.underlying121 (.cons (bu.str Tryz.underlying9 qK) rfl rfl (.cons (bu.str Tryz.underlying9 qK) rfl rfl (.one fH rfl))) qK
abbrev eo:=(Bool)×(List UInt8)×(Int)×(List UInt8)×(List UInt8)×(List UInt8)×(aP)
abbrev ak:Rp eo:=Rp.bool.pair (Rp.str.pair (((Rp.int .u8).pair (Rp.str.pair (Rp.str.pair (Rp.str.pair (Rp.frac)))))))
instance:KC ak 10:=⟨rfl⟩
instance:bk ak 0 Rp.bool (fun a=>a.1):=bk.fst
instance:aj ak 0 Rp.bool (fun a b=>(b,a.2)):=aj.fst
instance {a:eo}:am (.ra ak a) 0 1 false (.is (.bool a.1)):=am.cell inferInstance ⟨rfl⟩ inferInstance
instance:bk ak 1 Rp.str (fun a=>a.2.1):=(bk.tail (n:=1) ⟨rfl⟩ bk.fst rfl)
instance:aj ak 1 Rp.str (fun a b=>(a.1,(b,a.2.2))):=(aj.tail (n:=1) ⟨rfl⟩ aj.fst rfl)
instance {a:eo}:am (.ra ak a) 1 1 false (.is (Tx a.2.1)):=am.cell inferInstance ⟨rfl⟩ inferInstance
instance:bk ak 2 (Rp.int .u8) (fun a=>a.2.2.1):=(bk.tail (n:=2) ⟨rfl⟩ (bk.tail (n:=1) ⟨rfl⟩ bk.fst rfl) rfl)
instance:aj ak 2 (Rp.int .u8) (fun a b=>(a.1,(a.2.1,(b,a.2.2.2)))):=(aj.tail (n:=2) ⟨rfl⟩ (aj.tail (n:=1) ⟨rfl⟩ aj.fst rfl) rfl)
instance {a:eo}:am (.ra ak a) 2 1 false (.is (.int .u8 a.2.2.1)):=am.cell inferInstance ⟨rfl⟩ inferInstance
instance:bk ak 3 Rp.str (fun a=>a.2.2.2.1):=(bk.tail (n:=3) ⟨rfl⟩ (bk.tail (n:=2) ⟨rfl⟩ (bk.tail (n:=1) ⟨rfl⟩ bk.fst rfl) rfl) rfl)
instance:aj ak 3 Rp.str (fun a b=>(a.1,(a.2.1,(a.2.2.1,(b,a.2.2.2.2))))):=(aj.tail (n:=3) ⟨rfl⟩ (aj.tail (n:=2) ⟨rfl⟩ (aj.tail (n:=1) ⟨rfl⟩ aj.fst rfl) rfl) rfl)
instance {a:eo}:am (.ra ak a) 3 1 false (.is (Tx a.2.2.2.1)):=am.cell inferInstance ⟨rfl⟩ inferInstance
instance:bk ak 4 Rp.str (fun a=>a.2.2.2.2.1):=(bk.tail (n:=4) ⟨rfl⟩ (bk.tail (n:=3) ⟨rfl⟩ (bk.tail (n:=2) ⟨rfl⟩ (bk.tail (n:=1) ⟨rfl⟩ bk.fst rfl) rfl) rfl) rfl)
instance:aj ak 4 Rp.str (fun a b=>(a.1,(a.2.1,(a.2.2.1,(a.2.2.2.1,(b,a.2.2.2.2.2)))))):=(aj.tail (n:=4) ⟨rfl⟩ (aj.tail (n:=3) ⟨rfl⟩ (aj.tail (n:=2) ⟨rfl⟩ (aj.tail (n:=1) ⟨rfl⟩ aj.fst rfl) rfl) rfl) rfl)
instance {a:eo}:am (.ra ak a) 4 1 false (.is (Tx a.2.2.2.2.1)):=am.cell inferInstance ⟨rfl⟩ inferInstance
instance:bk ak 5 Rp.str (fun a=>a.2.2.2.2.2.1):=(bk.tail (n:=5) ⟨rfl⟩ (bk.tail (n:=4) ⟨rfl⟩ (bk.tail (n:=3) ⟨rfl⟩ (bk.tail (n:=2) ⟨rfl⟩ (bk.tail (n:=1) ⟨rfl⟩ bk.fst rfl) rfl) rfl) rfl) rfl)
instance:aj ak 5 Rp.str (fun a b=>(a.1,(a.2.1,(a.2.2.1,(a.2.2.2.1,(a.2.2.2.2.1,(b,a.2.2.2.2.2.2))))))):=(aj.tail (n:=5) ⟨rfl⟩ (aj.tail (n:=4) ⟨rfl⟩ (aj.tail (n:=3) ⟨rfl⟩ (aj.tail (n:=2) ⟨rfl⟩ (aj.tail (n:=1) ⟨rfl⟩ aj.fst rfl) rfl) rfl) rfl) rfl)
instance {a:eo}:am (.ra ak a) 5 1 false (.is (Tx a.2.2.2.2.2.1)):=am.cell inferInstance ⟨rfl⟩ inferInstance
instance:bk ak 6 Rp.frac (fun a=>a.2.2.2.2.2.2):=(bk.tail (n:=6) ⟨rfl⟩ (bk.tail (n:=5) ⟨rfl⟩ (bk.tail (n:=4) ⟨rfl⟩ (bk.tail (n:=3) ⟨rfl⟩ (bk.tail (n:=2) ⟨rfl⟩ (bk.tail (n:=1) ⟨rfl⟩ bk.self rfl) rfl) rfl) rfl) rfl) rfl)
instance:aj ak 6 Rp.frac (fun a b=>(a.1,(a.2.1,(a.2.2.1,(a.2.2.2.1,(a.2.2.2.2.1,(a.2.2.2.2.2.1,b))))))):=(aj.tail (n:=6) ⟨rfl⟩ (aj.tail (n:=5) ⟨rfl⟩ (aj.tail (n:=4) ⟨rfl⟩ (aj.tail (n:=3) ⟨rfl⟩ (aj.tail (n:=2) ⟨rfl⟩ (aj.tail (n:=1) ⟨rfl⟩ aj.self rfl) rfl) rfl) rfl) rfl) rfl)
instance {a:eo}:am (.ra ak a) 6 4 true (.ra Rp.frac a.2.2.2.2.2.2):=am.agg (g:=fun (a:eo)=>a.2.2.2.2.2.2) inferInstance ⟨rfl⟩
instance:fw Tryz.prog 123 10 true:=⟨⟨_,Tryz.underlying123,rfl⟩,by kernel_rfl⟩
instance:ay Tryz.prog 123 0 0 1 false:=⟨⟨_,_,Tryz.underlying123,rfl,rfl,by kernel_rfl,by decide,_,Tryz.underlying4,rfl⟩⟩
instance:ay Tryz.prog 123 1 1 1 false:=⟨⟨_,_,Tryz.underlying123,rfl,rfl,by kernel_rfl,by decide,_,Tryz.underlying9,rfl⟩⟩
instance:ay Tryz.prog 123 2 2 1 false:=⟨⟨_,_,Tryz.underlying123,rfl,rfl,by kernel_rfl,by decide,_,Tryz.underlying5,rfl⟩⟩
instance:ay Tryz.prog 123 3 3 1 false:=⟨⟨_,_,Tryz.underlying123,rfl,rfl,by kernel_rfl,by decide,_,Tryz.underlying9,rfl⟩⟩
instance:ay Tryz.prog 123 4 4 1 false:=⟨⟨_,_,Tryz.underlying123,rfl,rfl,by kernel_rfl,by decide,_,Tryz.underlying9,rfl⟩⟩
instance:ay Tryz.prog 123 5 5 1 false:=⟨⟨_,_,Tryz.underlying123,rfl,rfl,by kernel_rfl,by decide,_,Tryz.underlying9,rfl⟩⟩
instance:ay Tryz.prog 123 6 6 4 true:=⟨⟨_,_,Tryz.underlying123,rfl,rfl,by kernel_rfl,by decide,_,Tryz.underlying27,rfl⟩⟩
theorem mn:eH Tryz.prog 123 ak (false,[],0,[],[],[],((false,[]),(false,[]))):=⟨by
 obtain ⟨i,h1,h2,h3,h4⟩:∃ i,Tryz.prog.info? 123=some i∧i.zero=some (.agg #[.bool false,Tx [], .int .u8 0,Tx [],Tx [],Tx [], .bool false, .slice none 0 0, .bool false, .slice none 0 0])∧i.size=10∧i.bytes=144:=info_parts qK
 refine ⟨_,i,_,Tryz.underlying123,(fun f hf=> ?_),h1,h2,fun w S=> ?_⟩
 ·simp only [List.mem_cons,List.not_mem_nil,or_false] at hf
  rcases hf with rfl|rfl|rfl|rfl|rfl|rfl|rfl<;>exact Option.isSome_iff_exists.1 qK
 ·exact ⟨[.bool false],[Tx [], .int .u8 0,Tx [],Tx [],Tx [], .bool false, .slice none 0 0, .bool false, .slice none 0 0],rfl,rfl,⟨[Tx []],[.int .u8 0,Tx [],Tx [],Tx [], .bool false, .slice none 0 0, .bool false, .slice none 0 0],rfl,⟨_,rfl,bU []⟩,⟨[.int .u8 0],[Tx [],Tx [],Tx [], .bool false, .slice none 0 0, .bool false, .slice none 0 0],rfl,rfl,⟨[Tx []],[Tx [],Tx [], .bool false, .slice none 0 0, .bool false, .slice none 0 0],rfl,⟨_,rfl,bU []⟩,⟨[Tx []],[Tx [], .bool false, .slice none 0 0, .bool false, .slice none 0 0],rfl,⟨_,rfl,bU []⟩,⟨[Tx []],[.bool false, .slice none 0 0, .bool false, .slice none 0 0],rfl,⟨_,rfl,bU []⟩,⟨[.bool false, .slice none 0 0],[.bool false, .slice none 0 0],rfl,⟨[.bool false],[.slice none 0 0],rfl,rfl,⟨none,0,0,rfl,⟨⟨rfl,Nat.le_refl _,Nat.zero_le _,fun _=>rfl,fun h=>absurd h qO⟩,fun h=>absurd h qO⟩,fun _ h=>by cases h⟩⟩,⟨[.bool false],[.slice none 0 0],rfl,rfl,⟨none,0,0,rfl,⟨⟨rfl,Nat.le_refl _,Nat.zero_le _,fun _=>rfl,fun h=>absurd h qO⟩,fun h=>absurd h qO⟩,fun _ h=>by cases h⟩⟩⟩⟩⟩⟩⟩⟩⟩⟩
instance:fw Tryz.prog 61 1 false:=⟨⟨_,Tryz.underlying61,rfl⟩,by kernel_rfl⟩
instance:dt Tryz.prog 61 10:=⟨⟨_,Tryz.underlying61,by kernel_rfl⟩⟩
theorem sI:nY Tryz.prog 61 123 10:=⟨Tryz.underlying61,by
 obtain ⟨i,h1,h2,h3,h4⟩:∃ i,Tryz.prog.info? 123=some i∧i.zero=some (.agg #[.bool false,Tx [], .int .u8 0,Tx [],Tx [],Tx [], .bool false, .slice none 0 0, .bool false, .slice none 0 0])∧i.size=10∧i.bytes=144:=info_parts qK
 exact ⟨i,_,h1,h2,h3,rfl⟩⟩
theorem mr:io Tryz.prog 61 123 10 144:=⟨Tryz.underlying61,by decide,by
 obtain ⟨i,h1,h2,h3,h4⟩:∃ i,Tryz.prog.info? 123=some i∧i.zero=some (.agg #[.bool false,Tx [], .int .u8 0,Tx [],Tx [],Tx [], .bool false, .slice none 0 0, .bool false, .slice none 0 0])∧i.size=10∧i.bytes=144:=info_parts qK
 exact ⟨i,_,h1,h2,h3,h4,rfl⟩⟩
instance:fw Tryz.prog 175 10 true:=⟨⟨_,Tryz.underlying175,rfl⟩,by kernel_rfl⟩
instance:ay Tryz.prog 175 0 0 1 false:=⟨⟨_,_,Tryz.underlying175,rfl,rfl,by kernel_rfl,by decide,_,Tryz.underlying4,rfl⟩⟩
instance:ay Tryz.prog 175 1 1 1 false:=⟨⟨_,_,Tryz.underlying175,rfl,rfl,by kernel_rfl,by decide,_,Tryz.underlying9,rfl⟩⟩
instance:ay Tryz.prog 175 2 2 1 false:=⟨⟨_,_,Tryz.underlying175,rfl,rfl,by kernel_rfl,by decide,_,Tryz.underlying5,rfl⟩⟩
instance:ay Tryz.prog 175 3 3 1 false:=⟨⟨_,_,Tryz.underlying175,rfl,rfl,by kernel_rfl,by decide,_,Tryz.underlying9,rfl⟩⟩
instance:ay Tryz.prog 175 4 4 1 false:=⟨⟨_,_,Tryz.underlying175,rfl,rfl,by kernel_rfl,by decide,_,Tryz.underlying9,rfl⟩⟩
instance:ay Tryz.prog 175 5 5 1 false:=⟨⟨_,_,Tryz.underlying175,rfl,rfl,by kernel_rfl,by decide,_,Tryz.underlying9,rfl⟩⟩
instance:ay Tryz.prog 175 6 6 4 true:=⟨⟨_,_,Tryz.underlying175,rfl,rfl,by kernel_rfl,by decide,_,Tryz.underlying40,rfl⟩⟩
theorem fd:eH Tryz.prog 175 ak (false,[],0,[],[],[],((false,[]),(false,[]))):=⟨by
 obtain ⟨i,h1,h2,h3,h4⟩:∃ i,Tryz.prog.info? 175=some i∧i.zero=some (.agg #[.bool false,Tx [], .int .u8 0,Tx [],Tx [],Tx [], .bool false, .slice none 0 0, .bool false, .slice none 0 0])∧i.size=10∧i.bytes=144:=info_parts qK
 refine ⟨_,i,_,Tryz.underlying175,(fun f hf=> ?_),h1,h2,fun w S=> ?_⟩
 ·simp only [List.mem_cons,List.not_mem_nil,or_false] at hf
  rcases hf with rfl|rfl|rfl|rfl|rfl|rfl|rfl<;>exact Option.isSome_iff_exists.1 qK
 ·exact ⟨[.bool false],[Tx [], .int .u8 0,Tx [],Tx [],Tx [], .bool false, .slice none 0 0, .bool false, .slice none 0 0],rfl,rfl,⟨[Tx []],[.int .u8 0,Tx [],Tx [],Tx [], .bool false, .slice none 0 0, .bool false, .slice none 0 0],rfl,⟨_,rfl,bU []⟩,⟨[.int .u8 0],[Tx [],Tx [],Tx [], .bool false, .slice none 0 0, .bool false, .slice none 0 0],rfl,rfl,⟨[Tx []],[Tx [],Tx [], .bool false, .slice none 0 0, .bool false, .slice none 0 0],rfl,⟨_,rfl,bU []⟩,⟨[Tx []],[Tx [], .bool false, .slice none 0 0, .bool false, .slice none 0 0],rfl,⟨_,rfl,bU []⟩,⟨[Tx []],[.bool false, .slice none 0 0, .bool false, .slice none 0 0],rfl,⟨_,rfl,bU []⟩,⟨[.bool false, .slice none 0 0],[.bool false, .slice none 0 0],rfl,⟨[.bool false],[.slice none 0 0],rfl,rfl,⟨none,0,0,rfl,⟨⟨rfl,Nat.le_refl _,Nat.zero_le _,fun _=>rfl,fun h=>absurd h qO⟩,fun h=>absurd h qO⟩,fun _ h=>by cases h⟩⟩,⟨[.bool false],[.slice none 0 0],rfl,rfl,⟨none,0,0,rfl,⟨⟨rfl,Nat.le_refl _,Nat.zero_le _,fun _=>rfl,fun h=>absurd h qO⟩,fun h=>absurd h qO⟩,fun _ h=>by cases h⟩⟩⟩⟩⟩⟩⟩⟩⟩⟩
instance:fw Tryz.prog 99 1 false:=⟨⟨_,Tryz.underlying99,rfl⟩,by kernel_rfl⟩
instance:dt Tryz.prog 99 10:=⟨⟨_,Tryz.underlying99,by kernel_rfl⟩⟩
theorem g9:nY Tryz.prog 99 175 10:=⟨Tryz.underlying99,by
 obtain ⟨i,h1,h2,h3,h4⟩:∃ i,Tryz.prog.info? 175=some i∧i.zero=some (.agg #[.bool false,Tx [], .int .u8 0,Tx [],Tx [],Tx [], .bool false, .slice none 0 0, .bool false, .slice none 0 0])∧i.size=10∧i.bytes=144:=info_parts qK
 exact ⟨i,_,h1,h2,h3,rfl⟩⟩
theorem j2:io Tryz.prog 99 175 10 144:=⟨Tryz.underlying99,by decide,by
 obtain ⟨i,h1,h2,h3,h4⟩:∃ i,Tryz.prog.info? 175=some i∧i.zero=some (.agg #[.bool false,Tx [], .int .u8 0,Tx [],Tx [],Tx [], .bool false, .slice none 0 0, .bool false, .slice none 0 0])∧i.size=10∧i.bytes=144:=info_parts qK
 exact ⟨i,_,h1,h2,h3,h4,rfl⟩⟩
theorem yy:bu Tryz.prog 123 ak:=bu.strct Tryz.underlying123 (.cons (bu.bool Tryz.underlying4 qK) rfl rfl (.cons (bu.str Tryz.underlying9 qK) rfl rfl (.cons (bu.int Tryz.underlying5 qK) rfl rfl (.cons (bu.str Tryz.underlying9 qK) rfl rfl (.cons (bu.str Tryz.underlying9 qK) rfl rfl (.cons (bu.str Tryz.underlying9 qK) rfl rfl (.one fH rfl))))))) qK
abbrev dI:=(List UInt8)×(aP)×(aP)
abbrev bp:Rp dI:=Rp.str.pair (Rp.frac.pair (Rp.frac))
instance:KC bp 9:=⟨rfl⟩
instance:bk bp 0 Rp.str (fun a=>a.1):=bk.fst
instance:aj bp 0 Rp.str (fun a b=>(b,a.2)):=aj.fst
instance {a:dI}:am (.ra bp a) 0 1 false (.is (Tx a.1)):=am.cell inferInstance ⟨rfl⟩ inferInstance
instance:bk bp 1 Rp.frac (fun a=>a.2.1):=(bk.tail (n:=1) ⟨rfl⟩ bk.fst rfl)
instance:aj bp 1 Rp.frac (fun a b=>(a.1,(b,a.2.2))):=(aj.tail (n:=1) ⟨rfl⟩ aj.fst rfl)
instance {a:dI}:am (.ra bp a) 1 4 true (.ra Rp.frac a.2.1):=am.agg (g:=fun (a:dI)=>a.2.1) inferInstance ⟨rfl⟩
instance:bk bp 5 Rp.frac (fun a=>a.2.2):=(bk.tail (n:=5) ⟨rfl⟩ (bk.tail (n:=4) ⟨rfl⟩ bk.self rfl) rfl)
instance:aj bp 5 Rp.frac (fun a b=>(a.1,(a.2.1,b))):=(aj.tail (n:=5) ⟨rfl⟩ (aj.tail (n:=4) ⟨rfl⟩ aj.self rfl) rfl)
instance {a:dI}:am (.ra bp a) 5 4 true (.ra Rp.frac a.2.2):=am.agg (g:=fun (a:dI)=>a.2.2) inferInstance ⟨rfl⟩
instance:fw Tryz.prog 125 9 true:=⟨⟨_,Tryz.underlying125,rfl⟩,by kernel_rfl⟩
instance:ay Tryz.prog 125 0 0 1 false:=⟨⟨_,_,Tryz.underlying125,rfl,rfl,by kernel_rfl,by decide,_,Tryz.underlying9,rfl⟩⟩
instance:ay Tryz.prog 125 1 1 4 true:=⟨⟨_,_,Tryz.underlying125,rfl,rfl,by kernel_rfl,by decide,_,Tryz.underlying27,rfl⟩⟩
instance:ay Tryz.prog 125 2 5 4 true:=⟨⟨_,_,Tryz.underlying125,rfl,rfl,by kernel_rfl,by decide,_,Tryz.underlying27,rfl⟩⟩
theorem lm:eH Tryz.prog 125 bp ([],((false,[]),(false,[])),((false,[]),(false,[]))):=⟨by
 obtain ⟨i,h1,h2,h3,h4⟩:∃ i,Tryz.prog.info? 125=some i∧i.zero=some (.agg #[Tx [], .bool false, .slice none 0 0, .bool false, .slice none 0 0, .bool false, .slice none 0 0, .bool false, .slice none 0 0])∧i.size=9∧i.bytes=144:=info_parts qK
 refine ⟨_,i,_,Tryz.underlying125,(fun f hf=> ?_),h1,h2,fun w S=> ?_⟩
 ·simp only [List.mem_cons,List.not_mem_nil,or_false] at hf
  rcases hf with rfl|rfl|rfl<;>exact Option.isSome_iff_exists.1 qK
 ·exact ⟨[Tx []],[.bool false, .slice none 0 0, .bool false, .slice none 0 0, .bool false, .slice none 0 0, .bool false, .slice none 0 0],rfl,⟨_,rfl,bU []⟩,⟨[.bool false, .slice none 0 0, .bool false, .slice none 0 0],[.bool false, .slice none 0 0, .bool false, .slice none 0 0],rfl,⟨[.bool false, .slice none 0 0],[.bool false, .slice none 0 0],rfl,⟨[.bool false],[.slice none 0 0],rfl,rfl,⟨none,0,0,rfl,⟨⟨rfl,Nat.le_refl _,Nat.zero_le _,fun _=>rfl,fun h=>absurd h qO⟩,fun h=>absurd h qO⟩,fun _ h=>by cases h⟩⟩,⟨[.bool false],[.slice none 0 0],rfl,rfl,⟨none,0,0,rfl,⟨⟨rfl,Nat.le_refl _,Nat.zero_le _,fun _=>rfl,fun h=>absurd h qO⟩,fun h=>absurd h qO⟩,fun _ h=>by cases h⟩⟩⟩,⟨[.bool false, .slice none 0 0],[.bool false, .slice none 0 0],rfl,⟨[.bool false],[.slice none 0 0],rfl,rfl,⟨none,0,0,rfl,⟨⟨rfl,Nat.le_refl _,Nat.zero_le _,fun _=>rfl,fun h=>absurd h qO⟩,fun h=>absurd h qO⟩,fun _ h=>by cases h⟩⟩,⟨[.bool false],[.slice none 0 0],rfl,rfl,⟨none,0,0,rfl,⟨⟨rfl,Nat.le_refl _,Nat.zero_le _,fun _=>rfl,fun h=>absurd h qO⟩,fun h=>absurd h qO⟩,fun _ h=>by cases h⟩⟩⟩⟩⟩⟩
instance:fw Tryz.prog 62 1 false:=⟨⟨_,Tryz.underlying62,rfl⟩,by kernel_rfl⟩
instance:dt Tryz.prog 62 9:=⟨⟨_,Tryz.underlying62,by kernel_rfl⟩⟩
theorem rm:nY Tryz.prog 62 125 9:=⟨Tryz.underlying62,by
 obtain ⟨i,h1,h2,h3,h4⟩:∃ i,Tryz.prog.info? 125=some i∧i.zero=some (.agg #[Tx [], .bool false, .slice none 0 0, .bool false, .slice none 0 0, .bool false, .slice none 0 0, .bool false, .slice none 0 0])∧i.size=9∧i.bytes=144:=info_parts qK
 exact ⟨i,_,h1,h2,h3,rfl⟩⟩
instance:fw Tryz.prog 177 9 true:=⟨⟨_,Tryz.underlying177,rfl⟩,by kernel_rfl⟩
instance:ay Tryz.prog 177 0 0 1 false:=⟨⟨_,_,Tryz.underlying177,rfl,rfl,by kernel_rfl,by decide,_,Tryz.underlying9,rfl⟩⟩
instance:ay Tryz.prog 177 1 1 4 true:=⟨⟨_,_,Tryz.underlying177,rfl,rfl,by kernel_rfl,by decide,_,Tryz.underlying40,rfl⟩⟩
instance:ay Tryz.prog 177 2 5 4 true:=⟨⟨_,_,Tryz.underlying177,rfl,rfl,by kernel_rfl,by decide,_,Tryz.underlying40,rfl⟩⟩
theorem gi:eH Tryz.prog 177 bp ([],((false,[]),(false,[])),((false,[]),(false,[]))):=⟨by
 obtain ⟨i,h1,h2,h3,h4⟩:∃ i,Tryz.prog.info? 177=some i∧i.zero=some (.agg #[Tx [], .bool false, .slice none 0 0, .bool false, .slice none 0 0, .bool false, .slice none 0 0, .bool false, .slice none 0 0])∧i.size=9∧i.bytes=144:=info_parts qK
 refine ⟨_,i,_,Tryz.underlying177,(fun f hf=> ?_),h1,h2,fun w S=> ?_⟩
 ·simp only [List.mem_cons,List.not_mem_nil,or_false] at hf
  rcases hf with rfl|rfl|rfl<;>exact Option.isSome_iff_exists.1 qK
 ·exact ⟨[Tx []],[.bool false, .slice none 0 0, .bool false, .slice none 0 0, .bool false, .slice none 0 0, .bool false, .slice none 0 0],rfl,⟨_,rfl,bU []⟩,⟨[.bool false, .slice none 0 0, .bool false, .slice none 0 0],[.bool false, .slice none 0 0, .bool false, .slice none 0 0],rfl,⟨[.bool false, .slice none 0 0],[.bool false, .slice none 0 0],rfl,⟨[.bool false],[.slice none 0 0],rfl,rfl,⟨none,0,0,rfl,⟨⟨rfl,Nat.le_refl _,Nat.zero_le _,fun _=>rfl,fun h=>absurd h qO⟩,fun h=>absurd h qO⟩,fun _ h=>by cases h⟩⟩,⟨[.bool false],[.slice none 0 0],rfl,rfl,⟨none,0,0,rfl,⟨⟨rfl,Nat.le_refl _,Nat.zero_le _,fun _=>rfl,fun h=>absurd h qO⟩,fun h=>absurd h qO⟩,fun _ h=>by cases h⟩⟩⟩,⟨[.bool false, .slice none 0 0],[.bool false, .slice none 0 0],rfl,⟨[.bool false],[.slice none 0 0],rfl,rfl,⟨none,0,0,rfl,⟨⟨rfl,Nat.le_refl _,Nat.zero_le _,fun _=>rfl,fun h=>absurd h qO⟩,fun h=>absurd h qO⟩,fun _ h=>by cases h⟩⟩,⟨[.bool false],[.slice none 0 0],rfl,rfl,⟨none,0,0,rfl,⟨⟨rfl,Nat.le_refl _,Nat.zero_le _,fun _=>rfl,fun h=>absurd h qO⟩,fun h=>absurd h qO⟩,fun _ h=>by cases h⟩⟩⟩⟩⟩⟩
instance:fw Tryz.prog 100 1 false:=⟨⟨_,Tryz.underlying100,rfl⟩,by kernel_rfl⟩
instance:dt Tryz.prog 100 9:=⟨⟨_,Tryz.underlying100,by kernel_rfl⟩⟩
theorem gn:nY Tryz.prog 100 177 9:=⟨Tryz.underlying100,by
 obtain ⟨i,h1,h2,h3,h4⟩:∃ i,Tryz.prog.info? 177=some i∧i.zero=some (.agg #[Tx [], .bool false, .slice none 0 0, .bool false, .slice none 0 0, .bool false, .slice none 0 0, .bool false, .slice none 0 0])∧i.size=9∧i.bytes=144:=info_parts qK
 exact ⟨i,_,h1,h2,h3,rfl⟩⟩
theorem jJ:io Tryz.prog 100 177 9 144:=⟨Tryz.underlying100,by decide,by
 obtain ⟨i,h1,h2,h3,h4⟩:∃ i,Tryz.prog.info? 177=some i∧i.zero=some (.agg #[Tx [], .bool false, .slice none 0 0, .bool false, .slice none 0 0, .bool false, .slice none 0 0, .bool false, .slice none 0 0])∧i.size=9∧i.bytes=144:=info_parts qK
 exact ⟨i,_,h1,h2,h3,h4,rfl⟩⟩
theorem vg:bu Tryz.prog 125 bp:=bu.strct Tryz.underlying125 (.cons (bu.str Tryz.underlying9 qK) rfl rfl (.cons fH rfl rfl (.one fH rfl))) qK
abbrev eX:=(List UInt8)×(aP)
abbrev b7:Rp eX:=Rp.str.pair (Rp.frac)
instance:KC b7 5:=⟨rfl⟩
instance:bk b7 0 Rp.str (fun a=>a.1):=bk.fst
instance:aj b7 0 Rp.str (fun a b=>(b,a.2)):=aj.fst
instance {a:eX}:am (.ra b7 a) 0 1 false (.is (Tx a.1)):=am.cell inferInstance ⟨rfl⟩ inferInstance
instance:bk b7 1 Rp.frac (fun a=>a.2):=(bk.tail (n:=1) ⟨rfl⟩ bk.self rfl)
instance:aj b7 1 Rp.frac (fun a b=>(a.1,b)):=(aj.tail (n:=1) ⟨rfl⟩ aj.self rfl)
instance {a:eX}:am (.ra b7 a) 1 4 true (.ra Rp.frac a.2):=am.agg (g:=fun (a:eX)=>a.2) inferInstance ⟨rfl⟩
instance:fw Tryz.prog 127 5 true:=⟨⟨_,Tryz.underlying127,rfl⟩,by kernel_rfl⟩
instance:ay Tryz.prog 127 0 0 1 false:=⟨⟨_,_,Tryz.underlying127,rfl,rfl,by kernel_rfl,by decide,_,Tryz.underlying9,rfl⟩⟩
instance:ay Tryz.prog 127 1 1 4 true:=⟨⟨_,_,Tryz.underlying127,rfl,rfl,by kernel_rfl,by decide,_,Tryz.underlying27,rfl⟩⟩
theorem ma:eH Tryz.prog 127 b7 ([],((false,[]),(false,[]))):=⟨by
 obtain ⟨i,h1,h2,h3,h4⟩:∃ i,Tryz.prog.info? 127=some i∧i.zero=some (.agg #[Tx [], .bool false, .slice none 0 0, .bool false, .slice none 0 0])∧i.size=5∧i.bytes=80:=info_parts qK
 refine ⟨_,i,_,Tryz.underlying127,(fun f hf=> ?_),h1,h2,fun w S=> ?_⟩
 ·simp only [List.mem_cons,List.not_mem_nil,or_false] at hf
  rcases hf with rfl|rfl<;>exact Option.isSome_iff_exists.1 qK
 ·exact ⟨[Tx []],[.bool false, .slice none 0 0, .bool false, .slice none 0 0],rfl,⟨_,rfl,bU []⟩,⟨[.bool false, .slice none 0 0],[.bool false, .slice none 0 0],rfl,⟨[.bool false],[.slice none 0 0],rfl,rfl,⟨none,0,0,rfl,⟨⟨rfl,Nat.le_refl _,Nat.zero_le _,fun _=>rfl,fun h=>absurd h qO⟩,fun h=>absurd h qO⟩,fun _ h=>by cases h⟩⟩,⟨[.bool false],[.slice none 0 0],rfl,rfl,⟨none,0,0,rfl,⟨⟨rfl,Nat.le_refl _,Nat.zero_le _,fun _=>rfl,fun h=>absurd h qO⟩,fun h=>absurd h qO⟩,fun _ h=>by cases h⟩⟩⟩⟩⟩
instance:fw Tryz.prog 63 1 false:=⟨⟨_,Tryz.underlying63,rfl⟩,by kernel_rfl⟩
instance:dt Tryz.prog 63 5:=⟨⟨_,Tryz.underlying63,by kernel_rfl⟩⟩
theorem tM:nY Tryz.prog 63 127 5:=⟨Tryz.underlying63,by
 obtain ⟨i,h1,h2,h3,h4⟩:∃ i,Tryz.prog.info? 127=some i∧i.zero=some (.agg #[Tx [], .bool false, .slice none 0 0, .bool false, .slice none 0 0])∧i.size=5∧i.bytes=80:=info_parts qK
 exact ⟨i,_,h1,h2,h3,rfl⟩⟩
instance:fw Tryz.prog 179 5 true:=⟨⟨_,Tryz.underlying179,rfl⟩,by kernel_rfl⟩
instance:ay Tryz.prog 179 0 0 1 false:=⟨⟨_,_,Tryz.underlying179,rfl,rfl,by kernel_rfl,by decide,_,Tryz.underlying9,rfl⟩⟩
instance:ay Tryz.prog 179 1 1 4 true:=⟨⟨_,_,Tryz.underlying179,rfl,rfl,by kernel_rfl,by decide,_,Tryz.underlying40,rfl⟩⟩
theorem gm:eH Tryz.prog 179 b7 ([],((false,[]),(false,[]))):=⟨by
 obtain ⟨i,h1,h2,h3,h4⟩:∃ i,Tryz.prog.info? 179=some i∧i.zero=some (.agg #[Tx [], .bool false, .slice none 0 0, .bool false, .slice none 0 0])∧i.size=5∧i.bytes=80:=info_parts qK
 refine ⟨_,i,_,Tryz.underlying179,(fun f hf=> ?_),h1,h2,fun w S=> ?_⟩
 ·simp only [List.mem_cons,List.not_mem_nil,or_false] at hf
  rcases hf with rfl|rfl<;>exact Option.isSome_iff_exists.1 qK
 ·exact ⟨[Tx []],[.bool false, .slice none 0 0, .bool false, .slice none 0 0],rfl,⟨_,rfl,bU []⟩,⟨[.bool false, .slice none 0 0],[.bool false, .slice none 0 0],rfl,⟨[.bool false],[.slice none 0 0],rfl,rfl,⟨none,0,0,rfl,⟨⟨rfl,Nat.le_refl _,Nat.zero_le _,fun _=>rfl,fun h=>absurd h qO⟩,fun h=>absurd h qO⟩,fun _ h=>by cases h⟩⟩,⟨[.bool false],[.slice none 0 0],rfl,rfl,⟨none,0,0,rfl,⟨⟨rfl,Nat.le_refl _,Nat.zero_le _,fun _=>rfl,fun h=>absurd h qO⟩,fun h=>absurd h qO⟩,fun _ h=>by cases h⟩⟩⟩⟩⟩
instance:fw Tryz.prog 101 1 false:=⟨⟨_,Tryz.underlying101,rfl⟩,by kernel_rfl⟩
instance:dt Tryz.prog 101 5:=⟨⟨_,Tryz.underlying101,by kernel_rfl⟩⟩
theorem gS:nY Tryz.prog 101 179 5:=⟨Tryz.underlying101,by
 obtain ⟨i,h1,h2,h3,h4⟩:∃ i,Tryz.prog.info? 179=some i∧i.zero=some (.agg #[Tx [], .bool false, .slice none 0 0, .bool false, .slice none 0 0])∧i.size=5∧i.bytes=80:=info_parts qK
 exact ⟨i,_,h1,h2,h3,rfl⟩⟩
theorem j5:io Tryz.prog 101 179 5 80:=⟨Tryz.underlying101,by decide,by
 obtain ⟨i,h1,h2,h3,h4⟩:∃ i,Tryz.prog.info? 179=some i∧i.zero=some (.agg #[Tx [], .bool false, .slice none 0 0, .bool false, .slice none 0 0])∧i.size=5∧i.bytes=80:=info_parts qK
 exact ⟨i,_,h1,h2,h3,h4,rfl⟩⟩
theorem xi:bu Tryz.prog 127 b7:=bu.strct Tryz.underlying127 (.cons (bu.str Tryz.underlying9 qK) rfl rfl (.one fH rfl)) qK
abbrev bw:=(Int)×(List ft)×(List fg)×(List eo)×(List dI)×(List eX)
abbrev aA:Rp bw:=((Rp.int .i64).pair (aH.row.pair (aG.row.pair (ak.row.pair (bp.row.pair (b7.row))))))
instance:KC aA 6:=⟨rfl⟩
instance:bk aA 0 (Rp.int .i64) (fun a=>a.1):=bk.fst
instance:aj aA 0 (Rp.int .i64) (fun a b=>(b,a.2)):=aj.fst
instance {a:bw}:am (.ra aA a) 0 1 false (.is (.int .i64 a.1)):=am.cell inferInstance ⟨rfl⟩ inferInstance
instance:bk aA 1 aH.row (fun a=>a.2.1):=(bk.tail (n:=1) ⟨rfl⟩ bk.fst rfl)
instance:aj aA 1 aH.row (fun a b=>(a.1,(b,a.2.2))):=(aj.tail (n:=1) ⟨rfl⟩ aj.fst rfl)
instance {a:bw}:am (.ra aA a) 1 1 false (.rw aH tt a.2.1):=am.cell inferInstance ⟨rfl⟩ inferInstance
instance:bk aA 2 aG.row (fun a=>a.2.2.1):=(bk.tail (n:=2) ⟨rfl⟩ (bk.tail (n:=1) ⟨rfl⟩ bk.fst rfl) rfl)
instance:aj aA 2 aG.row (fun a b=>(a.1,(a.2.1,(b,a.2.2.2)))):=(aj.tail (n:=2) ⟨rfl⟩ (aj.tail (n:=1) ⟨rfl⟩ aj.fst rfl) rfl)
instance {a:bw}:am (.ra aA a) 2 1 false (.rw aG tt a.2.2.1):=am.cell inferInstance ⟨rfl⟩ inferInstance
instance:bk aA 3 ak.row (fun a=>a.2.2.2.1):=(bk.tail (n:=3) ⟨rfl⟩ (bk.tail (n:=2) ⟨rfl⟩ (bk.tail (n:=1) ⟨rfl⟩ bk.fst rfl) rfl) rfl)
instance:aj aA 3 ak.row (fun a b=>(a.1,(a.2.1,(a.2.2.1,(b,a.2.2.2.2))))):=(aj.tail (n:=3) ⟨rfl⟩ (aj.tail (n:=2) ⟨rfl⟩ (aj.tail (n:=1) ⟨rfl⟩ aj.fst rfl) rfl) rfl)
instance {a:bw}:am (.ra aA a) 3 1 false (.rw ak tt a.2.2.2.1):=am.cell inferInstance ⟨rfl⟩ inferInstance
instance:bk aA 4 bp.row (fun a=>a.2.2.2.2.1):=(bk.tail (n:=4) ⟨rfl⟩ (bk.tail (n:=3) ⟨rfl⟩ (bk.tail (n:=2) ⟨rfl⟩ (bk.tail (n:=1) ⟨rfl⟩ bk.fst rfl) rfl) rfl) rfl)
instance:aj aA 4 bp.row (fun a b=>(a.1,(a.2.1,(a.2.2.1,(a.2.2.2.1,(b,a.2.2.2.2.2)))))):=(aj.tail (n:=4) ⟨rfl⟩ (aj.tail (n:=3) ⟨rfl⟩ (aj.tail (n:=2) ⟨rfl⟩ (aj.tail (n:=1) ⟨rfl⟩ aj.fst rfl) rfl) rfl) rfl)
instance {a:bw}:am (.ra aA a) 4 1 false (.rw bp tt a.2.2.2.2.1):=am.cell inferInstance ⟨rfl⟩ inferInstance
instance:bk aA 5 b7.row (fun a=>a.2.2.2.2.2):=(bk.tail (n:=5) ⟨rfl⟩ (bk.tail (n:=4) ⟨rfl⟩ (bk.tail (n:=3) ⟨rfl⟩ (bk.tail (n:=2) ⟨rfl⟩ (bk.tail (n:=1) ⟨rfl⟩ bk.self rfl) rfl) rfl) rfl) rfl)
instance:aj aA 5 b7.row (fun a b=>(a.1,(a.2.1,(a.2.2.1,(a.2.2.2.1,(a.2.2.2.2.1,b)))))):=(aj.tail (n:=5) ⟨rfl⟩ (aj.tail (n:=4) ⟨rfl⟩ (aj.tail (n:=3) ⟨rfl⟩ (aj.tail (n:=2) ⟨rfl⟩ (aj.tail (n:=1) ⟨rfl⟩ aj.self rfl) rfl) rfl) rfl) rfl)
instance {a:bw}:am (.ra aA a) 5 1 false (.rw b7 tt a.2.2.2.2.2):=am.cell inferInstance ⟨rfl⟩ inferInstance
instance:fw Tryz.prog 65 6 true:=⟨⟨_,Tryz.underlying65,rfl⟩,by kernel_rfl⟩
instance:ay Tryz.prog 65 0 0 1 false:=⟨⟨_,_,Tryz.underlying65,rfl,rfl,by kernel_rfl,by decide,_,Tryz.underlying3,rfl⟩⟩
instance:ay Tryz.prog 65 1 1 1 false:=⟨⟨_,_,Tryz.underlying65,rfl,rfl,by kernel_rfl,by decide,_,Tryz.underlying59,rfl⟩⟩
instance:ay Tryz.prog 65 2 2 1 false:=⟨⟨_,_,Tryz.underlying65,rfl,rfl,by kernel_rfl,by decide,_,Tryz.underlying60,rfl⟩⟩
instance:ay Tryz.prog 65 3 3 1 false:=⟨⟨_,_,Tryz.underlying65,rfl,rfl,by kernel_rfl,by decide,_,Tryz.underlying61,rfl⟩⟩
instance:ay Tryz.prog 65 4 4 1 false:=⟨⟨_,_,Tryz.underlying65,rfl,rfl,by kernel_rfl,by decide,_,Tryz.underlying62,rfl⟩⟩
instance:ay Tryz.prog 65 5 5 1 false:=⟨⟨_,_,Tryz.underlying65,rfl,rfl,by kernel_rfl,by decide,_,Tryz.underlying63,rfl⟩⟩
theorem ir:eH Tryz.prog 65 aA (0,[],[],[],[],[]):=⟨by
 obtain ⟨i,h1,h2,h3,h4⟩:∃ i,Tryz.prog.info? 65=some i∧i.zero=some (.agg #[.int .i64 0, .slice none 0 0, .slice none 0 0, .slice none 0 0, .slice none 0 0, .slice none 0 0])∧i.size=6∧i.bytes=128:=info_parts qK
 refine ⟨_,i,_,Tryz.underlying65,(fun f hf=> ?_),h1,h2,fun w S=> ?_⟩
 ·simp only [List.mem_cons,List.not_mem_nil,or_false] at hf
  rcases hf with rfl|rfl|rfl|rfl|rfl|rfl<;>exact Option.isSome_iff_exists.1 qK
 ·exact ⟨[.int .i64 0],[.slice none 0 0, .slice none 0 0, .slice none 0 0, .slice none 0 0, .slice none 0 0],rfl,rfl,⟨[.slice none 0 0],[.slice none 0 0, .slice none 0 0, .slice none 0 0, .slice none 0 0],rfl,⟨none,0,0,rfl,rfl,Nat.le_refl _,Nat.zero_le _,fun _=>rfl,fun h=>absurd h qO⟩,⟨[.slice none 0 0],[.slice none 0 0, .slice none 0 0, .slice none 0 0],rfl,⟨none,0,0,rfl,rfl,Nat.le_refl _,Nat.zero_le _,fun _=>rfl,fun h=>absurd h qO⟩,⟨[.slice none 0 0],[.slice none 0 0, .slice none 0 0],rfl,⟨none,0,0,rfl,rfl,Nat.le_refl _,Nat.zero_le _,fun _=>rfl,fun h=>absurd h qO⟩,⟨[.slice none 0 0],[.slice none 0 0],rfl,⟨none,0,0,rfl,rfl,Nat.le_refl _,Nat.zero_le _,fun _=>rfl,fun h=>absurd h qO⟩,⟨none,0,0,rfl,rfl,Nat.le_refl _,Nat.zero_le _,fun _=>rfl,fun h=>absurd h qO⟩⟩⟩⟩⟩⟩⟩
instance:fw Tryz.prog 30 1 false:=⟨⟨_,Tryz.underlying30,rfl⟩,by kernel_rfl⟩
instance:dt Tryz.prog 30 6:=⟨⟨_,Tryz.underlying30,by kernel_rfl⟩⟩
theorem nm:nY Tryz.prog 30 65 6:=⟨Tryz.underlying30,by
 obtain ⟨i,h1,h2,h3,h4⟩:∃ i,Tryz.prog.info? 65=some i∧i.zero=some (.agg #[.int .i64 0, .slice none 0 0, .slice none 0 0, .slice none 0 0, .slice none 0 0, .slice none 0 0])∧i.size=6∧i.bytes=128:=info_parts qK
 exact ⟨i,_,h1,h2,h3,rfl⟩⟩
instance:fw Tryz.prog 103 6 true:=⟨⟨_,Tryz.underlying103,rfl⟩,by kernel_rfl⟩
instance:ay Tryz.prog 103 0 0 1 false:=⟨⟨_,_,Tryz.underlying103,rfl,rfl,by kernel_rfl,by decide,_,Tryz.underlying3,rfl⟩⟩
instance:ay Tryz.prog 103 1 1 1 false:=⟨⟨_,_,Tryz.underlying103,rfl,rfl,by kernel_rfl,by decide,_,Tryz.underlying97,rfl⟩⟩
instance:ay Tryz.prog 103 2 2 1 false:=⟨⟨_,_,Tryz.underlying103,rfl,rfl,by kernel_rfl,by decide,_,Tryz.underlying98,rfl⟩⟩
instance:ay Tryz.prog 103 3 3 1 false:=⟨⟨_,_,Tryz.underlying103,rfl,rfl,by kernel_rfl,by decide,_,Tryz.underlying99,rfl⟩⟩
instance:ay Tryz.prog 103 4 4 1 false:=⟨⟨_,_,Tryz.underlying103,rfl,rfl,by kernel_rfl,by decide,_,Tryz.underlying100,rfl⟩⟩
instance:ay Tryz.prog 103 5 5 1 false:=⟨⟨_,_,Tryz.underlying103,rfl,rfl,by kernel_rfl,by decide,_,Tryz.underlying101,rfl⟩⟩
instance:fw Tryz.prog 42 1 false:=⟨⟨_,Tryz.underlying42,rfl⟩,by kernel_rfl⟩
instance:dt Tryz.prog 42 6:=⟨⟨_,Tryz.underlying42,by kernel_rfl⟩⟩
theorem kI:nY Tryz.prog 42 103 6:=⟨Tryz.underlying42,by
 obtain ⟨i,h1,h2,h3,h4⟩:∃ i,Tryz.prog.info? 103=some i∧i.zero=some (.agg #[.int .i64 0, .slice none 0 0, .slice none 0 0, .slice none 0 0, .slice none 0 0, .slice none 0 0])∧i.size=6∧i.bytes=128:=info_parts qK
 exact ⟨i,_,h1,h2,h3,rfl⟩⟩
theorem j4:io Tryz.prog 42 103 6 128:=⟨Tryz.underlying42,by decide,by
 obtain ⟨i,h1,h2,h3,h4⟩:∃ i,Tryz.prog.info? 103=some i∧i.zero=some (.agg #[.int .i64 0, .slice none 0 0, .slice none 0 0, .slice none 0 0, .slice none 0 0, .slice none 0 0])∧i.size=6∧i.bytes=128:=info_parts qK
 exact ⟨i,_,h1,h2,h3,h4,rfl⟩⟩
theorem xe:bu Tryz.prog 65 aA:=bu.strct Tryz.underlying65 (.cons (bu.int Tryz.underlying3 qK) rfl rfl (.cons (bu.row Tryz.underlying59 xq qK qD) rfl rfl (.cons (bu.row Tryz.underlying60 yd qK qD) rfl rfl (.cons (bu.row Tryz.underlying61 yy qK qD) rfl rfl (.cons (bu.row Tryz.underlying62 vg qK qD) rfl rfl (.one (bu.row Tryz.underlying63 xi qK qD) rfl)))))) qK
abbrev aI:=(List UInt8)×(List UInt8)×(List cM)×(aP)×(aP)×(Int)×(Int)×(aP)×(aP)×(Int)×(List ct)×(List (List UInt8))×(List bw)
abbrev ai:Rp aI:=Rp.str.pair (Rp.str.pair (a8.row.pair (Rp.frac.pair (Rp.frac.pair (((Rp.int .i64).pair (((Rp.int .i64).pair (Rp.frac.pair (Rp.frac.pair (((Rp.int .i64).pair (bt.row.pair (Rp.str.row.pair (aA.row)))))))))))))))
instance:KC ai 25:=⟨rfl⟩
instance:bk ai 0 Rp.str (fun a=>a.1):=bk.fst
instance:aj ai 0 Rp.str (fun a b=>(b,a.2)):=aj.fst
instance {a:aI}:am (.ra ai a) 0 1 false (.is (Tx a.1)):=am.cell inferInstance ⟨rfl⟩ inferInstance
instance:bk ai 1 Rp.str (fun a=>a.2.1):=(bk.tail (n:=1) ⟨rfl⟩ bk.fst rfl)
instance:aj ai 1 Rp.str (fun a b=>(a.1,(b,a.2.2))):=(aj.tail (n:=1) ⟨rfl⟩ aj.fst rfl)
instance {a:aI}:am (.ra ai a) 1 1 false (.is (Tx a.2.1)):=am.cell inferInstance ⟨rfl⟩ inferInstance
instance:bk ai 2 a8.row (fun a=>a.2.2.1):=(bk.tail (n:=2) ⟨rfl⟩ (bk.tail (n:=1) ⟨rfl⟩ bk.fst rfl) rfl)
instance:aj ai 2 a8.row (fun a b=>(a.1,(a.2.1,(b,a.2.2.2)))):=(aj.tail (n:=2) ⟨rfl⟩ (aj.tail (n:=1) ⟨rfl⟩ aj.fst rfl) rfl)
instance {a:aI}:am (.ra ai a) 2 1 false (.rw a8 tt a.2.2.1):=am.cell inferInstance ⟨rfl⟩ inferInstance
instance:bk ai 3 Rp.frac (fun a=>a.2.2.2.1):=(bk.tail (n:=3) ⟨rfl⟩ (bk.tail (n:=2) ⟨rfl⟩ (bk.tail (n:=1) ⟨rfl⟩ bk.fst rfl) rfl) rfl)
instance:aj ai 3 Rp.frac (fun a b=>(a.1,(a.2.1,(a.2.2.1,(b,a.2.2.2.2))))):=(aj.tail (n:=3) ⟨rfl⟩ (aj.tail (n:=2) ⟨rfl⟩ (aj.tail (n:=1) ⟨rfl⟩ aj.fst rfl) rfl) rfl)
instance {a:aI}:am (.ra ai a) 3 4 true (.ra Rp.frac a.2.2.2.1):=am.agg (g:=fun (a:aI)=>a.2.2.2.1) inferInstance ⟨rfl⟩
instance:bk ai 7 Rp.frac (fun a=>a.2.2.2.2.1):=(bk.tail (n:=7) ⟨rfl⟩ (bk.tail (n:=6) ⟨rfl⟩ (bk.tail (n:=5) ⟨rfl⟩ (bk.tail (n:=4) ⟨rfl⟩ bk.fst rfl) rfl) rfl) rfl)
instance:aj ai 7 Rp.frac (fun a b=>(a.1,(a.2.1,(a.2.2.1,(a.2.2.2.1,(b,a.2.2.2.2.2)))))):=(aj.tail (n:=7) ⟨rfl⟩ (aj.tail (n:=6) ⟨rfl⟩ (aj.tail (n:=5) ⟨rfl⟩ (aj.tail (n:=4) ⟨rfl⟩ aj.fst rfl) rfl) rfl) rfl)
instance {a:aI}:am (.ra ai a) 7 4 true (.ra Rp.frac a.2.2.2.2.1):=am.agg (g:=fun (a:aI)=>a.2.2.2.2.1) inferInstance ⟨rfl⟩
instance:bk ai 11 (Rp.int .i64) (fun a=>a.2.2.2.2.2.1):=(bk.tail (n:=11) ⟨rfl⟩ (bk.tail (n:=10) ⟨rfl⟩ (bk.tail (n:=9) ⟨rfl⟩ (bk.tail (n:=8) ⟨rfl⟩ (bk.tail (n:=4) ⟨rfl⟩ bk.fst rfl) rfl) rfl) rfl) rfl)
instance:aj ai 11 (Rp.int .i64) (fun a b=>(a.1,(a.2.1,(a.2.2.1,(a.2.2.2.1,(a.2.2.2.2.1,(b,a.2.2.2.2.2.2))))))):=(aj.tail (n:=11) ⟨rfl⟩ (aj.tail (n:=10) ⟨rfl⟩ (aj.tail (n:=9) ⟨rfl⟩ (aj.tail (n:=8) ⟨rfl⟩ (aj.tail (n:=4) ⟨rfl⟩ aj.fst rfl) rfl) rfl) rfl) rfl)
instance {a:aI}:am (.ra ai a) 11 1 false (.is (.int .i64 a.2.2.2.2.2.1)):=am.cell inferInstance ⟨rfl⟩ inferInstance
instance:bk ai 12 (Rp.int .i64) (fun a=>a.2.2.2.2.2.2.1):=(bk.tail (n:=12) ⟨rfl⟩ (bk.tail (n:=11) ⟨rfl⟩ (bk.tail (n:=10) ⟨rfl⟩ (bk.tail (n:=9) ⟨rfl⟩ (bk.tail (n:=5) ⟨rfl⟩ (bk.tail (n:=1) ⟨rfl⟩ bk.fst rfl) rfl) rfl) rfl) rfl) rfl)
instance:aj ai 12 (Rp.int .i64) (fun a b=>(a.1,(a.2.1,(a.2.2.1,(a.2.2.2.1,(a.2.2.2.2.1,(a.2.2.2.2.2.1,(b,a.2.2.2.2.2.2.2)))))))):=(aj.tail (n:=12) ⟨rfl⟩ (aj.tail (n:=11) ⟨rfl⟩ (aj.tail (n:=10) ⟨rfl⟩ (aj.tail (n:=9) ⟨rfl⟩ (aj.tail (n:=5) ⟨rfl⟩ (aj.tail (n:=1) ⟨rfl⟩ aj.fst rfl) rfl) rfl) rfl) rfl) rfl)
instance {a:aI}:am (.ra ai a) 12 1 false (.is (.int .i64 a.2.2.2.2.2.2.1)):=am.cell inferInstance ⟨rfl⟩ inferInstance
instance:bk ai 13 Rp.frac (fun a=>a.2.2.2.2.2.2.2.1):=(bk.tail (n:=13) ⟨rfl⟩ (bk.tail (n:=12) ⟨rfl⟩ (bk.tail (n:=11) ⟨rfl⟩ (bk.tail (n:=10) ⟨rfl⟩ (bk.tail (n:=6) ⟨rfl⟩ (bk.tail (n:=2) ⟨rfl⟩ (bk.tail (n:=1) ⟨rfl⟩ bk.fst rfl) rfl) rfl) rfl) rfl) rfl) rfl)
instance:aj ai 13 Rp.frac (fun a b=>(a.1,(a.2.1,(a.2.2.1,(a.2.2.2.1,(a.2.2.2.2.1,(a.2.2.2.2.2.1,(a.2.2.2.2.2.2.1,(b,a.2.2.2.2.2.2.2.2))))))))):=(aj.tail (n:=13) ⟨rfl⟩ (aj.tail (n:=12) ⟨rfl⟩ (aj.tail (n:=11) ⟨rfl⟩ (aj.tail (n:=10) ⟨rfl⟩ (aj.tail (n:=6) ⟨rfl⟩ (aj.tail (n:=2) ⟨rfl⟩ (aj.tail (n:=1) ⟨rfl⟩ aj.fst rfl) rfl) rfl) rfl) rfl) rfl) rfl)
instance {a:aI}:am (.ra ai a) 13 4 true (.ra Rp.frac a.2.2.2.2.2.2.2.1):=am.agg (g:=fun (a:aI)=>a.2.2.2.2.2.2.2.1) inferInstance ⟨rfl⟩
instance:bk ai 17 Rp.frac (fun a=>a.2.2.2.2.2.2.2.2.1):=(bk.tail (n:=17) ⟨rfl⟩ (bk.tail (n:=16) ⟨rfl⟩ (bk.tail (n:=15) ⟨rfl⟩ (bk.tail (n:=14) ⟨rfl⟩ (bk.tail (n:=10) ⟨rfl⟩ (bk.tail (n:=6) ⟨rfl⟩ (bk.tail (n:=5) ⟨rfl⟩ (bk.tail (n:=4) ⟨rfl⟩ bk.fst rfl) rfl) rfl) rfl) rfl) rfl) rfl) rfl)
instance:aj ai 17 Rp.frac (fun a b=>(a.1,(a.2.1,(a.2.2.1,(a.2.2.2.1,(a.2.2.2.2.1,(a.2.2.2.2.2.1,(a.2.2.2.2.2.2.1,(a.2.2.2.2.2.2.2.1,(b,a.2.2.2.2.2.2.2.2.2)))))))))):=(aj.tail (n:=17) ⟨rfl⟩ (aj.tail (n:=16) ⟨rfl⟩ (aj.tail (n:=15) ⟨rfl⟩ (aj.tail (n:=14) ⟨rfl⟩ (aj.tail (n:=10) ⟨rfl⟩ (aj.tail (n:=6) ⟨rfl⟩ (aj.tail (n:=5) ⟨rfl⟩ (aj.tail (n:=4) ⟨rfl⟩ aj.fst rfl) rfl) rfl) rfl) rfl) rfl) rfl) rfl)
instance {a:aI}:am (.ra ai a) 17 4 true (.ra Rp.frac a.2.2.2.2.2.2.2.2.1):=am.agg (g:=fun (a:aI)=>a.2.2.2.2.2.2.2.2.1) inferInstance ⟨rfl⟩
instance:bk ai 21 (Rp.int .i64) (fun a=>a.2.2.2.2.2.2.2.2.2.1):=(bk.tail (n:=21) ⟨rfl⟩ (bk.tail (n:=20) ⟨rfl⟩ (bk.tail (n:=19) ⟨rfl⟩ (bk.tail (n:=18) ⟨rfl⟩ (bk.tail (n:=14) ⟨rfl⟩ (bk.tail (n:=10) ⟨rfl⟩ (bk.tail (n:=9) ⟨rfl⟩ (bk.tail (n:=8) ⟨rfl⟩ (bk.tail (n:=4) ⟨rfl⟩ bk.fst rfl) rfl) rfl) rfl) rfl) rfl) rfl) rfl) rfl)
instance:aj ai 21 (Rp.int .i64) (fun a b=>(a.1,(a.2.1,(a.2.2.1,(a.2.2.2.1,(a.2.2.2.2.1,(a.2.2.2.2.2.1,(a.2.2.2.2.2.2.1,(a.2.2.2.2.2.2.2.1,(a.2.2.2.2.2.2.2.2.1,(b,a.2.2.2.2.2.2.2.2.2.2))))))))))):=(aj.tail (n:=21) ⟨rfl⟩ (aj.tail (n:=20) ⟨rfl⟩ (aj.tail (n:=19) ⟨rfl⟩ (aj.tail (n:=18) ⟨rfl⟩ (aj.tail (n:=14) ⟨rfl⟩ (aj.tail (n:=10) ⟨rfl⟩ (aj.tail (n:=9) ⟨rfl⟩ (aj.tail (n:=8) ⟨rfl⟩ (aj.tail (n:=4) ⟨rfl⟩ aj.fst rfl) rfl) rfl) rfl) rfl) rfl) rfl) rfl) rfl)
instance {a:aI}:am (.ra ai a) 21 1 false (.is (.int .i64 a.2.2.2.2.2.2.2.2.2.1)):=am.cell inferInstance ⟨rfl⟩ inferInstance
instance:bk ai 22 bt.row (fun a=>a.2.2.2.2.2.2.2.2.2.2.1):=(bk.tail (n:=22) ⟨rfl⟩ (bk.tail (n:=21) ⟨rfl⟩ (bk.tail (n:=20) ⟨rfl⟩ (bk.tail (n:=19) ⟨rfl⟩ (bk.tail (n:=15) ⟨rfl⟩ (bk.tail (n:=11) ⟨rfl⟩ (bk.tail (n:=10) ⟨rfl⟩ (bk.tail (n:=9) ⟨rfl⟩ (bk.tail (n:=5) ⟨rfl⟩ (bk.tail (n:=1) ⟨rfl⟩ bk.fst rfl) rfl) rfl) rfl) rfl) rfl) rfl) rfl) rfl) rfl)
instance:aj ai 22 bt.row (fun a b=>(a.1,(a.2.1,(a.2.2.1,(a.2.2.2.1,(a.2.2.2.2.1,(a.2.2.2.2.2.1,(a.2.2.2.2.2.2.1,(a.2.2.2.2.2.2.2.1,(a.2.2.2.2.2.2.2.2.1,(a.2.2.2.2.2.2.2.2.2.1,(b,a.2.2.2.2.2.2.2.2.2.2.2)))))))))))):=(aj.tail (n:=22) ⟨rfl⟩ (aj.tail (n:=21) ⟨rfl⟩ (aj.tail (n:=20) ⟨rfl⟩ (aj.tail (n:=19) ⟨rfl⟩ (aj.tail (n:=15) ⟨rfl⟩ (aj.tail (n:=11) ⟨rfl⟩ (aj.tail (n:=10) ⟨rfl⟩ (aj.tail (n:=9) ⟨rfl⟩ (aj.tail (n:=5) ⟨rfl⟩ (aj.tail (n:=1) ⟨rfl⟩ aj.fst rfl) rfl) rfl) rfl) rfl) rfl) rfl) rfl) rfl) rfl)
instance {a:aI}:am (.ra ai a) 22 1 false (.rw bt tt a.2.2.2.2.2.2.2.2.2.2.1):=am.cell inferInstance ⟨rfl⟩ inferInstance
instance:bk ai 23 Rp.str.row (fun a=>a.2.2.2.2.2.2.2.2.2.2.2.1):=(bk.tail (n:=23) ⟨rfl⟩ (bk.tail (n:=22) ⟨rfl⟩ (bk.tail (n:=21) ⟨rfl⟩ (bk.tail (n:=20) ⟨rfl⟩ (bk.tail (n:=16) ⟨rfl⟩ (bk.tail (n:=12) ⟨rfl⟩ (bk.tail (n:=11) ⟨rfl⟩ (bk.tail (n:=10) ⟨rfl⟩ (bk.tail (n:=6) ⟨rfl⟩ (bk.tail (n:=2) ⟨rfl⟩ (bk.tail (n:=1) ⟨rfl⟩ bk.fst rfl) rfl) rfl) rfl) rfl) rfl) rfl) rfl) rfl) rfl) rfl)
instance:aj ai 23 Rp.str.row (fun a b=>(a.1,(a.2.1,(a.2.2.1,(a.2.2.2.1,(a.2.2.2.2.1,(a.2.2.2.2.2.1,(a.2.2.2.2.2.2.1,(a.2.2.2.2.2.2.2.1,(a.2.2.2.2.2.2.2.2.1,(a.2.2.2.2.2.2.2.2.2.1,(a.2.2.2.2.2.2.2.2.2.2.1,(b,a.2.2.2.2.2.2.2.2.2.2.2.2))))))))))))):=(aj.tail (n:=23) ⟨rfl⟩ (aj.tail (n:=22) ⟨rfl⟩ (aj.tail (n:=21) ⟨rfl⟩ (aj.tail (n:=20) ⟨rfl⟩ (aj.tail (n:=16) ⟨rfl⟩ (aj.tail (n:=12) ⟨rfl⟩ (aj.tail (n:=11) ⟨rfl⟩ (aj.tail (n:=10) ⟨rfl⟩ (aj.tail (n:=6) ⟨rfl⟩ (aj.tail (n:=2) ⟨rfl⟩ (aj.tail (n:=1) ⟨rfl⟩ aj.fst rfl) rfl) rfl) rfl) rfl) rfl) rfl) rfl) rfl) rfl) rfl)
instance {a:aI}:am (.ra ai a) 23 1 false (.rw Rp.str tt a.2.2.2.2.2.2.2.2.2.2.2.1):=am.cell inferInstance ⟨rfl⟩ inferInstance
instance:bk ai 24 aA.row (fun a=>a.2.2.2.2.2.2.2.2.2.2.2.2):=(bk.tail (n:=24) ⟨rfl⟩ (bk.tail (n:=23) ⟨rfl⟩ (bk.tail (n:=22) ⟨rfl⟩ (bk.tail (n:=21) ⟨rfl⟩ (bk.tail (n:=17) ⟨rfl⟩ (bk.tail (n:=13) ⟨rfl⟩ (bk.tail (n:=12) ⟨rfl⟩ (bk.tail (n:=11) ⟨rfl⟩ (bk.tail (n:=7) ⟨rfl⟩ (bk.tail (n:=3) ⟨rfl⟩ (bk.tail (n:=2) ⟨rfl⟩ (bk.tail (n:=1) ⟨rfl⟩ bk.self rfl) rfl) rfl) rfl) rfl) rfl) rfl) rfl) rfl) rfl) rfl) rfl)
instance:aj ai 24 aA.row (fun a b=>(a.1,(a.2.1,(a.2.2.1,(a.2.2.2.1,(a.2.2.2.2.1,(a.2.2.2.2.2.1,(a.2.2.2.2.2.2.1,(a.2.2.2.2.2.2.2.1,(a.2.2.2.2.2.2.2.2.1,(a.2.2.2.2.2.2.2.2.2.1,(a.2.2.2.2.2.2.2.2.2.2.1,(a.2.2.2.2.2.2.2.2.2.2.2.1,b))))))))))))):=(aj.tail (n:=24) ⟨rfl⟩ (aj.tail (n:=23) ⟨rfl⟩ (aj.tail (n:=22) ⟨rfl⟩ (aj.tail (n:=21) ⟨rfl⟩ (aj.tail (n:=17) ⟨rfl⟩ (aj.tail (n:=13) ⟨rfl⟩ (aj.tail (n:=12) ⟨rfl⟩ (aj.tail (n:=11) ⟨rfl⟩ (aj.tail (n:=7) ⟨rfl⟩ (aj.tail (n:=3) ⟨rfl⟩ (aj.tail (n:=2) ⟨rfl⟩ (aj.tail (n:=1) ⟨rfl⟩ aj.self rfl) rfl) rfl) rfl) rfl) rfl) rfl) rfl) rfl) rfl) rfl) rfl)
instance {a:aI}:am (.ra ai a) 24 1 false (.rw aA tt a.2.2.2.2.2.2.2.2.2.2.2.2):=am.cell inferInstance ⟨rfl⟩ inferInstance
instance:fw Tryz.prog 32 25 true:=⟨⟨_,Tryz.underlying32,rfl⟩,by kernel_rfl⟩
instance:ay Tryz.prog 32 0 0 1 false:=⟨⟨_,_,Tryz.underlying32,rfl,rfl,by kernel_rfl,by decide,_,Tryz.underlying9,rfl⟩⟩
instance:ay Tryz.prog 32 1 1 1 false:=⟨⟨_,_,Tryz.underlying32,rfl,rfl,by kernel_rfl,by decide,_,Tryz.underlying9,rfl⟩⟩
instance:ay Tryz.prog 32 2 2 1 false:=⟨⟨_,_,Tryz.underlying32,rfl,rfl,by kernel_rfl,by decide,_,Tryz.underlying22,rfl⟩⟩
instance:ay Tryz.prog 32 3 3 4 true:=⟨⟨_,_,Tryz.underlying32,rfl,rfl,by kernel_rfl,by decide,_,Tryz.underlying27,rfl⟩⟩
instance:ay Tryz.prog 32 4 7 4 true:=⟨⟨_,_,Tryz.underlying32,rfl,rfl,by kernel_rfl,by decide,_,Tryz.underlying27,rfl⟩⟩
instance:ay Tryz.prog 32 5 11 1 false:=⟨⟨_,_,Tryz.underlying32,rfl,rfl,by kernel_rfl,by decide,_,Tryz.underlying3,rfl⟩⟩
instance:ay Tryz.prog 32 6 12 1 false:=⟨⟨_,_,Tryz.underlying32,rfl,rfl,by kernel_rfl,by decide,_,Tryz.underlying3,rfl⟩⟩
instance:ay Tryz.prog 32 7 13 4 true:=⟨⟨_,_,Tryz.underlying32,rfl,rfl,by kernel_rfl,by decide,_,Tryz.underlying27,rfl⟩⟩
instance:ay Tryz.prog 32 8 17 4 true:=⟨⟨_,_,Tryz.underlying32,rfl,rfl,by kernel_rfl,by decide,_,Tryz.underlying27,rfl⟩⟩
instance:ay Tryz.prog 32 9 21 1 false:=⟨⟨_,_,Tryz.underlying32,rfl,rfl,by kernel_rfl,by decide,_,Tryz.underlying3,rfl⟩⟩
instance:ay Tryz.prog 32 10 22 1 false:=⟨⟨_,_,Tryz.underlying32,rfl,rfl,by kernel_rfl,by decide,_,Tryz.underlying28,rfl⟩⟩
instance:ay Tryz.prog 32 11 23 1 false:=⟨⟨_,_,Tryz.underlying32,rfl,rfl,by kernel_rfl,by decide,_,Tryz.underlying29,rfl⟩⟩
instance:ay Tryz.prog 32 12 24 1 false:=⟨⟨_,_,Tryz.underlying32,rfl,rfl,by kernel_rfl,by decide,_,Tryz.underlying30,rfl⟩⟩
theorem j_:eH Tryz.prog 32 ai ([],[],[],((false,[]),(false,[])),((false,[]),(false,[])),0,0,((false,[]),(false,[])),((false,[]),(false,[])),0,[],[],[]):=⟨by
 obtain ⟨i,h1,h2,h3,h4⟩:∃ i,Tryz.prog.info? 32=some i∧i.zero=some (.agg #[Tx [],Tx [], .slice none 0 0, .bool false, .slice none 0 0, .bool false, .slice none 0 0, .bool false, .slice none 0 0, .bool false, .slice none 0 0, .int .i64 0, .int .i64 0, .bool false, .slice none 0 0, .bool false, .slice none 0 0, .bool false, .slice none 0 0, .bool false, .slice none 0 0, .int .i64 0, .slice none 0 0, .slice none 0 0, .slice none 0 0])∧i.size=25∧i.bytes=408:=info_parts qK
 refine ⟨_,i,_,Tryz.underlying32,(fun f hf=> ?_),h1,h2,fun w S=> ?_⟩
 ·simp only [List.mem_cons,List.not_mem_nil,or_false] at hf
  rcases hf with rfl|rfl|rfl|rfl|rfl|rfl|rfl|rfl|rfl|rfl|rfl|rfl|rfl<;>exact Option.isSome_iff_exists.1 qK
 ·exact ⟨[Tx []],[Tx [], .slice none 0 0, .bool false, .slice none 0 0, .bool false, .slice none 0 0, .bool false, .slice none 0 0, .bool false, .slice none 0 0, .int .i64 0, .int .i64 0, .bool false, .slice none 0 0, .bool false, .slice none 0 0, .bool false, .slice none 0 0, .bool false, .slice none 0 0, .int .i64 0, .slice none 0 0, .slice none 0 0, .slice none 0 0],rfl,⟨_,rfl,bU []⟩,⟨[Tx []],[.slice none 0 0, .bool false, .slice none 0 0, .bool false, .slice none 0 0, .bool false, .slice none 0 0, .bool false, .slice none 0 0, .int .i64 0, .int .i64 0, .bool false, .slice none 0 0, .bool false, .slice none 0 0, .bool false, .slice none 0 0, .bool false, .slice none 0 0, .int .i64 0, .slice none 0 0, .slice none 0 0, .slice none 0 0],rfl,⟨_,rfl,bU []⟩,⟨[.slice none 0 0],[.bool false, .slice none 0 0, .bool false, .slice none 0 0, .bool false, .slice none 0 0, .bool false, .slice none 0 0, .int .i64 0, .int .i64 0, .bool false, .slice none 0 0, .bool false, .slice none 0 0, .bool false, .slice none 0 0, .bool false, .slice none 0 0, .int .i64 0, .slice none 0 0, .slice none 0 0, .slice none 0 0],rfl,⟨none,0,0,rfl,rfl,Nat.le_refl _,Nat.zero_le _,fun _=>rfl,fun h=>absurd h qO⟩,⟨[.bool false, .slice none 0 0, .bool false, .slice none 0 0],[.bool false, .slice none 0 0, .bool false, .slice none 0 0, .int .i64 0, .int .i64 0, .bool false, .slice none 0 0, .bool false, .slice none 0 0, .bool false, .slice none 0 0, .bool false, .slice none 0 0, .int .i64 0, .slice none 0 0, .slice none 0 0, .slice none 0 0],rfl,⟨[.bool false, .slice none 0 0],[.bool false, .slice none 0 0],rfl,⟨[.bool false],[.slice none 0 0],rfl,rfl,⟨none,0,0,rfl,⟨⟨rfl,Nat.le_refl _,Nat.zero_le _,fun _=>rfl,fun h=>absurd h qO⟩,fun h=>absurd h qO⟩,fun _ h=>by cases h⟩⟩,⟨[.bool false],[.slice none 0 0],rfl,rfl,⟨none,0,0,rfl,⟨⟨rfl,Nat.le_refl _,Nat.zero_le _,fun _=>rfl,fun h=>absurd h qO⟩,fun h=>absurd h qO⟩,fun _ h=>by cases h⟩⟩⟩,⟨[.bool false, .slice none 0 0, .bool false, .slice none 0 0],[.int .i64 0, .int .i64 0, .bool false, .slice none 0 0, .bool false, .slice none 0 0, .bool false, .slice none 0 0, .bool false, .slice none 0 0, .int .i64 0, .slice none 0 0, .slice none 0 0, .slice none 0 0],rfl,⟨[.bool false, .slice none 0 0],[.bool false, .slice none 0 0],rfl,⟨[.bool false],[.slice none 0 0],rfl,rfl,⟨none,0,0,rfl,⟨⟨rfl,Nat.le_refl _,Nat.zero_le _,fun _=>rfl,fun h=>absurd h qO⟩,fun h=>absurd h qO⟩,fun _ h=>by cases h⟩⟩,⟨[.bool false],[.slice none 0 0],rfl,rfl,⟨none,0,0,rfl,⟨⟨rfl,Nat.le_refl _,Nat.zero_le _,fun _=>rfl,fun h=>absurd h qO⟩,fun h=>absurd h qO⟩,fun _ h=>by cases h⟩⟩⟩,⟨[.int .i64 0],[.int .i64 0, .bool false, .slice none 0 0, .bool false, .slice none 0 0, .bool false, .slice none 0 0, .bool false, .slice none 0 0, .int .i64 0, .slice none 0 0, .slice none 0 0, .slice none 0 0],rfl,rfl,⟨[.int .i64 0],[.bool false, .slice none 0 0, .bool false, .slice none 0 0, .bool false, .slice none 0 0, .bool false, .slice none 0 0, .int .i64 0, .slice none 0 0, .slice none 0 0, .slice none 0 0],rfl,rfl,⟨[.bool false, .slice none 0 0, .bool false, .slice none 0 0],[.bool false, .slice none 0 0, .bool false, .slice none 0 0, .int .i64 0, .slice none 0 0, .slice none 0 0, .slice none 0 0],rfl,⟨[.bool false, .slice none 0 0],[.bool false, .slice none 0 0],rfl,⟨[.bool false],[.slice none 0 0],rfl,rfl,⟨none,0,0,rfl,⟨⟨rfl,Nat.le_refl _,Nat.zero_le _,fun _=>rfl,fun h=>absurd h qO⟩,fun h=>absurd h qO⟩,fun _ h=>by cases h⟩⟩,⟨[.bool false],[.slice none 0 0],rfl,rfl,⟨none,0,0,rfl,⟨⟨rfl,Nat.le_refl _,Nat.zero_le _,fun _=>rfl,fun h=>absurd h qO⟩,fun h=>absurd h qO⟩,fun _ h=>by cases h⟩⟩⟩,⟨[.bool false, .slice none 0 0, .bool false, .slice none 0 0],[.int .i64 0, .slice none 0 0, .slice none 0 0, .slice none 0 0],rfl,⟨[.bool false, .slice none 0 0],[.bool false, .slice none 0 0],rfl,⟨[.bool false],[.slice none 0 0],rfl,rfl,⟨none,0,0,rfl,⟨⟨rfl,Nat.le_refl _,Nat.zero_le _,fun _=>rfl,fun h=>absurd h qO⟩,fun h=>absurd h qO⟩,fun _ h=>by cases h⟩⟩,⟨[.bool false],[.slice none 0 0],rfl,rfl,⟨none,0,0,rfl,⟨⟨rfl,Nat.le_refl _,Nat.zero_le _,fun _=>rfl,fun h=>absurd h qO⟩,fun h=>absurd h qO⟩,fun _ h=>by cases h⟩⟩⟩,⟨[.int .i64 0],[.slice none 0 0, .slice none 0 0, .slice none 0 0],rfl,rfl,⟨[.slice none 0 0],[.slice none 0 0, .slice none 0 0],rfl,⟨none,0,0,rfl,rfl,Nat.le_refl _,Nat.zero_le _,fun _=>rfl,fun h=>absurd h qO⟩,⟨[.slice none 0 0],[.slice none 0 0],rfl,⟨none,0,0,rfl,rfl,Nat.le_refl _,Nat.zero_le _,fun _=>rfl,fun h=>absurd h qO⟩,⟨none,0,0,rfl,rfl,Nat.le_refl _,Nat.zero_le _,fun _=>rfl,fun h=>absurd h qO⟩⟩⟩⟩⟩⟩⟩⟩⟩⟩⟩⟩⟩⟩
instance:fw Tryz.prog 44 25 true:=⟨⟨_,Tryz.underlying44,rfl⟩,by kernel_rfl⟩
instance:ay Tryz.prog 44 0 0 1 false:=⟨⟨_,_,Tryz.underlying44,rfl,rfl,by kernel_rfl,by decide,_,Tryz.underlying9,rfl⟩⟩
instance:ay Tryz.prog 44 1 1 1 false:=⟨⟨_,_,Tryz.underlying44,rfl,rfl,by kernel_rfl,by decide,_,Tryz.underlying9,rfl⟩⟩
instance:ay Tryz.prog 44 2 2 1 false:=⟨⟨_,_,Tryz.underlying44,rfl,rfl,by kernel_rfl,by decide,_,Tryz.underlying37,rfl⟩⟩
instance:ay Tryz.prog 44 3 3 4 true:=⟨⟨_,_,Tryz.underlying44,rfl,rfl,by kernel_rfl,by decide,_,Tryz.underlying40,rfl⟩⟩
instance:ay Tryz.prog 44 4 7 4 true:=⟨⟨_,_,Tryz.underlying44,rfl,rfl,by kernel_rfl,by decide,_,Tryz.underlying40,rfl⟩⟩
instance:ay Tryz.prog 44 5 11 1 false:=⟨⟨_,_,Tryz.underlying44,rfl,rfl,by kernel_rfl,by decide,_,Tryz.underlying3,rfl⟩⟩
instance:ay Tryz.prog 44 6 12 1 false:=⟨⟨_,_,Tryz.underlying44,rfl,rfl,by kernel_rfl,by decide,_,Tryz.underlying3,rfl⟩⟩
instance:ay Tryz.prog 44 7 13 4 true:=⟨⟨_,_,Tryz.underlying44,rfl,rfl,by kernel_rfl,by decide,_,Tryz.underlying40,rfl⟩⟩
instance:ay Tryz.prog 44 8 17 4 true:=⟨⟨_,_,Tryz.underlying44,rfl,rfl,by kernel_rfl,by decide,_,Tryz.underlying40,rfl⟩⟩
instance:ay Tryz.prog 44 9 21 1 false:=⟨⟨_,_,Tryz.underlying44,rfl,rfl,by kernel_rfl,by decide,_,Tryz.underlying3,rfl⟩⟩
instance:ay Tryz.prog 44 10 22 1 false:=⟨⟨_,_,Tryz.underlying44,rfl,rfl,by kernel_rfl,by decide,_,Tryz.underlying41,rfl⟩⟩
instance:ay Tryz.prog 44 11 23 1 false:=⟨⟨_,_,Tryz.underlying44,rfl,rfl,by kernel_rfl,by decide,_,Tryz.underlying29,rfl⟩⟩
instance:ay Tryz.prog 44 12 24 1 false:=⟨⟨_,_,Tryz.underlying44,rfl,rfl,by kernel_rfl,by decide,_,Tryz.underlying42,rfl⟩⟩
theorem nF:bu Tryz.prog 32 ai:=bu.strct Tryz.underlying32 (.cons (bu.str Tryz.underlying9 qK) rfl rfl (.cons (bu.str Tryz.underlying9 qK) rfl rfl (.cons (bu.row Tryz.underlying22 rj qK qD) rfl rfl (.cons fH rfl rfl (.cons fH rfl rfl (.cons (bu.int Tryz.underlying3 qK) rfl rfl (.cons (bu.int Tryz.underlying3 qK) rfl rfl (.cons fH rfl rfl (.cons fH rfl rfl (.cons (bu.int Tryz.underlying3 qK) rfl rfl (.cons (bu.row Tryz.underlying28 uD qK qD) rfl rfl (.cons (bu.row Tryz.underlying29 (bu.str Tryz.underlying9 qK) qK qD) rfl rfl (.one (bu.row Tryz.underlying30 xe qK qD) rfl))))))))))))) qK
abbrev l9:=(Int)×(Int)×(Int)
abbrev dK:Rp l9:=((Rp.int .u8).pair (((Rp.int .i64).pair ((Rp.int .i64)))))
instance:KC dK 3:=⟨rfl⟩
instance:bk dK 0 (Rp.int .u8) (fun a=>a.1):=bk.fst
instance:aj dK 0 (Rp.int .u8) (fun a b=>(b,a.2)):=aj.fst
instance {a:l9}:am (.ra dK a) 0 1 false (.is (.int .u8 a.1)):=am.cell inferInstance ⟨rfl⟩ inferInstance
instance:bk dK 1 (Rp.int .i64) (fun a=>a.2.1):=(bk.tail (n:=1) ⟨rfl⟩ bk.fst rfl)
instance:aj dK 1 (Rp.int .i64) (fun a b=>(a.1,(b,a.2.2))):=(aj.tail (n:=1) ⟨rfl⟩ aj.fst rfl)
instance {a:l9}:am (.ra dK a) 1 1 false (.is (.int .i64 a.2.1)):=am.cell inferInstance ⟨rfl⟩ inferInstance
instance:bk dK 2 (Rp.int .i64) (fun a=>a.2.2):=(bk.tail (n:=2) ⟨rfl⟩ (bk.tail (n:=1) ⟨rfl⟩ bk.self rfl) rfl)
instance:aj dK 2 (Rp.int .i64) (fun a b=>(a.1,(a.2.1,b))):=(aj.tail (n:=2) ⟨rfl⟩ (aj.tail (n:=1) ⟨rfl⟩ aj.self rfl) rfl)
instance {a:l9}:am (.ra dK a) 2 1 false (.is (.int .i64 a.2.2)):=am.cell inferInstance ⟨rfl⟩ inferInstance
instance:fw Tryz.prog 71 3 true:=⟨⟨_,Tryz.underlying71,rfl⟩,by kernel_rfl⟩
instance:ay Tryz.prog 71 0 0 1 false:=⟨⟨_,_,Tryz.underlying71,rfl,rfl,by kernel_rfl,by decide,_,Tryz.underlying5,rfl⟩⟩
instance:ay Tryz.prog 71 1 1 1 false:=⟨⟨_,_,Tryz.underlying71,rfl,rfl,by kernel_rfl,by decide,_,Tryz.underlying3,rfl⟩⟩
instance:ay Tryz.prog 71 2 2 1 false:=⟨⟨_,_,Tryz.underlying71,rfl,rfl,by kernel_rfl,by decide,_,Tryz.underlying3,rfl⟩⟩
theorem lc:eH Tryz.prog 71 dK (0,0,0):=⟨by
 obtain ⟨i,h1,h2,h3,h4⟩:∃ i,Tryz.prog.info? 71=some i∧i.zero=some (.agg #[.int .u8 0, .int .i64 0, .int .i64 0])∧i.size=3∧i.bytes=24:=info_parts qK
 refine ⟨_,i,_,Tryz.underlying71,(fun f hf=> ?_),h1,h2,fun w S=> ?_⟩
 ·simp only [List.mem_cons,List.not_mem_nil,or_false] at hf
  rcases hf with rfl|rfl|rfl<;>exact Option.isSome_iff_exists.1 qK
 ·exact ⟨[.int .u8 0],[.int .i64 0, .int .i64 0],rfl,rfl,⟨[.int .i64 0],[.int .i64 0],rfl,rfl,rfl⟩⟩⟩
instance:fw Tryz.prog 129 3 true:=⟨⟨_,Tryz.underlying129,rfl⟩,by kernel_rfl⟩
instance:ay Tryz.prog 129 0 0 1 false:=⟨⟨_,_,Tryz.underlying129,rfl,rfl,by kernel_rfl,by decide,_,Tryz.underlying5,rfl⟩⟩
instance:ay Tryz.prog 129 1 1 1 false:=⟨⟨_,_,Tryz.underlying129,rfl,rfl,by kernel_rfl,by decide,_,Tryz.underlying3,rfl⟩⟩
instance:ay Tryz.prog 129 2 2 1 false:=⟨⟨_,_,Tryz.underlying129,rfl,rfl,by kernel_rfl,by decide,_,Tryz.underlying3,rfl⟩⟩
theorem jH:∀ (ds:List Value) (w:World) (r o:Nat) (cs:List Value) (ty:TypeId),w.heap[r]? =some (.cells cs.toArray ty (0,0))→o+ds.length≤cs.length→w.setCells r o ds=w.setRow r (cs.take o++ds++cs.drop (o+ds.length)).toArray
 |[],w,r,o,cs,ty,h,hl=>by
  rw [List.append_nil,List.length_nil,Nat.add_zero,List.take_append_drop,setRow_self w r _ ty (0,0) h]
  rfl
 |v::ds,w,r,o,cs,ty,h,hl=>by
  rw [List.length_cons] at hl
  have hs:(cs.toArray.setIfInBounds o v)=(cs.set o v).toArray:=by simp
  show (w.setCell ⟨r,o,none⟩ v).setCells r (o+1) ds=_
  rw [setCell_eq_setRow w r o cs.toArray ty (0,0) v h,hs,jH ds (w.setRow r (cs.set o v).toArray) r (o+1) (cs.set o v) ty (setRow_heap w r _ _ ty _ h) (by rw [List.length_set];omega),setRow_setRow]
  congr 2
  rw [List.length_cons,show o+1+ds.length=o+(ds.length+1) by omega,List.drop_set_of_lt qO,List.append_assoc,List.append_assoc]
  rw [List.take_succ_eq_append_getElem (by rw [List.length_set];omega),List.getElem_set_self,List.take_set_of_le (Nat.le_refl o)]
  simp
theorem eH.al {α:Type} {P:Program} {ty:TypeId} {r:Rp α} {a:α} (z:eH P ty r a):dq P ty (.ra r a):=by
 obtain ⟨fs,i,zs,hu,hf,hi,hz,hr⟩:=z.ok
 refine ⟨.agg zs,fun X w=>⟨zs.toList,by simp,hr w _⟩,fun o ρ w e=> ?_⟩
 have hze:(zeroValue ty).run P w= .ok (.agg zs) w:=by simp [zeroValue,typeInfo,hi,hz]
 cases o with
 |mk dst op t pos af gd=>
  have e':op=_:=e
  subst e'
  unfold execOp
  simp [Instr.alloc,newVar,newRow,Sem.run_bind,hze,Result.andThen_ok]
section
variable {P:Program} {w00:World} {X:List Nat} {L L':List Loc} {E:List (Nat×aa)} {n:Nat} {ops:Array Oper} {rest:List Oper} {Q:Exit→Act→World→Prop} {cs:List Code} {t0:TypeId} {pos:String} {af:Array Edge}
theorem gR {α β:Type} {r':Rp β} {rr:Rp α} {a:α} {b:β} {u:α→β→α} {ty:TypeId} {s r off k:Nat} {o:Operand} {T:aa} {ag:Bool} [hs:co E s (.is (.pointer (some ⟨r,off,none⟩)))] [hl:oJ L r (.ra rr a)] [sr:aj rr off r' u] [ho:cT E o T] [ap:zS T r' b] [hu:jD L r (.ra rr a) (.ra rr (u a b)) L'] [kc:KC r' k] [hty:fw P ty k ag]
 (h:GR P w00 X L' E n ops rest cs Q):GR P w00 X L E n ops (⟨none, .store ty (.tmp s) o,t0,pos,af,none⟩::rest) cs Q:=⟨fun ac w ht=>by
 refine eu rfl ?_
 have e1:ac.eval (.tmp s)= .pointer (some ⟨r,off,none⟩):=ht.slots _ hs.mem
 obtain ⟨ds,hd1,hd2⟩:=ap.ok (ho.get (X:=X) (w:=w) (ρ:=ac.eval) (fun _=>rfl) fun p hp _=>ht.slots p hp)
 obtain ⟨g1,g2,v,ty',g3,g4⟩:=ht.mem.loc _ hu.upd.mem
 obtain ⟨cs0,hc1,hc2⟩:=g3
 rw [hc1] at g4
 replace g4:w.heap[r]? =some (.cells cs0.toArray ty' (0,0)):=g4
 obtain ⟨hle,hr⟩:=sr.ok hc2 hd2
 have hlc:=rr.len hc2
 have hld:=r'.len hd2
 have hk:=kc.ok
 have hone:∀ x∈ds,x.oneCell'=true:=r'.one hd2
 have hv2:ac.eval o= .agg ds.toArray∨(ac.eval o).cells=ds.toArray:= .inr hd1
 have hsv:(storeVar ty ⟨r,off,none⟩ (ac.eval o)).run P w= .ok () (w.setRow r (cs0.take off++ds++cs0.drop (off+ds.length)).toArray):=by
  have:=run_storeVar_mid (P:=P) w r off ty ds.toArray (fun j hj=>by
   have hj:j<ds.length:=by simpa using hj
   refine ⟨?_,by simp [World.frozen?,g4]⟩
   rw [gb (u:=cs0[off+j]' qO) g4 (by simp [show off+j<cs0.length by omega])]
   rfl) (by rw [hty.size];simp [hld,hk]) (all_oneCell_toArray hone)
  rw [←jH ds w r off cs0 ty' g4 qO]
  rw [←this]
  unfold storeVar
  rw [hd1]
  rfl
 unfold Oper.wp execOp
 simp only [e1,Instr.storeAt,Instr.sureAddr,Sem.run_bind,Sem.run_pure,Result.andThen_ok,hsv]
 have hw:=ht.write (T:= .ra rr (u a b)) (k:=0) (k0:=0) (ag:=true) (ag0:=true) (v:= .agg (cs0.take off++ds++cs0.drop (off+ds.length)).toArray) hu.upd ⟨_,rfl,by rw [hld];exact hr⟩
 exact h.run ac _ hw⟩
end
def BJ (c:UInt8):Bool:=(decide (97≤c.toNat)&&decide (c.toNat≤122)) || (decide (65≤c.toNat)&&decide (c.toNat≤90))
def Gg (c:UInt8):Bool:=BJ c || (decide (48≤c.toNat)&&decide (c.toNat≤57)) || c.toNat==95 || c.toNat==45
def dF (l:List UInt8):Bool:=(match l with|[]=>false|c::_=>BJ c)&&l.all Gg&&decide (l.length≤32)
def fi (k:Nat) (x:aP):Bool:=nS x&&decide (k%(qv x).den=0)
def lu:Rat:=((1000000000000000:Int):Rat)*((1000000000000000:Int):Rat)
def md (x:aP):Bool:=fi 100 x&&decide (eS (qv x) lu<0)&&decide (eS (-qv x) lu<0)
def nj (k:Int) (x:aP):Bool:=decide (0≤eS (qv x) 0)&&decide (eS (qv x) (k:Rat)≤0)
def k8 (x:aP):Bool:=fi 1000000 x&&nj 1 x
def iK (n a b:Int):Bool:=decide (a≤n)&&decide (n≤b)
def ib (b:cM):Bool:=md b.1&&k8 b.2
def tZ (k:Int) (x:aP):Bool:=bif k==4 then k8 x else bif k==5 then md x else bif k==6 then fi 1 x&&nj 40 x else eS (qv x) 0==0
def ij (c:ct):Bool:=dF c.1&&iK c.2.1 1 11&&tZ c.2.1 c.2.2
def pd (y:bw):Bool:=iK y.1 1 9999
def jX (h:ft):Bool:=dF h.1&&dF h.2.1&&k8 h.2.2
def jR (b:fg):Bool:=dF b.1&&dF b.2.1&&md b.2.2
def jU (d:eo):Bool:=dF d.2.1&&iK d.2.2.1 1 4&&dF d.2.2.2.1&&dF d.2.2.2.2.1&&dF d.2.2.2.2.2.1&&md d.2.2.2.2.2.2
def ie (s:dI):Bool:=dF s.1&&md s.2.1&&k8 s.2.2
def jS (s:eX):Bool:=dF s.1&&k8 s.2
def brk {α:Type} (p:α→Bool) (most:Nat):Nat→List α→Int×Int
 |_,[]=>(0,0)
 |i,x::l=>if i=most then ((i:Int),3) else bif p x then brk p most (i+1) l else ((i:Int),2)
def nI:Nat→List Bool→Int
 |_,[]=> -1
 |i,b::l=>bif b then nI (i+1) l else (i:Int)
def p7 (d:aI):List Bool:=[k8 d.2.2.2.1,k8 d.2.2.2.2.1,k8 d.2.2.2.2.2.2.2.1,iK d.2.2.2.2.2.1 0 3,iK d.2.2.2.2.2.2.1 0 40,iK d.2.2.2.2.2.2.2.2.2.1 0 40,md d.2.2.2.2.2.2.2.2.1]
def uv (d:aI):Int×Int:=bif decide (0≤nI 0 (p7 d)) then (nI 0 (p7 d),2) else (0,0)
def lJ (d:aI):List (Int×Int×Int):=[(1,brk dF 2 0 [d.1,d.2.1]),(2,brk ib 16 0 d.2.2.1),(3,uv d),(4,brk ij 64 0 d.2.2.2.2.2.2.2.2.2.2.1),(5,brk dF 256 0 d.2.2.2.2.2.2.2.2.2.2.2.1),(6,brk pd 40 0 d.2.2.2.2.2.2.2.2.2.2.2.2)]
def ig (y:bw):List (Int×Int×Int):=[(7,brk jX 4096 0 y.2.1),(8,brk jR 4096 0 y.2.2.1),(9,brk jU 4096 0 y.2.2.2.1),(10,brk ie 4096 0 y.2.2.2.2.1),(11,brk jS 4096 0 y.2.2.2.2.2)]
abbrev GF:=(Int×Int×Int)×Int
def fI (year:Int):List (Int×Int×Int)→GF
 |[]=>((0,0,0),0)
 |(p,a,e)::t=>bif e==0 then fI year t else ((p,year,a),e)
def vK:Nat→List bw→GF
 |_,[]=>((0,0,0),0)
 |i,y::t=>bif (fI (i:Int) (ig y)).2==0 then vK (i+1) t else fI (i:Int) (ig y)
def js (d:aI):GF:=bif (fI (-1) (lJ d)).2==0 then vK 0 d.2.2.2.2.2.2.2.2.2.2.2.2 else fI (-1) (lJ d)
theorem mL {year:Int}:∀ {l:List (Int×Int×Int)},(fI year l).2=0→fI year l=((0,0,0),0)
 |[],_=>rfl
 |(p,a,e)::t,h=>by
  unfold fI at h ⊢
  cases he:(e==0)
  ·rw [he] at h
   have:e=0:=h
   rw [this] at he;cases he
  ·rw [he] at h
   exact mL h
end Go.Proofs.YtjjkikchncfekaaGreatDoor
