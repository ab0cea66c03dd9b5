/- What the walks want of ast's and tallageref08's structs. Written by gen_wc.py. -/
import Derived.Test.YtgnggldjjjkogaaGreatDoorGM
import Derived.Test.YtgnggldjjjkogaaGreatDoorGK
import Derived.Test.YtgnggldjjjkogaaGreatDoorGH
import Derived.Laws.CopyRow
set_option linter.unusedSimpArgs false
set_option linter.unusedVariables false
namespace Go.Proofs.YtgnggldjjjkogaaGreatDoor
open Go Go.ChangeShapes Go.WideShapes Go.ChangeAt Go.RowKit Go.Deep
instance:KC Rp.frac 4:=⟨rfl⟩
instance {b:Bool}:ScalC Rp.bool b (.is (.bool b)):=⟨fun h=>by
 injection (show [_]=[_] from h) with e _⟩
abbrev TyBracket:=(RawQ)×(RawQ)
abbrev rpBracket:Rp TyBracket:=Rp.frac.pair (Rp.frac)
instance:KC rpBracket 8:=⟨rfl⟩
instance:FaC rpBracket 0 Rp.frac (fun a=>a.1):=FaC.fst
instance:SetR rpBracket 0 Rp.frac (fun a b=>(b,a.2)):=SetR.fst
instance {a:TyBracket}:PartC (.ra rpBracket a) 0 4 true (.ra Rp.frac a.1):=PartC.agg (g:=fun (a:TyBracket)=>a.1) inferInstance ⟨rfl⟩
instance:FaC rpBracket 4 Rp.frac (fun a=>a.2):=(FaC.tail (n:=4) ⟨rfl⟩ FaC.self rfl)
instance:SetR rpBracket 4 Rp.frac (fun a b=>(a.1,b)):=(SetR.tail (n:=4) ⟨rfl⟩ SetR.self rfl)
instance {a:TyBracket}:PartC (.ra rpBracket a) 4 4 true (.ra Rp.frac a.2):=PartC.agg (g:=fun (a:TyBracket)=>a.2) inferInstance ⟨rfl⟩
instance:TyC Tryz.prog 98 8 true:=⟨⟨_,Tryz.underlying98,rfl⟩,by kernel_rfl⟩
instance:FieldC Tryz.prog 98 0 0 4 true:=⟨⟨_,_,Tryz.underlying98,rfl,rfl,by kernel_rfl,by decide,_,Tryz.underlying26,rfl⟩⟩
instance:FieldC Tryz.prog 98 1 4 4 true:=⟨⟨_,_,Tryz.underlying98,rfl,rfl,by kernel_rfl,by decide,_,Tryz.underlying26,rfl⟩⟩
theorem zero_astBracket:ZeroS Tryz.prog 98 rpBracket (((false,[]),(false,[])),((false,[]),(false,[]))):=⟨by
 obtain ⟨i,h1,h2,h3,h4⟩:∃ i,Tryz.prog.info? 98=some i∧i.zero=some (.agg #[.bool false, .slice none 0 0, .bool false, .slice none 0 0, .bool false, .slice none 0 0, .bool false, .slice none 0 0])∧i.size=8∧i.bytes=128:=info_parts (by kernel_rfl)
 refine ⟨_,i,_,Tryz.underlying98,(fun f hf=> ?_),h1,h2,fun w S=> ?_⟩
 ·simp only [List.mem_cons,List.not_mem_nil,or_false] at hf
  rcases hf with rfl|rfl<;>exact Option.isSome_iff_exists.1 (by kernel_rfl)
 ·exact ⟨[.bool false, .slice none 0 0, .bool false, .slice none 0 0],[.bool false, .slice none 0 0, .bool false, .slice none 0 0],rfl,⟨[.bool false, .slice none 0 0],[.bool false, .slice none 0 0],rfl,⟨[.bool false],[.slice none 0 0],rfl,rfl,⟨none,0,0,rfl,⟨⟨rfl,Nat.le_refl _,Nat.zero_le _,fun _=>rfl,fun h=>absurd h (by omega)⟩,fun h=>absurd h (by omega)⟩,fun _ h=>by cases h⟩⟩,⟨[.bool false],[.slice none 0 0],rfl,rfl,⟨none,0,0,rfl,⟨⟨rfl,Nat.le_refl _,Nat.zero_le _,fun _=>rfl,fun h=>absurd h (by omega)⟩,fun h=>absurd h (by omega)⟩,fun _ h=>by cases h⟩⟩⟩,⟨[.bool false, .slice none 0 0],[.bool false, .slice none 0 0],rfl,⟨[.bool false],[.slice none 0 0],rfl,rfl,⟨none,0,0,rfl,⟨⟨rfl,Nat.le_refl _,Nat.zero_le _,fun _=>rfl,fun h=>absurd h (by omega)⟩,fun h=>absurd h (by omega)⟩,fun _ h=>by cases h⟩⟩,⟨[.bool false],[.slice none 0 0],rfl,rfl,⟨none,0,0,rfl,⟨⟨rfl,Nat.le_refl _,Nat.zero_le _,fun _=>rfl,fun h=>absurd h (by omega)⟩,fun h=>absurd h (by omega)⟩,fun _ h=>by cases h⟩⟩⟩⟩⟩
instance:TyC Tryz.prog 36 1 false:=⟨⟨_,Tryz.underlying36,rfl⟩,by kernel_rfl⟩
instance:SliceC Tryz.prog 36 8:=⟨⟨_,Tryz.underlying36,by kernel_rfl⟩⟩
theorem els_astBracket:ElS Tryz.prog 36 98 8:=⟨Tryz.underlying36,by
 obtain ⟨i,h1,h2,h3,h4⟩:∃ i,Tryz.prog.info? 98=some i∧i.zero=some (.agg #[.bool false, .slice none 0 0, .bool false, .slice none 0 0, .bool false, .slice none 0 0, .bool false, .slice none 0 0])∧i.size=8∧i.bytes=128:=info_parts (by kernel_rfl)
 exact ⟨i,_,h1,h2,h3,rfl⟩⟩
instance:TyC Tryz.prog 100 8 true:=⟨⟨_,Tryz.underlying100,rfl⟩,by kernel_rfl⟩
instance:FieldC Tryz.prog 100 0 0 4 true:=⟨⟨_,_,Tryz.underlying100,rfl,rfl,by kernel_rfl,by decide,_,Tryz.underlying30,rfl⟩⟩
instance:FieldC Tryz.prog 100 1 4 4 true:=⟨⟨_,_,Tryz.underlying100,rfl,rfl,by kernel_rfl,by decide,_,Tryz.underlying30,rfl⟩⟩
instance:TyC Tryz.prog 43 1 false:=⟨⟨_,Tryz.underlying43,rfl⟩,by kernel_rfl⟩
instance:SliceC Tryz.prog 43 8:=⟨⟨_,Tryz.underlying43,by kernel_rfl⟩⟩
theorem open_Bracket:OpenR Tryz.prog 98 rpBracket:=OpenR.strct Tryz.underlying98 (.cons openRat rfl rfl (.one openRat rfl)) (by kernel_rfl)
abbrev TyClass:=(List UInt8)×(Int)×(RawQ)
abbrev rpClass:Rp TyClass:=Rp.str.pair (((Rp.int .u8).pair (Rp.frac)))
instance:KC rpClass 6:=⟨rfl⟩
instance:FaC rpClass 0 Rp.str (fun a=>a.1):=FaC.fst
instance:SetR rpClass 0 Rp.str (fun a b=>(b,a.2)):=SetR.fst
instance {a:TyClass}:PartC (.ra rpClass a) 0 1 false (.is (Tx a.1)):=PartC.cell inferInstance ⟨rfl⟩ inferInstance
instance:FaC rpClass 1 (Rp.int .u8) (fun a=>a.2.1):=(FaC.tail (n:=1) ⟨rfl⟩ FaC.fst rfl)
instance:SetR rpClass 1 (Rp.int .u8) (fun a b=>(a.1,(b,a.2.2))):=(SetR.tail (n:=1) ⟨rfl⟩ SetR.fst rfl)
instance {a:TyClass}:PartC (.ra rpClass a) 1 1 false (.is (.int .u8 a.2.1)):=PartC.cell inferInstance ⟨rfl⟩ inferInstance
instance:FaC rpClass 2 Rp.frac (fun a=>a.2.2):=(FaC.tail (n:=2) ⟨rfl⟩ (FaC.tail (n:=1) ⟨rfl⟩ FaC.self rfl) rfl)
instance:SetR rpClass 2 Rp.frac (fun a b=>(a.1,(a.2.1,b))):=(SetR.tail (n:=2) ⟨rfl⟩ (SetR.tail (n:=1) ⟨rfl⟩ SetR.self rfl) rfl)
instance {a:TyClass}:PartC (.ra rpClass a) 2 4 true (.ra Rp.frac a.2.2):=PartC.agg (g:=fun (a:TyClass)=>a.2.2) inferInstance ⟨rfl⟩
instance:TyC Tryz.prog 102 6 true:=⟨⟨_,Tryz.underlying102,rfl⟩,by kernel_rfl⟩
instance:FieldC Tryz.prog 102 0 0 1 false:=⟨⟨_,_,Tryz.underlying102,rfl,rfl,by kernel_rfl,by decide,_,Tryz.underlying9,rfl⟩⟩
instance:FieldC Tryz.prog 102 1 1 1 false:=⟨⟨_,_,Tryz.underlying102,rfl,rfl,by kernel_rfl,by decide,_,Tryz.underlying5,rfl⟩⟩
instance:FieldC Tryz.prog 102 2 2 4 true:=⟨⟨_,_,Tryz.underlying102,rfl,rfl,by kernel_rfl,by decide,_,Tryz.underlying26,rfl⟩⟩
theorem zero_astClass:ZeroS Tryz.prog 102 rpClass ([],0,((false,[]),(false,[]))):=⟨by
 obtain ⟨i,h1,h2,h3,h4⟩:∃ i,Tryz.prog.info? 102=some i∧i.zero=some (.agg #[Tx [], .int .u8 0, .bool false, .slice none 0 0, .bool false, .slice none 0 0])∧i.size=6∧i.bytes=88:=info_parts (by kernel_rfl)
 refine ⟨_,i,_,Tryz.underlying102,(fun f hf=> ?_),h1,h2,fun w S=> ?_⟩
 ·simp only [List.mem_cons,List.not_mem_nil,or_false] at hf
  rcases hf with rfl|rfl|rfl<;>exact Option.isSome_iff_exists.1 (by kernel_rfl)
 ·exact ⟨[Tx []],[.int .u8 0, .bool false, .slice none 0 0, .bool false, .slice none 0 0],rfl,⟨_,rfl,data_mk []⟩,⟨[.int .u8 0],[.bool false, .slice none 0 0, .bool false, .slice none 0 0],rfl,rfl,⟨[.bool false, .slice none 0 0],[.bool false, .slice none 0 0],rfl,⟨[.bool false],[.slice none 0 0],rfl,rfl,⟨none,0,0,rfl,⟨⟨rfl,Nat.le_refl _,Nat.zero_le _,fun _=>rfl,fun h=>absurd h (by omega)⟩,fun h=>absurd h (by omega)⟩,fun _ h=>by cases h⟩⟩,⟨[.bool false],[.slice none 0 0],rfl,rfl,⟨none,0,0,rfl,⟨⟨rfl,Nat.le_refl _,Nat.zero_le _,fun _=>rfl,fun h=>absurd h (by omega)⟩,fun h=>absurd h (by omega)⟩,fun _ h=>by cases h⟩⟩⟩⟩⟩⟩
instance:TyC Tryz.prog 37 1 false:=⟨⟨_,Tryz.underlying37,rfl⟩,by kernel_rfl⟩
instance:SliceC Tryz.prog 37 6:=⟨⟨_,Tryz.underlying37,by kernel_rfl⟩⟩
theorem els_astClass:ElS Tryz.prog 37 102 6:=⟨Tryz.underlying37,by
 obtain ⟨i,h1,h2,h3,h4⟩:∃ i,Tryz.prog.info? 102=some i∧i.zero=some (.agg #[Tx [], .int .u8 0, .bool false, .slice none 0 0, .bool false, .slice none 0 0])∧i.size=6∧i.bytes=88:=info_parts (by kernel_rfl)
 exact ⟨i,_,h1,h2,h3,rfl⟩⟩
instance:TyC Tryz.prog 104 6 true:=⟨⟨_,Tryz.underlying104,rfl⟩,by kernel_rfl⟩
instance:FieldC Tryz.prog 104 0 0 1 false:=⟨⟨_,_,Tryz.underlying104,rfl,rfl,by kernel_rfl,by decide,_,Tryz.underlying9,rfl⟩⟩
instance:FieldC Tryz.prog 104 1 1 1 false:=⟨⟨_,_,Tryz.underlying104,rfl,rfl,by kernel_rfl,by decide,_,Tryz.underlying5,rfl⟩⟩
instance:FieldC Tryz.prog 104 2 2 4 true:=⟨⟨_,_,Tryz.underlying104,rfl,rfl,by kernel_rfl,by decide,_,Tryz.underlying30,rfl⟩⟩
instance:TyC Tryz.prog 44 1 false:=⟨⟨_,Tryz.underlying44,rfl⟩,by kernel_rfl⟩
instance:SliceC Tryz.prog 44 6:=⟨⟨_,Tryz.underlying44,by kernel_rfl⟩⟩
theorem open_Class:OpenR Tryz.prog 102 rpClass:=OpenR.strct Tryz.underlying102 (.cons (OpenR.str Tryz.underlying9 (by kernel_rfl)) rfl rfl (.cons (OpenR.int Tryz.underlying5 (by kernel_rfl)) rfl rfl (.one openRat rfl))) (by kernel_rfl)
abbrev TyHold:=(List UInt8)×(List UInt8)×(RawQ)
abbrev rpHold:Rp TyHold:=Rp.str.pair (Rp.str.pair (Rp.frac))
instance:KC rpHold 6:=⟨rfl⟩
instance:FaC rpHold 0 Rp.str (fun a=>a.1):=FaC.fst
instance:SetR rpHold 0 Rp.str (fun a b=>(b,a.2)):=SetR.fst
instance {a:TyHold}:PartC (.ra rpHold a) 0 1 false (.is (Tx a.1)):=PartC.cell inferInstance ⟨rfl⟩ inferInstance
instance:FaC rpHold 1 Rp.str (fun a=>a.2.1):=(FaC.tail (n:=1) ⟨rfl⟩ FaC.fst rfl)
instance:SetR rpHold 1 Rp.str (fun a b=>(a.1,(b,a.2.2))):=(SetR.tail (n:=1) ⟨rfl⟩ SetR.fst rfl)
instance {a:TyHold}:PartC (.ra rpHold a) 1 1 false (.is (Tx a.2.1)):=PartC.cell inferInstance ⟨rfl⟩ inferInstance
instance:FaC rpHold 2 Rp.frac (fun a=>a.2.2):=(FaC.tail (n:=2) ⟨rfl⟩ (FaC.tail (n:=1) ⟨rfl⟩ FaC.self rfl) rfl)
instance:SetR rpHold 2 Rp.frac (fun a b=>(a.1,(a.2.1,b))):=(SetR.tail (n:=2) ⟨rfl⟩ (SetR.tail (n:=1) ⟨rfl⟩ SetR.self rfl) rfl)
instance {a:TyHold}:PartC (.ra rpHold a) 2 4 true (.ra Rp.frac a.2.2):=PartC.agg (g:=fun (a:TyHold)=>a.2.2) inferInstance ⟨rfl⟩
instance:TyC Tryz.prog 147 6 true:=⟨⟨_,Tryz.underlying147,rfl⟩,by kernel_rfl⟩
instance:FieldC Tryz.prog 147 0 0 1 false:=⟨⟨_,_,Tryz.underlying147,rfl,rfl,by kernel_rfl,by decide,_,Tryz.underlying9,rfl⟩⟩
instance:FieldC Tryz.prog 147 1 1 1 false:=⟨⟨_,_,Tryz.underlying147,rfl,rfl,by kernel_rfl,by decide,_,Tryz.underlying9,rfl⟩⟩
instance:FieldC Tryz.prog 147 2 2 4 true:=⟨⟨_,_,Tryz.underlying147,rfl,rfl,by kernel_rfl,by decide,_,Tryz.underlying26,rfl⟩⟩
theorem zero_astHold:ZeroS Tryz.prog 147 rpHold ([],[],((false,[]),(false,[]))):=⟨by
 obtain ⟨i,h1,h2,h3,h4⟩:∃ i,Tryz.prog.info? 147=some i∧i.zero=some (.agg #[Tx [],Tx [], .bool false, .slice none 0 0, .bool false, .slice none 0 0])∧i.size=6∧i.bytes=96:=info_parts (by kernel_rfl)
 refine ⟨_,i,_,Tryz.underlying147,(fun f hf=> ?_),h1,h2,fun w S=> ?_⟩
 ·simp only [List.mem_cons,List.not_mem_nil,or_false] at hf
  rcases hf with rfl|rfl|rfl<;>exact Option.isSome_iff_exists.1 (by kernel_rfl)
 ·exact ⟨[Tx []],[Tx [], .bool false, .slice none 0 0, .bool false, .slice none 0 0],rfl,⟨_,rfl,data_mk []⟩,⟨[Tx []],[.bool false, .slice none 0 0, .bool false, .slice none 0 0],rfl,⟨_,rfl,data_mk []⟩,⟨[.bool false, .slice none 0 0],[.bool false, .slice none 0 0],rfl,⟨[.bool false],[.slice none 0 0],rfl,rfl,⟨none,0,0,rfl,⟨⟨rfl,Nat.le_refl _,Nat.zero_le _,fun _=>rfl,fun h=>absurd h (by omega)⟩,fun h=>absurd h (by omega)⟩,fun _ h=>by cases h⟩⟩,⟨[.bool false],[.slice none 0 0],rfl,rfl,⟨none,0,0,rfl,⟨⟨rfl,Nat.le_refl _,Nat.zero_le _,fun _=>rfl,fun h=>absurd h (by omega)⟩,fun h=>absurd h (by omega)⟩,fun _ h=>by cases h⟩⟩⟩⟩⟩⟩
instance:TyC Tryz.prog 86 1 false:=⟨⟨_,Tryz.underlying86,rfl⟩,by kernel_rfl⟩
instance:SliceC Tryz.prog 86 6:=⟨⟨_,Tryz.underlying86,by kernel_rfl⟩⟩
theorem els_astHold:ElS Tryz.prog 86 147 6:=⟨Tryz.underlying86,by
 obtain ⟨i,h1,h2,h3,h4⟩:∃ i,Tryz.prog.info? 147=some i∧i.zero=some (.agg #[Tx [],Tx [], .bool false, .slice none 0 0, .bool false, .slice none 0 0])∧i.size=6∧i.bytes=96:=info_parts (by kernel_rfl)
 exact ⟨i,_,h1,h2,h3,rfl⟩⟩
instance:TyC Tryz.prog 175 6 true:=⟨⟨_,Tryz.underlying175,rfl⟩,by kernel_rfl⟩
instance:FieldC Tryz.prog 175 0 0 1 false:=⟨⟨_,_,Tryz.underlying175,rfl,rfl,by kernel_rfl,by decide,_,Tryz.underlying9,rfl⟩⟩
instance:FieldC Tryz.prog 175 1 1 1 false:=⟨⟨_,_,Tryz.underlying175,rfl,rfl,by kernel_rfl,by decide,_,Tryz.underlying9,rfl⟩⟩
instance:FieldC Tryz.prog 175 2 2 4 true:=⟨⟨_,_,Tryz.underlying175,rfl,rfl,by kernel_rfl,by decide,_,Tryz.underlying30,rfl⟩⟩
instance:TyC Tryz.prog 105 1 false:=⟨⟨_,Tryz.underlying105,rfl⟩,by kernel_rfl⟩
instance:SliceC Tryz.prog 105 6:=⟨⟨_,Tryz.underlying105,by kernel_rfl⟩⟩
theorem open_Hold:OpenR Tryz.prog 147 rpHold:=OpenR.strct Tryz.underlying147 (.cons (OpenR.str Tryz.underlying9 (by kernel_rfl)) rfl rfl (.cons (OpenR.str Tryz.underlying9 (by kernel_rfl)) rfl rfl (.one openRat rfl))) (by kernel_rfl)
abbrev TyBook:=(List UInt8)×(List UInt8)×(RawQ)
abbrev rpBook:Rp TyBook:=Rp.str.pair (Rp.str.pair (Rp.frac))
instance:KC rpBook 6:=⟨rfl⟩
instance:FaC rpBook 0 Rp.str (fun a=>a.1):=FaC.fst
instance:SetR rpBook 0 Rp.str (fun a b=>(b,a.2)):=SetR.fst
instance {a:TyBook}:PartC (.ra rpBook a) 0 1 false (.is (Tx a.1)):=PartC.cell inferInstance ⟨rfl⟩ inferInstance
instance:FaC rpBook 1 Rp.str (fun a=>a.2.1):=(FaC.tail (n:=1) ⟨rfl⟩ FaC.fst rfl)
instance:SetR rpBook 1 Rp.str (fun a b=>(a.1,(b,a.2.2))):=(SetR.tail (n:=1) ⟨rfl⟩ SetR.fst rfl)
instance {a:TyBook}:PartC (.ra rpBook a) 1 1 false (.is (Tx a.2.1)):=PartC.cell inferInstance ⟨rfl⟩ inferInstance
instance:FaC rpBook 2 Rp.frac (fun a=>a.2.2):=(FaC.tail (n:=2) ⟨rfl⟩ (FaC.tail (n:=1) ⟨rfl⟩ FaC.self rfl) rfl)
instance:SetR rpBook 2 Rp.frac (fun a b=>(a.1,(a.2.1,b))):=(SetR.tail (n:=2) ⟨rfl⟩ (SetR.tail (n:=1) ⟨rfl⟩ SetR.self rfl) rfl)
instance {a:TyBook}:PartC (.ra rpBook a) 2 4 true (.ra Rp.frac a.2.2):=PartC.agg (g:=fun (a:TyBook)=>a.2.2) inferInstance ⟨rfl⟩
instance:TyC Tryz.prog 149 6 true:=⟨⟨_,Tryz.underlying149,rfl⟩,by kernel_rfl⟩
instance:FieldC Tryz.prog 149 0 0 1 false:=⟨⟨_,_,Tryz.underlying149,rfl,rfl,by kernel_rfl,by decide,_,Tryz.underlying9,rfl⟩⟩
instance:FieldC Tryz.prog 149 1 1 1 false:=⟨⟨_,_,Tryz.underlying149,rfl,rfl,by kernel_rfl,by decide,_,Tryz.underlying9,rfl⟩⟩
instance:FieldC Tryz.prog 149 2 2 4 true:=⟨⟨_,_,Tryz.underlying149,rfl,rfl,by kernel_rfl,by decide,_,Tryz.underlying26,rfl⟩⟩
theorem zero_astBook:ZeroS Tryz.prog 149 rpBook ([],[],((false,[]),(false,[]))):=⟨by
 obtain ⟨i,h1,h2,h3,h4⟩:∃ i,Tryz.prog.info? 149=some i∧i.zero=some (.agg #[Tx [],Tx [], .bool false, .slice none 0 0, .bool false, .slice none 0 0])∧i.size=6∧i.bytes=96:=info_parts (by kernel_rfl)
 refine ⟨_,i,_,Tryz.underlying149,(fun f hf=> ?_),h1,h2,fun w S=> ?_⟩
 ·simp only [List.mem_cons,List.not_mem_nil,or_false] at hf
  rcases hf with rfl|rfl|rfl<;>exact Option.isSome_iff_exists.1 (by kernel_rfl)
 ·exact ⟨[Tx []],[Tx [], .bool false, .slice none 0 0, .bool false, .slice none 0 0],rfl,⟨_,rfl,data_mk []⟩,⟨[Tx []],[.bool false, .slice none 0 0, .bool false, .slice none 0 0],rfl,⟨_,rfl,data_mk []⟩,⟨[.bool false, .slice none 0 0],[.bool false, .slice none 0 0],rfl,⟨[.bool false],[.slice none 0 0],rfl,rfl,⟨none,0,0,rfl,⟨⟨rfl,Nat.le_refl _,Nat.zero_le _,fun _=>rfl,fun h=>absurd h (by omega)⟩,fun h=>absurd h (by omega)⟩,fun _ h=>by cases h⟩⟩,⟨[.bool false],[.slice none 0 0],rfl,rfl,⟨none,0,0,rfl,⟨⟨rfl,Nat.le_refl _,Nat.zero_le _,fun _=>rfl,fun h=>absurd h (by omega)⟩,fun h=>absurd h (by omega)⟩,fun _ h=>by cases h⟩⟩⟩⟩⟩⟩
instance:TyC Tryz.prog 87 1 false:=⟨⟨_,Tryz.underlying87,rfl⟩,by kernel_rfl⟩
instance:SliceC Tryz.prog 87 6:=⟨⟨_,Tryz.underlying87,by kernel_rfl⟩⟩
theorem els_astBook:ElS Tryz.prog 87 149 6:=⟨Tryz.underlying87,by
 obtain ⟨i,h1,h2,h3,h4⟩:∃ i,Tryz.prog.info? 149=some i∧i.zero=some (.agg #[Tx [],Tx [], .bool false, .slice none 0 0, .bool false, .slice none 0 0])∧i.size=6∧i.bytes=96:=info_parts (by kernel_rfl)
 exact ⟨i,_,h1,h2,h3,rfl⟩⟩
instance:TyC Tryz.prog 177 6 true:=⟨⟨_,Tryz.underlying177,rfl⟩,by kernel_rfl⟩
instance:FieldC Tryz.prog 177 0 0 1 false:=⟨⟨_,_,Tryz.underlying177,rfl,rfl,by kernel_rfl,by decide,_,Tryz.underlying9,rfl⟩⟩
instance:FieldC Tryz.prog 177 1 1 1 false:=⟨⟨_,_,Tryz.underlying177,rfl,rfl,by kernel_rfl,by decide,_,Tryz.underlying9,rfl⟩⟩
instance:FieldC Tryz.prog 177 2 2 4 true:=⟨⟨_,_,Tryz.underlying177,rfl,rfl,by kernel_rfl,by decide,_,Tryz.underlying30,rfl⟩⟩
instance:TyC Tryz.prog 106 1 false:=⟨⟨_,Tryz.underlying106,rfl⟩,by kernel_rfl⟩
instance:SliceC Tryz.prog 106 6:=⟨⟨_,Tryz.underlying106,by kernel_rfl⟩⟩
theorem open_Book:OpenR Tryz.prog 149 rpBook:=OpenR.strct Tryz.underlying149 (.cons (OpenR.str Tryz.underlying9 (by kernel_rfl)) rfl rfl (.cons (OpenR.str Tryz.underlying9 (by kernel_rfl)) rfl rfl (.one openRat rfl))) (by kernel_rfl)
abbrev TyDeal:=(Bool)×(List UInt8)×(Int)×(List UInt8)×(List UInt8)×(List UInt8)×(RawQ)
abbrev rpDeal:Rp TyDeal:=Rp.bool.pair (Rp.str.pair (((Rp.int .u8).pair (Rp.str.pair (Rp.str.pair (Rp.str.pair (Rp.frac)))))))
instance:KC rpDeal 10:=⟨rfl⟩
instance:FaC rpDeal 0 Rp.bool (fun a=>a.1):=FaC.fst
instance:SetR rpDeal 0 Rp.bool (fun a b=>(b,a.2)):=SetR.fst
instance {a:TyDeal}:PartC (.ra rpDeal a) 0 1 false (.is (.bool a.1)):=PartC.cell inferInstance ⟨rfl⟩ inferInstance
instance:FaC rpDeal 1 Rp.str (fun a=>a.2.1):=(FaC.tail (n:=1) ⟨rfl⟩ FaC.fst rfl)
instance:SetR rpDeal 1 Rp.str (fun a b=>(a.1,(b,a.2.2))):=(SetR.tail (n:=1) ⟨rfl⟩ SetR.fst rfl)
instance {a:TyDeal}:PartC (.ra rpDeal a) 1 1 false (.is (Tx a.2.1)):=PartC.cell inferInstance ⟨rfl⟩ inferInstance
instance:FaC rpDeal 2 (Rp.int .u8) (fun a=>a.2.2.1):=(FaC.tail (n:=2) ⟨rfl⟩ (FaC.tail (n:=1) ⟨rfl⟩ FaC.fst rfl) rfl)
instance:SetR rpDeal 2 (Rp.int .u8) (fun a b=>(a.1,(a.2.1,(b,a.2.2.2)))):=(SetR.tail (n:=2) ⟨rfl⟩ (SetR.tail (n:=1) ⟨rfl⟩ SetR.fst rfl) rfl)
instance {a:TyDeal}:PartC (.ra rpDeal a) 2 1 false (.is (.int .u8 a.2.2.1)):=PartC.cell inferInstance ⟨rfl⟩ inferInstance
instance:FaC rpDeal 3 Rp.str (fun a=>a.2.2.2.1):=(FaC.tail (n:=3) ⟨rfl⟩ (FaC.tail (n:=2) ⟨rfl⟩ (FaC.tail (n:=1) ⟨rfl⟩ FaC.fst rfl) rfl) rfl)
instance:SetR rpDeal 3 Rp.str (fun a b=>(a.1,(a.2.1,(a.2.2.1,(b,a.2.2.2.2))))):=(SetR.tail (n:=3) ⟨rfl⟩ (SetR.tail (n:=2) ⟨rfl⟩ (SetR.tail (n:=1) ⟨rfl⟩ SetR.fst rfl) rfl) rfl)
instance {a:TyDeal}:PartC (.ra rpDeal a) 3 1 false (.is (Tx a.2.2.2.1)):=PartC.cell inferInstance ⟨rfl⟩ inferInstance
instance:FaC rpDeal 4 Rp.str (fun a=>a.2.2.2.2.1):=(FaC.tail (n:=4) ⟨rfl⟩ (FaC.tail (n:=3) ⟨rfl⟩ (FaC.tail (n:=2) ⟨rfl⟩ (FaC.tail (n:=1) ⟨rfl⟩ FaC.fst rfl) rfl) rfl) rfl)
instance:SetR rpDeal 4 Rp.str (fun a b=>(a.1,(a.2.1,(a.2.2.1,(a.2.2.2.1,(b,a.2.2.2.2.2)))))):=(SetR.tail (n:=4) ⟨rfl⟩ (SetR.tail (n:=3) ⟨rfl⟩ (SetR.tail (n:=2) ⟨rfl⟩ (SetR.tail (n:=1) ⟨rfl⟩ SetR.fst rfl) rfl) rfl) rfl)
instance {a:TyDeal}:PartC (.ra rpDeal a) 4 1 false (.is (Tx a.2.2.2.2.1)):=PartC.cell inferInstance ⟨rfl⟩ inferInstance
instance:FaC rpDeal 5 Rp.str (fun a=>a.2.2.2.2.2.1):=(FaC.tail (n:=5) ⟨rfl⟩ (FaC.tail (n:=4) ⟨rfl⟩ (FaC.tail (n:=3) ⟨rfl⟩ (FaC.tail (n:=2) ⟨rfl⟩ (FaC.tail (n:=1) ⟨rfl⟩ FaC.fst rfl) rfl) rfl) rfl) rfl)
instance:SetR rpDeal 5 Rp.str (fun a b=>(a.1,(a.2.1,(a.2.2.1,(a.2.2.2.1,(a.2.2.2.2.1,(b,a.2.2.2.2.2.2))))))):=(SetR.tail (n:=5) ⟨rfl⟩ (SetR.tail (n:=4) ⟨rfl⟩ (SetR.tail (n:=3) ⟨rfl⟩ (SetR.tail (n:=2) ⟨rfl⟩ (SetR.tail (n:=1) ⟨rfl⟩ SetR.fst rfl) rfl) rfl) rfl) rfl)
instance {a:TyDeal}:PartC (.ra rpDeal a) 5 1 false (.is (Tx a.2.2.2.2.2.1)):=PartC.cell inferInstance ⟨rfl⟩ inferInstance
instance:FaC rpDeal 6 Rp.frac (fun a=>a.2.2.2.2.2.2):=(FaC.tail (n:=6) ⟨rfl⟩ (FaC.tail (n:=5) ⟨rfl⟩ (FaC.tail (n:=4) ⟨rfl⟩ (FaC.tail (n:=3) ⟨rfl⟩ (FaC.tail (n:=2) ⟨rfl⟩ (FaC.tail (n:=1) ⟨rfl⟩ FaC.self rfl) rfl) rfl) rfl) rfl) rfl)
instance:SetR rpDeal 6 Rp.frac (fun a b=>(a.1,(a.2.1,(a.2.2.1,(a.2.2.2.1,(a.2.2.2.2.1,(a.2.2.2.2.2.1,b))))))):=(SetR.tail (n:=6) ⟨rfl⟩ (SetR.tail (n:=5) ⟨rfl⟩ (SetR.tail (n:=4) ⟨rfl⟩ (SetR.tail (n:=3) ⟨rfl⟩ (SetR.tail (n:=2) ⟨rfl⟩ (SetR.tail (n:=1) ⟨rfl⟩ SetR.self rfl) rfl) rfl) rfl) rfl) rfl)
instance {a:TyDeal}:PartC (.ra rpDeal a) 6 4 true (.ra Rp.frac a.2.2.2.2.2.2):=PartC.agg (g:=fun (a:TyDeal)=>a.2.2.2.2.2.2) inferInstance ⟨rfl⟩
instance:TyC Tryz.prog 151 10 true:=⟨⟨_,Tryz.underlying151,rfl⟩,by kernel_rfl⟩
instance:FieldC Tryz.prog 151 0 0 1 false:=⟨⟨_,_,Tryz.underlying151,rfl,rfl,by kernel_rfl,by decide,_,Tryz.underlying4,rfl⟩⟩
instance:FieldC Tryz.prog 151 1 1 1 false:=⟨⟨_,_,Tryz.underlying151,rfl,rfl,by kernel_rfl,by decide,_,Tryz.underlying9,rfl⟩⟩
instance:FieldC Tryz.prog 151 2 2 1 false:=⟨⟨_,_,Tryz.underlying151,rfl,rfl,by kernel_rfl,by decide,_,Tryz.underlying5,rfl⟩⟩
instance:FieldC Tryz.prog 151 3 3 1 false:=⟨⟨_,_,Tryz.underlying151,rfl,rfl,by kernel_rfl,by decide,_,Tryz.underlying9,rfl⟩⟩
instance:FieldC Tryz.prog 151 4 4 1 false:=⟨⟨_,_,Tryz.underlying151,rfl,rfl,by kernel_rfl,by decide,_,Tryz.underlying9,rfl⟩⟩
instance:FieldC Tryz.prog 151 5 5 1 false:=⟨⟨_,_,Tryz.underlying151,rfl,rfl,by kernel_rfl,by decide,_,Tryz.underlying9,rfl⟩⟩
instance:FieldC Tryz.prog 151 6 6 4 true:=⟨⟨_,_,Tryz.underlying151,rfl,rfl,by kernel_rfl,by decide,_,Tryz.underlying26,rfl⟩⟩
theorem zero_astDeal:ZeroS Tryz.prog 151 rpDeal (false,[],0,[],[],[],((false,[]),(false,[]))):=⟨by
 obtain ⟨i,h1,h2,h3,h4⟩:∃ i,Tryz.prog.info? 151=some i∧i.zero=some (.agg #[.bool false,Tx [], .int .u8 0,Tx [],Tx [],Tx [], .bool false, .slice none 0 0, .bool false, .slice none 0 0])∧i.size=10∧i.bytes=144:=info_parts (by kernel_rfl)
 refine ⟨_,i,_,Tryz.underlying151,(fun f hf=> ?_),h1,h2,fun w S=> ?_⟩
 ·simp only [List.mem_cons,List.not_mem_nil,or_false] at hf
  rcases hf with rfl|rfl|rfl|rfl|rfl|rfl|rfl<;>exact Option.isSome_iff_exists.1 (by kernel_rfl)
 ·exact ⟨[.bool false],[Tx [], .int .u8 0,Tx [],Tx [],Tx [], .bool false, .slice none 0 0, .bool false, .slice none 0 0],rfl,rfl,⟨[Tx []],[.int .u8 0,Tx [],Tx [],Tx [], .bool false, .slice none 0 0, .bool false, .slice none 0 0],rfl,⟨_,rfl,data_mk []⟩,⟨[.int .u8 0],[Tx [],Tx [],Tx [], .bool false, .slice none 0 0, .bool false, .slice none 0 0],rfl,rfl,⟨[Tx []],[Tx [],Tx [], .bool false, .slice none 0 0, .bool false, .slice none 0 0],rfl,⟨_,rfl,data_mk []⟩,⟨[Tx []],[Tx [], .bool false, .slice none 0 0, .bool false, .slice none 0 0],rfl,⟨_,rfl,data_mk []⟩,⟨[Tx []],[.bool false, .slice none 0 0, .bool false, .slice none 0 0],rfl,⟨_,rfl,data_mk []⟩,⟨[.bool false, .slice none 0 0],[.bool false, .slice none 0 0],rfl,⟨[.bool false],[.slice none 0 0],rfl,rfl,⟨none,0,0,rfl,⟨⟨rfl,Nat.le_refl _,Nat.zero_le _,fun _=>rfl,fun h=>absurd h (by omega)⟩,fun h=>absurd h (by omega)⟩,fun _ h=>by cases h⟩⟩,⟨[.bool false],[.slice none 0 0],rfl,rfl,⟨none,0,0,rfl,⟨⟨rfl,Nat.le_refl _,Nat.zero_le _,fun _=>rfl,fun h=>absurd h (by omega)⟩,fun h=>absurd h (by omega)⟩,fun _ h=>by cases h⟩⟩⟩⟩⟩⟩⟩⟩⟩⟩
instance:TyC Tryz.prog 88 1 false:=⟨⟨_,Tryz.underlying88,rfl⟩,by kernel_rfl⟩
instance:SliceC Tryz.prog 88 10:=⟨⟨_,Tryz.underlying88,by kernel_rfl⟩⟩
theorem els_astDeal:ElS Tryz.prog 88 151 10:=⟨Tryz.underlying88,by
 obtain ⟨i,h1,h2,h3,h4⟩:∃ i,Tryz.prog.info? 151=some i∧i.zero=some (.agg #[.bool false,Tx [], .int .u8 0,Tx [],Tx [],Tx [], .bool false, .slice none 0 0, .bool false, .slice none 0 0])∧i.size=10∧i.bytes=144:=info_parts (by kernel_rfl)
 exact ⟨i,_,h1,h2,h3,rfl⟩⟩
theorem elem_astDeal:ElemV Tryz.prog 88 151 10 144:=⟨Tryz.underlying88,by decide,by
 obtain ⟨i,h1,h2,h3,h4⟩:∃ i,Tryz.prog.info? 151=some i∧i.zero=some (.agg #[.bool false,Tx [], .int .u8 0,Tx [],Tx [],Tx [], .bool false, .slice none 0 0, .bool false, .slice none 0 0])∧i.size=10∧i.bytes=144:=info_parts (by kernel_rfl)
 exact ⟨i,_,h1,h2,h3,h4,rfl⟩⟩
instance:TyC Tryz.prog 179 10 true:=⟨⟨_,Tryz.underlying179,rfl⟩,by kernel_rfl⟩
instance:FieldC Tryz.prog 179 0 0 1 false:=⟨⟨_,_,Tryz.underlying179,rfl,rfl,by kernel_rfl,by decide,_,Tryz.underlying4,rfl⟩⟩
instance:FieldC Tryz.prog 179 1 1 1 false:=⟨⟨_,_,Tryz.underlying179,rfl,rfl,by kernel_rfl,by decide,_,Tryz.underlying9,rfl⟩⟩
instance:FieldC Tryz.prog 179 2 2 1 false:=⟨⟨_,_,Tryz.underlying179,rfl,rfl,by kernel_rfl,by decide,_,Tryz.underlying5,rfl⟩⟩
instance:FieldC Tryz.prog 179 3 3 1 false:=⟨⟨_,_,Tryz.underlying179,rfl,rfl,by kernel_rfl,by decide,_,Tryz.underlying9,rfl⟩⟩
instance:FieldC Tryz.prog 179 4 4 1 false:=⟨⟨_,_,Tryz.underlying179,rfl,rfl,by kernel_rfl,by decide,_,Tryz.underlying9,rfl⟩⟩
instance:FieldC Tryz.prog 179 5 5 1 false:=⟨⟨_,_,Tryz.underlying179,rfl,rfl,by kernel_rfl,by decide,_,Tryz.underlying9,rfl⟩⟩
instance:FieldC Tryz.prog 179 6 6 4 true:=⟨⟨_,_,Tryz.underlying179,rfl,rfl,by kernel_rfl,by decide,_,Tryz.underlying30,rfl⟩⟩
instance:TyC Tryz.prog 107 1 false:=⟨⟨_,Tryz.underlying107,rfl⟩,by kernel_rfl⟩
instance:SliceC Tryz.prog 107 10:=⟨⟨_,Tryz.underlying107,by kernel_rfl⟩⟩
theorem open_Deal:OpenR Tryz.prog 151 rpDeal:=OpenR.strct Tryz.underlying151 (.cons (OpenR.bool Tryz.underlying4 (by kernel_rfl)) rfl rfl (.cons (OpenR.str Tryz.underlying9 (by kernel_rfl)) rfl rfl (.cons (OpenR.int Tryz.underlying5 (by kernel_rfl)) rfl rfl (.cons (OpenR.str Tryz.underlying9 (by kernel_rfl)) rfl rfl (.cons (OpenR.str Tryz.underlying9 (by kernel_rfl)) rfl rfl (.cons (OpenR.str Tryz.underlying9 (by kernel_rfl)) rfl rfl (.one openRat rfl))))))) (by kernel_rfl)
abbrev TyStock:=(List UInt8)×(RawQ)×(RawQ)
abbrev rpStock:Rp TyStock:=Rp.str.pair (Rp.frac.pair (Rp.frac))
instance:KC rpStock 9:=⟨rfl⟩
instance:FaC rpStock 0 Rp.str (fun a=>a.1):=FaC.fst
instance:SetR rpStock 0 Rp.str (fun a b=>(b,a.2)):=SetR.fst
instance {a:TyStock}:PartC (.ra rpStock a) 0 1 false (.is (Tx a.1)):=PartC.cell inferInstance ⟨rfl⟩ inferInstance
instance:FaC rpStock 1 Rp.frac (fun a=>a.2.1):=(FaC.tail (n:=1) ⟨rfl⟩ FaC.fst rfl)
instance:SetR rpStock 1 Rp.frac (fun a b=>(a.1,(b,a.2.2))):=(SetR.tail (n:=1) ⟨rfl⟩ SetR.fst rfl)
instance {a:TyStock}:PartC (.ra rpStock a) 1 4 true (.ra Rp.frac a.2.1):=PartC.agg (g:=fun (a:TyStock)=>a.2.1) inferInstance ⟨rfl⟩
instance:FaC rpStock 5 Rp.frac (fun a=>a.2.2):=(FaC.tail (n:=5) ⟨rfl⟩ (FaC.tail (n:=4) ⟨rfl⟩ FaC.self rfl) rfl)
instance:SetR rpStock 5 Rp.frac (fun a b=>(a.1,(a.2.1,b))):=(SetR.tail (n:=5) ⟨rfl⟩ (SetR.tail (n:=4) ⟨rfl⟩ SetR.self rfl) rfl)
instance {a:TyStock}:PartC (.ra rpStock a) 5 4 true (.ra Rp.frac a.2.2):=PartC.agg (g:=fun (a:TyStock)=>a.2.2) inferInstance ⟨rfl⟩
instance:TyC Tryz.prog 153 9 true:=⟨⟨_,Tryz.underlying153,rfl⟩,by kernel_rfl⟩
instance:FieldC Tryz.prog 153 0 0 1 false:=⟨⟨_,_,Tryz.underlying153,rfl,rfl,by kernel_rfl,by decide,_,Tryz.underlying9,rfl⟩⟩
instance:FieldC Tryz.prog 153 1 1 4 true:=⟨⟨_,_,Tryz.underlying153,rfl,rfl,by kernel_rfl,by decide,_,Tryz.underlying26,rfl⟩⟩
instance:FieldC Tryz.prog 153 2 5 4 true:=⟨⟨_,_,Tryz.underlying153,rfl,rfl,by kernel_rfl,by decide,_,Tryz.underlying26,rfl⟩⟩
theorem zero_astStock:ZeroS Tryz.prog 153 rpStock ([],((false,[]),(false,[])),((false,[]),(false,[]))):=⟨by
 obtain ⟨i,h1,h2,h3,h4⟩:∃ i,Tryz.prog.info? 153=some i∧i.zero=some (.agg #[Tx [], .bool false, .slice none 0 0, .bool false, .slice none 0 0, .bool false, .slice none 0 0, .bool false, .slice none 0 0])∧i.size=9∧i.bytes=144:=info_parts (by kernel_rfl)
 refine ⟨_,i,_,Tryz.underlying153,(fun f hf=> ?_),h1,h2,fun w S=> ?_⟩
 ·simp only [List.mem_cons,List.not_mem_nil,or_false] at hf
  rcases hf with rfl|rfl|rfl<;>exact Option.isSome_iff_exists.1 (by kernel_rfl)
 ·exact ⟨[Tx []],[.bool false, .slice none 0 0, .bool false, .slice none 0 0, .bool false, .slice none 0 0, .bool false, .slice none 0 0],rfl,⟨_,rfl,data_mk []⟩,⟨[.bool false, .slice none 0 0, .bool false, .slice none 0 0],[.bool false, .slice none 0 0, .bool false, .slice none 0 0],rfl,⟨[.bool false, .slice none 0 0],[.bool false, .slice none 0 0],rfl,⟨[.bool false],[.slice none 0 0],rfl,rfl,⟨none,0,0,rfl,⟨⟨rfl,Nat.le_refl _,Nat.zero_le _,fun _=>rfl,fun h=>absurd h (by omega)⟩,fun h=>absurd h (by omega)⟩,fun _ h=>by cases h⟩⟩,⟨[.bool false],[.slice none 0 0],rfl,rfl,⟨none,0,0,rfl,⟨⟨rfl,Nat.le_refl _,Nat.zero_le _,fun _=>rfl,fun h=>absurd h (by omega)⟩,fun h=>absurd h (by omega)⟩,fun _ h=>by cases h⟩⟩⟩,⟨[.bool false, .slice none 0 0],[.bool false, .slice none 0 0],rfl,⟨[.bool false],[.slice none 0 0],rfl,rfl,⟨none,0,0,rfl,⟨⟨rfl,Nat.le_refl _,Nat.zero_le _,fun _=>rfl,fun h=>absurd h (by omega)⟩,fun h=>absurd h (by omega)⟩,fun _ h=>by cases h⟩⟩,⟨[.bool false],[.slice none 0 0],rfl,rfl,⟨none,0,0,rfl,⟨⟨rfl,Nat.le_refl _,Nat.zero_le _,fun _=>rfl,fun h=>absurd h (by omega)⟩,fun h=>absurd h (by omega)⟩,fun _ h=>by cases h⟩⟩⟩⟩⟩⟩
instance:TyC Tryz.prog 89 1 false:=⟨⟨_,Tryz.underlying89,rfl⟩,by kernel_rfl⟩
instance:SliceC Tryz.prog 89 9:=⟨⟨_,Tryz.underlying89,by kernel_rfl⟩⟩
theorem els_astStock:ElS Tryz.prog 89 153 9:=⟨Tryz.underlying89,by
 obtain ⟨i,h1,h2,h3,h4⟩:∃ i,Tryz.prog.info? 153=some i∧i.zero=some (.agg #[Tx [], .bool false, .slice none 0 0, .bool false, .slice none 0 0, .bool false, .slice none 0 0, .bool false, .slice none 0 0])∧i.size=9∧i.bytes=144:=info_parts (by kernel_rfl)
 exact ⟨i,_,h1,h2,h3,rfl⟩⟩
instance:TyC Tryz.prog 181 9 true:=⟨⟨_,Tryz.underlying181,rfl⟩,by kernel_rfl⟩
instance:FieldC Tryz.prog 181 0 0 1 false:=⟨⟨_,_,Tryz.underlying181,rfl,rfl,by kernel_rfl,by decide,_,Tryz.underlying9,rfl⟩⟩
instance:FieldC Tryz.prog 181 1 1 4 true:=⟨⟨_,_,Tryz.underlying181,rfl,rfl,by kernel_rfl,by decide,_,Tryz.underlying30,rfl⟩⟩
instance:FieldC Tryz.prog 181 2 5 4 true:=⟨⟨_,_,Tryz.underlying181,rfl,rfl,by kernel_rfl,by decide,_,Tryz.underlying30,rfl⟩⟩
instance:TyC Tryz.prog 108 1 false:=⟨⟨_,Tryz.underlying108,rfl⟩,by kernel_rfl⟩
instance:SliceC Tryz.prog 108 9:=⟨⟨_,Tryz.underlying108,by kernel_rfl⟩⟩
theorem open_Stock:OpenR Tryz.prog 153 rpStock:=OpenR.strct Tryz.underlying153 (.cons (OpenR.str Tryz.underlying9 (by kernel_rfl)) rfl rfl (.cons openRat rfl rfl (.one openRat rfl))) (by kernel_rfl)
abbrev TySold:=(List UInt8)×(RawQ)
abbrev rpSold:Rp TySold:=Rp.str.pair (Rp.frac)
instance:KC rpSold 5:=⟨rfl⟩
instance:FaC rpSold 0 Rp.str (fun a=>a.1):=FaC.fst
instance:SetR rpSold 0 Rp.str (fun a b=>(b,a.2)):=SetR.fst
instance {a:TySold}:PartC (.ra rpSold a) 0 1 false (.is (Tx a.1)):=PartC.cell inferInstance ⟨rfl⟩ inferInstance
instance:FaC rpSold 1 Rp.frac (fun a=>a.2):=(FaC.tail (n:=1) ⟨rfl⟩ FaC.self rfl)
instance:SetR rpSold 1 Rp.frac (fun a b=>(a.1,b)):=(SetR.tail (n:=1) ⟨rfl⟩ SetR.self rfl)
instance {a:TySold}:PartC (.ra rpSold a) 1 4 true (.ra Rp.frac a.2):=PartC.agg (g:=fun (a:TySold)=>a.2) inferInstance ⟨rfl⟩
instance:TyC Tryz.prog 155 5 true:=⟨⟨_,Tryz.underlying155,rfl⟩,by kernel_rfl⟩
instance:FieldC Tryz.prog 155 0 0 1 false:=⟨⟨_,_,Tryz.underlying155,rfl,rfl,by kernel_rfl,by decide,_,Tryz.underlying9,rfl⟩⟩
instance:FieldC Tryz.prog 155 1 1 4 true:=⟨⟨_,_,Tryz.underlying155,rfl,rfl,by kernel_rfl,by decide,_,Tryz.underlying26,rfl⟩⟩
theorem zero_astSold:ZeroS Tryz.prog 155 rpSold ([],((false,[]),(false,[]))):=⟨by
 obtain ⟨i,h1,h2,h3,h4⟩:∃ i,Tryz.prog.info? 155=some i∧i.zero=some (.agg #[Tx [], .bool false, .slice none 0 0, .bool false, .slice none 0 0])∧i.size=5∧i.bytes=80:=info_parts (by kernel_rfl)
 refine ⟨_,i,_,Tryz.underlying155,(fun f hf=> ?_),h1,h2,fun w S=> ?_⟩
 ·simp only [List.mem_cons,List.not_mem_nil,or_false] at hf
  rcases hf with rfl|rfl<;>exact Option.isSome_iff_exists.1 (by kernel_rfl)
 ·exact ⟨[Tx []],[.bool false, .slice none 0 0, .bool false, .slice none 0 0],rfl,⟨_,rfl,data_mk []⟩,⟨[.bool false, .slice none 0 0],[.bool false, .slice none 0 0],rfl,⟨[.bool false],[.slice none 0 0],rfl,rfl,⟨none,0,0,rfl,⟨⟨rfl,Nat.le_refl _,Nat.zero_le _,fun _=>rfl,fun h=>absurd h (by omega)⟩,fun h=>absurd h (by omega)⟩,fun _ h=>by cases h⟩⟩,⟨[.bool false],[.slice none 0 0],rfl,rfl,⟨none,0,0,rfl,⟨⟨rfl,Nat.le_refl _,Nat.zero_le _,fun _=>rfl,fun h=>absurd h (by omega)⟩,fun h=>absurd h (by omega)⟩,fun _ h=>by cases h⟩⟩⟩⟩⟩
instance:TyC Tryz.prog 90 1 false:=⟨⟨_,Tryz.underlying90,rfl⟩,by kernel_rfl⟩
instance:SliceC Tryz.prog 90 5:=⟨⟨_,Tryz.underlying90,by kernel_rfl⟩⟩
theorem els_astSold:ElS Tryz.prog 90 155 5:=⟨Tryz.underlying90,by
 obtain ⟨i,h1,h2,h3,h4⟩:∃ i,Tryz.prog.info? 155=some i∧i.zero=some (.agg #[Tx [], .bool false, .slice none 0 0, .bool false, .slice none 0 0])∧i.size=5∧i.bytes=80:=info_parts (by kernel_rfl)
 exact ⟨i,_,h1,h2,h3,rfl⟩⟩
instance:TyC Tryz.prog 183 5 true:=⟨⟨_,Tryz.underlying183,rfl⟩,by kernel_rfl⟩
instance:FieldC Tryz.prog 183 0 0 1 false:=⟨⟨_,_,Tryz.underlying183,rfl,rfl,by kernel_rfl,by decide,_,Tryz.underlying9,rfl⟩⟩
instance:FieldC Tryz.prog 183 1 1 4 true:=⟨⟨_,_,Tryz.underlying183,rfl,rfl,by kernel_rfl,by decide,_,Tryz.underlying30,rfl⟩⟩
instance:TyC Tryz.prog 109 1 false:=⟨⟨_,Tryz.underlying109,rfl⟩,by kernel_rfl⟩
instance:SliceC Tryz.prog 109 5:=⟨⟨_,Tryz.underlying109,by kernel_rfl⟩⟩
theorem open_Sold:OpenR Tryz.prog 155 rpSold:=OpenR.strct Tryz.underlying155 (.cons (OpenR.str Tryz.underlying9 (by kernel_rfl)) rfl rfl (.one openRat rfl)) (by kernel_rfl)
abbrev TyYear:=(Int)×(List TyHold)×(List TyBook)×(List TyDeal)×(List TyStock)×(List TySold)
abbrev rpYear:Rp TyYear:=((Rp.int .i64).pair (rpHold.row.pair (rpBook.row.pair (rpDeal.row.pair (rpStock.row.pair (rpSold.row))))))
instance:KC rpYear 6:=⟨rfl⟩
instance:FaC rpYear 0 (Rp.int .i64) (fun a=>a.1):=FaC.fst
instance:SetR rpYear 0 (Rp.int .i64) (fun a b=>(b,a.2)):=SetR.fst
instance {a:TyYear}:PartC (.ra rpYear a) 0 1 false (.is (.int .i64 a.1)):=PartC.cell inferInstance ⟨rfl⟩ inferInstance
instance:FaC rpYear 1 rpHold.row (fun a=>a.2.1):=(FaC.tail (n:=1) ⟨rfl⟩ FaC.fst rfl)
instance:SetR rpYear 1 rpHold.row (fun a b=>(a.1,(b,a.2.2))):=(SetR.tail (n:=1) ⟨rfl⟩ SetR.fst rfl)
instance {a:TyYear}:PartC (.ra rpYear a) 1 1 false (.rw rpHold tt a.2.1):=PartC.cell inferInstance ⟨rfl⟩ inferInstance
instance:FaC rpYear 2 rpBook.row (fun a=>a.2.2.1):=(FaC.tail (n:=2) ⟨rfl⟩ (FaC.tail (n:=1) ⟨rfl⟩ FaC.fst rfl) rfl)
instance:SetR rpYear 2 rpBook.row (fun a b=>(a.1,(a.2.1,(b,a.2.2.2)))):=(SetR.tail (n:=2) ⟨rfl⟩ (SetR.tail (n:=1) ⟨rfl⟩ SetR.fst rfl) rfl)
instance {a:TyYear}:PartC (.ra rpYear a) 2 1 false (.rw rpBook tt a.2.2.1):=PartC.cell inferInstance ⟨rfl⟩ inferInstance
instance:FaC rpYear 3 rpDeal.row (fun a=>a.2.2.2.1):=(FaC.tail (n:=3) ⟨rfl⟩ (FaC.tail (n:=2) ⟨rfl⟩ (FaC.tail (n:=1) ⟨rfl⟩ FaC.fst rfl) rfl) rfl)
instance:SetR rpYear 3 rpDeal.row (fun a b=>(a.1,(a.2.1,(a.2.2.1,(b,a.2.2.2.2))))):=(SetR.tail (n:=3) ⟨rfl⟩ (SetR.tail (n:=2) ⟨rfl⟩ (SetR.tail (n:=1) ⟨rfl⟩ SetR.fst rfl) rfl) rfl)
instance {a:TyYear}:PartC (.ra rpYear a) 3 1 false (.rw rpDeal tt a.2.2.2.1):=PartC.cell inferInstance ⟨rfl⟩ inferInstance
instance:FaC rpYear 4 rpStock.row (fun a=>a.2.2.2.2.1):=(FaC.tail (n:=4) ⟨rfl⟩ (FaC.tail (n:=3) ⟨rfl⟩ (FaC.tail (n:=2) ⟨rfl⟩ (FaC.tail (n:=1) ⟨rfl⟩ FaC.fst rfl) rfl) rfl) rfl)
instance:SetR rpYear 4 rpStock.row (fun a b=>(a.1,(a.2.1,(a.2.2.1,(a.2.2.2.1,(b,a.2.2.2.2.2)))))):=(SetR.tail (n:=4) ⟨rfl⟩ (SetR.tail (n:=3) ⟨rfl⟩ (SetR.tail (n:=2) ⟨rfl⟩ (SetR.tail (n:=1) ⟨rfl⟩ SetR.fst rfl) rfl) rfl) rfl)
instance {a:TyYear}:PartC (.ra rpYear a) 4 1 false (.rw rpStock tt a.2.2.2.2.1):=PartC.cell inferInstance ⟨rfl⟩ inferInstance
instance:FaC rpYear 5 rpSold.row (fun a=>a.2.2.2.2.2):=(FaC.tail (n:=5) ⟨rfl⟩ (FaC.tail (n:=4) ⟨rfl⟩ (FaC.tail (n:=3) ⟨rfl⟩ (FaC.tail (n:=2) ⟨rfl⟩ (FaC.tail (n:=1) ⟨rfl⟩ FaC.self rfl) rfl) rfl) rfl) rfl)
instance:SetR rpYear 5 rpSold.row (fun a b=>(a.1,(a.2.1,(a.2.2.1,(a.2.2.2.1,(a.2.2.2.2.1,b)))))):=(SetR.tail (n:=5) ⟨rfl⟩ (SetR.tail (n:=4) ⟨rfl⟩ (SetR.tail (n:=3) ⟨rfl⟩ (SetR.tail (n:=2) ⟨rfl⟩ (SetR.tail (n:=1) ⟨rfl⟩ SetR.self rfl) rfl) rfl) rfl) rfl)
instance {a:TyYear}:PartC (.ra rpYear a) 5 1 false (.rw rpSold tt a.2.2.2.2.2):=PartC.cell inferInstance ⟨rfl⟩ inferInstance
instance:TyC Tryz.prog 92 6 true:=⟨⟨_,Tryz.underlying92,rfl⟩,by kernel_rfl⟩
instance:FieldC Tryz.prog 92 0 0 1 false:=⟨⟨_,_,Tryz.underlying92,rfl,rfl,by kernel_rfl,by decide,_,Tryz.underlying3,rfl⟩⟩
instance:FieldC Tryz.prog 92 1 1 1 false:=⟨⟨_,_,Tryz.underlying92,rfl,rfl,by kernel_rfl,by decide,_,Tryz.underlying86,rfl⟩⟩
instance:FieldC Tryz.prog 92 2 2 1 false:=⟨⟨_,_,Tryz.underlying92,rfl,rfl,by kernel_rfl,by decide,_,Tryz.underlying87,rfl⟩⟩
instance:FieldC Tryz.prog 92 3 3 1 false:=⟨⟨_,_,Tryz.underlying92,rfl,rfl,by kernel_rfl,by decide,_,Tryz.underlying88,rfl⟩⟩
instance:FieldC Tryz.prog 92 4 4 1 false:=⟨⟨_,_,Tryz.underlying92,rfl,rfl,by kernel_rfl,by decide,_,Tryz.underlying89,rfl⟩⟩
instance:FieldC Tryz.prog 92 5 5 1 false:=⟨⟨_,_,Tryz.underlying92,rfl,rfl,by kernel_rfl,by decide,_,Tryz.underlying90,rfl⟩⟩
theorem zero_astYear:ZeroS Tryz.prog 92 rpYear (0,[],[],[],[],[]):=⟨by
 obtain ⟨i,h1,h2,h3,h4⟩:∃ i,Tryz.prog.info? 92=some i∧i.zero=some (.agg #[.int .i64 0, .slice none 0 0, .slice none 0 0, .slice none 0 0, .slice none 0 0, .slice none 0 0])∧i.size=6∧i.bytes=128:=info_parts (by kernel_rfl)
 refine ⟨_,i,_,Tryz.underlying92,(fun f hf=> ?_),h1,h2,fun w S=> ?_⟩
 ·simp only [List.mem_cons,List.not_mem_nil,or_false] at hf
  rcases hf with rfl|rfl|rfl|rfl|rfl|rfl<;>exact Option.isSome_iff_exists.1 (by kernel_rfl)
 ·exact ⟨[.int .i64 0],[.slice none 0 0, .slice none 0 0, .slice none 0 0, .slice none 0 0, .slice none 0 0],rfl,rfl,⟨[.slice none 0 0],[.slice none 0 0, .slice none 0 0, .slice none 0 0, .slice none 0 0],rfl,⟨none,0,0,rfl,rfl,Nat.le_refl _,Nat.zero_le _,fun _=>rfl,fun h=>absurd h (by omega)⟩,⟨[.slice none 0 0],[.slice none 0 0, .slice none 0 0, .slice none 0 0],rfl,⟨none,0,0,rfl,rfl,Nat.le_refl _,Nat.zero_le _,fun _=>rfl,fun h=>absurd h (by omega)⟩,⟨[.slice none 0 0],[.slice none 0 0, .slice none 0 0],rfl,⟨none,0,0,rfl,rfl,Nat.le_refl _,Nat.zero_le _,fun _=>rfl,fun h=>absurd h (by omega)⟩,⟨[.slice none 0 0],[.slice none 0 0],rfl,⟨none,0,0,rfl,rfl,Nat.le_refl _,Nat.zero_le _,fun _=>rfl,fun h=>absurd h (by omega)⟩,⟨none,0,0,rfl,rfl,Nat.le_refl _,Nat.zero_le _,fun _=>rfl,fun h=>absurd h (by omega)⟩⟩⟩⟩⟩⟩⟩
instance:TyC Tryz.prog 39 1 false:=⟨⟨_,Tryz.underlying39,rfl⟩,by kernel_rfl⟩
instance:SliceC Tryz.prog 39 6:=⟨⟨_,Tryz.underlying39,by kernel_rfl⟩⟩
theorem els_astYear:ElS Tryz.prog 39 92 6:=⟨Tryz.underlying39,by
 obtain ⟨i,h1,h2,h3,h4⟩:∃ i,Tryz.prog.info? 92=some i∧i.zero=some (.agg #[.int .i64 0, .slice none 0 0, .slice none 0 0, .slice none 0 0, .slice none 0 0, .slice none 0 0])∧i.size=6∧i.bytes=128:=info_parts (by kernel_rfl)
 exact ⟨i,_,h1,h2,h3,rfl⟩⟩
instance:TyC Tryz.prog 111 6 true:=⟨⟨_,Tryz.underlying111,rfl⟩,by kernel_rfl⟩
instance:FieldC Tryz.prog 111 0 0 1 false:=⟨⟨_,_,Tryz.underlying111,rfl,rfl,by kernel_rfl,by decide,_,Tryz.underlying3,rfl⟩⟩
instance:FieldC Tryz.prog 111 1 1 1 false:=⟨⟨_,_,Tryz.underlying111,rfl,rfl,by kernel_rfl,by decide,_,Tryz.underlying105,rfl⟩⟩
instance:FieldC Tryz.prog 111 2 2 1 false:=⟨⟨_,_,Tryz.underlying111,rfl,rfl,by kernel_rfl,by decide,_,Tryz.underlying106,rfl⟩⟩
instance:FieldC Tryz.prog 111 3 3 1 false:=⟨⟨_,_,Tryz.underlying111,rfl,rfl,by kernel_rfl,by decide,_,Tryz.underlying107,rfl⟩⟩
instance:FieldC Tryz.prog 111 4 4 1 false:=⟨⟨_,_,Tryz.underlying111,rfl,rfl,by kernel_rfl,by decide,_,Tryz.underlying108,rfl⟩⟩
instance:FieldC Tryz.prog 111 5 5 1 false:=⟨⟨_,_,Tryz.underlying111,rfl,rfl,by kernel_rfl,by decide,_,Tryz.underlying109,rfl⟩⟩
instance:TyC Tryz.prog 45 1 false:=⟨⟨_,Tryz.underlying45,rfl⟩,by kernel_rfl⟩
instance:SliceC Tryz.prog 45 6:=⟨⟨_,Tryz.underlying45,by kernel_rfl⟩⟩
theorem open_Year:OpenR Tryz.prog 92 rpYear:=OpenR.strct Tryz.underlying92 (.cons (OpenR.int Tryz.underlying3 (by kernel_rfl)) rfl rfl (.cons (OpenR.row Tryz.underlying86 open_Hold (by kernel_rfl) (by decide)) rfl rfl (.cons (OpenR.row Tryz.underlying87 open_Book (by kernel_rfl) (by decide)) rfl rfl (.cons (OpenR.row Tryz.underlying88 open_Deal (by kernel_rfl) (by decide)) rfl rfl (.cons (OpenR.row Tryz.underlying89 open_Stock (by kernel_rfl) (by decide)) rfl rfl (.one (OpenR.row Tryz.underlying90 open_Sold (by kernel_rfl) (by decide)) rfl)))))) (by kernel_rfl)
abbrev TyFiling:=(List UInt8)×(List UInt8)×(List TyBracket)×(RawQ)×(RawQ)×(Int)×(Int)×(RawQ)×(RawQ)×(Int)×(List TyClass)×(List (List UInt8))×(List TyYear)
abbrev rpFiling:Rp TyFiling:=Rp.str.pair (Rp.str.pair (rpBracket.row.pair (Rp.frac.pair (Rp.frac.pair (((Rp.int .i64).pair (((Rp.int .i64).pair (Rp.frac.pair (Rp.frac.pair (((Rp.int .i64).pair (rpClass.row.pair (Rp.str.row.pair (rpYear.row)))))))))))))))
instance:KC rpFiling 25:=⟨rfl⟩
instance:FaC rpFiling 0 Rp.str (fun a=>a.1):=FaC.fst
instance:SetR rpFiling 0 Rp.str (fun a b=>(b,a.2)):=SetR.fst
instance {a:TyFiling}:PartC (.ra rpFiling a) 0 1 false (.is (Tx a.1)):=PartC.cell inferInstance ⟨rfl⟩ inferInstance
instance:FaC rpFiling 1 Rp.str (fun a=>a.2.1):=(FaC.tail (n:=1) ⟨rfl⟩ FaC.fst rfl)
instance:SetR rpFiling 1 Rp.str (fun a b=>(a.1,(b,a.2.2))):=(SetR.tail (n:=1) ⟨rfl⟩ SetR.fst rfl)
instance {a:TyFiling}:PartC (.ra rpFiling a) 1 1 false (.is (Tx a.2.1)):=PartC.cell inferInstance ⟨rfl⟩ inferInstance
instance:FaC rpFiling 2 rpBracket.row (fun a=>a.2.2.1):=(FaC.tail (n:=2) ⟨rfl⟩ (FaC.tail (n:=1) ⟨rfl⟩ FaC.fst rfl) rfl)
instance:SetR rpFiling 2 rpBracket.row (fun a b=>(a.1,(a.2.1,(b,a.2.2.2)))):=(SetR.tail (n:=2) ⟨rfl⟩ (SetR.tail (n:=1) ⟨rfl⟩ SetR.fst rfl) rfl)
instance {a:TyFiling}:PartC (.ra rpFiling a) 2 1 false (.rw rpBracket tt a.2.2.1):=PartC.cell inferInstance ⟨rfl⟩ inferInstance
instance:FaC rpFiling 3 Rp.frac (fun a=>a.2.2.2.1):=(FaC.tail (n:=3) ⟨rfl⟩ (FaC.tail (n:=2) ⟨rfl⟩ (FaC.tail (n:=1) ⟨rfl⟩ FaC.fst rfl) rfl) rfl)
instance:SetR rpFiling 3 Rp.frac (fun a b=>(a.1,(a.2.1,(a.2.2.1,(b,a.2.2.2.2))))):=(SetR.tail (n:=3) ⟨rfl⟩ (SetR.tail (n:=2) ⟨rfl⟩ (SetR.tail (n:=1) ⟨rfl⟩ SetR.fst rfl) rfl) rfl)
instance {a:TyFiling}:PartC (.ra rpFiling a) 3 4 true (.ra Rp.frac a.2.2.2.1):=PartC.agg (g:=fun (a:TyFiling)=>a.2.2.2.1) inferInstance ⟨rfl⟩
instance:FaC rpFiling 7 Rp.frac (fun a=>a.2.2.2.2.1):=(FaC.tail (n:=7) ⟨rfl⟩ (FaC.tail (n:=6) ⟨rfl⟩ (FaC.tail (n:=5) ⟨rfl⟩ (FaC.tail (n:=4) ⟨rfl⟩ FaC.fst rfl) rfl) rfl) rfl)
instance:SetR rpFiling 7 Rp.frac (fun a b=>(a.1,(a.2.1,(a.2.2.1,(a.2.2.2.1,(b,a.2.2.2.2.2)))))):=(SetR.tail (n:=7) ⟨rfl⟩ (SetR.tail (n:=6) ⟨rfl⟩ (SetR.tail (n:=5) ⟨rfl⟩ (SetR.tail (n:=4) ⟨rfl⟩ SetR.fst rfl) rfl) rfl) rfl)
instance {a:TyFiling}:PartC (.ra rpFiling a) 7 4 true (.ra Rp.frac a.2.2.2.2.1):=PartC.agg (g:=fun (a:TyFiling)=>a.2.2.2.2.1) inferInstance ⟨rfl⟩
instance:FaC rpFiling 11 (Rp.int .i64) (fun a=>a.2.2.2.2.2.1):=(FaC.tail (n:=11) ⟨rfl⟩ (FaC.tail (n:=10) ⟨rfl⟩ (FaC.tail (n:=9) ⟨rfl⟩ (FaC.tail (n:=8) ⟨rfl⟩ (FaC.tail (n:=4) ⟨rfl⟩ FaC.fst rfl) rfl) rfl) rfl) rfl)
instance:SetR rpFiling 11 (Rp.int .i64) (fun a b=>(a.1,(a.2.1,(a.2.2.1,(a.2.2.2.1,(a.2.2.2.2.1,(b,a.2.2.2.2.2.2))))))):=(SetR.tail (n:=11) ⟨rfl⟩ (SetR.tail (n:=10) ⟨rfl⟩ (SetR.tail (n:=9) ⟨rfl⟩ (SetR.tail (n:=8) ⟨rfl⟩ (SetR.tail (n:=4) ⟨rfl⟩ SetR.fst rfl) rfl) rfl) rfl) rfl)
instance {a:TyFiling}:PartC (.ra rpFiling a) 11 1 false (.is (.int .i64 a.2.2.2.2.2.1)):=PartC.cell inferInstance ⟨rfl⟩ inferInstance
instance:FaC rpFiling 12 (Rp.int .i64) (fun a=>a.2.2.2.2.2.2.1):=(FaC.tail (n:=12) ⟨rfl⟩ (FaC.tail (n:=11) ⟨rfl⟩ (FaC.tail (n:=10) ⟨rfl⟩ (FaC.tail (n:=9) ⟨rfl⟩ (FaC.tail (n:=5) ⟨rfl⟩ (FaC.tail (n:=1) ⟨rfl⟩ FaC.fst rfl) rfl) rfl) rfl) rfl) rfl)
instance:SetR rpFiling 12 (Rp.int .i64) (fun a b=>(a.1,(a.2.1,(a.2.2.1,(a.2.2.2.1,(a.2.2.2.2.1,(a.2.2.2.2.2.1,(b,a.2.2.2.2.2.2.2)))))))):=(SetR.tail (n:=12) ⟨rfl⟩ (SetR.tail (n:=11) ⟨rfl⟩ (SetR.tail (n:=10) ⟨rfl⟩ (SetR.tail (n:=9) ⟨rfl⟩ (SetR.tail (n:=5) ⟨rfl⟩ (SetR.tail (n:=1) ⟨rfl⟩ SetR.fst rfl) rfl) rfl) rfl) rfl) rfl)
instance {a:TyFiling}:PartC (.ra rpFiling a) 12 1 false (.is (.int .i64 a.2.2.2.2.2.2.1)):=PartC.cell inferInstance ⟨rfl⟩ inferInstance
instance:FaC rpFiling 13 Rp.frac (fun a=>a.2.2.2.2.2.2.2.1):=(FaC.tail (n:=13) ⟨rfl⟩ (FaC.tail (n:=12) ⟨rfl⟩ (FaC.tail (n:=11) ⟨rfl⟩ (FaC.tail (n:=10) ⟨rfl⟩ (FaC.tail (n:=6) ⟨rfl⟩ (FaC.tail (n:=2) ⟨rfl⟩ (FaC.tail (n:=1) ⟨rfl⟩ FaC.fst rfl) rfl) rfl) rfl) rfl) rfl) rfl)
instance:SetR rpFiling 13 Rp.frac (fun a b=>(a.1,(a.2.1,(a.2.2.1,(a.2.2.2.1,(a.2.2.2.2.1,(a.2.2.2.2.2.1,(a.2.2.2.2.2.2.1,(b,a.2.2.2.2.2.2.2.2))))))))):=(SetR.tail (n:=13) ⟨rfl⟩ (SetR.tail (n:=12) ⟨rfl⟩ (SetR.tail (n:=11) ⟨rfl⟩ (SetR.tail (n:=10) ⟨rfl⟩ (SetR.tail (n:=6) ⟨rfl⟩ (SetR.tail (n:=2) ⟨rfl⟩ (SetR.tail (n:=1) ⟨rfl⟩ SetR.fst rfl) rfl) rfl) rfl) rfl) rfl) rfl)
instance {a:TyFiling}:PartC (.ra rpFiling a) 13 4 true (.ra Rp.frac a.2.2.2.2.2.2.2.1):=PartC.agg (g:=fun (a:TyFiling)=>a.2.2.2.2.2.2.2.1) inferInstance ⟨rfl⟩
instance:FaC rpFiling 17 Rp.frac (fun a=>a.2.2.2.2.2.2.2.2.1):=(FaC.tail (n:=17) ⟨rfl⟩ (FaC.tail (n:=16) ⟨rfl⟩ (FaC.tail (n:=15) ⟨rfl⟩ (FaC.tail (n:=14) ⟨rfl⟩ (FaC.tail (n:=10) ⟨rfl⟩ (FaC.tail (n:=6) ⟨rfl⟩ (FaC.tail (n:=5) ⟨rfl⟩ (FaC.tail (n:=4) ⟨rfl⟩ FaC.fst rfl) rfl) rfl) rfl) rfl) rfl) rfl) rfl)
instance:SetR rpFiling 17 Rp.frac (fun a b=>(a.1,(a.2.1,(a.2.2.1,(a.2.2.2.1,(a.2.2.2.2.1,(a.2.2.2.2.2.1,(a.2.2.2.2.2.2.1,(a.2.2.2.2.2.2.2.1,(b,a.2.2.2.2.2.2.2.2.2)))))))))):=(SetR.tail (n:=17) ⟨rfl⟩ (SetR.tail (n:=16) ⟨rfl⟩ (SetR.tail (n:=15) ⟨rfl⟩ (SetR.tail (n:=14) ⟨rfl⟩ (SetR.tail (n:=10) ⟨rfl⟩ (SetR.tail (n:=6) ⟨rfl⟩ (SetR.tail (n:=5) ⟨rfl⟩ (SetR.tail (n:=4) ⟨rfl⟩ SetR.fst rfl) rfl) rfl) rfl) rfl) rfl) rfl) rfl)
instance {a:TyFiling}:PartC (.ra rpFiling a) 17 4 true (.ra Rp.frac a.2.2.2.2.2.2.2.2.1):=PartC.agg (g:=fun (a:TyFiling)=>a.2.2.2.2.2.2.2.2.1) inferInstance ⟨rfl⟩
instance:FaC rpFiling 21 (Rp.int .i64) (fun a=>a.2.2.2.2.2.2.2.2.2.1):=(FaC.tail (n:=21) ⟨rfl⟩ (FaC.tail (n:=20) ⟨rfl⟩ (FaC.tail (n:=19) ⟨rfl⟩ (FaC.tail (n:=18) ⟨rfl⟩ (FaC.tail (n:=14) ⟨rfl⟩ (FaC.tail (n:=10) ⟨rfl⟩ (FaC.tail (n:=9) ⟨rfl⟩ (FaC.tail (n:=8) ⟨rfl⟩ (FaC.tail (n:=4) ⟨rfl⟩ FaC.fst rfl) rfl) rfl) rfl) rfl) rfl) rfl) rfl) rfl)
instance:SetR rpFiling 21 (Rp.int .i64) (fun a b=>(a.1,(a.2.1,(a.2.2.1,(a.2.2.2.1,(a.2.2.2.2.1,(a.2.2.2.2.2.1,(a.2.2.2.2.2.2.1,(a.2.2.2.2.2.2.2.1,(a.2.2.2.2.2.2.2.2.1,(b,a.2.2.2.2.2.2.2.2.2.2))))))))))):=(SetR.tail (n:=21) ⟨rfl⟩ (SetR.tail (n:=20) ⟨rfl⟩ (SetR.tail (n:=19) ⟨rfl⟩ (SetR.tail (n:=18) ⟨rfl⟩ (SetR.tail (n:=14) ⟨rfl⟩ (SetR.tail (n:=10) ⟨rfl⟩ (SetR.tail (n:=9) ⟨rfl⟩ (SetR.tail (n:=8) ⟨rfl⟩ (SetR.tail (n:=4) ⟨rfl⟩ SetR.fst rfl) rfl) rfl) rfl) rfl) rfl) rfl) rfl) rfl)
instance {a:TyFiling}:PartC (.ra rpFiling a) 21 1 false (.is (.int .i64 a.2.2.2.2.2.2.2.2.2.1)):=PartC.cell inferInstance ⟨rfl⟩ inferInstance
instance:FaC rpFiling 22 rpClass.row (fun a=>a.2.2.2.2.2.2.2.2.2.2.1):=(FaC.tail (n:=22) ⟨rfl⟩ (FaC.tail (n:=21) ⟨rfl⟩ (FaC.tail (n:=20) ⟨rfl⟩ (FaC.tail (n:=19) ⟨rfl⟩ (FaC.tail (n:=15) ⟨rfl⟩ (FaC.tail (n:=11) ⟨rfl⟩ (FaC.tail (n:=10) ⟨rfl⟩ (FaC.tail (n:=9) ⟨rfl⟩ (FaC.tail (n:=5) ⟨rfl⟩ (FaC.tail (n:=1) ⟨rfl⟩ FaC.fst rfl) rfl) rfl) rfl) rfl) rfl) rfl) rfl) rfl) rfl)
instance:SetR rpFiling 22 rpClass.row (fun a b=>(a.1,(a.2.1,(a.2.2.1,(a.2.2.2.1,(a.2.2.2.2.1,(a.2.2.2.2.2.1,(a.2.2.2.2.2.2.1,(a.2.2.2.2.2.2.2.1,(a.2.2.2.2.2.2.2.2.1,(a.2.2.2.2.2.2.2.2.2.1,(b,a.2.2.2.2.2.2.2.2.2.2.2)))))))))))):=(SetR.tail (n:=22) ⟨rfl⟩ (SetR.tail (n:=21) ⟨rfl⟩ (SetR.tail (n:=20) ⟨rfl⟩ (SetR.tail (n:=19) ⟨rfl⟩ (SetR.tail (n:=15) ⟨rfl⟩ (SetR.tail (n:=11) ⟨rfl⟩ (SetR.tail (n:=10) ⟨rfl⟩ (SetR.tail (n:=9) ⟨rfl⟩ (SetR.tail (n:=5) ⟨rfl⟩ (SetR.tail (n:=1) ⟨rfl⟩ SetR.fst rfl) rfl) rfl) rfl) rfl) rfl) rfl) rfl) rfl) rfl)
instance {a:TyFiling}:PartC (.ra rpFiling a) 22 1 false (.rw rpClass tt a.2.2.2.2.2.2.2.2.2.2.1):=PartC.cell inferInstance ⟨rfl⟩ inferInstance
instance:FaC rpFiling 23 Rp.str.row (fun a=>a.2.2.2.2.2.2.2.2.2.2.2.1):=(FaC.tail (n:=23) ⟨rfl⟩ (FaC.tail (n:=22) ⟨rfl⟩ (FaC.tail (n:=21) ⟨rfl⟩ (FaC.tail (n:=20) ⟨rfl⟩ (FaC.tail (n:=16) ⟨rfl⟩ (FaC.tail (n:=12) ⟨rfl⟩ (FaC.tail (n:=11) ⟨rfl⟩ (FaC.tail (n:=10) ⟨rfl⟩ (FaC.tail (n:=6) ⟨rfl⟩ (FaC.tail (n:=2) ⟨rfl⟩ (FaC.tail (n:=1) ⟨rfl⟩ FaC.fst rfl) rfl) rfl) rfl) rfl) rfl) rfl) rfl) rfl) rfl) rfl)
instance:SetR rpFiling 23 Rp.str.row (fun a b=>(a.1,(a.2.1,(a.2.2.1,(a.2.2.2.1,(a.2.2.2.2.1,(a.2.2.2.2.2.1,(a.2.2.2.2.2.2.1,(a.2.2.2.2.2.2.2.1,(a.2.2.2.2.2.2.2.2.1,(a.2.2.2.2.2.2.2.2.2.1,(a.2.2.2.2.2.2.2.2.2.2.1,(b,a.2.2.2.2.2.2.2.2.2.2.2.2))))))))))))):=(SetR.tail (n:=23) ⟨rfl⟩ (SetR.tail (n:=22) ⟨rfl⟩ (SetR.tail (n:=21) ⟨rfl⟩ (SetR.tail (n:=20) ⟨rfl⟩ (SetR.tail (n:=16) ⟨rfl⟩ (SetR.tail (n:=12) ⟨rfl⟩ (SetR.tail (n:=11) ⟨rfl⟩ (SetR.tail (n:=10) ⟨rfl⟩ (SetR.tail (n:=6) ⟨rfl⟩ (SetR.tail (n:=2) ⟨rfl⟩ (SetR.tail (n:=1) ⟨rfl⟩ SetR.fst rfl) rfl) rfl) rfl) rfl) rfl) rfl) rfl) rfl) rfl) rfl)
instance {a:TyFiling}:PartC (.ra rpFiling a) 23 1 false (.rw Rp.str tt a.2.2.2.2.2.2.2.2.2.2.2.1):=PartC.cell inferInstance ⟨rfl⟩ inferInstance
instance:FaC rpFiling 24 rpYear.row (fun a=>a.2.2.2.2.2.2.2.2.2.2.2.2):=(FaC.tail (n:=24) ⟨rfl⟩ (FaC.tail (n:=23) ⟨rfl⟩ (FaC.tail (n:=22) ⟨rfl⟩ (FaC.tail (n:=21) ⟨rfl⟩ (FaC.tail (n:=17) ⟨rfl⟩ (FaC.tail (n:=13) ⟨rfl⟩ (FaC.tail (n:=12) ⟨rfl⟩ (FaC.tail (n:=11) ⟨rfl⟩ (FaC.tail (n:=7) ⟨rfl⟩ (FaC.tail (n:=3) ⟨rfl⟩ (FaC.tail (n:=2) ⟨rfl⟩ (FaC.tail (n:=1) ⟨rfl⟩ FaC.self rfl) rfl) rfl) rfl) rfl) rfl) rfl) rfl) rfl) rfl) rfl) rfl)
instance:SetR rpFiling 24 rpYear.row (fun a b=>(a.1,(a.2.1,(a.2.2.1,(a.2.2.2.1,(a.2.2.2.2.1,(a.2.2.2.2.2.1,(a.2.2.2.2.2.2.1,(a.2.2.2.2.2.2.2.1,(a.2.2.2.2.2.2.2.2.1,(a.2.2.2.2.2.2.2.2.2.1,(a.2.2.2.2.2.2.2.2.2.2.1,(a.2.2.2.2.2.2.2.2.2.2.2.1,b))))))))))))):=(SetR.tail (n:=24) ⟨rfl⟩ (SetR.tail (n:=23) ⟨rfl⟩ (SetR.tail (n:=22) ⟨rfl⟩ (SetR.tail (n:=21) ⟨rfl⟩ (SetR.tail (n:=17) ⟨rfl⟩ (SetR.tail (n:=13) ⟨rfl⟩ (SetR.tail (n:=12) ⟨rfl⟩ (SetR.tail (n:=11) ⟨rfl⟩ (SetR.tail (n:=7) ⟨rfl⟩ (SetR.tail (n:=3) ⟨rfl⟩ (SetR.tail (n:=2) ⟨rfl⟩ (SetR.tail (n:=1) ⟨rfl⟩ SetR.self rfl) rfl) rfl) rfl) rfl) rfl) rfl) rfl) rfl) rfl) rfl) rfl)
instance {a:TyFiling}:PartC (.ra rpFiling a) 24 1 false (.rw rpYear tt a.2.2.2.2.2.2.2.2.2.2.2.2):=PartC.cell inferInstance ⟨rfl⟩ inferInstance
instance:TyC Tryz.prog 41 25 true:=⟨⟨_,Tryz.underlying41,rfl⟩,by kernel_rfl⟩
instance:FieldC Tryz.prog 41 0 0 1 false:=⟨⟨_,_,Tryz.underlying41,rfl,rfl,by kernel_rfl,by decide,_,Tryz.underlying9,rfl⟩⟩
instance:FieldC Tryz.prog 41 1 1 1 false:=⟨⟨_,_,Tryz.underlying41,rfl,rfl,by kernel_rfl,by decide,_,Tryz.underlying9,rfl⟩⟩
instance:FieldC Tryz.prog 41 2 2 1 false:=⟨⟨_,_,Tryz.underlying41,rfl,rfl,by kernel_rfl,by decide,_,Tryz.underlying36,rfl⟩⟩
instance:FieldC Tryz.prog 41 3 3 4 true:=⟨⟨_,_,Tryz.underlying41,rfl,rfl,by kernel_rfl,by decide,_,Tryz.underlying26,rfl⟩⟩
instance:FieldC Tryz.prog 41 4 7 4 true:=⟨⟨_,_,Tryz.underlying41,rfl,rfl,by kernel_rfl,by decide,_,Tryz.underlying26,rfl⟩⟩
instance:FieldC Tryz.prog 41 5 11 1 false:=⟨⟨_,_,Tryz.underlying41,rfl,rfl,by kernel_rfl,by decide,_,Tryz.underlying3,rfl⟩⟩
instance:FieldC Tryz.prog 41 6 12 1 false:=⟨⟨_,_,Tryz.underlying41,rfl,rfl,by kernel_rfl,by decide,_,Tryz.underlying3,rfl⟩⟩
instance:FieldC Tryz.prog 41 7 13 4 true:=⟨⟨_,_,Tryz.underlying41,rfl,rfl,by kernel_rfl,by decide,_,Tryz.underlying26,rfl⟩⟩
instance:FieldC Tryz.prog 41 8 17 4 true:=⟨⟨_,_,Tryz.underlying41,rfl,rfl,by kernel_rfl,by decide,_,Tryz.underlying26,rfl⟩⟩
instance:FieldC Tryz.prog 41 9 21 1 false:=⟨⟨_,_,Tryz.underlying41,rfl,rfl,by kernel_rfl,by decide,_,Tryz.underlying3,rfl⟩⟩
instance:FieldC Tryz.prog 41 10 22 1 false:=⟨⟨_,_,Tryz.underlying41,rfl,rfl,by kernel_rfl,by decide,_,Tryz.underlying37,rfl⟩⟩
instance:FieldC Tryz.prog 41 11 23 1 false:=⟨⟨_,_,Tryz.underlying41,rfl,rfl,by kernel_rfl,by decide,_,Tryz.underlying38,rfl⟩⟩
instance:FieldC Tryz.prog 41 12 24 1 false:=⟨⟨_,_,Tryz.underlying41,rfl,rfl,by kernel_rfl,by decide,_,Tryz.underlying39,rfl⟩⟩
theorem zero_astFiling:ZeroS Tryz.prog 41 rpFiling ([],[],[],((false,[]),(false,[])),((false,[]),(false,[])),0,0,((false,[]),(false,[])),((false,[]),(false,[])),0,[],[],[]):=⟨by
 obtain ⟨i,h1,h2,h3,h4⟩:∃ i,Tryz.prog.info? 41=some i∧i.zero=some (.agg #[Tx [],Tx [], .slice none 0 0, .bool false, .slice none 0 0, .bool false, .slice none 0 0, .bool false, .slice none 0 0, .bool false, .slice none 0 0, .int .i64 0, .int .i64 0, .bool false, .slice none 0 0, .bool false, .slice none 0 0, .bool false, .slice none 0 0, .bool false, .slice none 0 0, .int .i64 0, .slice none 0 0, .slice none 0 0, .slice none 0 0])∧i.size=25∧i.bytes=408:=info_parts (by kernel_rfl)
 refine ⟨_,i,_,Tryz.underlying41,(fun f hf=> ?_),h1,h2,fun w S=> ?_⟩
 ·simp only [List.mem_cons,List.not_mem_nil,or_false] at hf
  rcases hf with rfl|rfl|rfl|rfl|rfl|rfl|rfl|rfl|rfl|rfl|rfl|rfl|rfl<;>exact Option.isSome_iff_exists.1 (by kernel_rfl)
 ·exact ⟨[Tx []],[Tx [], .slice none 0 0, .bool false, .slice none 0 0, .bool false, .slice none 0 0, .bool false, .slice none 0 0, .bool false, .slice none 0 0, .int .i64 0, .int .i64 0, .bool false, .slice none 0 0, .bool false, .slice none 0 0, .bool false, .slice none 0 0, .bool false, .slice none 0 0, .int .i64 0, .slice none 0 0, .slice none 0 0, .slice none 0 0],rfl,⟨_,rfl,data_mk []⟩,⟨[Tx []],[.slice none 0 0, .bool false, .slice none 0 0, .bool false, .slice none 0 0, .bool false, .slice none 0 0, .bool false, .slice none 0 0, .int .i64 0, .int .i64 0, .bool false, .slice none 0 0, .bool false, .slice none 0 0, .bool false, .slice none 0 0, .bool false, .slice none 0 0, .int .i64 0, .slice none 0 0, .slice none 0 0, .slice none 0 0],rfl,⟨_,rfl,data_mk []⟩,⟨[.slice none 0 0],[.bool false, .slice none 0 0, .bool false, .slice none 0 0, .bool false, .slice none 0 0, .bool false, .slice none 0 0, .int .i64 0, .int .i64 0, .bool false, .slice none 0 0, .bool false, .slice none 0 0, .bool false, .slice none 0 0, .bool false, .slice none 0 0, .int .i64 0, .slice none 0 0, .slice none 0 0, .slice none 0 0],rfl,⟨none,0,0,rfl,rfl,Nat.le_refl _,Nat.zero_le _,fun _=>rfl,fun h=>absurd h (by omega)⟩,⟨[.bool false, .slice none 0 0, .bool false, .slice none 0 0],[.bool false, .slice none 0 0, .bool false, .slice none 0 0, .int .i64 0, .int .i64 0, .bool false, .slice none 0 0, .bool false, .slice none 0 0, .bool false, .slice none 0 0, .bool false, .slice none 0 0, .int .i64 0, .slice none 0 0, .slice none 0 0, .slice none 0 0],rfl,⟨[.bool false, .slice none 0 0],[.bool false, .slice none 0 0],rfl,⟨[.bool false],[.slice none 0 0],rfl,rfl,⟨none,0,0,rfl,⟨⟨rfl,Nat.le_refl _,Nat.zero_le _,fun _=>rfl,fun h=>absurd h (by omega)⟩,fun h=>absurd h (by omega)⟩,fun _ h=>by cases h⟩⟩,⟨[.bool false],[.slice none 0 0],rfl,rfl,⟨none,0,0,rfl,⟨⟨rfl,Nat.le_refl _,Nat.zero_le _,fun _=>rfl,fun h=>absurd h (by omega)⟩,fun h=>absurd h (by omega)⟩,fun _ h=>by cases h⟩⟩⟩,⟨[.bool false, .slice none 0 0, .bool false, .slice none 0 0],[.int .i64 0, .int .i64 0, .bool false, .slice none 0 0, .bool false, .slice none 0 0, .bool false, .slice none 0 0, .bool false, .slice none 0 0, .int .i64 0, .slice none 0 0, .slice none 0 0, .slice none 0 0],rfl,⟨[.bool false, .slice none 0 0],[.bool false, .slice none 0 0],rfl,⟨[.bool false],[.slice none 0 0],rfl,rfl,⟨none,0,0,rfl,⟨⟨rfl,Nat.le_refl _,Nat.zero_le _,fun _=>rfl,fun h=>absurd h (by omega)⟩,fun h=>absurd h (by omega)⟩,fun _ h=>by cases h⟩⟩,⟨[.bool false],[.slice none 0 0],rfl,rfl,⟨none,0,0,rfl,⟨⟨rfl,Nat.le_refl _,Nat.zero_le _,fun _=>rfl,fun h=>absurd h (by omega)⟩,fun h=>absurd h (by omega)⟩,fun _ h=>by cases h⟩⟩⟩,⟨[.int .i64 0],[.int .i64 0, .bool false, .slice none 0 0, .bool false, .slice none 0 0, .bool false, .slice none 0 0, .bool false, .slice none 0 0, .int .i64 0, .slice none 0 0, .slice none 0 0, .slice none 0 0],rfl,rfl,⟨[.int .i64 0],[.bool false, .slice none 0 0, .bool false, .slice none 0 0, .bool false, .slice none 0 0, .bool false, .slice none 0 0, .int .i64 0, .slice none 0 0, .slice none 0 0, .slice none 0 0],rfl,rfl,⟨[.bool false, .slice none 0 0, .bool false, .slice none 0 0],[.bool false, .slice none 0 0, .bool false, .slice none 0 0, .int .i64 0, .slice none 0 0, .slice none 0 0, .slice none 0 0],rfl,⟨[.bool false, .slice none 0 0],[.bool false, .slice none 0 0],rfl,⟨[.bool false],[.slice none 0 0],rfl,rfl,⟨none,0,0,rfl,⟨⟨rfl,Nat.le_refl _,Nat.zero_le _,fun _=>rfl,fun h=>absurd h (by omega)⟩,fun h=>absurd h (by omega)⟩,fun _ h=>by cases h⟩⟩,⟨[.bool false],[.slice none 0 0],rfl,rfl,⟨none,0,0,rfl,⟨⟨rfl,Nat.le_refl _,Nat.zero_le _,fun _=>rfl,fun h=>absurd h (by omega)⟩,fun h=>absurd h (by omega)⟩,fun _ h=>by cases h⟩⟩⟩,⟨[.bool false, .slice none 0 0, .bool false, .slice none 0 0],[.int .i64 0, .slice none 0 0, .slice none 0 0, .slice none 0 0],rfl,⟨[.bool false, .slice none 0 0],[.bool false, .slice none 0 0],rfl,⟨[.bool false],[.slice none 0 0],rfl,rfl,⟨none,0,0,rfl,⟨⟨rfl,Nat.le_refl _,Nat.zero_le _,fun _=>rfl,fun h=>absurd h (by omega)⟩,fun h=>absurd h (by omega)⟩,fun _ h=>by cases h⟩⟩,⟨[.bool false],[.slice none 0 0],rfl,rfl,⟨none,0,0,rfl,⟨⟨rfl,Nat.le_refl _,Nat.zero_le _,fun _=>rfl,fun h=>absurd h (by omega)⟩,fun h=>absurd h (by omega)⟩,fun _ h=>by cases h⟩⟩⟩,⟨[.int .i64 0],[.slice none 0 0, .slice none 0 0, .slice none 0 0],rfl,rfl,⟨[.slice none 0 0],[.slice none 0 0, .slice none 0 0],rfl,⟨none,0,0,rfl,rfl,Nat.le_refl _,Nat.zero_le _,fun _=>rfl,fun h=>absurd h (by omega)⟩,⟨[.slice none 0 0],[.slice none 0 0],rfl,⟨none,0,0,rfl,rfl,Nat.le_refl _,Nat.zero_le _,fun _=>rfl,fun h=>absurd h (by omega)⟩,⟨none,0,0,rfl,rfl,Nat.le_refl _,Nat.zero_le _,fun _=>rfl,fun h=>absurd h (by omega)⟩⟩⟩⟩⟩⟩⟩⟩⟩⟩⟩⟩⟩⟩
instance:TyC Tryz.prog 47 25 true:=⟨⟨_,Tryz.underlying47,rfl⟩,by kernel_rfl⟩
instance:FieldC Tryz.prog 47 0 0 1 false:=⟨⟨_,_,Tryz.underlying47,rfl,rfl,by kernel_rfl,by decide,_,Tryz.underlying9,rfl⟩⟩
instance:FieldC Tryz.prog 47 1 1 1 false:=⟨⟨_,_,Tryz.underlying47,rfl,rfl,by kernel_rfl,by decide,_,Tryz.underlying9,rfl⟩⟩
instance:FieldC Tryz.prog 47 2 2 1 false:=⟨⟨_,_,Tryz.underlying47,rfl,rfl,by kernel_rfl,by decide,_,Tryz.underlying43,rfl⟩⟩
instance:FieldC Tryz.prog 47 3 3 4 true:=⟨⟨_,_,Tryz.underlying47,rfl,rfl,by kernel_rfl,by decide,_,Tryz.underlying30,rfl⟩⟩
instance:FieldC Tryz.prog 47 4 7 4 true:=⟨⟨_,_,Tryz.underlying47,rfl,rfl,by kernel_rfl,by decide,_,Tryz.underlying30,rfl⟩⟩
instance:FieldC Tryz.prog 47 5 11 1 false:=⟨⟨_,_,Tryz.underlying47,rfl,rfl,by kernel_rfl,by decide,_,Tryz.underlying3,rfl⟩⟩
instance:FieldC Tryz.prog 47 6 12 1 false:=⟨⟨_,_,Tryz.underlying47,rfl,rfl,by kernel_rfl,by decide,_,Tryz.underlying3,rfl⟩⟩
instance:FieldC Tryz.prog 47 7 13 4 true:=⟨⟨_,_,Tryz.underlying47,rfl,rfl,by kernel_rfl,by decide,_,Tryz.underlying30,rfl⟩⟩
instance:FieldC Tryz.prog 47 8 17 4 true:=⟨⟨_,_,Tryz.underlying47,rfl,rfl,by kernel_rfl,by decide,_,Tryz.underlying30,rfl⟩⟩
instance:FieldC Tryz.prog 47 9 21 1 false:=⟨⟨_,_,Tryz.underlying47,rfl,rfl,by kernel_rfl,by decide,_,Tryz.underlying3,rfl⟩⟩
instance:FieldC Tryz.prog 47 10 22 1 false:=⟨⟨_,_,Tryz.underlying47,rfl,rfl,by kernel_rfl,by decide,_,Tryz.underlying44,rfl⟩⟩
instance:FieldC Tryz.prog 47 11 23 1 false:=⟨⟨_,_,Tryz.underlying47,rfl,rfl,by kernel_rfl,by decide,_,Tryz.underlying38,rfl⟩⟩
instance:FieldC Tryz.prog 47 12 24 1 false:=⟨⟨_,_,Tryz.underlying47,rfl,rfl,by kernel_rfl,by decide,_,Tryz.underlying45,rfl⟩⟩
theorem open_Filing:OpenR Tryz.prog 41 rpFiling:=OpenR.strct Tryz.underlying41 (.cons (OpenR.str Tryz.underlying9 (by kernel_rfl)) rfl rfl (.cons (OpenR.str Tryz.underlying9 (by kernel_rfl)) rfl rfl (.cons (OpenR.row Tryz.underlying36 open_Bracket (by kernel_rfl) (by decide)) rfl rfl (.cons openRat rfl rfl (.cons openRat rfl rfl (.cons (OpenR.int Tryz.underlying3 (by kernel_rfl)) rfl rfl (.cons (OpenR.int Tryz.underlying3 (by kernel_rfl)) rfl rfl (.cons openRat rfl rfl (.cons openRat rfl rfl (.cons (OpenR.int Tryz.underlying3 (by kernel_rfl)) rfl rfl (.cons (OpenR.row Tryz.underlying37 open_Class (by kernel_rfl) (by decide)) rfl rfl (.cons (OpenR.row Tryz.underlying38 (OpenR.str Tryz.underlying9 (by kernel_rfl)) (by kernel_rfl) (by decide)) rfl rfl (.one (OpenR.row Tryz.underlying39 open_Year (by kernel_rfl) (by decide)) rfl))))))))))))) (by kernel_rfl)
abbrev TyPlace:=(Int)×(Int)×(Int)
abbrev rpPlace:Rp TyPlace:=((Rp.int .u8).pair (((Rp.int .i64).pair ((Rp.int .i64)))))
instance:KC rpPlace 3:=⟨rfl⟩
instance:FaC rpPlace 0 (Rp.int .u8) (fun a=>a.1):=FaC.fst
instance:SetR rpPlace 0 (Rp.int .u8) (fun a b=>(b,a.2)):=SetR.fst
instance {a:TyPlace}:PartC (.ra rpPlace a) 0 1 false (.is (.int .u8 a.1)):=PartC.cell inferInstance ⟨rfl⟩ inferInstance
instance:FaC rpPlace 1 (Rp.int .i64) (fun a=>a.2.1):=(FaC.tail (n:=1) ⟨rfl⟩ FaC.fst rfl)
instance:SetR rpPlace 1 (Rp.int .i64) (fun a b=>(a.1,(b,a.2.2))):=(SetR.tail (n:=1) ⟨rfl⟩ SetR.fst rfl)
instance {a:TyPlace}:PartC (.ra rpPlace a) 1 1 false (.is (.int .i64 a.2.1)):=PartC.cell inferInstance ⟨rfl⟩ inferInstance
instance:FaC rpPlace 2 (Rp.int .i64) (fun a=>a.2.2):=(FaC.tail (n:=2) ⟨rfl⟩ (FaC.tail (n:=1) ⟨rfl⟩ FaC.self rfl) rfl)
instance:SetR rpPlace 2 (Rp.int .i64) (fun a b=>(a.1,(a.2.1,b))):=(SetR.tail (n:=2) ⟨rfl⟩ (SetR.tail (n:=1) ⟨rfl⟩ SetR.self rfl) rfl)
instance {a:TyPlace}:PartC (.ra rpPlace a) 2 1 false (.is (.int .i64 a.2.2)):=PartC.cell inferInstance ⟨rfl⟩ inferInstance
instance:TyC Tryz.prog 50 3 true:=⟨⟨_,Tryz.underlying50,rfl⟩,by kernel_rfl⟩
instance:FieldC Tryz.prog 50 0 0 1 false:=⟨⟨_,_,Tryz.underlying50,rfl,rfl,by kernel_rfl,by decide,_,Tryz.underlying5,rfl⟩⟩
instance:FieldC Tryz.prog 50 1 1 1 false:=⟨⟨_,_,Tryz.underlying50,rfl,rfl,by kernel_rfl,by decide,_,Tryz.underlying3,rfl⟩⟩
instance:FieldC Tryz.prog 50 2 2 1 false:=⟨⟨_,_,Tryz.underlying50,rfl,rfl,by kernel_rfl,by decide,_,Tryz.underlying3,rfl⟩⟩
theorem zero_astPlace:ZeroS Tryz.prog 50 rpPlace (0,0,0):=⟨by
 obtain ⟨i,h1,h2,h3,h4⟩:∃ i,Tryz.prog.info? 50=some i∧i.zero=some (.agg #[.int .u8 0, .int .i64 0, .int .i64 0])∧i.size=3∧i.bytes=24:=info_parts (by kernel_rfl)
 refine ⟨_,i,_,Tryz.underlying50,(fun f hf=> ?_),h1,h2,fun w S=> ?_⟩
 ·simp only [List.mem_cons,List.not_mem_nil,or_false] at hf
  rcases hf with rfl|rfl|rfl<;>exact Option.isSome_iff_exists.1 (by kernel_rfl)
 ·exact ⟨[.int .u8 0],[.int .i64 0, .int .i64 0],rfl,rfl,⟨[.int .i64 0],[.int .i64 0],rfl,rfl,rfl⟩⟩⟩
instance:TyC Tryz.prog 54 3 true:=⟨⟨_,Tryz.underlying54,rfl⟩,by kernel_rfl⟩
instance:FieldC Tryz.prog 54 0 0 1 false:=⟨⟨_,_,Tryz.underlying54,rfl,rfl,by kernel_rfl,by decide,_,Tryz.underlying5,rfl⟩⟩
instance:FieldC Tryz.prog 54 1 1 1 false:=⟨⟨_,_,Tryz.underlying54,rfl,rfl,by kernel_rfl,by decide,_,Tryz.underlying3,rfl⟩⟩
instance:FieldC Tryz.prog 54 2 2 1 false:=⟨⟨_,_,Tryz.underlying54,rfl,rfl,by kernel_rfl,by decide,_,Tryz.underlying3,rfl⟩⟩
theorem setCells_row:∀ (ds:List Value) (w:World) (r o:Nat) (cs:List Value) (ty:TypeId),w.heap[r]? =some (.cells cs.toArray ty (0,0))→o+ds.length≤cs.length→w.setCells r o ds=w.setRow r (cs.take o++ds++cs.drop (o+ds.length)).toArray
 |[],w,r,o,cs,ty,h,hl=>by
  rw [List.append_nil,List.length_nil,Nat.add_zero,List.take_append_drop,setRow_self w r _ ty (0,0) h]
  rfl
 |v::ds,w,r,o,cs,ty,h,hl=>by
  rw [List.length_cons] at hl
  have hs:(cs.toArray.setIfInBounds o v)=(cs.set o v).toArray:=by simp
  show (w.setCell ⟨r,o,none⟩ v).setCells r (o+1) ds=_
  rw [setCell_eq_setRow w r o cs.toArray ty (0,0) v h,hs,setCells_row ds (w.setRow r (cs.set o v).toArray) r (o+1) (cs.set o v) ty (setRow_heap w r _ _ ty _ h) (by rw [List.length_set];omega),setRow_setRow]
  congr 2
  rw [List.length_cons,show o+1+ds.length=o+(ds.length+1) by omega,List.drop_set_of_lt (by omega),List.append_assoc,List.append_assoc]
  rw [List.take_succ_eq_append_getElem (by rw [List.length_set];omega),List.getElem_set_self,List.take_set_of_le (Nat.le_refl o)]
  simp
theorem ZeroS.al {α:Type} {P:Program} {ty:TypeId} {r:Rp α} {a:α} (z:ZeroS P ty r a):ZeroC P ty (.ra r a):=by
 obtain ⟨fs,i,zs,hu,hf,hi,hz,hr⟩:=z.ok
 refine ⟨.agg zs,fun X w=>⟨zs.toList,by simp,hr w _⟩,fun o ρ w e=> ?_⟩
 have hze:(zeroValue ty).run P w= .ok (.agg zs) w:=by simp [zeroValue,typeInfo,hi,hz]
 cases o with
 |mk dst op t pos af gd=>
  have e':op=_:=e
  subst e'
  unfold execOp
  simp [Instr.alloc,newVar,newRow,Sem.run_bind,hze,Result.andThen_ok]
section
variable {P:Program} {w00:World} {X:List Nat} {L L':List Loc} {E:List (Nat×VTy)} {n:Nat} {ops:Array Oper} {rest:List Oper} {Q:Exit→Act→World→Prop} {cs:List Code} {t0:TypeId} {pos:String} {af:Array Edge}
theorem g_stR {α β:Type} {r':Rp β} {rr:Rp α} {a:α} {b:β} {u:α→β→α} {ty:TypeId} {s r off k:Nat} {o:Operand} {T:VTy} {ag:Bool} [hs:Look E s (.is (.pointer (some ⟨r,off,none⟩)))] [hl:LocC L r (.ra rr a)] [sr:SetR rr off r' u] [ho:OpC E o T] [ap:AsP T r' b] [hu:UpdC L r (.ra rr a) (.ra rr (u a b)) L'] [kc:KC r' k] [hty:TyC P ty k ag]
 (h:GR P w00 X L' E n ops rest cs Q):GR P w00 X L E n ops (⟨none, .store ty (.tmp s) o,t0,pos,af,none⟩::rest) cs Q:=⟨fun ac w ht=>by
 refine wpList_run rfl ?_
 have e1:ac.eval (.tmp s)= .pointer (some ⟨r,off,none⟩):=ht.slots _ hs.mem
 obtain ⟨ds,hd1,hd2⟩:=ap.ok (ho.get (X:=X) (w:=w) (ρ:=ac.eval) (fun _=>rfl) fun p hp _=>ht.slots p hp)
 obtain ⟨g1,g2,v,ty',g3,g4⟩:=ht.mem.loc _ hu.upd.mem
 obtain ⟨cs0,hc1,hc2⟩:=g3
 rw [hc1] at g4
 replace g4:w.heap[r]? =some (.cells cs0.toArray ty' (0,0)):=g4
 obtain ⟨hle,hr⟩:=sr.ok hc2 hd2
 have hlc:=rr.len hc2
 have hld:=r'.len hd2
 have hk:=kc.ok
 have hone:∀ x∈ds,x.oneCell'=true:=r'.one hd2
 have hv2:ac.eval o= .agg ds.toArray∨(ac.eval o).cells=ds.toArray:= .inr hd1
 have hsv:(storeVar ty ⟨r,off,none⟩ (ac.eval o)).run P w= .ok () (w.setRow r (cs0.take off++ds++cs0.drop (off+ds.length)).toArray):=by
  have:=run_storeVar_mid (P:=P) w r off ty ds.toArray (fun j hj=>by
   have hj:j<ds.length:=by simpa using hj
   refine ⟨?_,by simp [World.frozen?,g4]⟩
   rw [cell_at (u:=cs0[off+j]'(by omega)) g4 (by simp [show off+j<cs0.length by omega])]
   rfl) (by rw [hty.size];simp [hld,hk]) (all_oneCell_toArray hone)
  rw [←setCells_row ds w r off cs0 ty' g4 (by omega)]
  rw [←this]
  unfold storeVar
  rw [hd1]
  rfl
 unfold Oper.wp execOp
 simp only [e1,Instr.storeAt,Instr.sureAddr,Sem.run_bind,Sem.run_pure,Result.andThen_ok,hsv]
 have hw:=ht.write (T:= .ra rr (u a b)) (k:=0) (k0:=0) (ag:=true) (ag0:=true) (v:= .agg (cs0.take off++ds++cs0.drop (off+ds.length)).toArray) hu.upd ⟨_,rfl,by rw [hld];exact hr⟩
 exact h.run ac _ hw⟩
end
def letB (c:UInt8):Bool:=(decide (97≤c.toNat)&&decide (c.toNat≤122)) || (decide (65≤c.toNat)&&decide (c.toNat≤90))
def inB (c:UInt8):Bool:=letB c || (decide (48≤c.toNat)&&decide (c.toNat≤57)) || c.toNat==95 || c.toNat==45
def nameB (l:List UInt8):Bool:=(match l with|[]=>false|c::_=>letB c)&&l.all inB&&decide (l.length≤32)
def unitB (k:Nat) (x:RawQ):Bool:=qrt x&&decide (k%(qv x).den=0)
def topQ:Rat:=((1000000000000000:Int):Rat)*((1000000000000000:Int):Rat)
def monB (x:RawQ):Bool:=unitB 100 x&&decide (cmpQ (qv x) topQ<0)&&decide (cmpQ (-qv x) topQ<0)
def uptoB (k:Int) (x:RawQ):Bool:=decide (0≤cmpQ (qv x) 0)&&decide (cmpQ (qv x) (k:Rat)≤0)
def shrB (x:RawQ):Bool:=unitB 1000000 x&&uptoB 1 x
def withB (n a b:Int):Bool:=decide (a≤n)&&decide (n≤b)
def brackB (b:TyBracket):Bool:=monB b.1&&shrB b.2
def argB (k:Int) (x:RawQ):Bool:=bif k==4 then shrB x else bif k==5 then monB x else bif k==6 then unitB 1 x&&uptoB 40 x else cmpQ (qv x) 0==0
def classB (c:TyClass):Bool:=nameB c.1&&withB c.2.1 1 11&&argB c.2.1 c.2.2
def yearB (y:TyYear):Bool:=withB y.1 1 9999
def holdB (h:TyHold):Bool:=nameB h.1&&nameB h.2.1&&shrB h.2.2
def bookB (b:TyBook):Bool:=nameB b.1&&nameB b.2.1&&monB b.2.2
def dealB (d:TyDeal):Bool:=nameB d.2.1&&withB d.2.2.1 1 4&&nameB d.2.2.2.1&&nameB d.2.2.2.2.1&&nameB d.2.2.2.2.2.1&&monB d.2.2.2.2.2.2
def stockB (s:TyStock):Bool:=nameB s.1&&monB s.2.1&&shrB s.2.2
def soldB (s:TySold):Bool:=nameB s.1&&shrB s.2
def brk {α:Type} (p:α→Bool) (most:Nat):Nat→List α→Int×Int
 |_,[]=>(0,0)
 |i,x::l=>if i=most then ((i:Int),3) else bif p x then brk p most (i+1) l else ((i:Int),2)
theorem brk_ok {α:Type} {p:α→Bool} {most:Nat}:∀ {l:List α} {i:Nat},i≤most→((brk p most i l).2=0↔(∀ x∈l,p x=true)∧i+l.length≤most)
 |[],i,hi=>by simp [brk,hi]
 |x::l,i,hi=>by
  unfold brk
  by_cases h:i=most
  ·rw [if_pos h]
   simp
   intros;omega
  ·rw [if_neg h]
   cases hp:p x
   ·simp [hp]
   ·simp only [cond_true,List.mem_cons,forall_eq_or_imp,hp,true_and,List.length_cons]
    rw [brk_ok (by omega)]
    constructor<;>rintro ⟨h1,h2⟩<;>exact ⟨h1,by omega⟩
theorem brk_zero {α:Type} {p:α→Bool} {most:Nat}:∀ {l:List α} {i:Nat},(brk p most i l).2=0→(brk p most i l).1=0
 |[],i,_=>rfl
 |x::l,i,h=>by
  unfold brk at h ⊢
  by_cases hi:i=most
  ·rw [if_pos hi] at h;cases h
  ·rw [if_neg hi] at h ⊢
   cases hp:p x
   ·rw [hp] at h;cases h
   ·rw [hp] at h
    exact brk_zero h
def idxF:Nat→List Bool→Int
 |_,[]=> -1
 |i,b::l=>bif b then idxF (i+1) l else (i:Int)
def keptL (d:TyFiling):List Bool:=[shrB d.2.2.2.1,shrB d.2.2.2.2.1,shrB d.2.2.2.2.2.2.2.1,withB d.2.2.2.2.2.1 0 3,withB d.2.2.2.2.2.2.1 0 40,withB d.2.2.2.2.2.2.2.2.2.1 0 40,monB d.2.2.2.2.2.2.2.2.1]
def lawB (d:TyFiling):Int×Int:=bif decide (0≤idxF 0 (keptL d)) then (idxF 0 (keptL d),2) else (0,0)
def partsF (d:TyFiling):List (Int×Int×Int):=[(1,brk nameB 2 0 [d.1,d.2.1]),(2,brk brackB 16 0 d.2.2.1),(3,lawB d),(4,brk classB 64 0 d.2.2.2.2.2.2.2.2.2.2.1),(5,brk nameB 256 0 d.2.2.2.2.2.2.2.2.2.2.2.1),(6,brk yearB 40 0 d.2.2.2.2.2.2.2.2.2.2.2.2)]
def partsY (y:TyYear):List (Int×Int×Int):=[(7,brk holdB 4096 0 y.2.1),(8,brk bookB 4096 0 y.2.2.1),(9,brk dealB 4096 0 y.2.2.2.1),(10,brk stockB 4096 0 y.2.2.2.2.1),(11,brk soldB 4096 0 y.2.2.2.2.2)]
abbrev PlE:=(Int×Int×Int)×Int
def fstB (year:Int):List (Int×Int×Int)→PlE
 |[]=>((0,0,0),0)
 |(p,a,e)::t=>bif e==0 then fstB year t else ((p,year,a),e)
def yrsB:Nat→List TyYear→PlE
 |_,[]=>((0,0,0),0)
 |i,y::t=>bif (fstB (i:Int) (partsY y)).2==0 then yrsB (i+1) t else fstB (i:Int) (partsY y)
def rightB (d:TyFiling):PlE:=bif (fstB (-1) (partsF d)).2==0 then yrsB 0 d.2.2.2.2.2.2.2.2.2.2.2.2 else fstB (-1) (partsF d)
theorem fstB_zero {year:Int}:∀ {l:List (Int×Int×Int)},(fstB year l).2=0→fstB year l=((0,0,0),0)
 |[],_=>rfl
 |(p,a,e)::t,h=>by
  unfold fstB at h ⊢
  cases he:(e==0)
  ·rw [he] at h
   have:e=0:=h
   rw [this] at he;cases he
  ·rw [he] at h
   exact fstB_zero h
end Go.Proofs.YtgnggldjjjkogaaGreatDoor
