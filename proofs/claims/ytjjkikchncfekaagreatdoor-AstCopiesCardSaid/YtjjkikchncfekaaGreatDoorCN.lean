/- What the walks want of ast's and tallageref08's structs. Written by gen_wc.py. -/
import Derived.Test.YtjjkikchncfekaaGreatDoorCM
import Derived.Test.YtjjkikchncfekaaGreatDoorCK
import Derived.Test.YtjjkikchncfekaaGreatDoorCH
import Derived.Laws.CopyRow
set_option linter.unusedSimpArgs false
set_option linter.unusedVariables false
namespace Go.Proofs.YtjjkikchncfekaaGreatDoor
open Go Go.ChangeShapes Go.WideShapes Go.ChangeAt Go.RowKit Go.Deep
instance:KC Rp.frac 4:=⟨rfl⟩
instance {b:Bool}:gS Rp.bool b (.is (.bool b)):=⟨fun h=>by
 injection (show [_]=[_] from h) with e _⟩
abbrev cP:=(aP)×(aP)
abbrev aA:Rp cP:=Rp.frac.pair (Rp.frac)
instance:KC aA 8:=⟨rfl⟩
instance:a8 aA 0 Rp.frac (fun a=>a.1):=a8.fst
instance:ah aA 0 Rp.frac (fun a b=>(b,a.2)):=ah.fst
instance {a:cP}:ai (.ra aA a) 0 4 true (.ra Rp.frac a.1):=ai.agg (g:=fun (a:cP)=>a.1) inferInstance ⟨rfl⟩
instance:a8 aA 4 Rp.frac (fun a=>a.2):=(a8.tail (n:=4) ⟨rfl⟩ a8.self rfl)
instance:ah aA 4 Rp.frac (fun a b=>(a.1,b)):=(ah.tail (n:=4) ⟨rfl⟩ ah.self rfl)
instance {a:cP}:ai (.ra aA a) 4 4 true (.ra Rp.frac a.2):=ai.agg (g:=fun (a:cP)=>a.2) inferInstance ⟨rfl⟩
instance:eP Tryz.prog 79 8 true:=⟨⟨_,Tryz.underlying79,rfl⟩,by kernel_rfl⟩
instance:au Tryz.prog 79 0 0 4 true:=⟨⟨_,_,Tryz.underlying79,rfl,rfl,by kernel_rfl,by decide,_,Tryz.underlying27,rfl⟩⟩
instance:au Tryz.prog 79 1 4 4 true:=⟨⟨_,_,Tryz.underlying79,rfl,rfl,by kernel_rfl,by decide,_,Tryz.underlying27,rfl⟩⟩
theorem dj:de Tryz.prog 79 aA (((false,[]),(false,[])),((false,[]),(false,[]))):=⟨by
 obtain ⟨i,h1,h2,h3,h4⟩:∃ i,Tryz.prog.info? 79=some i∧i.zero=some (.agg #[.bool false, .slice none 0 0, .bool false, .slice none 0 0, .bool false, .slice none 0 0, .bool false, .slice none 0 0])∧i.size=8∧i.bytes=128:=info_parts qK
 refine ⟨_,i,_,Tryz.underlying79,(fun f hf=> ?_),h1,h2,fun w S=> ?_⟩
 ·simp only [List.mem_cons,List.not_mem_nil,or_false] at hf
  rcases hf with rfl|rfl<;>exact Option.isSome_iff_exists.1 qK
 ·exact ⟨[.bool false, .slice none 0 0, .bool false, .slice none 0 0],[.bool false, .slice none 0 0, .bool false, .slice none 0 0],rfl,⟨[.bool false, .slice none 0 0],[.bool false, .slice none 0 0],rfl,⟨[.bool false],[.slice none 0 0],rfl,rfl,⟨none,0,0,rfl,⟨⟨rfl,Nat.le_refl _,Nat.zero_le _,fun _=>rfl,fun h=>absurd h qO⟩,fun h=>absurd h qO⟩,fun _ h=>by cases h⟩⟩,⟨[.bool false],[.slice none 0 0],rfl,rfl,⟨none,0,0,rfl,⟨⟨rfl,Nat.le_refl _,Nat.zero_le _,fun _=>rfl,fun h=>absurd h qO⟩,fun h=>absurd h qO⟩,fun _ h=>by cases h⟩⟩⟩,⟨[.bool false, .slice none 0 0],[.bool false, .slice none 0 0],rfl,⟨[.bool false],[.slice none 0 0],rfl,rfl,⟨none,0,0,rfl,⟨⟨rfl,Nat.le_refl _,Nat.zero_le _,fun _=>rfl,fun h=>absurd h qO⟩,fun h=>absurd h qO⟩,fun _ h=>by cases h⟩⟩,⟨[.bool false],[.slice none 0 0],rfl,rfl,⟨none,0,0,rfl,⟨⟨rfl,Nat.le_refl _,Nat.zero_le _,fun _=>rfl,fun h=>absurd h qO⟩,fun h=>absurd h qO⟩,fun _ h=>by cases h⟩⟩⟩⟩⟩
instance:eP Tryz.prog 22 1 false:=⟨⟨_,Tryz.underlying22,rfl⟩,by kernel_rfl⟩
instance:ca Tryz.prog 22 8:=⟨⟨_,Tryz.underlying22,by kernel_rfl⟩⟩
theorem kC:oQ Tryz.prog 22 79 8:=⟨Tryz.underlying22,by
 obtain ⟨i,h1,h2,h3,h4⟩:∃ i,Tryz.prog.info? 79=some i∧i.zero=some (.agg #[.bool false, .slice none 0 0, .bool false, .slice none 0 0, .bool false, .slice none 0 0, .bool false, .slice none 0 0])∧i.size=8∧i.bytes=128:=info_parts qK
 exact ⟨i,_,h1,h2,h3,rfl⟩⟩
instance:eP Tryz.prog 93 8 true:=⟨⟨_,Tryz.underlying93,rfl⟩,by kernel_rfl⟩
instance:au Tryz.prog 93 0 0 4 true:=⟨⟨_,_,Tryz.underlying93,rfl,rfl,by kernel_rfl,by decide,_,Tryz.underlying40,rfl⟩⟩
instance:au Tryz.prog 93 1 4 4 true:=⟨⟨_,_,Tryz.underlying93,rfl,rfl,by kernel_rfl,by decide,_,Tryz.underlying40,rfl⟩⟩
theorem jo:de Tryz.prog 93 aA (((false,[]),(false,[])),((false,[]),(false,[]))):=⟨by
 obtain ⟨i,h1,h2,h3,h4⟩:∃ i,Tryz.prog.info? 93=some i∧i.zero=some (.agg #[.bool false, .slice none 0 0, .bool false, .slice none 0 0, .bool false, .slice none 0 0, .bool false, .slice none 0 0])∧i.size=8∧i.bytes=128:=info_parts qK
 refine ⟨_,i,_,Tryz.underlying93,(fun f hf=> ?_),h1,h2,fun w S=> ?_⟩
 ·simp only [List.mem_cons,List.not_mem_nil,or_false] at hf
  rcases hf with rfl|rfl<;>exact Option.isSome_iff_exists.1 qK
 ·exact ⟨[.bool false, .slice none 0 0, .bool false, .slice none 0 0],[.bool false, .slice none 0 0, .bool false, .slice none 0 0],rfl,⟨[.bool false, .slice none 0 0],[.bool false, .slice none 0 0],rfl,⟨[.bool false],[.slice none 0 0],rfl,rfl,⟨none,0,0,rfl,⟨⟨rfl,Nat.le_refl _,Nat.zero_le _,fun _=>rfl,fun h=>absurd h qO⟩,fun h=>absurd h qO⟩,fun _ h=>by cases h⟩⟩,⟨[.bool false],[.slice none 0 0],rfl,rfl,⟨none,0,0,rfl,⟨⟨rfl,Nat.le_refl _,Nat.zero_le _,fun _=>rfl,fun h=>absurd h qO⟩,fun h=>absurd h qO⟩,fun _ h=>by cases h⟩⟩⟩,⟨[.bool false, .slice none 0 0],[.bool false, .slice none 0 0],rfl,⟨[.bool false],[.slice none 0 0],rfl,rfl,⟨none,0,0,rfl,⟨⟨rfl,Nat.le_refl _,Nat.zero_le _,fun _=>rfl,fun h=>absurd h qO⟩,fun h=>absurd h qO⟩,fun _ h=>by cases h⟩⟩,⟨[.bool false],[.slice none 0 0],rfl,rfl,⟨none,0,0,rfl,⟨⟨rfl,Nat.le_refl _,Nat.zero_le _,fun _=>rfl,fun h=>absurd h qO⟩,fun h=>absurd h qO⟩,fun _ h=>by cases h⟩⟩⟩⟩⟩
instance:eP Tryz.prog 37 1 false:=⟨⟨_,Tryz.underlying37,rfl⟩,by kernel_rfl⟩
instance:ca Tryz.prog 37 8:=⟨⟨_,Tryz.underlying37,by kernel_rfl⟩⟩
theorem jp:oQ Tryz.prog 37 93 8:=⟨Tryz.underlying37,by
 obtain ⟨i,h1,h2,h3,h4⟩:∃ i,Tryz.prog.info? 93=some i∧i.zero=some (.agg #[.bool false, .slice none 0 0, .bool false, .slice none 0 0, .bool false, .slice none 0 0, .bool false, .slice none 0 0])∧i.size=8∧i.bytes=128:=info_parts qK
 exact ⟨i,_,h1,h2,h3,rfl⟩⟩
theorem jn:im Tryz.prog 37 93 8 128:=⟨Tryz.underlying37,by decide,by
 obtain ⟨i,h1,h2,h3,h4⟩:∃ i,Tryz.prog.info? 93=some i∧i.zero=some (.agg #[.bool false, .slice none 0 0, .bool false, .slice none 0 0, .bool false, .slice none 0 0, .bool false, .slice none 0 0])∧i.size=8∧i.bytes=128:=info_parts qK
 exact ⟨i,_,h1,h2,h3,h4,rfl⟩⟩
theorem so:bf Tryz.prog 79 aA:=bf.strct Tryz.underlying79 (.cons fi rfl rfl (.one fi rfl)) qK
abbrev dJ:=(List UInt8)×(Int)×(aP)
abbrev aO:Rp dJ:=Rp.str.pair (((Rp.int .u8).pair (Rp.frac)))
instance:KC aO 6:=⟨rfl⟩
instance:a8 aO 0 Rp.str (fun a=>a.1):=a8.fst
instance:ah aO 0 Rp.str (fun a b=>(b,a.2)):=ah.fst
instance {a:dJ}:ai (.ra aO a) 0 1 false (.is (Tx a.1)):=ai.cell inferInstance ⟨rfl⟩ inferInstance
instance:a8 aO 1 (Rp.int .u8) (fun a=>a.2.1):=(a8.tail (n:=1) ⟨rfl⟩ a8.fst rfl)
instance:ah aO 1 (Rp.int .u8) (fun a b=>(a.1,(b,a.2.2))):=(ah.tail (n:=1) ⟨rfl⟩ ah.fst rfl)
instance {a:dJ}:ai (.ra aO a) 1 1 false (.is (.int .u8 a.2.1)):=ai.cell inferInstance ⟨rfl⟩ inferInstance
instance:a8 aO 2 Rp.frac (fun a=>a.2.2):=(a8.tail (n:=2) ⟨rfl⟩ (a8.tail (n:=1) ⟨rfl⟩ a8.self rfl) rfl)
instance:ah aO 2 Rp.frac (fun a b=>(a.1,(a.2.1,b))):=(ah.tail (n:=2) ⟨rfl⟩ (ah.tail (n:=1) ⟨rfl⟩ ah.self rfl) rfl)
instance {a:dJ}:ai (.ra aO a) 2 4 true (.ra Rp.frac a.2.2):=ai.agg (g:=fun (a:dJ)=>a.2.2) inferInstance ⟨rfl⟩
instance:eP Tryz.prog 84 6 true:=⟨⟨_,Tryz.underlying84,rfl⟩,by kernel_rfl⟩
instance:au Tryz.prog 84 0 0 1 false:=⟨⟨_,_,Tryz.underlying84,rfl,rfl,by kernel_rfl,by decide,_,Tryz.underlying9,rfl⟩⟩
instance:au Tryz.prog 84 1 1 1 false:=⟨⟨_,_,Tryz.underlying84,rfl,rfl,by kernel_rfl,by decide,_,Tryz.underlying5,rfl⟩⟩
instance:au Tryz.prog 84 2 2 4 true:=⟨⟨_,_,Tryz.underlying84,rfl,rfl,by kernel_rfl,by decide,_,Tryz.underlying27,rfl⟩⟩
theorem eH:de Tryz.prog 84 aO ([],0,((false,[]),(false,[]))):=⟨by
 obtain ⟨i,h1,h2,h3,h4⟩:∃ i,Tryz.prog.info? 84=some i∧i.zero=some (.agg #[Tx [], .int .u8 0, .bool false, .slice none 0 0, .bool false, .slice none 0 0])∧i.size=6∧i.bytes=88:=info_parts qK
 refine ⟨_,i,_,Tryz.underlying84,(fun f hf=> ?_),h1,h2,fun w S=> ?_⟩
 ·simp only [List.mem_cons,List.not_mem_nil,or_false] at hf
  rcases hf with rfl|rfl|rfl<;>exact Option.isSome_iff_exists.1 qK
 ·exact ⟨[Tx []],[.int .u8 0, .bool false, .slice none 0 0, .bool false, .slice none 0 0],rfl,⟨_,rfl,bn []⟩,⟨[.int .u8 0],[.bool false, .slice none 0 0, .bool false, .slice none 0 0],rfl,rfl,⟨[.bool false, .slice none 0 0],[.bool false, .slice none 0 0],rfl,⟨[.bool false],[.slice none 0 0],rfl,rfl,⟨none,0,0,rfl,⟨⟨rfl,Nat.le_refl _,Nat.zero_le _,fun _=>rfl,fun h=>absurd h qO⟩,fun h=>absurd h qO⟩,fun _ h=>by cases h⟩⟩,⟨[.bool false],[.slice none 0 0],rfl,rfl,⟨none,0,0,rfl,⟨⟨rfl,Nat.le_refl _,Nat.zero_le _,fun _=>rfl,fun h=>absurd h qO⟩,fun h=>absurd h qO⟩,fun _ h=>by cases h⟩⟩⟩⟩⟩⟩
instance:eP Tryz.prog 28 1 false:=⟨⟨_,Tryz.underlying28,rfl⟩,by kernel_rfl⟩
instance:ca Tryz.prog 28 6:=⟨⟨_,Tryz.underlying28,by kernel_rfl⟩⟩
theorem rP:oQ Tryz.prog 28 84 6:=⟨Tryz.underlying28,by
 obtain ⟨i,h1,h2,h3,h4⟩:∃ i,Tryz.prog.info? 84=some i∧i.zero=some (.agg #[Tx [], .int .u8 0, .bool false, .slice none 0 0, .bool false, .slice none 0 0])∧i.size=6∧i.bytes=88:=info_parts qK
 exact ⟨i,_,h1,h2,h3,rfl⟩⟩
instance:eP Tryz.prog 95 6 true:=⟨⟨_,Tryz.underlying95,rfl⟩,by kernel_rfl⟩
instance:au Tryz.prog 95 0 0 1 false:=⟨⟨_,_,Tryz.underlying95,rfl,rfl,by kernel_rfl,by decide,_,Tryz.underlying9,rfl⟩⟩
instance:au Tryz.prog 95 1 1 1 false:=⟨⟨_,_,Tryz.underlying95,rfl,rfl,by kernel_rfl,by decide,_,Tryz.underlying5,rfl⟩⟩
instance:au Tryz.prog 95 2 2 4 true:=⟨⟨_,_,Tryz.underlying95,rfl,rfl,by kernel_rfl,by decide,_,Tryz.underlying40,rfl⟩⟩
theorem jL:de Tryz.prog 95 aO ([],0,((false,[]),(false,[]))):=⟨by
 obtain ⟨i,h1,h2,h3,h4⟩:∃ i,Tryz.prog.info? 95=some i∧i.zero=some (.agg #[Tx [], .int .u8 0, .bool false, .slice none 0 0, .bool false, .slice none 0 0])∧i.size=6∧i.bytes=88:=info_parts qK
 refine ⟨_,i,_,Tryz.underlying95,(fun f hf=> ?_),h1,h2,fun w S=> ?_⟩
 ·simp only [List.mem_cons,List.not_mem_nil,or_false] at hf
  rcases hf with rfl|rfl|rfl<;>exact Option.isSome_iff_exists.1 qK
 ·exact ⟨[Tx []],[.int .u8 0, .bool false, .slice none 0 0, .bool false, .slice none 0 0],rfl,⟨_,rfl,bn []⟩,⟨[.int .u8 0],[.bool false, .slice none 0 0, .bool false, .slice none 0 0],rfl,rfl,⟨[.bool false, .slice none 0 0],[.bool false, .slice none 0 0],rfl,⟨[.bool false],[.slice none 0 0],rfl,rfl,⟨none,0,0,rfl,⟨⟨rfl,Nat.le_refl _,Nat.zero_le _,fun _=>rfl,fun h=>absurd h qO⟩,fun h=>absurd h qO⟩,fun _ h=>by cases h⟩⟩,⟨[.bool false],[.slice none 0 0],rfl,rfl,⟨none,0,0,rfl,⟨⟨rfl,Nat.le_refl _,Nat.zero_le _,fun _=>rfl,fun h=>absurd h qO⟩,fun h=>absurd h qO⟩,fun _ h=>by cases h⟩⟩⟩⟩⟩⟩
instance:eP Tryz.prog 41 1 false:=⟨⟨_,Tryz.underlying41,rfl⟩,by kernel_rfl⟩
instance:ca Tryz.prog 41 6:=⟨⟨_,Tryz.underlying41,by kernel_rfl⟩⟩
theorem ky:oQ Tryz.prog 41 95 6:=⟨Tryz.underlying41,by
 obtain ⟨i,h1,h2,h3,h4⟩:∃ i,Tryz.prog.info? 95=some i∧i.zero=some (.agg #[Tx [], .int .u8 0, .bool false, .slice none 0 0, .bool false, .slice none 0 0])∧i.size=6∧i.bytes=88:=info_parts qK
 exact ⟨i,_,h1,h2,h3,rfl⟩⟩
theorem jH:im Tryz.prog 41 95 6 88:=⟨Tryz.underlying41,by decide,by
 obtain ⟨i,h1,h2,h3,h4⟩:∃ i,Tryz.prog.info? 95=some i∧i.zero=some (.agg #[Tx [], .int .u8 0, .bool false, .slice none 0 0, .bool false, .slice none 0 0])∧i.size=6∧i.bytes=88:=info_parts qK
 exact ⟨i,_,h1,h2,h3,h4,rfl⟩⟩
theorem vz:bf Tryz.prog 84 aO:=bf.strct Tryz.underlying84 (.cons (bf.str Tryz.underlying9 qK) rfl rfl (.cons (bf.int Tryz.underlying5 qK) rfl rfl (.one fi rfl))) qK
abbrev fk:=(List UInt8)×(List UInt8)×(aP)
abbrev aZ:Rp fk:=Rp.str.pair (Rp.str.pair (Rp.frac))
instance:KC aZ 6:=⟨rfl⟩
instance:a8 aZ 0 Rp.str (fun a=>a.1):=a8.fst
instance:ah aZ 0 Rp.str (fun a b=>(b,a.2)):=ah.fst
instance {a:fk}:ai (.ra aZ a) 0 1 false (.is (Tx a.1)):=ai.cell inferInstance ⟨rfl⟩ inferInstance
instance:a8 aZ 1 Rp.str (fun a=>a.2.1):=(a8.tail (n:=1) ⟨rfl⟩ a8.fst rfl)
instance:ah aZ 1 Rp.str (fun a b=>(a.1,(b,a.2.2))):=(ah.tail (n:=1) ⟨rfl⟩ ah.fst rfl)
instance {a:fk}:ai (.ra aZ a) 1 1 false (.is (Tx a.2.1)):=ai.cell inferInstance ⟨rfl⟩ inferInstance
instance:a8 aZ 2 Rp.frac (fun a=>a.2.2):=(a8.tail (n:=2) ⟨rfl⟩ (a8.tail (n:=1) ⟨rfl⟩ a8.self rfl) rfl)
instance:ah aZ 2 Rp.frac (fun a b=>(a.1,(a.2.1,b))):=(ah.tail (n:=2) ⟨rfl⟩ (ah.tail (n:=1) ⟨rfl⟩ ah.self rfl) rfl)
instance {a:fk}:ai (.ra aZ a) 2 4 true (.ra Rp.frac a.2.2):=ai.agg (g:=fun (a:fk)=>a.2.2) inferInstance ⟨rfl⟩
instance:eP Tryz.prog 119 6 true:=⟨⟨_,Tryz.underlying119,rfl⟩,by kernel_rfl⟩
instance:au Tryz.prog 119 0 0 1 false:=⟨⟨_,_,Tryz.underlying119,rfl,rfl,by kernel_rfl,by decide,_,Tryz.underlying9,rfl⟩⟩
instance:au Tryz.prog 119 1 1 1 false:=⟨⟨_,_,Tryz.underlying119,rfl,rfl,by kernel_rfl,by decide,_,Tryz.underlying9,rfl⟩⟩
instance:au Tryz.prog 119 2 2 4 true:=⟨⟨_,_,Tryz.underlying119,rfl,rfl,by kernel_rfl,by decide,_,Tryz.underlying27,rfl⟩⟩
theorem fa:de Tryz.prog 119 aZ ([],[],((false,[]),(false,[]))):=⟨by
 obtain ⟨i,h1,h2,h3,h4⟩:∃ i,Tryz.prog.info? 119=some i∧i.zero=some (.agg #[Tx [],Tx [], .bool false, .slice none 0 0, .bool false, .slice none 0 0])∧i.size=6∧i.bytes=96:=info_parts qK
 refine ⟨_,i,_,Tryz.underlying119,(fun f hf=> ?_),h1,h2,fun w S=> ?_⟩
 ·simp only [List.mem_cons,List.not_mem_nil,or_false] at hf
  rcases hf with rfl|rfl|rfl<;>exact Option.isSome_iff_exists.1 qK
 ·exact ⟨[Tx []],[Tx [], .bool false, .slice none 0 0, .bool false, .slice none 0 0],rfl,⟨_,rfl,bn []⟩,⟨[Tx []],[.bool false, .slice none 0 0, .bool false, .slice none 0 0],rfl,⟨_,rfl,bn []⟩,⟨[.bool false, .slice none 0 0],[.bool false, .slice none 0 0],rfl,⟨[.bool false],[.slice none 0 0],rfl,rfl,⟨none,0,0,rfl,⟨⟨rfl,Nat.le_refl _,Nat.zero_le _,fun _=>rfl,fun h=>absurd h qO⟩,fun h=>absurd h qO⟩,fun _ h=>by cases h⟩⟩,⟨[.bool false],[.slice none 0 0],rfl,rfl,⟨none,0,0,rfl,⟨⟨rfl,Nat.le_refl _,Nat.zero_le _,fun _=>rfl,fun h=>absurd h qO⟩,fun h=>absurd h qO⟩,fun _ h=>by cases h⟩⟩⟩⟩⟩⟩
instance:eP Tryz.prog 59 1 false:=⟨⟨_,Tryz.underlying59,rfl⟩,by kernel_rfl⟩
instance:ca Tryz.prog 59 6:=⟨⟨_,Tryz.underlying59,by kernel_rfl⟩⟩
theorem ve:oQ Tryz.prog 59 119 6:=⟨Tryz.underlying59,by
 obtain ⟨i,h1,h2,h3,h4⟩:∃ i,Tryz.prog.info? 119=some i∧i.zero=some (.agg #[Tx [],Tx [], .bool false, .slice none 0 0, .bool false, .slice none 0 0])∧i.size=6∧i.bytes=96:=info_parts qK
 exact ⟨i,_,h1,h2,h3,rfl⟩⟩
instance:eP Tryz.prog 171 6 true:=⟨⟨_,Tryz.underlying171,rfl⟩,by kernel_rfl⟩
instance:au Tryz.prog 171 0 0 1 false:=⟨⟨_,_,Tryz.underlying171,rfl,rfl,by kernel_rfl,by decide,_,Tryz.underlying9,rfl⟩⟩
instance:au Tryz.prog 171 1 1 1 false:=⟨⟨_,_,Tryz.underlying171,rfl,rfl,by kernel_rfl,by decide,_,Tryz.underlying9,rfl⟩⟩
instance:au Tryz.prog 171 2 2 4 true:=⟨⟨_,_,Tryz.underlying171,rfl,rfl,by kernel_rfl,by decide,_,Tryz.underlying40,rfl⟩⟩
theorem eL:de Tryz.prog 171 aZ ([],[],((false,[]),(false,[]))):=⟨by
 obtain ⟨i,h1,h2,h3,h4⟩:∃ i,Tryz.prog.info? 171=some i∧i.zero=some (.agg #[Tx [],Tx [], .bool false, .slice none 0 0, .bool false, .slice none 0 0])∧i.size=6∧i.bytes=96:=info_parts qK
 refine ⟨_,i,_,Tryz.underlying171,(fun f hf=> ?_),h1,h2,fun w S=> ?_⟩
 ·simp only [List.mem_cons,List.not_mem_nil,or_false] at hf
  rcases hf with rfl|rfl|rfl<;>exact Option.isSome_iff_exists.1 qK
 ·exact ⟨[Tx []],[Tx [], .bool false, .slice none 0 0, .bool false, .slice none 0 0],rfl,⟨_,rfl,bn []⟩,⟨[Tx []],[.bool false, .slice none 0 0, .bool false, .slice none 0 0],rfl,⟨_,rfl,bn []⟩,⟨[.bool false, .slice none 0 0],[.bool false, .slice none 0 0],rfl,⟨[.bool false],[.slice none 0 0],rfl,rfl,⟨none,0,0,rfl,⟨⟨rfl,Nat.le_refl _,Nat.zero_le _,fun _=>rfl,fun h=>absurd h qO⟩,fun h=>absurd h qO⟩,fun _ h=>by cases h⟩⟩,⟨[.bool false],[.slice none 0 0],rfl,rfl,⟨none,0,0,rfl,⟨⟨rfl,Nat.le_refl _,Nat.zero_le _,fun _=>rfl,fun h=>absurd h qO⟩,fun h=>absurd h qO⟩,fun _ h=>by cases h⟩⟩⟩⟩⟩⟩
instance:eP Tryz.prog 97 1 false:=⟨⟨_,Tryz.underlying97,rfl⟩,by kernel_rfl⟩
instance:ca Tryz.prog 97 6:=⟨⟨_,Tryz.underlying97,by kernel_rfl⟩⟩
theorem gR:oQ Tryz.prog 97 171 6:=⟨Tryz.underlying97,by
 obtain ⟨i,h1,h2,h3,h4⟩:∃ i,Tryz.prog.info? 171=some i∧i.zero=some (.agg #[Tx [],Tx [], .bool false, .slice none 0 0, .bool false, .slice none 0 0])∧i.size=6∧i.bytes=96:=info_parts qK
 exact ⟨i,_,h1,h2,h3,rfl⟩⟩
theorem kd:im Tryz.prog 97 171 6 96:=⟨Tryz.underlying97,by decide,by
 obtain ⟨i,h1,h2,h3,h4⟩:∃ i,Tryz.prog.info? 171=some i∧i.zero=some (.agg #[Tx [],Tx [], .bool false, .slice none 0 0, .bool false, .slice none 0 0])∧i.size=6∧i.bytes=96:=info_parts qK
 exact ⟨i,_,h1,h2,h3,h4,rfl⟩⟩
theorem yw:bf Tryz.prog 119 aZ:=bf.strct Tryz.underlying119 (.cons (bf.str Tryz.underlying9 qK) rfl rfl (.cons (bf.str Tryz.underlying9 qK) rfl rfl (.one fi rfl))) qK
abbrev fl:=(List UInt8)×(List UInt8)×(aP)
abbrev aY:Rp fl:=Rp.str.pair (Rp.str.pair (Rp.frac))
instance:KC aY 6:=⟨rfl⟩
instance:a8 aY 0 Rp.str (fun a=>a.1):=a8.fst
instance:ah aY 0 Rp.str (fun a b=>(b,a.2)):=ah.fst
instance {a:fl}:ai (.ra aY a) 0 1 false (.is (Tx a.1)):=ai.cell inferInstance ⟨rfl⟩ inferInstance
instance:a8 aY 1 Rp.str (fun a=>a.2.1):=(a8.tail (n:=1) ⟨rfl⟩ a8.fst rfl)
instance:ah aY 1 Rp.str (fun a b=>(a.1,(b,a.2.2))):=(ah.tail (n:=1) ⟨rfl⟩ ah.fst rfl)
instance {a:fl}:ai (.ra aY a) 1 1 false (.is (Tx a.2.1)):=ai.cell inferInstance ⟨rfl⟩ inferInstance
instance:a8 aY 2 Rp.frac (fun a=>a.2.2):=(a8.tail (n:=2) ⟨rfl⟩ (a8.tail (n:=1) ⟨rfl⟩ a8.self rfl) rfl)
instance:ah aY 2 Rp.frac (fun a b=>(a.1,(a.2.1,b))):=(ah.tail (n:=2) ⟨rfl⟩ (ah.tail (n:=1) ⟨rfl⟩ ah.self rfl) rfl)
instance {a:fl}:ai (.ra aY a) 2 4 true (.ra Rp.frac a.2.2):=ai.agg (g:=fun (a:fl)=>a.2.2) inferInstance ⟨rfl⟩
instance:eP Tryz.prog 121 6 true:=⟨⟨_,Tryz.underlying121,rfl⟩,by kernel_rfl⟩
instance:au Tryz.prog 121 0 0 1 false:=⟨⟨_,_,Tryz.underlying121,rfl,rfl,by kernel_rfl,by decide,_,Tryz.underlying9,rfl⟩⟩
instance:au Tryz.prog 121 1 1 1 false:=⟨⟨_,_,Tryz.underlying121,rfl,rfl,by kernel_rfl,by decide,_,Tryz.underlying9,rfl⟩⟩
instance:au Tryz.prog 121 2 2 4 true:=⟨⟨_,_,Tryz.underlying121,rfl,rfl,by kernel_rfl,by decide,_,Tryz.underlying27,rfl⟩⟩
theorem fd:de Tryz.prog 121 aY ([],[],((false,[]),(false,[]))):=⟨by
 obtain ⟨i,h1,h2,h3,h4⟩:∃ i,Tryz.prog.info? 121=some i∧i.zero=some (.agg #[Tx [],Tx [], .bool false, .slice none 0 0, .bool false, .slice none 0 0])∧i.size=6∧i.bytes=96:=info_parts qK
 refine ⟨_,i,_,Tryz.underlying121,(fun f hf=> ?_),h1,h2,fun w S=> ?_⟩
 ·simp only [List.mem_cons,List.not_mem_nil,or_false] at hf
  rcases hf with rfl|rfl|rfl<;>exact Option.isSome_iff_exists.1 qK
 ·exact ⟨[Tx []],[Tx [], .bool false, .slice none 0 0, .bool false, .slice none 0 0],rfl,⟨_,rfl,bn []⟩,⟨[Tx []],[.bool false, .slice none 0 0, .bool false, .slice none 0 0],rfl,⟨_,rfl,bn []⟩,⟨[.bool false, .slice none 0 0],[.bool false, .slice none 0 0],rfl,⟨[.bool false],[.slice none 0 0],rfl,rfl,⟨none,0,0,rfl,⟨⟨rfl,Nat.le_refl _,Nat.zero_le _,fun _=>rfl,fun h=>absurd h qO⟩,fun h=>absurd h qO⟩,fun _ h=>by cases h⟩⟩,⟨[.bool false],[.slice none 0 0],rfl,rfl,⟨none,0,0,rfl,⟨⟨rfl,Nat.le_refl _,Nat.zero_le _,fun _=>rfl,fun h=>absurd h qO⟩,fun h=>absurd h qO⟩,fun _ h=>by cases h⟩⟩⟩⟩⟩⟩
instance:eP Tryz.prog 60 1 false:=⟨⟨_,Tryz.underlying60,rfl⟩,by kernel_rfl⟩
instance:ca Tryz.prog 60 6:=⟨⟨_,Tryz.underlying60,by kernel_rfl⟩⟩
theorem tA:oQ Tryz.prog 60 121 6:=⟨Tryz.underlying60,by
 obtain ⟨i,h1,h2,h3,h4⟩:∃ i,Tryz.prog.info? 121=some i∧i.zero=some (.agg #[Tx [],Tx [], .bool false, .slice none 0 0, .bool false, .slice none 0 0])∧i.size=6∧i.bytes=96:=info_parts qK
 exact ⟨i,_,h1,h2,h3,rfl⟩⟩
instance:eP Tryz.prog 173 6 true:=⟨⟨_,Tryz.underlying173,rfl⟩,by kernel_rfl⟩
instance:au Tryz.prog 173 0 0 1 false:=⟨⟨_,_,Tryz.underlying173,rfl,rfl,by kernel_rfl,by decide,_,Tryz.underlying9,rfl⟩⟩
instance:au Tryz.prog 173 1 1 1 false:=⟨⟨_,_,Tryz.underlying173,rfl,rfl,by kernel_rfl,by decide,_,Tryz.underlying9,rfl⟩⟩
instance:au Tryz.prog 173 2 2 4 true:=⟨⟨_,_,Tryz.underlying173,rfl,rfl,by kernel_rfl,by decide,_,Tryz.underlying40,rfl⟩⟩
theorem eN:de Tryz.prog 173 aY ([],[],((false,[]),(false,[]))):=⟨by
 obtain ⟨i,h1,h2,h3,h4⟩:∃ i,Tryz.prog.info? 173=some i∧i.zero=some (.agg #[Tx [],Tx [], .bool false, .slice none 0 0, .bool false, .slice none 0 0])∧i.size=6∧i.bytes=96:=info_parts qK
 refine ⟨_,i,_,Tryz.underlying173,(fun f hf=> ?_),h1,h2,fun w S=> ?_⟩
 ·simp only [List.mem_cons,List.not_mem_nil,or_false] at hf
  rcases hf with rfl|rfl|rfl<;>exact Option.isSome_iff_exists.1 qK
 ·exact ⟨[Tx []],[Tx [], .bool false, .slice none 0 0, .bool false, .slice none 0 0],rfl,⟨_,rfl,bn []⟩,⟨[Tx []],[.bool false, .slice none 0 0, .bool false, .slice none 0 0],rfl,⟨_,rfl,bn []⟩,⟨[.bool false, .slice none 0 0],[.bool false, .slice none 0 0],rfl,⟨[.bool false],[.slice none 0 0],rfl,rfl,⟨none,0,0,rfl,⟨⟨rfl,Nat.le_refl _,Nat.zero_le _,fun _=>rfl,fun h=>absurd h qO⟩,fun h=>absurd h qO⟩,fun _ h=>by cases h⟩⟩,⟨[.bool false],[.slice none 0 0],rfl,rfl,⟨none,0,0,rfl,⟨⟨rfl,Nat.le_refl _,Nat.zero_le _,fun _=>rfl,fun h=>absurd h qO⟩,fun h=>absurd h qO⟩,fun _ h=>by cases h⟩⟩⟩⟩⟩⟩
instance:eP Tryz.prog 98 1 false:=⟨⟨_,Tryz.underlying98,rfl⟩,by kernel_rfl⟩
instance:ca Tryz.prog 98 6:=⟨⟨_,Tryz.underlying98,by kernel_rfl⟩⟩
theorem gQ:oQ Tryz.prog 98 173 6:=⟨Tryz.underlying98,by
 obtain ⟨i,h1,h2,h3,h4⟩:∃ i,Tryz.prog.info? 173=some i∧i.zero=some (.agg #[Tx [],Tx [], .bool false, .slice none 0 0, .bool false, .slice none 0 0])∧i.size=6∧i.bytes=96:=info_parts qK
 exact ⟨i,_,h1,h2,h3,rfl⟩⟩
theorem j9:im Tryz.prog 98 173 6 96:=⟨Tryz.underlying98,by decide,by
 obtain ⟨i,h1,h2,h3,h4⟩:∃ i,Tryz.prog.info? 173=some i∧i.zero=some (.agg #[Tx [],Tx [], .bool false, .slice none 0 0, .bool false, .slice none 0 0])∧i.size=6∧i.bytes=96:=info_parts qK
 exact ⟨i,_,h1,h2,h3,h4,rfl⟩⟩
theorem zr:bf Tryz.prog 121 aY:=bf.strct Tryz.underlying121 (.cons (bf.str Tryz.underlying9 qK) rfl rfl (.cons (bf.str Tryz.underlying9 qK) rfl rfl (.one fi rfl))) qK
abbrev dM:=(Bool)×(List UInt8)×(Int)×(List UInt8)×(List UInt8)×(List UInt8)×(aP)
abbrev aI:Rp dM:=Rp.bool.pair (Rp.str.pair (((Rp.int .u8).pair (Rp.str.pair (Rp.str.pair (Rp.str.pair (Rp.frac)))))))
instance:KC aI 10:=⟨rfl⟩
instance:a8 aI 0 Rp.bool (fun a=>a.1):=a8.fst
instance:ah aI 0 Rp.bool (fun a b=>(b,a.2)):=ah.fst
instance {a:dM}:ai (.ra aI a) 0 1 false (.is (.bool a.1)):=ai.cell inferInstance ⟨rfl⟩ inferInstance
instance:a8 aI 1 Rp.str (fun a=>a.2.1):=(a8.tail (n:=1) ⟨rfl⟩ a8.fst rfl)
instance:ah aI 1 Rp.str (fun a b=>(a.1,(b,a.2.2))):=(ah.tail (n:=1) ⟨rfl⟩ ah.fst rfl)
instance {a:dM}:ai (.ra aI a) 1 1 false (.is (Tx a.2.1)):=ai.cell inferInstance ⟨rfl⟩ inferInstance
instance:a8 aI 2 (Rp.int .u8) (fun a=>a.2.2.1):=(a8.tail (n:=2) ⟨rfl⟩ (a8.tail (n:=1) ⟨rfl⟩ a8.fst rfl) rfl)
instance:ah aI 2 (Rp.int .u8) (fun a b=>(a.1,(a.2.1,(b,a.2.2.2)))):=(ah.tail (n:=2) ⟨rfl⟩ (ah.tail (n:=1) ⟨rfl⟩ ah.fst rfl) rfl)
instance {a:dM}:ai (.ra aI a) 2 1 false (.is (.int .u8 a.2.2.1)):=ai.cell inferInstance ⟨rfl⟩ inferInstance
instance:a8 aI 3 Rp.str (fun a=>a.2.2.2.1):=(a8.tail (n:=3) ⟨rfl⟩ (a8.tail (n:=2) ⟨rfl⟩ (a8.tail (n:=1) ⟨rfl⟩ a8.fst rfl) rfl) rfl)
instance:ah aI 3 Rp.str (fun a b=>(a.1,(a.2.1,(a.2.2.1,(b,a.2.2.2.2))))):=(ah.tail (n:=3) ⟨rfl⟩ (ah.tail (n:=2) ⟨rfl⟩ (ah.tail (n:=1) ⟨rfl⟩ ah.fst rfl) rfl) rfl)
instance {a:dM}:ai (.ra aI a) 3 1 false (.is (Tx a.2.2.2.1)):=ai.cell inferInstance ⟨rfl⟩ inferInstance
instance:a8 aI 4 Rp.str (fun a=>a.2.2.2.2.1):=(a8.tail (n:=4) ⟨rfl⟩ (a8.tail (n:=3) ⟨rfl⟩ (a8.tail (n:=2) ⟨rfl⟩ (a8.tail (n:=1) ⟨rfl⟩ a8.fst rfl) rfl) rfl) rfl)
instance:ah aI 4 Rp.str (fun a b=>(a.1,(a.2.1,(a.2.2.1,(a.2.2.2.1,(b,a.2.2.2.2.2)))))):=(ah.tail (n:=4) ⟨rfl⟩ (ah.tail (n:=3) ⟨rfl⟩ (ah.tail (n:=2) ⟨rfl⟩ (ah.tail (n:=1) ⟨rfl⟩ ah.fst rfl) rfl) rfl) rfl)
instance {a:dM}:ai (.ra aI a) 4 1 false (.is (Tx a.2.2.2.2.1)):=ai.cell inferInstance ⟨rfl⟩ inferInstance
instance:a8 aI 5 Rp.str (fun a=>a.2.2.2.2.2.1):=(a8.tail (n:=5) ⟨rfl⟩ (a8.tail (n:=4) ⟨rfl⟩ (a8.tail (n:=3) ⟨rfl⟩ (a8.tail (n:=2) ⟨rfl⟩ (a8.tail (n:=1) ⟨rfl⟩ a8.fst rfl) rfl) rfl) rfl) rfl)
instance:ah aI 5 Rp.str (fun a b=>(a.1,(a.2.1,(a.2.2.1,(a.2.2.2.1,(a.2.2.2.2.1,(b,a.2.2.2.2.2.2))))))):=(ah.tail (n:=5) ⟨rfl⟩ (ah.tail (n:=4) ⟨rfl⟩ (ah.tail (n:=3) ⟨rfl⟩ (ah.tail (n:=2) ⟨rfl⟩ (ah.tail (n:=1) ⟨rfl⟩ ah.fst rfl) rfl) rfl) rfl) rfl)
instance {a:dM}:ai (.ra aI a) 5 1 false (.is (Tx a.2.2.2.2.2.1)):=ai.cell inferInstance ⟨rfl⟩ inferInstance
instance:a8 aI 6 Rp.frac (fun a=>a.2.2.2.2.2.2):=(a8.tail (n:=6) ⟨rfl⟩ (a8.tail (n:=5) ⟨rfl⟩ (a8.tail (n:=4) ⟨rfl⟩ (a8.tail (n:=3) ⟨rfl⟩ (a8.tail (n:=2) ⟨rfl⟩ (a8.tail (n:=1) ⟨rfl⟩ a8.self rfl) rfl) rfl) rfl) rfl) rfl)
instance:ah aI 6 Rp.frac (fun a b=>(a.1,(a.2.1,(a.2.2.1,(a.2.2.2.1,(a.2.2.2.2.1,(a.2.2.2.2.2.1,b))))))):=(ah.tail (n:=6) ⟨rfl⟩ (ah.tail (n:=5) ⟨rfl⟩ (ah.tail (n:=4) ⟨rfl⟩ (ah.tail (n:=3) ⟨rfl⟩ (ah.tail (n:=2) ⟨rfl⟩ (ah.tail (n:=1) ⟨rfl⟩ ah.self rfl) rfl) rfl) rfl) rfl) rfl)
instance {a:dM}:ai (.ra aI a) 6 4 true (.ra Rp.frac a.2.2.2.2.2.2):=ai.agg (g:=fun (a:dM)=>a.2.2.2.2.2.2) inferInstance ⟨rfl⟩
instance:eP Tryz.prog 123 10 true:=⟨⟨_,Tryz.underlying123,rfl⟩,by kernel_rfl⟩
instance:au Tryz.prog 123 0 0 1 false:=⟨⟨_,_,Tryz.underlying123,rfl,rfl,by kernel_rfl,by decide,_,Tryz.underlying4,rfl⟩⟩
instance:au Tryz.prog 123 1 1 1 false:=⟨⟨_,_,Tryz.underlying123,rfl,rfl,by kernel_rfl,by decide,_,Tryz.underlying9,rfl⟩⟩
instance:au Tryz.prog 123 2 2 1 false:=⟨⟨_,_,Tryz.underlying123,rfl,rfl,by kernel_rfl,by decide,_,Tryz.underlying5,rfl⟩⟩
instance:au Tryz.prog 123 3 3 1 false:=⟨⟨_,_,Tryz.underlying123,rfl,rfl,by kernel_rfl,by decide,_,Tryz.underlying9,rfl⟩⟩
instance:au Tryz.prog 123 4 4 1 false:=⟨⟨_,_,Tryz.underlying123,rfl,rfl,by kernel_rfl,by decide,_,Tryz.underlying9,rfl⟩⟩
instance:au Tryz.prog 123 5 5 1 false:=⟨⟨_,_,Tryz.underlying123,rfl,rfl,by kernel_rfl,by decide,_,Tryz.underlying9,rfl⟩⟩
instance:au Tryz.prog 123 6 6 4 true:=⟨⟨_,_,Tryz.underlying123,rfl,rfl,by kernel_rfl,by decide,_,Tryz.underlying27,rfl⟩⟩
theorem f7:de Tryz.prog 123 aI (false,[],0,[],[],[],((false,[]),(false,[]))):=⟨by
 obtain ⟨i,h1,h2,h3,h4⟩:∃ i,Tryz.prog.info? 123=some i∧i.zero=some (.agg #[.bool false,Tx [], .int .u8 0,Tx [],Tx [],Tx [], .bool false, .slice none 0 0, .bool false, .slice none 0 0])∧i.size=10∧i.bytes=144:=info_parts qK
 refine ⟨_,i,_,Tryz.underlying123,(fun f hf=> ?_),h1,h2,fun w S=> ?_⟩
 ·simp only [List.mem_cons,List.not_mem_nil,or_false] at hf
  rcases hf with rfl|rfl|rfl|rfl|rfl|rfl|rfl<;>exact Option.isSome_iff_exists.1 qK
 ·exact ⟨[.bool false],[Tx [], .int .u8 0,Tx [],Tx [],Tx [], .bool false, .slice none 0 0, .bool false, .slice none 0 0],rfl,rfl,⟨[Tx []],[.int .u8 0,Tx [],Tx [],Tx [], .bool false, .slice none 0 0, .bool false, .slice none 0 0],rfl,⟨_,rfl,bn []⟩,⟨[.int .u8 0],[Tx [],Tx [],Tx [], .bool false, .slice none 0 0, .bool false, .slice none 0 0],rfl,rfl,⟨[Tx []],[Tx [],Tx [], .bool false, .slice none 0 0, .bool false, .slice none 0 0],rfl,⟨_,rfl,bn []⟩,⟨[Tx []],[Tx [], .bool false, .slice none 0 0, .bool false, .slice none 0 0],rfl,⟨_,rfl,bn []⟩,⟨[Tx []],[.bool false, .slice none 0 0, .bool false, .slice none 0 0],rfl,⟨_,rfl,bn []⟩,⟨[.bool false, .slice none 0 0],[.bool false, .slice none 0 0],rfl,⟨[.bool false],[.slice none 0 0],rfl,rfl,⟨none,0,0,rfl,⟨⟨rfl,Nat.le_refl _,Nat.zero_le _,fun _=>rfl,fun h=>absurd h qO⟩,fun h=>absurd h qO⟩,fun _ h=>by cases h⟩⟩,⟨[.bool false],[.slice none 0 0],rfl,rfl,⟨none,0,0,rfl,⟨⟨rfl,Nat.le_refl _,Nat.zero_le _,fun _=>rfl,fun h=>absurd h qO⟩,fun h=>absurd h qO⟩,fun _ h=>by cases h⟩⟩⟩⟩⟩⟩⟩⟩⟩⟩
instance:eP Tryz.prog 61 1 false:=⟨⟨_,Tryz.underlying61,rfl⟩,by kernel_rfl⟩
instance:ca Tryz.prog 61 10:=⟨⟨_,Tryz.underlying61,by kernel_rfl⟩⟩
theorem tR:oQ Tryz.prog 61 123 10:=⟨Tryz.underlying61,by
 obtain ⟨i,h1,h2,h3,h4⟩:∃ i,Tryz.prog.info? 123=some i∧i.zero=some (.agg #[.bool false,Tx [], .int .u8 0,Tx [],Tx [],Tx [], .bool false, .slice none 0 0, .bool false, .slice none 0 0])∧i.size=10∧i.bytes=144:=info_parts qK
 exact ⟨i,_,h1,h2,h3,rfl⟩⟩
theorem mE:im Tryz.prog 61 123 10 144:=⟨Tryz.underlying61,by decide,by
 obtain ⟨i,h1,h2,h3,h4⟩:∃ i,Tryz.prog.info? 123=some i∧i.zero=some (.agg #[.bool false,Tx [], .int .u8 0,Tx [],Tx [],Tx [], .bool false, .slice none 0 0, .bool false, .slice none 0 0])∧i.size=10∧i.bytes=144:=info_parts qK
 exact ⟨i,_,h1,h2,h3,h4,rfl⟩⟩
instance:eP Tryz.prog 175 10 true:=⟨⟨_,Tryz.underlying175,rfl⟩,by kernel_rfl⟩
instance:au Tryz.prog 175 0 0 1 false:=⟨⟨_,_,Tryz.underlying175,rfl,rfl,by kernel_rfl,by decide,_,Tryz.underlying4,rfl⟩⟩
instance:au Tryz.prog 175 1 1 1 false:=⟨⟨_,_,Tryz.underlying175,rfl,rfl,by kernel_rfl,by decide,_,Tryz.underlying9,rfl⟩⟩
instance:au Tryz.prog 175 2 2 1 false:=⟨⟨_,_,Tryz.underlying175,rfl,rfl,by kernel_rfl,by decide,_,Tryz.underlying5,rfl⟩⟩
instance:au Tryz.prog 175 3 3 1 false:=⟨⟨_,_,Tryz.underlying175,rfl,rfl,by kernel_rfl,by decide,_,Tryz.underlying9,rfl⟩⟩
instance:au Tryz.prog 175 4 4 1 false:=⟨⟨_,_,Tryz.underlying175,rfl,rfl,by kernel_rfl,by decide,_,Tryz.underlying9,rfl⟩⟩
instance:au Tryz.prog 175 5 5 1 false:=⟨⟨_,_,Tryz.underlying175,rfl,rfl,by kernel_rfl,by decide,_,Tryz.underlying9,rfl⟩⟩
instance:au Tryz.prog 175 6 6 4 true:=⟨⟨_,_,Tryz.underlying175,rfl,rfl,by kernel_rfl,by decide,_,Tryz.underlying40,rfl⟩⟩
theorem eJ:de Tryz.prog 175 aI (false,[],0,[],[],[],((false,[]),(false,[]))):=⟨by
 obtain ⟨i,h1,h2,h3,h4⟩:∃ i,Tryz.prog.info? 175=some i∧i.zero=some (.agg #[.bool false,Tx [], .int .u8 0,Tx [],Tx [],Tx [], .bool false, .slice none 0 0, .bool false, .slice none 0 0])∧i.size=10∧i.bytes=144:=info_parts qK
 refine ⟨_,i,_,Tryz.underlying175,(fun f hf=> ?_),h1,h2,fun w S=> ?_⟩
 ·simp only [List.mem_cons,List.not_mem_nil,or_false] at hf
  rcases hf with rfl|rfl|rfl|rfl|rfl|rfl|rfl<;>exact Option.isSome_iff_exists.1 qK
 ·exact ⟨[.bool false],[Tx [], .int .u8 0,Tx [],Tx [],Tx [], .bool false, .slice none 0 0, .bool false, .slice none 0 0],rfl,rfl,⟨[Tx []],[.int .u8 0,Tx [],Tx [],Tx [], .bool false, .slice none 0 0, .bool false, .slice none 0 0],rfl,⟨_,rfl,bn []⟩,⟨[.int .u8 0],[Tx [],Tx [],Tx [], .bool false, .slice none 0 0, .bool false, .slice none 0 0],rfl,rfl,⟨[Tx []],[Tx [],Tx [], .bool false, .slice none 0 0, .bool false, .slice none 0 0],rfl,⟨_,rfl,bn []⟩,⟨[Tx []],[Tx [], .bool false, .slice none 0 0, .bool false, .slice none 0 0],rfl,⟨_,rfl,bn []⟩,⟨[Tx []],[.bool false, .slice none 0 0, .bool false, .slice none 0 0],rfl,⟨_,rfl,bn []⟩,⟨[.bool false, .slice none 0 0],[.bool false, .slice none 0 0],rfl,⟨[.bool false],[.slice none 0 0],rfl,rfl,⟨none,0,0,rfl,⟨⟨rfl,Nat.le_refl _,Nat.zero_le _,fun _=>rfl,fun h=>absurd h qO⟩,fun h=>absurd h qO⟩,fun _ h=>by cases h⟩⟩,⟨[.bool false],[.slice none 0 0],rfl,rfl,⟨none,0,0,rfl,⟨⟨rfl,Nat.le_refl _,Nat.zero_le _,fun _=>rfl,fun h=>absurd h qO⟩,fun h=>absurd h qO⟩,fun _ h=>by cases h⟩⟩⟩⟩⟩⟩⟩⟩⟩⟩
instance:eP Tryz.prog 99 1 false:=⟨⟨_,Tryz.underlying99,rfl⟩,by kernel_rfl⟩
instance:ca Tryz.prog 99 10:=⟨⟨_,Tryz.underlying99,by kernel_rfl⟩⟩
theorem gU:oQ Tryz.prog 99 175 10:=⟨Tryz.underlying99,by
 obtain ⟨i,h1,h2,h3,h4⟩:∃ i,Tryz.prog.info? 175=some i∧i.zero=some (.agg #[.bool false,Tx [], .int .u8 0,Tx [],Tx [],Tx [], .bool false, .slice none 0 0, .bool false, .slice none 0 0])∧i.size=10∧i.bytes=144:=info_parts qK
 exact ⟨i,_,h1,h2,h3,rfl⟩⟩
theorem kb:im Tryz.prog 99 175 10 144:=⟨Tryz.underlying99,by decide,by
 obtain ⟨i,h1,h2,h3,h4⟩:∃ i,Tryz.prog.info? 175=some i∧i.zero=some (.agg #[.bool false,Tx [], .int .u8 0,Tx [],Tx [],Tx [], .bool false, .slice none 0 0, .bool false, .slice none 0 0])∧i.size=10∧i.bytes=144:=info_parts qK
 exact ⟨i,_,h1,h2,h3,h4,rfl⟩⟩
theorem zN:bf Tryz.prog 123 aI:=bf.strct Tryz.underlying123 (.cons (bf.bool Tryz.underlying4 qK) rfl rfl (.cons (bf.str Tryz.underlying9 qK) rfl rfl (.cons (bf.int Tryz.underlying5 qK) rfl rfl (.cons (bf.str Tryz.underlying9 qK) rfl rfl (.cons (bf.str Tryz.underlying9 qK) rfl rfl (.cons (bf.str Tryz.underlying9 qK) rfl rfl (.one fi rfl))))))) qK
abbrev dT:=(List UInt8)×(aP)×(aP)
abbrev aR:Rp dT:=Rp.str.pair (Rp.frac.pair (Rp.frac))
instance:KC aR 9:=⟨rfl⟩
instance:a8 aR 0 Rp.str (fun a=>a.1):=a8.fst
instance:ah aR 0 Rp.str (fun a b=>(b,a.2)):=ah.fst
instance {a:dT}:ai (.ra aR a) 0 1 false (.is (Tx a.1)):=ai.cell inferInstance ⟨rfl⟩ inferInstance
instance:a8 aR 1 Rp.frac (fun a=>a.2.1):=(a8.tail (n:=1) ⟨rfl⟩ a8.fst rfl)
instance:ah aR 1 Rp.frac (fun a b=>(a.1,(b,a.2.2))):=(ah.tail (n:=1) ⟨rfl⟩ ah.fst rfl)
instance {a:dT}:ai (.ra aR a) 1 4 true (.ra Rp.frac a.2.1):=ai.agg (g:=fun (a:dT)=>a.2.1) inferInstance ⟨rfl⟩
instance:a8 aR 5 Rp.frac (fun a=>a.2.2):=(a8.tail (n:=5) ⟨rfl⟩ (a8.tail (n:=4) ⟨rfl⟩ a8.self rfl) rfl)
instance:ah aR 5 Rp.frac (fun a b=>(a.1,(a.2.1,b))):=(ah.tail (n:=5) ⟨rfl⟩ (ah.tail (n:=4) ⟨rfl⟩ ah.self rfl) rfl)
instance {a:dT}:ai (.ra aR a) 5 4 true (.ra Rp.frac a.2.2):=ai.agg (g:=fun (a:dT)=>a.2.2) inferInstance ⟨rfl⟩
instance:eP Tryz.prog 125 9 true:=⟨⟨_,Tryz.underlying125,rfl⟩,by kernel_rfl⟩
instance:au Tryz.prog 125 0 0 1 false:=⟨⟨_,_,Tryz.underlying125,rfl,rfl,by kernel_rfl,by decide,_,Tryz.underlying9,rfl⟩⟩
instance:au Tryz.prog 125 1 1 4 true:=⟨⟨_,_,Tryz.underlying125,rfl,rfl,by kernel_rfl,by decide,_,Tryz.underlying27,rfl⟩⟩
instance:au Tryz.prog 125 2 5 4 true:=⟨⟨_,_,Tryz.underlying125,rfl,rfl,by kernel_rfl,by decide,_,Tryz.underlying27,rfl⟩⟩
theorem eG:de Tryz.prog 125 aR ([],((false,[]),(false,[])),((false,[]),(false,[]))):=⟨by
 obtain ⟨i,h1,h2,h3,h4⟩:∃ i,Tryz.prog.info? 125=some i∧i.zero=some (.agg #[Tx [], .bool false, .slice none 0 0, .bool false, .slice none 0 0, .bool false, .slice none 0 0, .bool false, .slice none 0 0])∧i.size=9∧i.bytes=144:=info_parts qK
 refine ⟨_,i,_,Tryz.underlying125,(fun f hf=> ?_),h1,h2,fun w S=> ?_⟩
 ·simp only [List.mem_cons,List.not_mem_nil,or_false] at hf
  rcases hf with rfl|rfl|rfl<;>exact Option.isSome_iff_exists.1 qK
 ·exact ⟨[Tx []],[.bool false, .slice none 0 0, .bool false, .slice none 0 0, .bool false, .slice none 0 0, .bool false, .slice none 0 0],rfl,⟨_,rfl,bn []⟩,⟨[.bool false, .slice none 0 0, .bool false, .slice none 0 0],[.bool false, .slice none 0 0, .bool false, .slice none 0 0],rfl,⟨[.bool false, .slice none 0 0],[.bool false, .slice none 0 0],rfl,⟨[.bool false],[.slice none 0 0],rfl,rfl,⟨none,0,0,rfl,⟨⟨rfl,Nat.le_refl _,Nat.zero_le _,fun _=>rfl,fun h=>absurd h qO⟩,fun h=>absurd h qO⟩,fun _ h=>by cases h⟩⟩,⟨[.bool false],[.slice none 0 0],rfl,rfl,⟨none,0,0,rfl,⟨⟨rfl,Nat.le_refl _,Nat.zero_le _,fun _=>rfl,fun h=>absurd h qO⟩,fun h=>absurd h qO⟩,fun _ h=>by cases h⟩⟩⟩,⟨[.bool false, .slice none 0 0],[.bool false, .slice none 0 0],rfl,⟨[.bool false],[.slice none 0 0],rfl,rfl,⟨none,0,0,rfl,⟨⟨rfl,Nat.le_refl _,Nat.zero_le _,fun _=>rfl,fun h=>absurd h qO⟩,fun h=>absurd h qO⟩,fun _ h=>by cases h⟩⟩,⟨[.bool false],[.slice none 0 0],rfl,rfl,⟨none,0,0,rfl,⟨⟨rfl,Nat.le_refl _,Nat.zero_le _,fun _=>rfl,fun h=>absurd h qO⟩,fun h=>absurd h qO⟩,fun _ h=>by cases h⟩⟩⟩⟩⟩⟩
instance:eP Tryz.prog 62 1 false:=⟨⟨_,Tryz.underlying62,rfl⟩,by kernel_rfl⟩
instance:ca Tryz.prog 62 9:=⟨⟨_,Tryz.underlying62,by kernel_rfl⟩⟩
theorem sC:oQ Tryz.prog 62 125 9:=⟨Tryz.underlying62,by
 obtain ⟨i,h1,h2,h3,h4⟩:∃ i,Tryz.prog.info? 125=some i∧i.zero=some (.agg #[Tx [], .bool false, .slice none 0 0, .bool false, .slice none 0 0, .bool false, .slice none 0 0, .bool false, .slice none 0 0])∧i.size=9∧i.bytes=144:=info_parts qK
 exact ⟨i,_,h1,h2,h3,rfl⟩⟩
instance:eP Tryz.prog 177 9 true:=⟨⟨_,Tryz.underlying177,rfl⟩,by kernel_rfl⟩
instance:au Tryz.prog 177 0 0 1 false:=⟨⟨_,_,Tryz.underlying177,rfl,rfl,by kernel_rfl,by decide,_,Tryz.underlying9,rfl⟩⟩
instance:au Tryz.prog 177 1 1 4 true:=⟨⟨_,_,Tryz.underlying177,rfl,rfl,by kernel_rfl,by decide,_,Tryz.underlying40,rfl⟩⟩
instance:au Tryz.prog 177 2 5 4 true:=⟨⟨_,_,Tryz.underlying177,rfl,rfl,by kernel_rfl,by decide,_,Tryz.underlying40,rfl⟩⟩
theorem ga:de Tryz.prog 177 aR ([],((false,[]),(false,[])),((false,[]),(false,[]))):=⟨by
 obtain ⟨i,h1,h2,h3,h4⟩:∃ i,Tryz.prog.info? 177=some i∧i.zero=some (.agg #[Tx [], .bool false, .slice none 0 0, .bool false, .slice none 0 0, .bool false, .slice none 0 0, .bool false, .slice none 0 0])∧i.size=9∧i.bytes=144:=info_parts qK
 refine ⟨_,i,_,Tryz.underlying177,(fun f hf=> ?_),h1,h2,fun w S=> ?_⟩
 ·simp only [List.mem_cons,List.not_mem_nil,or_false] at hf
  rcases hf with rfl|rfl|rfl<;>exact Option.isSome_iff_exists.1 qK
 ·exact ⟨[Tx []],[.bool false, .slice none 0 0, .bool false, .slice none 0 0, .bool false, .slice none 0 0, .bool false, .slice none 0 0],rfl,⟨_,rfl,bn []⟩,⟨[.bool false, .slice none 0 0, .bool false, .slice none 0 0],[.bool false, .slice none 0 0, .bool false, .slice none 0 0],rfl,⟨[.bool false, .slice none 0 0],[.bool false, .slice none 0 0],rfl,⟨[.bool false],[.slice none 0 0],rfl,rfl,⟨none,0,0,rfl,⟨⟨rfl,Nat.le_refl _,Nat.zero_le _,fun _=>rfl,fun h=>absurd h qO⟩,fun h=>absurd h qO⟩,fun _ h=>by cases h⟩⟩,⟨[.bool false],[.slice none 0 0],rfl,rfl,⟨none,0,0,rfl,⟨⟨rfl,Nat.le_refl _,Nat.zero_le _,fun _=>rfl,fun h=>absurd h qO⟩,fun h=>absurd h qO⟩,fun _ h=>by cases h⟩⟩⟩,⟨[.bool false, .slice none 0 0],[.bool false, .slice none 0 0],rfl,⟨[.bool false],[.slice none 0 0],rfl,rfl,⟨none,0,0,rfl,⟨⟨rfl,Nat.le_refl _,Nat.zero_le _,fun _=>rfl,fun h=>absurd h qO⟩,fun h=>absurd h qO⟩,fun _ h=>by cases h⟩⟩,⟨[.bool false],[.slice none 0 0],rfl,rfl,⟨none,0,0,rfl,⟨⟨rfl,Nat.le_refl _,Nat.zero_le _,fun _=>rfl,fun h=>absurd h qO⟩,fun h=>absurd h qO⟩,fun _ h=>by cases h⟩⟩⟩⟩⟩⟩
instance:eP Tryz.prog 100 1 false:=⟨⟨_,Tryz.underlying100,rfl⟩,by kernel_rfl⟩
instance:ca Tryz.prog 100 9:=⟨⟨_,Tryz.underlying100,by kernel_rfl⟩⟩
theorem gj:oQ Tryz.prog 100 177 9:=⟨Tryz.underlying100,by
 obtain ⟨i,h1,h2,h3,h4⟩:∃ i,Tryz.prog.info? 177=some i∧i.zero=some (.agg #[Tx [], .bool false, .slice none 0 0, .bool false, .slice none 0 0, .bool false, .slice none 0 0, .bool false, .slice none 0 0])∧i.size=9∧i.bytes=144:=info_parts qK
 exact ⟨i,_,h1,h2,h3,rfl⟩⟩
theorem jS:im Tryz.prog 100 177 9 144:=⟨Tryz.underlying100,by decide,by
 obtain ⟨i,h1,h2,h3,h4⟩:∃ i,Tryz.prog.info? 177=some i∧i.zero=some (.agg #[Tx [], .bool false, .slice none 0 0, .bool false, .slice none 0 0, .bool false, .slice none 0 0, .bool false, .slice none 0 0])∧i.size=9∧i.bytes=144:=info_parts qK
 exact ⟨i,_,h1,h2,h3,h4,rfl⟩⟩
theorem wk:bf Tryz.prog 125 aR:=bf.strct Tryz.underlying125 (.cons (bf.str Tryz.underlying9 qK) rfl rfl (.cons fi rfl rfl (.one fi rfl))) qK
abbrev fC:=(List UInt8)×(aP)
abbrev bg:Rp fC:=Rp.str.pair (Rp.frac)
instance:KC bg 5:=⟨rfl⟩
instance:a8 bg 0 Rp.str (fun a=>a.1):=a8.fst
instance:ah bg 0 Rp.str (fun a b=>(b,a.2)):=ah.fst
instance {a:fC}:ai (.ra bg a) 0 1 false (.is (Tx a.1)):=ai.cell inferInstance ⟨rfl⟩ inferInstance
instance:a8 bg 1 Rp.frac (fun a=>a.2):=(a8.tail (n:=1) ⟨rfl⟩ a8.self rfl)
instance:ah bg 1 Rp.frac (fun a b=>(a.1,b)):=(ah.tail (n:=1) ⟨rfl⟩ ah.self rfl)
instance {a:fC}:ai (.ra bg a) 1 4 true (.ra Rp.frac a.2):=ai.agg (g:=fun (a:fC)=>a.2) inferInstance ⟨rfl⟩
instance:eP Tryz.prog 127 5 true:=⟨⟨_,Tryz.underlying127,rfl⟩,by kernel_rfl⟩
instance:au Tryz.prog 127 0 0 1 false:=⟨⟨_,_,Tryz.underlying127,rfl,rfl,by kernel_rfl,by decide,_,Tryz.underlying9,rfl⟩⟩
instance:au Tryz.prog 127 1 1 4 true:=⟨⟨_,_,Tryz.underlying127,rfl,rfl,by kernel_rfl,by decide,_,Tryz.underlying27,rfl⟩⟩
theorem fX:de Tryz.prog 127 bg ([],((false,[]),(false,[]))):=⟨by
 obtain ⟨i,h1,h2,h3,h4⟩:∃ i,Tryz.prog.info? 127=some i∧i.zero=some (.agg #[Tx [], .bool false, .slice none 0 0, .bool false, .slice none 0 0])∧i.size=5∧i.bytes=80:=info_parts qK
 refine ⟨_,i,_,Tryz.underlying127,(fun f hf=> ?_),h1,h2,fun w S=> ?_⟩
 ·simp only [List.mem_cons,List.not_mem_nil,or_false] at hf
  rcases hf with rfl|rfl<;>exact Option.isSome_iff_exists.1 qK
 ·exact ⟨[Tx []],[.bool false, .slice none 0 0, .bool false, .slice none 0 0],rfl,⟨_,rfl,bn []⟩,⟨[.bool false, .slice none 0 0],[.bool false, .slice none 0 0],rfl,⟨[.bool false],[.slice none 0 0],rfl,rfl,⟨none,0,0,rfl,⟨⟨rfl,Nat.le_refl _,Nat.zero_le _,fun _=>rfl,fun h=>absurd h qO⟩,fun h=>absurd h qO⟩,fun _ h=>by cases h⟩⟩,⟨[.bool false],[.slice none 0 0],rfl,rfl,⟨none,0,0,rfl,⟨⟨rfl,Nat.le_refl _,Nat.zero_le _,fun _=>rfl,fun h=>absurd h qO⟩,fun h=>absurd h qO⟩,fun _ h=>by cases h⟩⟩⟩⟩⟩
instance:eP Tryz.prog 63 1 false:=⟨⟨_,Tryz.underlying63,rfl⟩,by kernel_rfl⟩
instance:ca Tryz.prog 63 5:=⟨⟨_,Tryz.underlying63,by kernel_rfl⟩⟩
theorem uH:oQ Tryz.prog 63 127 5:=⟨Tryz.underlying63,by
 obtain ⟨i,h1,h2,h3,h4⟩:∃ i,Tryz.prog.info? 127=some i∧i.zero=some (.agg #[Tx [], .bool false, .slice none 0 0, .bool false, .slice none 0 0])∧i.size=5∧i.bytes=80:=info_parts qK
 exact ⟨i,_,h1,h2,h3,rfl⟩⟩
instance:eP Tryz.prog 179 5 true:=⟨⟨_,Tryz.underlying179,rfl⟩,by kernel_rfl⟩
instance:au Tryz.prog 179 0 0 1 false:=⟨⟨_,_,Tryz.underlying179,rfl,rfl,by kernel_rfl,by decide,_,Tryz.underlying9,rfl⟩⟩
instance:au Tryz.prog 179 1 1 4 true:=⟨⟨_,_,Tryz.underlying179,rfl,rfl,by kernel_rfl,by decide,_,Tryz.underlying40,rfl⟩⟩
theorem gi:de Tryz.prog 179 bg ([],((false,[]),(false,[]))):=⟨by
 obtain ⟨i,h1,h2,h3,h4⟩:∃ i,Tryz.prog.info? 179=some i∧i.zero=some (.agg #[Tx [], .bool false, .slice none 0 0, .bool false, .slice none 0 0])∧i.size=5∧i.bytes=80:=info_parts qK
 refine ⟨_,i,_,Tryz.underlying179,(fun f hf=> ?_),h1,h2,fun w S=> ?_⟩
 ·simp only [List.mem_cons,List.not_mem_nil,or_false] at hf
  rcases hf with rfl|rfl<;>exact Option.isSome_iff_exists.1 qK
 ·exact ⟨[Tx []],[.bool false, .slice none 0 0, .bool false, .slice none 0 0],rfl,⟨_,rfl,bn []⟩,⟨[.bool false, .slice none 0 0],[.bool false, .slice none 0 0],rfl,⟨[.bool false],[.slice none 0 0],rfl,rfl,⟨none,0,0,rfl,⟨⟨rfl,Nat.le_refl _,Nat.zero_le _,fun _=>rfl,fun h=>absurd h qO⟩,fun h=>absurd h qO⟩,fun _ h=>by cases h⟩⟩,⟨[.bool false],[.slice none 0 0],rfl,rfl,⟨none,0,0,rfl,⟨⟨rfl,Nat.le_refl _,Nat.zero_le _,fun _=>rfl,fun h=>absurd h qO⟩,fun h=>absurd h qO⟩,fun _ h=>by cases h⟩⟩⟩⟩⟩
instance:eP Tryz.prog 101 1 false:=⟨⟨_,Tryz.underlying101,rfl⟩,by kernel_rfl⟩
instance:ca Tryz.prog 101 5:=⟨⟨_,Tryz.underlying101,by kernel_rfl⟩⟩
theorem gO:oQ Tryz.prog 101 179 5:=⟨Tryz.underlying101,by
 obtain ⟨i,h1,h2,h3,h4⟩:∃ i,Tryz.prog.info? 179=some i∧i.zero=some (.agg #[Tx [], .bool false, .slice none 0 0, .bool false, .slice none 0 0])∧i.size=5∧i.bytes=80:=info_parts qK
 exact ⟨i,_,h1,h2,h3,rfl⟩⟩
theorem kh:im Tryz.prog 101 179 5 80:=⟨Tryz.underlying101,by decide,by
 obtain ⟨i,h1,h2,h3,h4⟩:∃ i,Tryz.prog.info? 179=some i∧i.zero=some (.agg #[Tx [], .bool false, .slice none 0 0, .bool false, .slice none 0 0])∧i.size=5∧i.bytes=80:=info_parts qK
 exact ⟨i,_,h1,h2,h3,h4,rfl⟩⟩
theorem yl:bf Tryz.prog 127 bg:=bf.strct Tryz.underlying127 (.cons (bf.str Tryz.underlying9 qK) rfl rfl (.one fi rfl)) qK
abbrev a_:=(Int)×(List fk)×(List fl)×(List dM)×(List dT)×(List fC)
abbrev aq:Rp a_:=((Rp.int .i64).pair (aZ.row.pair (aY.row.pair (aI.row.pair (aR.row.pair (bg.row))))))
instance:KC aq 6:=⟨rfl⟩
instance:a8 aq 0 (Rp.int .i64) (fun a=>a.1):=a8.fst
instance:ah aq 0 (Rp.int .i64) (fun a b=>(b,a.2)):=ah.fst
instance {a:a_}:ai (.ra aq a) 0 1 false (.is (.int .i64 a.1)):=ai.cell inferInstance ⟨rfl⟩ inferInstance
instance:a8 aq 1 aZ.row (fun a=>a.2.1):=(a8.tail (n:=1) ⟨rfl⟩ a8.fst rfl)
instance:ah aq 1 aZ.row (fun a b=>(a.1,(b,a.2.2))):=(ah.tail (n:=1) ⟨rfl⟩ ah.fst rfl)
instance {a:a_}:ai (.ra aq a) 1 1 false (.rw aZ tt a.2.1):=ai.cell inferInstance ⟨rfl⟩ inferInstance
instance:a8 aq 2 aY.row (fun a=>a.2.2.1):=(a8.tail (n:=2) ⟨rfl⟩ (a8.tail (n:=1) ⟨rfl⟩ a8.fst rfl) rfl)
instance:ah aq 2 aY.row (fun a b=>(a.1,(a.2.1,(b,a.2.2.2)))):=(ah.tail (n:=2) ⟨rfl⟩ (ah.tail (n:=1) ⟨rfl⟩ ah.fst rfl) rfl)
instance {a:a_}:ai (.ra aq a) 2 1 false (.rw aY tt a.2.2.1):=ai.cell inferInstance ⟨rfl⟩ inferInstance
instance:a8 aq 3 aI.row (fun a=>a.2.2.2.1):=(a8.tail (n:=3) ⟨rfl⟩ (a8.tail (n:=2) ⟨rfl⟩ (a8.tail (n:=1) ⟨rfl⟩ a8.fst rfl) rfl) rfl)
instance:ah aq 3 aI.row (fun a b=>(a.1,(a.2.1,(a.2.2.1,(b,a.2.2.2.2))))):=(ah.tail (n:=3) ⟨rfl⟩ (ah.tail (n:=2) ⟨rfl⟩ (ah.tail (n:=1) ⟨rfl⟩ ah.fst rfl) rfl) rfl)
instance {a:a_}:ai (.ra aq a) 3 1 false (.rw aI tt a.2.2.2.1):=ai.cell inferInstance ⟨rfl⟩ inferInstance
instance:a8 aq 4 aR.row (fun a=>a.2.2.2.2.1):=(a8.tail (n:=4) ⟨rfl⟩ (a8.tail (n:=3) ⟨rfl⟩ (a8.tail (n:=2) ⟨rfl⟩ (a8.tail (n:=1) ⟨rfl⟩ a8.fst rfl) rfl) rfl) rfl)
instance:ah aq 4 aR.row (fun a b=>(a.1,(a.2.1,(a.2.2.1,(a.2.2.2.1,(b,a.2.2.2.2.2)))))):=(ah.tail (n:=4) ⟨rfl⟩ (ah.tail (n:=3) ⟨rfl⟩ (ah.tail (n:=2) ⟨rfl⟩ (ah.tail (n:=1) ⟨rfl⟩ ah.fst rfl) rfl) rfl) rfl)
instance {a:a_}:ai (.ra aq a) 4 1 false (.rw aR tt a.2.2.2.2.1):=ai.cell inferInstance ⟨rfl⟩ inferInstance
instance:a8 aq 5 bg.row (fun a=>a.2.2.2.2.2):=(a8.tail (n:=5) ⟨rfl⟩ (a8.tail (n:=4) ⟨rfl⟩ (a8.tail (n:=3) ⟨rfl⟩ (a8.tail (n:=2) ⟨rfl⟩ (a8.tail (n:=1) ⟨rfl⟩ a8.self rfl) rfl) rfl) rfl) rfl)
instance:ah aq 5 bg.row (fun a b=>(a.1,(a.2.1,(a.2.2.1,(a.2.2.2.1,(a.2.2.2.2.1,b)))))):=(ah.tail (n:=5) ⟨rfl⟩ (ah.tail (n:=4) ⟨rfl⟩ (ah.tail (n:=3) ⟨rfl⟩ (ah.tail (n:=2) ⟨rfl⟩ (ah.tail (n:=1) ⟨rfl⟩ ah.self rfl) rfl) rfl) rfl) rfl)
instance {a:a_}:ai (.ra aq a) 5 1 false (.rw bg tt a.2.2.2.2.2):=ai.cell inferInstance ⟨rfl⟩ inferInstance
instance:eP Tryz.prog 65 6 true:=⟨⟨_,Tryz.underlying65,rfl⟩,by kernel_rfl⟩
instance:au Tryz.prog 65 0 0 1 false:=⟨⟨_,_,Tryz.underlying65,rfl,rfl,by kernel_rfl,by decide,_,Tryz.underlying3,rfl⟩⟩
instance:au Tryz.prog 65 1 1 1 false:=⟨⟨_,_,Tryz.underlying65,rfl,rfl,by kernel_rfl,by decide,_,Tryz.underlying59,rfl⟩⟩
instance:au Tryz.prog 65 2 2 1 false:=⟨⟨_,_,Tryz.underlying65,rfl,rfl,by kernel_rfl,by decide,_,Tryz.underlying60,rfl⟩⟩
instance:au Tryz.prog 65 3 3 1 false:=⟨⟨_,_,Tryz.underlying65,rfl,rfl,by kernel_rfl,by decide,_,Tryz.underlying61,rfl⟩⟩
instance:au Tryz.prog 65 4 4 1 false:=⟨⟨_,_,Tryz.underlying65,rfl,rfl,by kernel_rfl,by decide,_,Tryz.underlying62,rfl⟩⟩
instance:au Tryz.prog 65 5 5 1 false:=⟨⟨_,_,Tryz.underlying65,rfl,rfl,by kernel_rfl,by decide,_,Tryz.underlying63,rfl⟩⟩
theorem em:de Tryz.prog 65 aq (0,[],[],[],[],[]):=⟨by
 obtain ⟨i,h1,h2,h3,h4⟩:∃ i,Tryz.prog.info? 65=some i∧i.zero=some (.agg #[.int .i64 0, .slice none 0 0, .slice none 0 0, .slice none 0 0, .slice none 0 0, .slice none 0 0])∧i.size=6∧i.bytes=128:=info_parts qK
 refine ⟨_,i,_,Tryz.underlying65,(fun f hf=> ?_),h1,h2,fun w S=> ?_⟩
 ·simp only [List.mem_cons,List.not_mem_nil,or_false] at hf
  rcases hf with rfl|rfl|rfl|rfl|rfl|rfl<;>exact Option.isSome_iff_exists.1 qK
 ·exact ⟨[.int .i64 0],[.slice none 0 0, .slice none 0 0, .slice none 0 0, .slice none 0 0, .slice none 0 0],rfl,rfl,⟨[.slice none 0 0],[.slice none 0 0, .slice none 0 0, .slice none 0 0, .slice none 0 0],rfl,⟨none,0,0,rfl,rfl,Nat.le_refl _,Nat.zero_le _,fun _=>rfl,fun h=>absurd h qO⟩,⟨[.slice none 0 0],[.slice none 0 0, .slice none 0 0, .slice none 0 0],rfl,⟨none,0,0,rfl,rfl,Nat.le_refl _,Nat.zero_le _,fun _=>rfl,fun h=>absurd h qO⟩,⟨[.slice none 0 0],[.slice none 0 0, .slice none 0 0],rfl,⟨none,0,0,rfl,rfl,Nat.le_refl _,Nat.zero_le _,fun _=>rfl,fun h=>absurd h qO⟩,⟨[.slice none 0 0],[.slice none 0 0],rfl,⟨none,0,0,rfl,rfl,Nat.le_refl _,Nat.zero_le _,fun _=>rfl,fun h=>absurd h qO⟩,⟨none,0,0,rfl,rfl,Nat.le_refl _,Nat.zero_le _,fun _=>rfl,fun h=>absurd h qO⟩⟩⟩⟩⟩⟩⟩
instance:eP Tryz.prog 30 1 false:=⟨⟨_,Tryz.underlying30,rfl⟩,by kernel_rfl⟩
instance:ca Tryz.prog 30 6:=⟨⟨_,Tryz.underlying30,by kernel_rfl⟩⟩
theorem nP:oQ Tryz.prog 30 65 6:=⟨Tryz.underlying30,by
 obtain ⟨i,h1,h2,h3,h4⟩:∃ i,Tryz.prog.info? 65=some i∧i.zero=some (.agg #[.int .i64 0, .slice none 0 0, .slice none 0 0, .slice none 0 0, .slice none 0 0, .slice none 0 0])∧i.size=6∧i.bytes=128:=info_parts qK
 exact ⟨i,_,h1,h2,h3,rfl⟩⟩
instance:eP Tryz.prog 103 6 true:=⟨⟨_,Tryz.underlying103,rfl⟩,by kernel_rfl⟩
instance:au Tryz.prog 103 0 0 1 false:=⟨⟨_,_,Tryz.underlying103,rfl,rfl,by kernel_rfl,by decide,_,Tryz.underlying3,rfl⟩⟩
instance:au Tryz.prog 103 1 1 1 false:=⟨⟨_,_,Tryz.underlying103,rfl,rfl,by kernel_rfl,by decide,_,Tryz.underlying97,rfl⟩⟩
instance:au Tryz.prog 103 2 2 1 false:=⟨⟨_,_,Tryz.underlying103,rfl,rfl,by kernel_rfl,by decide,_,Tryz.underlying98,rfl⟩⟩
instance:au Tryz.prog 103 3 3 1 false:=⟨⟨_,_,Tryz.underlying103,rfl,rfl,by kernel_rfl,by decide,_,Tryz.underlying99,rfl⟩⟩
instance:au Tryz.prog 103 4 4 1 false:=⟨⟨_,_,Tryz.underlying103,rfl,rfl,by kernel_rfl,by decide,_,Tryz.underlying100,rfl⟩⟩
instance:au Tryz.prog 103 5 5 1 false:=⟨⟨_,_,Tryz.underlying103,rfl,rfl,by kernel_rfl,by decide,_,Tryz.underlying101,rfl⟩⟩
instance:eP Tryz.prog 42 1 false:=⟨⟨_,Tryz.underlying42,rfl⟩,by kernel_rfl⟩
instance:ca Tryz.prog 42 6:=⟨⟨_,Tryz.underlying42,by kernel_rfl⟩⟩
theorem kW:oQ Tryz.prog 42 103 6:=⟨Tryz.underlying42,by
 obtain ⟨i,h1,h2,h3,h4⟩:∃ i,Tryz.prog.info? 103=some i∧i.zero=some (.agg #[.int .i64 0, .slice none 0 0, .slice none 0 0, .slice none 0 0, .slice none 0 0, .slice none 0 0])∧i.size=6∧i.bytes=128:=info_parts qK
 exact ⟨i,_,h1,h2,h3,rfl⟩⟩
theorem ke:im Tryz.prog 42 103 6 128:=⟨Tryz.underlying42,by decide,by
 obtain ⟨i,h1,h2,h3,h4⟩:∃ i,Tryz.prog.info? 103=some i∧i.zero=some (.agg #[.int .i64 0, .slice none 0 0, .slice none 0 0, .slice none 0 0, .slice none 0 0, .slice none 0 0])∧i.size=6∧i.bytes=128:=info_parts qK
 exact ⟨i,_,h1,h2,h3,h4,rfl⟩⟩
theorem yg:bf Tryz.prog 65 aq:=bf.strct Tryz.underlying65 (.cons (bf.int Tryz.underlying3 qK) rfl rfl (.cons (bf.row Tryz.underlying59 yw qK qD) rfl rfl (.cons (bf.row Tryz.underlying60 zr qK qD) rfl rfl (.cons (bf.row Tryz.underlying61 zN qK qD) rfl rfl (.cons (bf.row Tryz.underlying62 wk qK qD) rfl rfl (.one (bf.row Tryz.underlying63 yl qK qD) rfl)))))) qK
abbrev am:=(List UInt8)×(List UInt8)×(List cP)×(aP)×(aP)×(Int)×(Int)×(aP)×(aP)×(Int)×(List dJ)×(List (List UInt8))×(List a_)
abbrev ab:Rp am:=Rp.str.pair (Rp.str.pair (aA.row.pair (Rp.frac.pair (Rp.frac.pair (((Rp.int .i64).pair (((Rp.int .i64).pair (Rp.frac.pair (Rp.frac.pair (((Rp.int .i64).pair (aO.row.pair (Rp.str.row.pair (aq.row)))))))))))))))
instance:KC ab 25:=⟨rfl⟩
instance:a8 ab 0 Rp.str (fun a=>a.1):=a8.fst
instance:ah ab 0 Rp.str (fun a b=>(b,a.2)):=ah.fst
instance {a:am}:ai (.ra ab a) 0 1 false (.is (Tx a.1)):=ai.cell inferInstance ⟨rfl⟩ inferInstance
instance:a8 ab 1 Rp.str (fun a=>a.2.1):=(a8.tail (n:=1) ⟨rfl⟩ a8.fst rfl)
instance:ah ab 1 Rp.str (fun a b=>(a.1,(b,a.2.2))):=(ah.tail (n:=1) ⟨rfl⟩ ah.fst rfl)
instance {a:am}:ai (.ra ab a) 1 1 false (.is (Tx a.2.1)):=ai.cell inferInstance ⟨rfl⟩ inferInstance
instance:a8 ab 2 aA.row (fun a=>a.2.2.1):=(a8.tail (n:=2) ⟨rfl⟩ (a8.tail (n:=1) ⟨rfl⟩ a8.fst rfl) rfl)
instance:ah ab 2 aA.row (fun a b=>(a.1,(a.2.1,(b,a.2.2.2)))):=(ah.tail (n:=2) ⟨rfl⟩ (ah.tail (n:=1) ⟨rfl⟩ ah.fst rfl) rfl)
instance {a:am}:ai (.ra ab a) 2 1 false (.rw aA tt a.2.2.1):=ai.cell inferInstance ⟨rfl⟩ inferInstance
instance:a8 ab 3 Rp.frac (fun a=>a.2.2.2.1):=(a8.tail (n:=3) ⟨rfl⟩ (a8.tail (n:=2) ⟨rfl⟩ (a8.tail (n:=1) ⟨rfl⟩ a8.fst rfl) rfl) rfl)
instance:ah ab 3 Rp.frac (fun a b=>(a.1,(a.2.1,(a.2.2.1,(b,a.2.2.2.2))))):=(ah.tail (n:=3) ⟨rfl⟩ (ah.tail (n:=2) ⟨rfl⟩ (ah.tail (n:=1) ⟨rfl⟩ ah.fst rfl) rfl) rfl)
instance {a:am}:ai (.ra ab a) 3 4 true (.ra Rp.frac a.2.2.2.1):=ai.agg (g:=fun (a:am)=>a.2.2.2.1) inferInstance ⟨rfl⟩
instance:a8 ab 7 Rp.frac (fun a=>a.2.2.2.2.1):=(a8.tail (n:=7) ⟨rfl⟩ (a8.tail (n:=6) ⟨rfl⟩ (a8.tail (n:=5) ⟨rfl⟩ (a8.tail (n:=4) ⟨rfl⟩ a8.fst rfl) rfl) rfl) rfl)
instance:ah ab 7 Rp.frac (fun a b=>(a.1,(a.2.1,(a.2.2.1,(a.2.2.2.1,(b,a.2.2.2.2.2)))))):=(ah.tail (n:=7) ⟨rfl⟩ (ah.tail (n:=6) ⟨rfl⟩ (ah.tail (n:=5) ⟨rfl⟩ (ah.tail (n:=4) ⟨rfl⟩ ah.fst rfl) rfl) rfl) rfl)
instance {a:am}:ai (.ra ab a) 7 4 true (.ra Rp.frac a.2.2.2.2.1):=ai.agg (g:=fun (a:am)=>a.2.2.2.2.1) inferInstance ⟨rfl⟩
instance:a8 ab 11 (Rp.int .i64) (fun a=>a.2.2.2.2.2.1):=(a8.tail (n:=11) ⟨rfl⟩ (a8.tail (n:=10) ⟨rfl⟩ (a8.tail (n:=9) ⟨rfl⟩ (a8.tail (n:=8) ⟨rfl⟩ (a8.tail (n:=4) ⟨rfl⟩ a8.fst rfl) rfl) rfl) rfl) rfl)
instance:ah ab 11 (Rp.int .i64) (fun a b=>(a.1,(a.2.1,(a.2.2.1,(a.2.2.2.1,(a.2.2.2.2.1,(b,a.2.2.2.2.2.2))))))):=(ah.tail (n:=11) ⟨rfl⟩ (ah.tail (n:=10) ⟨rfl⟩ (ah.tail (n:=9) ⟨rfl⟩ (ah.tail (n:=8) ⟨rfl⟩ (ah.tail (n:=4) ⟨rfl⟩ ah.fst rfl) rfl) rfl) rfl) rfl)
instance {a:am}:ai (.ra ab a) 11 1 false (.is (.int .i64 a.2.2.2.2.2.1)):=ai.cell inferInstance ⟨rfl⟩ inferInstance
instance:a8 ab 12 (Rp.int .i64) (fun a=>a.2.2.2.2.2.2.1):=(a8.tail (n:=12) ⟨rfl⟩ (a8.tail (n:=11) ⟨rfl⟩ (a8.tail (n:=10) ⟨rfl⟩ (a8.tail (n:=9) ⟨rfl⟩ (a8.tail (n:=5) ⟨rfl⟩ (a8.tail (n:=1) ⟨rfl⟩ a8.fst rfl) rfl) rfl) rfl) rfl) rfl)
instance:ah ab 12 (Rp.int .i64) (fun a b=>(a.1,(a.2.1,(a.2.2.1,(a.2.2.2.1,(a.2.2.2.2.1,(a.2.2.2.2.2.1,(b,a.2.2.2.2.2.2.2)))))))):=(ah.tail (n:=12) ⟨rfl⟩ (ah.tail (n:=11) ⟨rfl⟩ (ah.tail (n:=10) ⟨rfl⟩ (ah.tail (n:=9) ⟨rfl⟩ (ah.tail (n:=5) ⟨rfl⟩ (ah.tail (n:=1) ⟨rfl⟩ ah.fst rfl) rfl) rfl) rfl) rfl) rfl)
instance {a:am}:ai (.ra ab a) 12 1 false (.is (.int .i64 a.2.2.2.2.2.2.1)):=ai.cell inferInstance ⟨rfl⟩ inferInstance
instance:a8 ab 13 Rp.frac (fun a=>a.2.2.2.2.2.2.2.1):=(a8.tail (n:=13) ⟨rfl⟩ (a8.tail (n:=12) ⟨rfl⟩ (a8.tail (n:=11) ⟨rfl⟩ (a8.tail (n:=10) ⟨rfl⟩ (a8.tail (n:=6) ⟨rfl⟩ (a8.tail (n:=2) ⟨rfl⟩ (a8.tail (n:=1) ⟨rfl⟩ a8.fst rfl) rfl) rfl) rfl) rfl) rfl) rfl)
instance:ah ab 13 Rp.frac (fun a b=>(a.1,(a.2.1,(a.2.2.1,(a.2.2.2.1,(a.2.2.2.2.1,(a.2.2.2.2.2.1,(a.2.2.2.2.2.2.1,(b,a.2.2.2.2.2.2.2.2))))))))):=(ah.tail (n:=13) ⟨rfl⟩ (ah.tail (n:=12) ⟨rfl⟩ (ah.tail (n:=11) ⟨rfl⟩ (ah.tail (n:=10) ⟨rfl⟩ (ah.tail (n:=6) ⟨rfl⟩ (ah.tail (n:=2) ⟨rfl⟩ (ah.tail (n:=1) ⟨rfl⟩ ah.fst rfl) rfl) rfl) rfl) rfl) rfl) rfl)
instance {a:am}:ai (.ra ab a) 13 4 true (.ra Rp.frac a.2.2.2.2.2.2.2.1):=ai.agg (g:=fun (a:am)=>a.2.2.2.2.2.2.2.1) inferInstance ⟨rfl⟩
instance:a8 ab 17 Rp.frac (fun a=>a.2.2.2.2.2.2.2.2.1):=(a8.tail (n:=17) ⟨rfl⟩ (a8.tail (n:=16) ⟨rfl⟩ (a8.tail (n:=15) ⟨rfl⟩ (a8.tail (n:=14) ⟨rfl⟩ (a8.tail (n:=10) ⟨rfl⟩ (a8.tail (n:=6) ⟨rfl⟩ (a8.tail (n:=5) ⟨rfl⟩ (a8.tail (n:=4) ⟨rfl⟩ a8.fst rfl) rfl) rfl) rfl) rfl) rfl) rfl) rfl)
instance:ah ab 17 Rp.frac (fun a b=>(a.1,(a.2.1,(a.2.2.1,(a.2.2.2.1,(a.2.2.2.2.1,(a.2.2.2.2.2.1,(a.2.2.2.2.2.2.1,(a.2.2.2.2.2.2.2.1,(b,a.2.2.2.2.2.2.2.2.2)))))))))):=(ah.tail (n:=17) ⟨rfl⟩ (ah.tail (n:=16) ⟨rfl⟩ (ah.tail (n:=15) ⟨rfl⟩ (ah.tail (n:=14) ⟨rfl⟩ (ah.tail (n:=10) ⟨rfl⟩ (ah.tail (n:=6) ⟨rfl⟩ (ah.tail (n:=5) ⟨rfl⟩ (ah.tail (n:=4) ⟨rfl⟩ ah.fst rfl) rfl) rfl) rfl) rfl) rfl) rfl) rfl)
instance {a:am}:ai (.ra ab a) 17 4 true (.ra Rp.frac a.2.2.2.2.2.2.2.2.1):=ai.agg (g:=fun (a:am)=>a.2.2.2.2.2.2.2.2.1) inferInstance ⟨rfl⟩
instance:a8 ab 21 (Rp.int .i64) (fun a=>a.2.2.2.2.2.2.2.2.2.1):=(a8.tail (n:=21) ⟨rfl⟩ (a8.tail (n:=20) ⟨rfl⟩ (a8.tail (n:=19) ⟨rfl⟩ (a8.tail (n:=18) ⟨rfl⟩ (a8.tail (n:=14) ⟨rfl⟩ (a8.tail (n:=10) ⟨rfl⟩ (a8.tail (n:=9) ⟨rfl⟩ (a8.tail (n:=8) ⟨rfl⟩ (a8.tail (n:=4) ⟨rfl⟩ a8.fst rfl) rfl) rfl) rfl) rfl) rfl) rfl) rfl) rfl)
instance:ah ab 21 (Rp.int .i64) (fun a b=>(a.1,(a.2.1,(a.2.2.1,(a.2.2.2.1,(a.2.2.2.2.1,(a.2.2.2.2.2.1,(a.2.2.2.2.2.2.1,(a.2.2.2.2.2.2.2.1,(a.2.2.2.2.2.2.2.2.1,(b,a.2.2.2.2.2.2.2.2.2.2))))))))))):=(ah.tail (n:=21) ⟨rfl⟩ (ah.tail (n:=20) ⟨rfl⟩ (ah.tail (n:=19) ⟨rfl⟩ (ah.tail (n:=18) ⟨rfl⟩ (ah.tail (n:=14) ⟨rfl⟩ (ah.tail (n:=10) ⟨rfl⟩ (ah.tail (n:=9) ⟨rfl⟩ (ah.tail (n:=8) ⟨rfl⟩ (ah.tail (n:=4) ⟨rfl⟩ ah.fst rfl) rfl) rfl) rfl) rfl) rfl) rfl) rfl) rfl)
instance {a:am}:ai (.ra ab a) 21 1 false (.is (.int .i64 a.2.2.2.2.2.2.2.2.2.1)):=ai.cell inferInstance ⟨rfl⟩ inferInstance
instance:a8 ab 22 aO.row (fun a=>a.2.2.2.2.2.2.2.2.2.2.1):=(a8.tail (n:=22) ⟨rfl⟩ (a8.tail (n:=21) ⟨rfl⟩ (a8.tail (n:=20) ⟨rfl⟩ (a8.tail (n:=19) ⟨rfl⟩ (a8.tail (n:=15) ⟨rfl⟩ (a8.tail (n:=11) ⟨rfl⟩ (a8.tail (n:=10) ⟨rfl⟩ (a8.tail (n:=9) ⟨rfl⟩ (a8.tail (n:=5) ⟨rfl⟩ (a8.tail (n:=1) ⟨rfl⟩ a8.fst rfl) rfl) rfl) rfl) rfl) rfl) rfl) rfl) rfl) rfl)
instance:ah ab 22 aO.row (fun a b=>(a.1,(a.2.1,(a.2.2.1,(a.2.2.2.1,(a.2.2.2.2.1,(a.2.2.2.2.2.1,(a.2.2.2.2.2.2.1,(a.2.2.2.2.2.2.2.1,(a.2.2.2.2.2.2.2.2.1,(a.2.2.2.2.2.2.2.2.2.1,(b,a.2.2.2.2.2.2.2.2.2.2.2)))))))))))):=(ah.tail (n:=22) ⟨rfl⟩ (ah.tail (n:=21) ⟨rfl⟩ (ah.tail (n:=20) ⟨rfl⟩ (ah.tail (n:=19) ⟨rfl⟩ (ah.tail (n:=15) ⟨rfl⟩ (ah.tail (n:=11) ⟨rfl⟩ (ah.tail (n:=10) ⟨rfl⟩ (ah.tail (n:=9) ⟨rfl⟩ (ah.tail (n:=5) ⟨rfl⟩ (ah.tail (n:=1) ⟨rfl⟩ ah.fst rfl) rfl) rfl) rfl) rfl) rfl) rfl) rfl) rfl) rfl)
instance {a:am}:ai (.ra ab a) 22 1 false (.rw aO tt a.2.2.2.2.2.2.2.2.2.2.1):=ai.cell inferInstance ⟨rfl⟩ inferInstance
instance:a8 ab 23 Rp.str.row (fun a=>a.2.2.2.2.2.2.2.2.2.2.2.1):=(a8.tail (n:=23) ⟨rfl⟩ (a8.tail (n:=22) ⟨rfl⟩ (a8.tail (n:=21) ⟨rfl⟩ (a8.tail (n:=20) ⟨rfl⟩ (a8.tail (n:=16) ⟨rfl⟩ (a8.tail (n:=12) ⟨rfl⟩ (a8.tail (n:=11) ⟨rfl⟩ (a8.tail (n:=10) ⟨rfl⟩ (a8.tail (n:=6) ⟨rfl⟩ (a8.tail (n:=2) ⟨rfl⟩ (a8.tail (n:=1) ⟨rfl⟩ a8.fst rfl) rfl) rfl) rfl) rfl) rfl) rfl) rfl) rfl) rfl) rfl)
instance:ah ab 23 Rp.str.row (fun a b=>(a.1,(a.2.1,(a.2.2.1,(a.2.2.2.1,(a.2.2.2.2.1,(a.2.2.2.2.2.1,(a.2.2.2.2.2.2.1,(a.2.2.2.2.2.2.2.1,(a.2.2.2.2.2.2.2.2.1,(a.2.2.2.2.2.2.2.2.2.1,(a.2.2.2.2.2.2.2.2.2.2.1,(b,a.2.2.2.2.2.2.2.2.2.2.2.2))))))))))))):=(ah.tail (n:=23) ⟨rfl⟩ (ah.tail (n:=22) ⟨rfl⟩ (ah.tail (n:=21) ⟨rfl⟩ (ah.tail (n:=20) ⟨rfl⟩ (ah.tail (n:=16) ⟨rfl⟩ (ah.tail (n:=12) ⟨rfl⟩ (ah.tail (n:=11) ⟨rfl⟩ (ah.tail (n:=10) ⟨rfl⟩ (ah.tail (n:=6) ⟨rfl⟩ (ah.tail (n:=2) ⟨rfl⟩ (ah.tail (n:=1) ⟨rfl⟩ ah.fst rfl) rfl) rfl) rfl) rfl) rfl) rfl) rfl) rfl) rfl) rfl)
instance {a:am}:ai (.ra ab a) 23 1 false (.rw Rp.str tt a.2.2.2.2.2.2.2.2.2.2.2.1):=ai.cell inferInstance ⟨rfl⟩ inferInstance
instance:a8 ab 24 aq.row (fun a=>a.2.2.2.2.2.2.2.2.2.2.2.2):=(a8.tail (n:=24) ⟨rfl⟩ (a8.tail (n:=23) ⟨rfl⟩ (a8.tail (n:=22) ⟨rfl⟩ (a8.tail (n:=21) ⟨rfl⟩ (a8.tail (n:=17) ⟨rfl⟩ (a8.tail (n:=13) ⟨rfl⟩ (a8.tail (n:=12) ⟨rfl⟩ (a8.tail (n:=11) ⟨rfl⟩ (a8.tail (n:=7) ⟨rfl⟩ (a8.tail (n:=3) ⟨rfl⟩ (a8.tail (n:=2) ⟨rfl⟩ (a8.tail (n:=1) ⟨rfl⟩ a8.self rfl) rfl) rfl) rfl) rfl) rfl) rfl) rfl) rfl) rfl) rfl) rfl)
instance:ah ab 24 aq.row (fun a b=>(a.1,(a.2.1,(a.2.2.1,(a.2.2.2.1,(a.2.2.2.2.1,(a.2.2.2.2.2.1,(a.2.2.2.2.2.2.1,(a.2.2.2.2.2.2.2.1,(a.2.2.2.2.2.2.2.2.1,(a.2.2.2.2.2.2.2.2.2.1,(a.2.2.2.2.2.2.2.2.2.2.1,(a.2.2.2.2.2.2.2.2.2.2.2.1,b))))))))))))):=(ah.tail (n:=24) ⟨rfl⟩ (ah.tail (n:=23) ⟨rfl⟩ (ah.tail (n:=22) ⟨rfl⟩ (ah.tail (n:=21) ⟨rfl⟩ (ah.tail (n:=17) ⟨rfl⟩ (ah.tail (n:=13) ⟨rfl⟩ (ah.tail (n:=12) ⟨rfl⟩ (ah.tail (n:=11) ⟨rfl⟩ (ah.tail (n:=7) ⟨rfl⟩ (ah.tail (n:=3) ⟨rfl⟩ (ah.tail (n:=2) ⟨rfl⟩ (ah.tail (n:=1) ⟨rfl⟩ ah.self rfl) rfl) rfl) rfl) rfl) rfl) rfl) rfl) rfl) rfl) rfl) rfl)
instance {a:am}:ai (.ra ab a) 24 1 false (.rw aq tt a.2.2.2.2.2.2.2.2.2.2.2.2):=ai.cell inferInstance ⟨rfl⟩ inferInstance
instance:eP Tryz.prog 32 25 true:=⟨⟨_,Tryz.underlying32,rfl⟩,by kernel_rfl⟩
instance:au Tryz.prog 32 0 0 1 false:=⟨⟨_,_,Tryz.underlying32,rfl,rfl,by kernel_rfl,by decide,_,Tryz.underlying9,rfl⟩⟩
instance:au Tryz.prog 32 1 1 1 false:=⟨⟨_,_,Tryz.underlying32,rfl,rfl,by kernel_rfl,by decide,_,Tryz.underlying9,rfl⟩⟩
instance:au Tryz.prog 32 2 2 1 false:=⟨⟨_,_,Tryz.underlying32,rfl,rfl,by kernel_rfl,by decide,_,Tryz.underlying22,rfl⟩⟩
instance:au Tryz.prog 32 3 3 4 true:=⟨⟨_,_,Tryz.underlying32,rfl,rfl,by kernel_rfl,by decide,_,Tryz.underlying27,rfl⟩⟩
instance:au Tryz.prog 32 4 7 4 true:=⟨⟨_,_,Tryz.underlying32,rfl,rfl,by kernel_rfl,by decide,_,Tryz.underlying27,rfl⟩⟩
instance:au Tryz.prog 32 5 11 1 false:=⟨⟨_,_,Tryz.underlying32,rfl,rfl,by kernel_rfl,by decide,_,Tryz.underlying3,rfl⟩⟩
instance:au Tryz.prog 32 6 12 1 false:=⟨⟨_,_,Tryz.underlying32,rfl,rfl,by kernel_rfl,by decide,_,Tryz.underlying3,rfl⟩⟩
instance:au Tryz.prog 32 7 13 4 true:=⟨⟨_,_,Tryz.underlying32,rfl,rfl,by kernel_rfl,by decide,_,Tryz.underlying27,rfl⟩⟩
instance:au Tryz.prog 32 8 17 4 true:=⟨⟨_,_,Tryz.underlying32,rfl,rfl,by kernel_rfl,by decide,_,Tryz.underlying27,rfl⟩⟩
instance:au Tryz.prog 32 9 21 1 false:=⟨⟨_,_,Tryz.underlying32,rfl,rfl,by kernel_rfl,by decide,_,Tryz.underlying3,rfl⟩⟩
instance:au Tryz.prog 32 10 22 1 false:=⟨⟨_,_,Tryz.underlying32,rfl,rfl,by kernel_rfl,by decide,_,Tryz.underlying28,rfl⟩⟩
instance:au Tryz.prog 32 11 23 1 false:=⟨⟨_,_,Tryz.underlying32,rfl,rfl,by kernel_rfl,by decide,_,Tryz.underlying29,rfl⟩⟩
instance:au Tryz.prog 32 12 24 1 false:=⟨⟨_,_,Tryz.underlying32,rfl,rfl,by kernel_rfl,by decide,_,Tryz.underlying30,rfl⟩⟩
theorem kB:de Tryz.prog 32 ab ([],[],[],((false,[]),(false,[])),((false,[]),(false,[])),0,0,((false,[]),(false,[])),((false,[]),(false,[])),0,[],[],[]):=⟨by
 obtain ⟨i,h1,h2,h3,h4⟩:∃ i,Tryz.prog.info? 32=some i∧i.zero=some (.agg #[Tx [],Tx [], .slice none 0 0, .bool false, .slice none 0 0, .bool false, .slice none 0 0, .bool false, .slice none 0 0, .bool false, .slice none 0 0, .int .i64 0, .int .i64 0, .bool false, .slice none 0 0, .bool false, .slice none 0 0, .bool false, .slice none 0 0, .bool false, .slice none 0 0, .int .i64 0, .slice none 0 0, .slice none 0 0, .slice none 0 0])∧i.size=25∧i.bytes=408:=info_parts qK
 refine ⟨_,i,_,Tryz.underlying32,(fun f hf=> ?_),h1,h2,fun w S=> ?_⟩
 ·simp only [List.mem_cons,List.not_mem_nil,or_false] at hf
  rcases hf with rfl|rfl|rfl|rfl|rfl|rfl|rfl|rfl|rfl|rfl|rfl|rfl|rfl<;>exact Option.isSome_iff_exists.1 qK
 ·exact ⟨[Tx []],[Tx [], .slice none 0 0, .bool false, .slice none 0 0, .bool false, .slice none 0 0, .bool false, .slice none 0 0, .bool false, .slice none 0 0, .int .i64 0, .int .i64 0, .bool false, .slice none 0 0, .bool false, .slice none 0 0, .bool false, .slice none 0 0, .bool false, .slice none 0 0, .int .i64 0, .slice none 0 0, .slice none 0 0, .slice none 0 0],rfl,⟨_,rfl,bn []⟩,⟨[Tx []],[.slice none 0 0, .bool false, .slice none 0 0, .bool false, .slice none 0 0, .bool false, .slice none 0 0, .bool false, .slice none 0 0, .int .i64 0, .int .i64 0, .bool false, .slice none 0 0, .bool false, .slice none 0 0, .bool false, .slice none 0 0, .bool false, .slice none 0 0, .int .i64 0, .slice none 0 0, .slice none 0 0, .slice none 0 0],rfl,⟨_,rfl,bn []⟩,⟨[.slice none 0 0],[.bool false, .slice none 0 0, .bool false, .slice none 0 0, .bool false, .slice none 0 0, .bool false, .slice none 0 0, .int .i64 0, .int .i64 0, .bool false, .slice none 0 0, .bool false, .slice none 0 0, .bool false, .slice none 0 0, .bool false, .slice none 0 0, .int .i64 0, .slice none 0 0, .slice none 0 0, .slice none 0 0],rfl,⟨none,0,0,rfl,rfl,Nat.le_refl _,Nat.zero_le _,fun _=>rfl,fun h=>absurd h qO⟩,⟨[.bool false, .slice none 0 0, .bool false, .slice none 0 0],[.bool false, .slice none 0 0, .bool false, .slice none 0 0, .int .i64 0, .int .i64 0, .bool false, .slice none 0 0, .bool false, .slice none 0 0, .bool false, .slice none 0 0, .bool false, .slice none 0 0, .int .i64 0, .slice none 0 0, .slice none 0 0, .slice none 0 0],rfl,⟨[.bool false, .slice none 0 0],[.bool false, .slice none 0 0],rfl,⟨[.bool false],[.slice none 0 0],rfl,rfl,⟨none,0,0,rfl,⟨⟨rfl,Nat.le_refl _,Nat.zero_le _,fun _=>rfl,fun h=>absurd h qO⟩,fun h=>absurd h qO⟩,fun _ h=>by cases h⟩⟩,⟨[.bool false],[.slice none 0 0],rfl,rfl,⟨none,0,0,rfl,⟨⟨rfl,Nat.le_refl _,Nat.zero_le _,fun _=>rfl,fun h=>absurd h qO⟩,fun h=>absurd h qO⟩,fun _ h=>by cases h⟩⟩⟩,⟨[.bool false, .slice none 0 0, .bool false, .slice none 0 0],[.int .i64 0, .int .i64 0, .bool false, .slice none 0 0, .bool false, .slice none 0 0, .bool false, .slice none 0 0, .bool false, .slice none 0 0, .int .i64 0, .slice none 0 0, .slice none 0 0, .slice none 0 0],rfl,⟨[.bool false, .slice none 0 0],[.bool false, .slice none 0 0],rfl,⟨[.bool false],[.slice none 0 0],rfl,rfl,⟨none,0,0,rfl,⟨⟨rfl,Nat.le_refl _,Nat.zero_le _,fun _=>rfl,fun h=>absurd h qO⟩,fun h=>absurd h qO⟩,fun _ h=>by cases h⟩⟩,⟨[.bool false],[.slice none 0 0],rfl,rfl,⟨none,0,0,rfl,⟨⟨rfl,Nat.le_refl _,Nat.zero_le _,fun _=>rfl,fun h=>absurd h qO⟩,fun h=>absurd h qO⟩,fun _ h=>by cases h⟩⟩⟩,⟨[.int .i64 0],[.int .i64 0, .bool false, .slice none 0 0, .bool false, .slice none 0 0, .bool false, .slice none 0 0, .bool false, .slice none 0 0, .int .i64 0, .slice none 0 0, .slice none 0 0, .slice none 0 0],rfl,rfl,⟨[.int .i64 0],[.bool false, .slice none 0 0, .bool false, .slice none 0 0, .bool false, .slice none 0 0, .bool false, .slice none 0 0, .int .i64 0, .slice none 0 0, .slice none 0 0, .slice none 0 0],rfl,rfl,⟨[.bool false, .slice none 0 0, .bool false, .slice none 0 0],[.bool false, .slice none 0 0, .bool false, .slice none 0 0, .int .i64 0, .slice none 0 0, .slice none 0 0, .slice none 0 0],rfl,⟨[.bool false, .slice none 0 0],[.bool false, .slice none 0 0],rfl,⟨[.bool false],[.slice none 0 0],rfl,rfl,⟨none,0,0,rfl,⟨⟨rfl,Nat.le_refl _,Nat.zero_le _,fun _=>rfl,fun h=>absurd h qO⟩,fun h=>absurd h qO⟩,fun _ h=>by cases h⟩⟩,⟨[.bool false],[.slice none 0 0],rfl,rfl,⟨none,0,0,rfl,⟨⟨rfl,Nat.le_refl _,Nat.zero_le _,fun _=>rfl,fun h=>absurd h qO⟩,fun h=>absurd h qO⟩,fun _ h=>by cases h⟩⟩⟩,⟨[.bool false, .slice none 0 0, .bool false, .slice none 0 0],[.int .i64 0, .slice none 0 0, .slice none 0 0, .slice none 0 0],rfl,⟨[.bool false, .slice none 0 0],[.bool false, .slice none 0 0],rfl,⟨[.bool false],[.slice none 0 0],rfl,rfl,⟨none,0,0,rfl,⟨⟨rfl,Nat.le_refl _,Nat.zero_le _,fun _=>rfl,fun h=>absurd h qO⟩,fun h=>absurd h qO⟩,fun _ h=>by cases h⟩⟩,⟨[.bool false],[.slice none 0 0],rfl,rfl,⟨none,0,0,rfl,⟨⟨rfl,Nat.le_refl _,Nat.zero_le _,fun _=>rfl,fun h=>absurd h qO⟩,fun h=>absurd h qO⟩,fun _ h=>by cases h⟩⟩⟩,⟨[.int .i64 0],[.slice none 0 0, .slice none 0 0, .slice none 0 0],rfl,rfl,⟨[.slice none 0 0],[.slice none 0 0, .slice none 0 0],rfl,⟨none,0,0,rfl,rfl,Nat.le_refl _,Nat.zero_le _,fun _=>rfl,fun h=>absurd h qO⟩,⟨[.slice none 0 0],[.slice none 0 0],rfl,⟨none,0,0,rfl,rfl,Nat.le_refl _,Nat.zero_le _,fun _=>rfl,fun h=>absurd h qO⟩,⟨none,0,0,rfl,rfl,Nat.le_refl _,Nat.zero_le _,fun _=>rfl,fun h=>absurd h qO⟩⟩⟩⟩⟩⟩⟩⟩⟩⟩⟩⟩⟩⟩
instance:eP Tryz.prog 44 25 true:=⟨⟨_,Tryz.underlying44,rfl⟩,by kernel_rfl⟩
instance:au Tryz.prog 44 0 0 1 false:=⟨⟨_,_,Tryz.underlying44,rfl,rfl,by kernel_rfl,by decide,_,Tryz.underlying9,rfl⟩⟩
instance:au Tryz.prog 44 1 1 1 false:=⟨⟨_,_,Tryz.underlying44,rfl,rfl,by kernel_rfl,by decide,_,Tryz.underlying9,rfl⟩⟩
instance:au Tryz.prog 44 2 2 1 false:=⟨⟨_,_,Tryz.underlying44,rfl,rfl,by kernel_rfl,by decide,_,Tryz.underlying37,rfl⟩⟩
instance:au Tryz.prog 44 3 3 4 true:=⟨⟨_,_,Tryz.underlying44,rfl,rfl,by kernel_rfl,by decide,_,Tryz.underlying40,rfl⟩⟩
instance:au Tryz.prog 44 4 7 4 true:=⟨⟨_,_,Tryz.underlying44,rfl,rfl,by kernel_rfl,by decide,_,Tryz.underlying40,rfl⟩⟩
instance:au Tryz.prog 44 5 11 1 false:=⟨⟨_,_,Tryz.underlying44,rfl,rfl,by kernel_rfl,by decide,_,Tryz.underlying3,rfl⟩⟩
instance:au Tryz.prog 44 6 12 1 false:=⟨⟨_,_,Tryz.underlying44,rfl,rfl,by kernel_rfl,by decide,_,Tryz.underlying3,rfl⟩⟩
instance:au Tryz.prog 44 7 13 4 true:=⟨⟨_,_,Tryz.underlying44,rfl,rfl,by kernel_rfl,by decide,_,Tryz.underlying40,rfl⟩⟩
instance:au Tryz.prog 44 8 17 4 true:=⟨⟨_,_,Tryz.underlying44,rfl,rfl,by kernel_rfl,by decide,_,Tryz.underlying40,rfl⟩⟩
instance:au Tryz.prog 44 9 21 1 false:=⟨⟨_,_,Tryz.underlying44,rfl,rfl,by kernel_rfl,by decide,_,Tryz.underlying3,rfl⟩⟩
instance:au Tryz.prog 44 10 22 1 false:=⟨⟨_,_,Tryz.underlying44,rfl,rfl,by kernel_rfl,by decide,_,Tryz.underlying41,rfl⟩⟩
instance:au Tryz.prog 44 11 23 1 false:=⟨⟨_,_,Tryz.underlying44,rfl,rfl,by kernel_rfl,by decide,_,Tryz.underlying29,rfl⟩⟩
instance:au Tryz.prog 44 12 24 1 false:=⟨⟨_,_,Tryz.underlying44,rfl,rfl,by kernel_rfl,by decide,_,Tryz.underlying42,rfl⟩⟩
theorem vf:bf Tryz.prog 32 ab:=bf.strct Tryz.underlying32 (.cons (bf.str Tryz.underlying9 qK) rfl rfl (.cons (bf.str Tryz.underlying9 qK) rfl rfl (.cons (bf.row Tryz.underlying22 so qK qD) rfl rfl (.cons fi rfl rfl (.cons fi rfl rfl (.cons (bf.int Tryz.underlying3 qK) rfl rfl (.cons (bf.int Tryz.underlying3 qK) rfl rfl (.cons fi rfl rfl (.cons fi rfl rfl (.cons (bf.int Tryz.underlying3 qK) rfl rfl (.cons (bf.row Tryz.underlying28 vz qK qD) rfl rfl (.cons (bf.row Tryz.underlying29 (bf.str Tryz.underlying9 qK) qK qD) rfl rfl (.one (bf.row Tryz.underlying30 yg qK qD) rfl))))))))))))) qK
abbrev mo:=(Int)×(Int)×(Int)
abbrev cV:Rp mo:=((Rp.int .u8).pair (((Rp.int .i64).pair ((Rp.int .i64)))))
instance:KC cV 3:=⟨rfl⟩
instance:a8 cV 0 (Rp.int .u8) (fun a=>a.1):=a8.fst
instance:ah cV 0 (Rp.int .u8) (fun a b=>(b,a.2)):=ah.fst
instance {a:mo}:ai (.ra cV a) 0 1 false (.is (.int .u8 a.1)):=ai.cell inferInstance ⟨rfl⟩ inferInstance
instance:a8 cV 1 (Rp.int .i64) (fun a=>a.2.1):=(a8.tail (n:=1) ⟨rfl⟩ a8.fst rfl)
instance:ah cV 1 (Rp.int .i64) (fun a b=>(a.1,(b,a.2.2))):=(ah.tail (n:=1) ⟨rfl⟩ ah.fst rfl)
instance {a:mo}:ai (.ra cV a) 1 1 false (.is (.int .i64 a.2.1)):=ai.cell inferInstance ⟨rfl⟩ inferInstance
instance:a8 cV 2 (Rp.int .i64) (fun a=>a.2.2):=(a8.tail (n:=2) ⟨rfl⟩ (a8.tail (n:=1) ⟨rfl⟩ a8.self rfl) rfl)
instance:ah cV 2 (Rp.int .i64) (fun a b=>(a.1,(a.2.1,b))):=(ah.tail (n:=2) ⟨rfl⟩ (ah.tail (n:=1) ⟨rfl⟩ ah.self rfl) rfl)
instance {a:mo}:ai (.ra cV a) 2 1 false (.is (.int .i64 a.2.2)):=ai.cell inferInstance ⟨rfl⟩ inferInstance
instance:eP Tryz.prog 71 3 true:=⟨⟨_,Tryz.underlying71,rfl⟩,by kernel_rfl⟩
instance:au Tryz.prog 71 0 0 1 false:=⟨⟨_,_,Tryz.underlying71,rfl,rfl,by kernel_rfl,by decide,_,Tryz.underlying5,rfl⟩⟩
instance:au Tryz.prog 71 1 1 1 false:=⟨⟨_,_,Tryz.underlying71,rfl,rfl,by kernel_rfl,by decide,_,Tryz.underlying3,rfl⟩⟩
instance:au Tryz.prog 71 2 2 1 false:=⟨⟨_,_,Tryz.underlying71,rfl,rfl,by kernel_rfl,by decide,_,Tryz.underlying3,rfl⟩⟩
theorem lz:de Tryz.prog 71 cV (0,0,0):=⟨by
 obtain ⟨i,h1,h2,h3,h4⟩:∃ i,Tryz.prog.info? 71=some i∧i.zero=some (.agg #[.int .u8 0, .int .i64 0, .int .i64 0])∧i.size=3∧i.bytes=24:=info_parts qK
 refine ⟨_,i,_,Tryz.underlying71,(fun f hf=> ?_),h1,h2,fun w S=> ?_⟩
 ·simp only [List.mem_cons,List.not_mem_nil,or_false] at hf
  rcases hf with rfl|rfl|rfl<;>exact Option.isSome_iff_exists.1 qK
 ·exact ⟨[.int .u8 0],[.int .i64 0, .int .i64 0],rfl,rfl,⟨[.int .i64 0],[.int .i64 0],rfl,rfl,rfl⟩⟩⟩
instance:eP Tryz.prog 129 3 true:=⟨⟨_,Tryz.underlying129,rfl⟩,by kernel_rfl⟩
instance:au Tryz.prog 129 0 0 1 false:=⟨⟨_,_,Tryz.underlying129,rfl,rfl,by kernel_rfl,by decide,_,Tryz.underlying5,rfl⟩⟩
instance:au Tryz.prog 129 1 1 1 false:=⟨⟨_,_,Tryz.underlying129,rfl,rfl,by kernel_rfl,by decide,_,Tryz.underlying3,rfl⟩⟩
instance:au Tryz.prog 129 2 2 1 false:=⟨⟨_,_,Tryz.underlying129,rfl,rfl,by kernel_rfl,by decide,_,Tryz.underlying3,rfl⟩⟩
theorem fe:∀ (ds:List Value) (w:World) (r o:Nat) (cs:List Value) (ty:TypeId),w.heap[r]? =some (.cells cs.toArray ty (0,0))→o+ds.length≤cs.length→w.setCells r o ds=w.setRow r (cs.take o++ds++cs.drop (o+ds.length)).toArray
 |[],w,r,o,cs,ty,h,hl=>by
  rw [List.append_nil,List.length_nil,Nat.add_zero,List.take_append_drop,setRow_self w r _ ty (0,0) h]
  rfl
 |v::ds,w,r,o,cs,ty,h,hl=>by
  rw [List.length_cons] at hl
  have hs:(cs.toArray.setIfInBounds o v)=(cs.set o v).toArray:=by simp
  show (w.setCell ⟨r,o,none⟩ v).setCells r (o+1) ds=_
  rw [setCell_eq_setRow w r o cs.toArray ty (0,0) v h,hs,fe ds (w.setRow r (cs.set o v).toArray) r (o+1) (cs.set o v) ty (setRow_heap w r _ _ ty _ h) (by rw [List.length_set];omega),setRow_setRow]
  congr 2
  rw [List.length_cons,show o+1+ds.length=o+(ds.length+1) by omega,List.drop_set_of_lt qO,List.append_assoc,List.append_assoc]
  rw [List.take_succ_eq_append_getElem (by rw [List.length_set];omega),List.getElem_set_self,List.take_set_of_le (Nat.le_refl o)]
  simp
theorem de.al {α:Type} {P:Program} {ty:TypeId} {r:Rp α} {a:α} (z:de P ty r a):cH P ty (.ra r a):=by
 obtain ⟨fs,i,zs,hu,hf,hi,hz,hr⟩:=z.ok
 refine ⟨.agg zs,fun X w=>⟨zs.toList,by simp,hr w _⟩,fun o ρ w e=> ?_⟩
 have hze:(zeroValue ty).run P w= .ok (.agg zs) w:=by simp [zeroValue,typeInfo,hi,hz]
 cases o with
 |mk dst op t pos af gd=>
  have e':op=_:=e
  subst e'
  unfold execOp
  simp [Instr.alloc,newVar,newRow,Sem.run_bind,hze,Result.andThen_ok]
section
variable {P:Program} {w00:World} {X:List Nat} {L L':List Loc} {E:List (Nat×aa)} {n:Nat} {ops:Array Oper} {rest:List Oper} {Q:Exit→Act→World→Prop} {cs:List Code} {t0:TypeId} {pos:String} {af:Array Edge}
theorem xL {α β:Type} {r':Rp β} {rr:Rp α} {a:α} {b:β} {u:α→β→α} {ty:TypeId} {s r off k:Nat} {o:Operand} {T:aa} {ag:Bool} [hs:bH E s (.is (.pointer (some ⟨r,off,none⟩)))] [hl:mn L r (.ra rr a)] [sr:ah rr off r' u] [ho:cb E o T] [ap:Bo T r' b] [hu:iV L r (.ra rr a) (.ra rr (u a b)) L'] [kc:KC r' k] [hty:eP P ty k ag]
 (h:GR P w00 X L' E n ops rest cs Q):GR P w00 X L E n ops (⟨none, .store ty (.tmp s) o,t0,pos,af,none⟩::rest) cs Q:=⟨fun ac w ht=>by
 refine cj rfl ?_
 have e1:ac.eval (.tmp s)= .pointer (some ⟨r,off,none⟩):=ht.slots _ hs.mem
 obtain ⟨ds,hd1,hd2⟩:=ap.ok (ho.get (X:=X) (w:=w) (ρ:=ac.eval) (fun _=>rfl) fun p hp _=>ht.slots p hp)
 obtain ⟨g1,g2,v,ty',g3,g4⟩:=ht.mem.loc _ hu.upd.mem
 obtain ⟨cs0,hc1,hc2⟩:=g3
 rw [hc1] at g4
 replace g4:w.heap[r]? =some (.cells cs0.toArray ty' (0,0)):=g4
 obtain ⟨hle,hr⟩:=sr.ok hc2 hd2
 have hlc:=rr.len hc2
 have hld:=r'.len hd2
 have hk:=kc.ok
 have hone:∀ x∈ds,x.oneCell'=true:=r'.one hd2
 have hv2:ac.eval o= .agg ds.toArray∨(ac.eval o).cells=ds.toArray:= .inr hd1
 have hsv:(storeVar ty ⟨r,off,none⟩ (ac.eval o)).run P w= .ok () (w.setRow r (cs0.take off++ds++cs0.drop (off+ds.length)).toArray):=by
  have:=run_storeVar_mid (P:=P) w r off ty ds.toArray (fun j hj=>by
   have hj:j<ds.length:=by simpa using hj
   refine ⟨?_,by simp [World.frozen?,g4]⟩
   rw [d7 (u:=cs0[off+j]' qO) g4 (by simp [show off+j<cs0.length by omega])]
   rfl) (by rw [hty.size];simp [hld,hk]) (all_oneCell_toArray hone)
  rw [←fe ds w r off cs0 ty' g4 qO]
  rw [←this]
  unfold storeVar
  rw [hd1]
  rfl
 unfold Oper.wp execOp
 simp only [e1,Instr.storeAt,Instr.sureAddr,Sem.run_bind,Sem.run_pure,Result.andThen_ok,hsv]
 have hw:=ht.write (T:= .ra rr (u a b)) (k:=0) (k0:=0) (ag:=true) (ag0:=true) (v:= .agg (cs0.take off++ds++cs0.drop (off+ds.length)).toArray) hu.upd ⟨_,rfl,by rw [hld];exact hr⟩
 exact h.run ac _ hw⟩
end
def Dt (c:UInt8):Bool:=(decide (97≤c.toNat)&&decide (c.toNat≤122)) || (decide (65≤c.toNat)&&decide (c.toNat≤90))
def IM (c:UInt8):Bool:=Dt c || (decide (48≤c.toNat)&&decide (c.toNat≤57)) || c.toNat==95 || c.toNat==45
def cS (l:List UInt8):Bool:=(match l with|[]=>false|c::_=>Dt c)&&l.all IM&&decide (l.length≤32)
def eO (k:Nat) (x:aP):Bool:=oJ x&&decide (k%(qv x).den=0)
def lK:Rat:=((1000000000000000:Int):Rat)*((1000000000000000:Int):Rat)
def mt (x:aP):Bool:=eO 100 x&&decide (ee (qv x) lK<0)&&decide (ee (-qv x) lK<0)
def nM (k:Int) (x:aP):Bool:=decide (0≤ee (qv x) 0)&&decide (ee (qv x) (k:Rat)≤0)
def lm (x:aP):Bool:=eO 1000000 x&&nM 1 x
def iP (n a b:Int):Bool:=decide (a≤n)&&decide (n≤b)
def g9 (b:cP):Bool:=mt b.1&&lm b.2
def uR (k:Int) (x:aP):Bool:=bif k==4 then lm x else bif k==5 then mt x else bif k==6 then eO 1 x&&nM 40 x else ee (qv x) 0==0
def ib (c:dJ):Bool:=cS c.1&&iP c.2.1 1 11&&uR c.2.1 c.2.2
def pJ (y:a_):Bool:=iP y.1 1 9999
def j7 (h:fk):Bool:=cS h.1&&cS h.2.1&&lm h.2.2
def jZ (b:fl):Bool:=cS b.1&&cS b.2.1&&mt b.2.2
def j3 (d:dM):Bool:=cS d.2.1&&iP d.2.2.1 1 4&&cS d.2.2.2.1&&cS d.2.2.2.2.1&&cS d.2.2.2.2.2.1&&mt d.2.2.2.2.2.2
def g_ (s:dT):Bool:=cS s.1&&mt s.2.1&&lm s.2.2
def j0 (s:fC):Bool:=cS s.1&&lm s.2
def brk {α:Type} (p:α→Bool) (most:Nat):Nat→List α→Int×Int
 |_,[]=>(0,0)
 |i,x::l=>if i=most then ((i:Int),3) else bif p x then brk p most (i+1) l else ((i:Int),2)
def ob:Nat→List Bool→Int
 |_,[]=> -1
 |i,b::l=>bif b then ob (i+1) l else (i:Int)
def qX (d:am):List Bool:=[lm d.2.2.2.1,lm d.2.2.2.2.1,lm d.2.2.2.2.2.2.2.1,iP d.2.2.2.2.2.1 0 3,iP d.2.2.2.2.2.2.1 0 40,iP d.2.2.2.2.2.2.2.2.2.1 0 40,mt d.2.2.2.2.2.2.2.2.1]
def vt (d:am):Int×Int:=bif decide (0≤ob 0 (qX d)) then (ob 0 (qX d),2) else (0,0)
def lZ (d:am):List (Int×Int×Int):=[(1,brk cS 2 0 [d.1,d.2.1]),(2,brk g9 16 0 d.2.2.1),(3,vt d),(4,brk ib 64 0 d.2.2.2.2.2.2.2.2.2.2.1),(5,brk cS 256 0 d.2.2.2.2.2.2.2.2.2.2.2.1),(6,brk pJ 40 0 d.2.2.2.2.2.2.2.2.2.2.2.2)]
def h_ (y:a_):List (Int×Int×Int):=[(7,brk j7 4096 0 y.2.1),(8,brk jZ 4096 0 y.2.2.1),(9,brk j3 4096 0 y.2.2.2.1),(10,brk g_ 4096 0 y.2.2.2.2.1),(11,brk j0 4096 0 y.2.2.2.2.2)]
abbrev I8:=(Int×Int×Int)×Int
def fj (year:Int):List (Int×Int×Int)→I8
 |[]=>((0,0,0),0)
 |(p,a,e)::t=>bif e==0 then fj year t else ((p,year,a),e)
def wX:Nat→List a_→I8
 |_,[]=>((0,0,0),0)
 |i,y::t=>bif (fj (i:Int) (h_ y)).2==0 then wX (i+1) t else fj (i:Int) (h_ y)
def jF (d:am):I8:=bif (fj (-1) (lZ d)).2==0 then wX 0 d.2.2.2.2.2.2.2.2.2.2.2.2 else fj (-1) (lZ d)
theorem mX {year:Int}:∀ {l:List (Int×Int×Int)},(fj year l).2=0→fj year l=((0,0,0),0)
 |[],_=>rfl
 |(p,a,e)::t,h=>by
  unfold fj at h ⊢
  cases he:(e==0)
  ·rw [he] at h
   have:e=0:=h
   rw [this] at he;cases he
  ·rw [he] at h
   exact mX h
end Go.Proofs.YtjjkikchncfekaaGreatDoor
