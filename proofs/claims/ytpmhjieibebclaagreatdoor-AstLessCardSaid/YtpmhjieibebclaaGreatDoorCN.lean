/- What the walks want of ast's and tallageref08's structs. Written by gen_wc.py. -/
import Derived.Test.YtpmhjieibebclaaGreatDoorCM
import Derived.Test.YtpmhjieibebclaaGreatDoorCK
import Derived.Test.YtpmhjieibebclaaGreatDoorCH
import Derived.Laws.CopyRow
set_option linter.unusedSimpArgs false
set_option linter.unusedVariables false
namespace Go.Proofs.YtpmhjieibebclaaGreatDoor
open Go Go.ChangeShapes Go.WideShapes Go.ChangeAt Go.RowKit Go.Deep
instance:KC Rp.frac 4:=⟨rfl⟩
instance {b:Bool}:lC Rp.bool b (.is (.bool b)):=⟨fun h=>by
 injection (show [_]=[_] from h) with e _⟩
abbrev dJ:=(aR)×(aR)
abbrev a_:Rp dJ:=Rp.frac.pair (Rp.frac)
instance:KC a_ 8:=⟨rfl⟩
instance:aZ a_ 0 Rp.frac (fun a=>a.1):=aZ.fst
instance:ah a_ 0 Rp.frac (fun a b=>(b,a.2)):=ah.fst
instance {a:dJ}:ai (.ra a_ a) 0 4 true (.ra Rp.frac a.1):=ai.agg (g:=fun (a:dJ)=>a.1) inferInstance ⟨rfl⟩
instance:aZ a_ 4 Rp.frac (fun a=>a.2):=(aZ.tail (n:=4) ⟨rfl⟩ aZ.self rfl)
instance:ah a_ 4 Rp.frac (fun a b=>(a.1,b)):=(ah.tail (n:=4) ⟨rfl⟩ ah.self rfl)
instance {a:dJ}:ai (.ra a_ a) 4 4 true (.ra Rp.frac a.2):=ai.agg (g:=fun (a:dJ)=>a.2) inferInstance ⟨rfl⟩
instance:fw Tryz.prog 72 8 true:=⟨⟨_,Tryz.underlying72,rfl⟩,by kernel_rfl⟩
instance:aq Tryz.prog 72 0 0 4 true:=⟨⟨_,_,Tryz.underlying72,rfl,rfl,by kernel_rfl,by decide,_,Tryz.underlying27,rfl⟩⟩
instance:aq Tryz.prog 72 1 4 4 true:=⟨⟨_,_,Tryz.underlying72,rfl,rfl,by kernel_rfl,by decide,_,Tryz.underlying27,rfl⟩⟩
theorem im:dS Tryz.prog 72 a_ (((false,[]),(false,[])),((false,[]),(false,[]))):=⟨by
 obtain ⟨i,h1,h2,h3,h4⟩:∃ i,Tryz.prog.info? 72=some i∧i.zero=some (.agg #[.bool false, .slice none 0 0, .bool false, .slice none 0 0, .bool false, .slice none 0 0, .bool false, .slice none 0 0])∧i.size=8∧i.bytes=128:=info_parts qK
 refine ⟨_,i,_,Tryz.underlying72,(fun f hf=> ?_),h1,h2,fun w S=> ?_⟩
 ·simp only [List.mem_cons,List.not_mem_nil,or_false] at hf
  rcases hf with rfl|rfl<;>exact Option.isSome_iff_exists.1 qK
 ·exact ⟨[.bool false, .slice none 0 0, .bool false, .slice none 0 0],[.bool false, .slice none 0 0, .bool false, .slice none 0 0],rfl,⟨[.bool false, .slice none 0 0],[.bool false, .slice none 0 0],rfl,⟨[.bool false],[.slice none 0 0],rfl,rfl,⟨none,0,0,rfl,⟨⟨rfl,Nat.le_refl _,Nat.zero_le _,fun _=>rfl,fun h=>absurd h qO⟩,fun h=>absurd h qO⟩,fun _ h=>by cases h⟩⟩,⟨[.bool false],[.slice none 0 0],rfl,rfl,⟨none,0,0,rfl,⟨⟨rfl,Nat.le_refl _,Nat.zero_le _,fun _=>rfl,fun h=>absurd h qO⟩,fun h=>absurd h qO⟩,fun _ h=>by cases h⟩⟩⟩,⟨[.bool false, .slice none 0 0],[.bool false, .slice none 0 0],rfl,⟨[.bool false],[.slice none 0 0],rfl,rfl,⟨none,0,0,rfl,⟨⟨rfl,Nat.le_refl _,Nat.zero_le _,fun _=>rfl,fun h=>absurd h qO⟩,fun h=>absurd h qO⟩,fun _ h=>by cases h⟩⟩,⟨[.bool false],[.slice none 0 0],rfl,rfl,⟨none,0,0,rfl,⟨⟨rfl,Nat.le_refl _,Nat.zero_le _,fun _=>rfl,fun h=>absurd h qO⟩,fun h=>absurd h qO⟩,fun _ h=>by cases h⟩⟩⟩⟩⟩
instance:fw Tryz.prog 22 1 false:=⟨⟨_,Tryz.underlying22,rfl⟩,by kernel_rfl⟩
instance:cP Tryz.prog 22 8:=⟨⟨_,Tryz.underlying22,by kernel_rfl⟩⟩
theorem lf:pp Tryz.prog 22 72 8:=⟨Tryz.underlying22,by
 obtain ⟨i,h1,h2,h3,h4⟩:∃ i,Tryz.prog.info? 72=some i∧i.zero=some (.agg #[.bool false, .slice none 0 0, .bool false, .slice none 0 0, .bool false, .slice none 0 0, .bool false, .slice none 0 0])∧i.size=8∧i.bytes=128:=info_parts qK
 exact ⟨i,_,h1,h2,h3,rfl⟩⟩
instance:fw Tryz.prog 74 8 true:=⟨⟨_,Tryz.underlying74,rfl⟩,by kernel_rfl⟩
instance:aq Tryz.prog 74 0 0 4 true:=⟨⟨_,_,Tryz.underlying74,rfl,rfl,by kernel_rfl,by decide,_,Tryz.underlying38,rfl⟩⟩
instance:aq Tryz.prog 74 1 4 4 true:=⟨⟨_,_,Tryz.underlying74,rfl,rfl,by kernel_rfl,by decide,_,Tryz.underlying38,rfl⟩⟩
theorem jx:dS Tryz.prog 74 a_ (((false,[]),(false,[])),((false,[]),(false,[]))):=⟨by
 obtain ⟨i,h1,h2,h3,h4⟩:∃ i,Tryz.prog.info? 74=some i∧i.zero=some (.agg #[.bool false, .slice none 0 0, .bool false, .slice none 0 0, .bool false, .slice none 0 0, .bool false, .slice none 0 0])∧i.size=8∧i.bytes=128:=info_parts qK
 refine ⟨_,i,_,Tryz.underlying74,(fun f hf=> ?_),h1,h2,fun w S=> ?_⟩
 ·simp only [List.mem_cons,List.not_mem_nil,or_false] at hf
  rcases hf with rfl|rfl<;>exact Option.isSome_iff_exists.1 qK
 ·exact ⟨[.bool false, .slice none 0 0, .bool false, .slice none 0 0],[.bool false, .slice none 0 0, .bool false, .slice none 0 0],rfl,⟨[.bool false, .slice none 0 0],[.bool false, .slice none 0 0],rfl,⟨[.bool false],[.slice none 0 0],rfl,rfl,⟨none,0,0,rfl,⟨⟨rfl,Nat.le_refl _,Nat.zero_le _,fun _=>rfl,fun h=>absurd h qO⟩,fun h=>absurd h qO⟩,fun _ h=>by cases h⟩⟩,⟨[.bool false],[.slice none 0 0],rfl,rfl,⟨none,0,0,rfl,⟨⟨rfl,Nat.le_refl _,Nat.zero_le _,fun _=>rfl,fun h=>absurd h qO⟩,fun h=>absurd h qO⟩,fun _ h=>by cases h⟩⟩⟩,⟨[.bool false, .slice none 0 0],[.bool false, .slice none 0 0],rfl,⟨[.bool false],[.slice none 0 0],rfl,rfl,⟨none,0,0,rfl,⟨⟨rfl,Nat.le_refl _,Nat.zero_le _,fun _=>rfl,fun h=>absurd h qO⟩,fun h=>absurd h qO⟩,fun _ h=>by cases h⟩⟩,⟨[.bool false],[.slice none 0 0],rfl,rfl,⟨none,0,0,rfl,⟨⟨rfl,Nat.le_refl _,Nat.zero_le _,fun _=>rfl,fun h=>absurd h qO⟩,fun h=>absurd h qO⟩,fun _ h=>by cases h⟩⟩⟩⟩⟩
instance:fw Tryz.prog 35 1 false:=⟨⟨_,Tryz.underlying35,rfl⟩,by kernel_rfl⟩
instance:cP Tryz.prog 35 8:=⟨⟨_,Tryz.underlying35,by kernel_rfl⟩⟩
theorem jC:pp Tryz.prog 35 74 8:=⟨Tryz.underlying35,by
 obtain ⟨i,h1,h2,h3,h4⟩:∃ i,Tryz.prog.info? 74=some i∧i.zero=some (.agg #[.bool false, .slice none 0 0, .bool false, .slice none 0 0, .bool false, .slice none 0 0, .bool false, .slice none 0 0])∧i.size=8∧i.bytes=128:=info_parts qK
 exact ⟨i,_,h1,h2,h3,rfl⟩⟩
theorem ju:iz Tryz.prog 35 74 8 128:=⟨Tryz.underlying35,by decide,by
 obtain ⟨i,h1,h2,h3,h4⟩:∃ i,Tryz.prog.info? 74=some i∧i.zero=some (.agg #[.bool false, .slice none 0 0, .bool false, .slice none 0 0, .bool false, .slice none 0 0, .bool false, .slice none 0 0])∧i.size=8∧i.bytes=128:=info_parts qK
 exact ⟨i,_,h1,h2,h3,h4,rfl⟩⟩
theorem tz:bc Tryz.prog 72 a_:=bc.strct Tryz.underlying72 (.cons fD rfl rfl (.one fD rfl)) qK
abbrev ej:=(List UInt8)×(Int)×(aR)
abbrev bq:Rp ej:=Rp.str.pair (((Rp.int .u8).pair (Rp.frac)))
instance:KC bq 6:=⟨rfl⟩
instance:aZ bq 0 Rp.str (fun a=>a.1):=aZ.fst
instance:ah bq 0 Rp.str (fun a b=>(b,a.2)):=ah.fst
instance {a:ej}:ai (.ra bq a) 0 1 false (.is (Tx a.1)):=ai.cell inferInstance ⟨rfl⟩ inferInstance
instance:aZ bq 1 (Rp.int .u8) (fun a=>a.2.1):=(aZ.tail (n:=1) ⟨rfl⟩ aZ.fst rfl)
instance:ah bq 1 (Rp.int .u8) (fun a b=>(a.1,(b,a.2.2))):=(ah.tail (n:=1) ⟨rfl⟩ ah.fst rfl)
instance {a:ej}:ai (.ra bq a) 1 1 false (.is (.int .u8 a.2.1)):=ai.cell inferInstance ⟨rfl⟩ inferInstance
instance:aZ bq 2 Rp.frac (fun a=>a.2.2):=(aZ.tail (n:=2) ⟨rfl⟩ (aZ.tail (n:=1) ⟨rfl⟩ aZ.self rfl) rfl)
instance:ah bq 2 Rp.frac (fun a b=>(a.1,(a.2.1,b))):=(ah.tail (n:=2) ⟨rfl⟩ (ah.tail (n:=1) ⟨rfl⟩ ah.self rfl) rfl)
instance {a:ej}:ai (.ra bq a) 2 4 true (.ra Rp.frac a.2.2):=ai.agg (g:=fun (a:ej)=>a.2.2) inferInstance ⟨rfl⟩
instance:fw Tryz.prog 76 6 true:=⟨⟨_,Tryz.underlying76,rfl⟩,by kernel_rfl⟩
instance:aq Tryz.prog 76 0 0 1 false:=⟨⟨_,_,Tryz.underlying76,rfl,rfl,by kernel_rfl,by decide,_,Tryz.underlying9,rfl⟩⟩
instance:aq Tryz.prog 76 1 1 1 false:=⟨⟨_,_,Tryz.underlying76,rfl,rfl,by kernel_rfl,by decide,_,Tryz.underlying5,rfl⟩⟩
instance:aq Tryz.prog 76 2 2 4 true:=⟨⟨_,_,Tryz.underlying76,rfl,rfl,by kernel_rfl,by decide,_,Tryz.underlying27,rfl⟩⟩
theorem mp:dS Tryz.prog 76 bq ([],0,((false,[]),(false,[]))):=⟨by
 obtain ⟨i,h1,h2,h3,h4⟩:∃ i,Tryz.prog.info? 76=some i∧i.zero=some (.agg #[Tx [], .int .u8 0, .bool false, .slice none 0 0, .bool false, .slice none 0 0])∧i.size=6∧i.bytes=88:=info_parts qK
 refine ⟨_,i,_,Tryz.underlying76,(fun f hf=> ?_),h1,h2,fun w S=> ?_⟩
 ·simp only [List.mem_cons,List.not_mem_nil,or_false] at hf
  rcases hf with rfl|rfl|rfl<;>exact Option.isSome_iff_exists.1 qK
 ·exact ⟨[Tx []],[.int .u8 0, .bool false, .slice none 0 0, .bool false, .slice none 0 0],rfl,⟨_,rfl,bu []⟩,⟨[.int .u8 0],[.bool false, .slice none 0 0, .bool false, .slice none 0 0],rfl,rfl,⟨[.bool false, .slice none 0 0],[.bool false, .slice none 0 0],rfl,⟨[.bool false],[.slice none 0 0],rfl,rfl,⟨none,0,0,rfl,⟨⟨rfl,Nat.le_refl _,Nat.zero_le _,fun _=>rfl,fun h=>absurd h qO⟩,fun h=>absurd h qO⟩,fun _ h=>by cases h⟩⟩,⟨[.bool false],[.slice none 0 0],rfl,rfl,⟨none,0,0,rfl,⟨⟨rfl,Nat.le_refl _,Nat.zero_le _,fun _=>rfl,fun h=>absurd h qO⟩,fun h=>absurd h qO⟩,fun _ h=>by cases h⟩⟩⟩⟩⟩⟩
instance:fw Tryz.prog 28 1 false:=⟨⟨_,Tryz.underlying28,rfl⟩,by kernel_rfl⟩
instance:cP Tryz.prog 28 6:=⟨⟨_,Tryz.underlying28,by kernel_rfl⟩⟩
theorem s_:pp Tryz.prog 28 76 6:=⟨Tryz.underlying28,by
 obtain ⟨i,h1,h2,h3,h4⟩:∃ i,Tryz.prog.info? 76=some i∧i.zero=some (.agg #[Tx [], .int .u8 0, .bool false, .slice none 0 0, .bool false, .slice none 0 0])∧i.size=6∧i.bytes=88:=info_parts qK
 exact ⟨i,_,h1,h2,h3,rfl⟩⟩
instance:fw Tryz.prog 78 6 true:=⟨⟨_,Tryz.underlying78,rfl⟩,by kernel_rfl⟩
instance:aq Tryz.prog 78 0 0 1 false:=⟨⟨_,_,Tryz.underlying78,rfl,rfl,by kernel_rfl,by decide,_,Tryz.underlying9,rfl⟩⟩
instance:aq Tryz.prog 78 1 1 1 false:=⟨⟨_,_,Tryz.underlying78,rfl,rfl,by kernel_rfl,by decide,_,Tryz.underlying5,rfl⟩⟩
instance:aq Tryz.prog 78 2 2 4 true:=⟨⟨_,_,Tryz.underlying78,rfl,rfl,by kernel_rfl,by decide,_,Tryz.underlying38,rfl⟩⟩
theorem j5:dS Tryz.prog 78 bq ([],0,((false,[]),(false,[]))):=⟨by
 obtain ⟨i,h1,h2,h3,h4⟩:∃ i,Tryz.prog.info? 78=some i∧i.zero=some (.agg #[Tx [], .int .u8 0, .bool false, .slice none 0 0, .bool false, .slice none 0 0])∧i.size=6∧i.bytes=88:=info_parts qK
 refine ⟨_,i,_,Tryz.underlying78,(fun f hf=> ?_),h1,h2,fun w S=> ?_⟩
 ·simp only [List.mem_cons,List.not_mem_nil,or_false] at hf
  rcases hf with rfl|rfl|rfl<;>exact Option.isSome_iff_exists.1 qK
 ·exact ⟨[Tx []],[.int .u8 0, .bool false, .slice none 0 0, .bool false, .slice none 0 0],rfl,⟨_,rfl,bu []⟩,⟨[.int .u8 0],[.bool false, .slice none 0 0, .bool false, .slice none 0 0],rfl,rfl,⟨[.bool false, .slice none 0 0],[.bool false, .slice none 0 0],rfl,⟨[.bool false],[.slice none 0 0],rfl,rfl,⟨none,0,0,rfl,⟨⟨rfl,Nat.le_refl _,Nat.zero_le _,fun _=>rfl,fun h=>absurd h qO⟩,fun h=>absurd h qO⟩,fun _ h=>by cases h⟩⟩,⟨[.bool false],[.slice none 0 0],rfl,rfl,⟨none,0,0,rfl,⟨⟨rfl,Nat.le_refl _,Nat.zero_le _,fun _=>rfl,fun h=>absurd h qO⟩,fun h=>absurd h qO⟩,fun _ h=>by cases h⟩⟩⟩⟩⟩⟩
instance:fw Tryz.prog 39 1 false:=⟨⟨_,Tryz.underlying39,rfl⟩,by kernel_rfl⟩
instance:cP Tryz.prog 39 6:=⟨⟨_,Tryz.underlying39,by kernel_rfl⟩⟩
theorem k8:pp Tryz.prog 39 78 6:=⟨Tryz.underlying39,by
 obtain ⟨i,h1,h2,h3,h4⟩:∃ i,Tryz.prog.info? 78=some i∧i.zero=some (.agg #[Tx [], .int .u8 0, .bool false, .slice none 0 0, .bool false, .slice none 0 0])∧i.size=6∧i.bytes=88:=info_parts qK
 exact ⟨i,_,h1,h2,h3,rfl⟩⟩
theorem jV:iz Tryz.prog 39 78 6 88:=⟨Tryz.underlying39,by decide,by
 obtain ⟨i,h1,h2,h3,h4⟩:∃ i,Tryz.prog.info? 78=some i∧i.zero=some (.agg #[Tx [], .int .u8 0, .bool false, .slice none 0 0, .bool false, .slice none 0 0])∧i.size=6∧i.bytes=88:=info_parts qK
 exact ⟨i,_,h1,h2,h3,h4,rfl⟩⟩
theorem wC:bc Tryz.prog 76 bq:=bc.strct Tryz.underlying76 (.cons (bc.str Tryz.underlying9 qK) rfl rfl (.cons (bc.int Tryz.underlying5 qK) rfl rfl (.one fD rfl))) qK
abbrev gk:=(List UInt8)×(List UInt8)×(aR)
abbrev bl:Rp gk:=Rp.str.pair (Rp.str.pair (Rp.frac))
instance:KC bl 6:=⟨rfl⟩
instance:aZ bl 0 Rp.str (fun a=>a.1):=aZ.fst
instance:ah bl 0 Rp.str (fun a b=>(b,a.2)):=ah.fst
instance {a:gk}:ai (.ra bl a) 0 1 false (.is (Tx a.1)):=ai.cell inferInstance ⟨rfl⟩ inferInstance
instance:aZ bl 1 Rp.str (fun a=>a.2.1):=(aZ.tail (n:=1) ⟨rfl⟩ aZ.fst rfl)
instance:ah bl 1 Rp.str (fun a b=>(a.1,(b,a.2.2))):=(ah.tail (n:=1) ⟨rfl⟩ ah.fst rfl)
instance {a:gk}:ai (.ra bl a) 1 1 false (.is (Tx a.2.1)):=ai.cell inferInstance ⟨rfl⟩ inferInstance
instance:aZ bl 2 Rp.frac (fun a=>a.2.2):=(aZ.tail (n:=2) ⟨rfl⟩ (aZ.tail (n:=1) ⟨rfl⟩ aZ.self rfl) rfl)
instance:ah bl 2 Rp.frac (fun a b=>(a.1,(a.2.1,b))):=(ah.tail (n:=2) ⟨rfl⟩ (ah.tail (n:=1) ⟨rfl⟩ ah.self rfl) rfl)
instance {a:gk}:ai (.ra bl a) 2 4 true (.ra Rp.frac a.2.2):=ai.agg (g:=fun (a:gk)=>a.2.2) inferInstance ⟨rfl⟩
instance:fw Tryz.prog 100 6 true:=⟨⟨_,Tryz.underlying100,rfl⟩,by kernel_rfl⟩
instance:aq Tryz.prog 100 0 0 1 false:=⟨⟨_,_,Tryz.underlying100,rfl,rfl,by kernel_rfl,by decide,_,Tryz.underlying9,rfl⟩⟩
instance:aq Tryz.prog 100 1 1 1 false:=⟨⟨_,_,Tryz.underlying100,rfl,rfl,by kernel_rfl,by decide,_,Tryz.underlying9,rfl⟩⟩
instance:aq Tryz.prog 100 2 2 4 true:=⟨⟨_,_,Tryz.underlying100,rfl,rfl,by kernel_rfl,by decide,_,Tryz.underlying27,rfl⟩⟩
theorem mP:dS Tryz.prog 100 bl ([],[],((false,[]),(false,[]))):=⟨by
 obtain ⟨i,h1,h2,h3,h4⟩:∃ i,Tryz.prog.info? 100=some i∧i.zero=some (.agg #[Tx [],Tx [], .bool false, .slice none 0 0, .bool false, .slice none 0 0])∧i.size=6∧i.bytes=96:=info_parts qK
 refine ⟨_,i,_,Tryz.underlying100,(fun f hf=> ?_),h1,h2,fun w S=> ?_⟩
 ·simp only [List.mem_cons,List.not_mem_nil,or_false] at hf
  rcases hf with rfl|rfl|rfl<;>exact Option.isSome_iff_exists.1 qK
 ·exact ⟨[Tx []],[Tx [], .bool false, .slice none 0 0, .bool false, .slice none 0 0],rfl,⟨_,rfl,bu []⟩,⟨[Tx []],[.bool false, .slice none 0 0, .bool false, .slice none 0 0],rfl,⟨_,rfl,bu []⟩,⟨[.bool false, .slice none 0 0],[.bool false, .slice none 0 0],rfl,⟨[.bool false],[.slice none 0 0],rfl,rfl,⟨none,0,0,rfl,⟨⟨rfl,Nat.le_refl _,Nat.zero_le _,fun _=>rfl,fun h=>absurd h qO⟩,fun h=>absurd h qO⟩,fun _ h=>by cases h⟩⟩,⟨[.bool false],[.slice none 0 0],rfl,rfl,⟨none,0,0,rfl,⟨⟨rfl,Nat.le_refl _,Nat.zero_le _,fun _=>rfl,fun h=>absurd h qO⟩,fun h=>absurd h qO⟩,fun _ h=>by cases h⟩⟩⟩⟩⟩⟩
instance:fw Tryz.prog 54 1 false:=⟨⟨_,Tryz.underlying54,rfl⟩,by kernel_rfl⟩
instance:cP Tryz.prog 54 6:=⟨⟨_,Tryz.underlying54,by kernel_rfl⟩⟩
theorem wg:pp Tryz.prog 54 100 6:=⟨Tryz.underlying54,by
 obtain ⟨i,h1,h2,h3,h4⟩:∃ i,Tryz.prog.info? 100=some i∧i.zero=some (.agg #[Tx [],Tx [], .bool false, .slice none 0 0, .bool false, .slice none 0 0])∧i.size=6∧i.bytes=96:=info_parts qK
 exact ⟨i,_,h1,h2,h3,rfl⟩⟩
instance:fw Tryz.prog 126 6 true:=⟨⟨_,Tryz.underlying126,rfl⟩,by kernel_rfl⟩
instance:aq Tryz.prog 126 0 0 1 false:=⟨⟨_,_,Tryz.underlying126,rfl,rfl,by kernel_rfl,by decide,_,Tryz.underlying9,rfl⟩⟩
instance:aq Tryz.prog 126 1 1 1 false:=⟨⟨_,_,Tryz.underlying126,rfl,rfl,by kernel_rfl,by decide,_,Tryz.underlying9,rfl⟩⟩
instance:aq Tryz.prog 126 2 2 4 true:=⟨⟨_,_,Tryz.underlying126,rfl,rfl,by kernel_rfl,by decide,_,Tryz.underlying38,rfl⟩⟩
theorem fc:dS Tryz.prog 126 bl ([],[],((false,[]),(false,[]))):=⟨by
 obtain ⟨i,h1,h2,h3,h4⟩:∃ i,Tryz.prog.info? 126=some i∧i.zero=some (.agg #[Tx [],Tx [], .bool false, .slice none 0 0, .bool false, .slice none 0 0])∧i.size=6∧i.bytes=96:=info_parts qK
 refine ⟨_,i,_,Tryz.underlying126,(fun f hf=> ?_),h1,h2,fun w S=> ?_⟩
 ·simp only [List.mem_cons,List.not_mem_nil,or_false] at hf
  rcases hf with rfl|rfl|rfl<;>exact Option.isSome_iff_exists.1 qK
 ·exact ⟨[Tx []],[Tx [], .bool false, .slice none 0 0, .bool false, .slice none 0 0],rfl,⟨_,rfl,bu []⟩,⟨[Tx []],[.bool false, .slice none 0 0, .bool false, .slice none 0 0],rfl,⟨_,rfl,bu []⟩,⟨[.bool false, .slice none 0 0],[.bool false, .slice none 0 0],rfl,⟨[.bool false],[.slice none 0 0],rfl,rfl,⟨none,0,0,rfl,⟨⟨rfl,Nat.le_refl _,Nat.zero_le _,fun _=>rfl,fun h=>absurd h qO⟩,fun h=>absurd h qO⟩,fun _ h=>by cases h⟩⟩,⟨[.bool false],[.slice none 0 0],rfl,rfl,⟨none,0,0,rfl,⟨⟨rfl,Nat.le_refl _,Nat.zero_le _,fun _=>rfl,fun h=>absurd h qO⟩,fun h=>absurd h qO⟩,fun _ h=>by cases h⟩⟩⟩⟩⟩⟩
instance:fw Tryz.prog 79 1 false:=⟨⟨_,Tryz.underlying79,rfl⟩,by kernel_rfl⟩
instance:cP Tryz.prog 79 6:=⟨⟨_,Tryz.underlying79,by kernel_rfl⟩⟩
theorem ie:pp Tryz.prog 79 126 6:=⟨Tryz.underlying79,by
 obtain ⟨i,h1,h2,h3,h4⟩:∃ i,Tryz.prog.info? 126=some i∧i.zero=some (.agg #[Tx [],Tx [], .bool false, .slice none 0 0, .bool false, .slice none 0 0])∧i.size=6∧i.bytes=96:=info_parts qK
 exact ⟨i,_,h1,h2,h3,rfl⟩⟩
theorem kP:iz Tryz.prog 79 126 6 96:=⟨Tryz.underlying79,by decide,by
 obtain ⟨i,h1,h2,h3,h4⟩:∃ i,Tryz.prog.info? 126=some i∧i.zero=some (.agg #[Tx [],Tx [], .bool false, .slice none 0 0, .bool false, .slice none 0 0])∧i.size=6∧i.bytes=96:=info_parts qK
 exact ⟨i,_,h1,h2,h3,h4,rfl⟩⟩
theorem y9:bc Tryz.prog 100 bl:=bc.strct Tryz.underlying100 (.cons (bc.str Tryz.underlying9 qK) rfl rfl (.cons (bc.str Tryz.underlying9 qK) rfl rfl (.one fD rfl))) qK
abbrev gl:=(List UInt8)×(List UInt8)×(aR)
abbrev bk:Rp gl:=Rp.str.pair (Rp.str.pair (Rp.frac))
instance:KC bk 6:=⟨rfl⟩
instance:aZ bk 0 Rp.str (fun a=>a.1):=aZ.fst
instance:ah bk 0 Rp.str (fun a b=>(b,a.2)):=ah.fst
instance {a:gl}:ai (.ra bk a) 0 1 false (.is (Tx a.1)):=ai.cell inferInstance ⟨rfl⟩ inferInstance
instance:aZ bk 1 Rp.str (fun a=>a.2.1):=(aZ.tail (n:=1) ⟨rfl⟩ aZ.fst rfl)
instance:ah bk 1 Rp.str (fun a b=>(a.1,(b,a.2.2))):=(ah.tail (n:=1) ⟨rfl⟩ ah.fst rfl)
instance {a:gl}:ai (.ra bk a) 1 1 false (.is (Tx a.2.1)):=ai.cell inferInstance ⟨rfl⟩ inferInstance
instance:aZ bk 2 Rp.frac (fun a=>a.2.2):=(aZ.tail (n:=2) ⟨rfl⟩ (aZ.tail (n:=1) ⟨rfl⟩ aZ.self rfl) rfl)
instance:ah bk 2 Rp.frac (fun a b=>(a.1,(a.2.1,b))):=(ah.tail (n:=2) ⟨rfl⟩ (ah.tail (n:=1) ⟨rfl⟩ ah.self rfl) rfl)
instance {a:gl}:ai (.ra bk a) 2 4 true (.ra Rp.frac a.2.2):=ai.agg (g:=fun (a:gl)=>a.2.2) inferInstance ⟨rfl⟩
instance:fw Tryz.prog 102 6 true:=⟨⟨_,Tryz.underlying102,rfl⟩,by kernel_rfl⟩
instance:aq Tryz.prog 102 0 0 1 false:=⟨⟨_,_,Tryz.underlying102,rfl,rfl,by kernel_rfl,by decide,_,Tryz.underlying9,rfl⟩⟩
instance:aq Tryz.prog 102 1 1 1 false:=⟨⟨_,_,Tryz.underlying102,rfl,rfl,by kernel_rfl,by decide,_,Tryz.underlying9,rfl⟩⟩
instance:aq Tryz.prog 102 2 2 4 true:=⟨⟨_,_,Tryz.underlying102,rfl,rfl,by kernel_rfl,by decide,_,Tryz.underlying27,rfl⟩⟩
theorem m_:dS Tryz.prog 102 bk ([],[],((false,[]),(false,[]))):=⟨by
 obtain ⟨i,h1,h2,h3,h4⟩:∃ i,Tryz.prog.info? 102=some i∧i.zero=some (.agg #[Tx [],Tx [], .bool false, .slice none 0 0, .bool false, .slice none 0 0])∧i.size=6∧i.bytes=96:=info_parts qK
 refine ⟨_,i,_,Tryz.underlying102,(fun f hf=> ?_),h1,h2,fun w S=> ?_⟩
 ·simp only [List.mem_cons,List.not_mem_nil,or_false] at hf
  rcases hf with rfl|rfl|rfl<;>exact Option.isSome_iff_exists.1 qK
 ·exact ⟨[Tx []],[Tx [], .bool false, .slice none 0 0, .bool false, .slice none 0 0],rfl,⟨_,rfl,bu []⟩,⟨[Tx []],[.bool false, .slice none 0 0, .bool false, .slice none 0 0],rfl,⟨_,rfl,bu []⟩,⟨[.bool false, .slice none 0 0],[.bool false, .slice none 0 0],rfl,⟨[.bool false],[.slice none 0 0],rfl,rfl,⟨none,0,0,rfl,⟨⟨rfl,Nat.le_refl _,Nat.zero_le _,fun _=>rfl,fun h=>absurd h qO⟩,fun h=>absurd h qO⟩,fun _ h=>by cases h⟩⟩,⟨[.bool false],[.slice none 0 0],rfl,rfl,⟨none,0,0,rfl,⟨⟨rfl,Nat.le_refl _,Nat.zero_le _,fun _=>rfl,fun h=>absurd h qO⟩,fun h=>absurd h qO⟩,fun _ h=>by cases h⟩⟩⟩⟩⟩⟩
instance:fw Tryz.prog 55 1 false:=⟨⟨_,Tryz.underlying55,rfl⟩,by kernel_rfl⟩
instance:cP Tryz.prog 55 6:=⟨⟨_,Tryz.underlying55,by kernel_rfl⟩⟩
theorem uc:pp Tryz.prog 55 102 6:=⟨Tryz.underlying55,by
 obtain ⟨i,h1,h2,h3,h4⟩:∃ i,Tryz.prog.info? 102=some i∧i.zero=some (.agg #[Tx [],Tx [], .bool false, .slice none 0 0, .bool false, .slice none 0 0])∧i.size=6∧i.bytes=96:=info_parts qK
 exact ⟨i,_,h1,h2,h3,rfl⟩⟩
instance:fw Tryz.prog 128 6 true:=⟨⟨_,Tryz.underlying128,rfl⟩,by kernel_rfl⟩
instance:aq Tryz.prog 128 0 0 1 false:=⟨⟨_,_,Tryz.underlying128,rfl,rfl,by kernel_rfl,by decide,_,Tryz.underlying9,rfl⟩⟩
instance:aq Tryz.prog 128 1 1 1 false:=⟨⟨_,_,Tryz.underlying128,rfl,rfl,by kernel_rfl,by decide,_,Tryz.underlying9,rfl⟩⟩
instance:aq Tryz.prog 128 2 2 4 true:=⟨⟨_,_,Tryz.underlying128,rfl,rfl,by kernel_rfl,by decide,_,Tryz.underlying38,rfl⟩⟩
theorem fd:dS Tryz.prog 128 bk ([],[],((false,[]),(false,[]))):=⟨by
 obtain ⟨i,h1,h2,h3,h4⟩:∃ i,Tryz.prog.info? 128=some i∧i.zero=some (.agg #[Tx [],Tx [], .bool false, .slice none 0 0, .bool false, .slice none 0 0])∧i.size=6∧i.bytes=96:=info_parts qK
 refine ⟨_,i,_,Tryz.underlying128,(fun f hf=> ?_),h1,h2,fun w S=> ?_⟩
 ·simp only [List.mem_cons,List.not_mem_nil,or_false] at hf
  rcases hf with rfl|rfl|rfl<;>exact Option.isSome_iff_exists.1 qK
 ·exact ⟨[Tx []],[Tx [], .bool false, .slice none 0 0, .bool false, .slice none 0 0],rfl,⟨_,rfl,bu []⟩,⟨[Tx []],[.bool false, .slice none 0 0, .bool false, .slice none 0 0],rfl,⟨_,rfl,bu []⟩,⟨[.bool false, .slice none 0 0],[.bool false, .slice none 0 0],rfl,⟨[.bool false],[.slice none 0 0],rfl,rfl,⟨none,0,0,rfl,⟨⟨rfl,Nat.le_refl _,Nat.zero_le _,fun _=>rfl,fun h=>absurd h qO⟩,fun h=>absurd h qO⟩,fun _ h=>by cases h⟩⟩,⟨[.bool false],[.slice none 0 0],rfl,rfl,⟨none,0,0,rfl,⟨⟨rfl,Nat.le_refl _,Nat.zero_le _,fun _=>rfl,fun h=>absurd h qO⟩,fun h=>absurd h qO⟩,fun _ h=>by cases h⟩⟩⟩⟩⟩⟩
instance:fw Tryz.prog 80 1 false:=⟨⟨_,Tryz.underlying80,rfl⟩,by kernel_rfl⟩
instance:cP Tryz.prog 80 6:=⟨⟨_,Tryz.underlying80,by kernel_rfl⟩⟩
theorem ic:pp Tryz.prog 80 128 6:=⟨Tryz.underlying80,by
 obtain ⟨i,h1,h2,h3,h4⟩:∃ i,Tryz.prog.info? 128=some i∧i.zero=some (.agg #[Tx [],Tx [], .bool false, .slice none 0 0, .bool false, .slice none 0 0])∧i.size=6∧i.bytes=96:=info_parts qK
 exact ⟨i,_,h1,h2,h3,rfl⟩⟩
theorem kM:iz Tryz.prog 80 128 6 96:=⟨Tryz.underlying80,by decide,by
 obtain ⟨i,h1,h2,h3,h4⟩:∃ i,Tryz.prog.info? 128=some i∧i.zero=some (.agg #[Tx [],Tx [], .bool false, .slice none 0 0, .bool false, .slice none 0 0])∧i.size=6∧i.bytes=96:=info_parts qK
 exact ⟨i,_,h1,h2,h3,h4,rfl⟩⟩
theorem zW:bc Tryz.prog 102 bk:=bc.strct Tryz.underlying102 (.cons (bc.str Tryz.underlying9 qK) rfl rfl (.cons (bc.str Tryz.underlying9 qK) rfl rfl (.one fD rfl))) qK
abbrev fb:=(Bool)×(List UInt8)×(Int)×(List UInt8)×(List UInt8)×(List UInt8)×(aR)
abbrev a7:Rp fb:=Rp.bool.pair (Rp.str.pair (((Rp.int .u8).pair (Rp.str.pair (Rp.str.pair (Rp.str.pair (Rp.frac)))))))
instance:KC a7 10:=⟨rfl⟩
instance:aZ a7 0 Rp.bool (fun a=>a.1):=aZ.fst
instance:ah a7 0 Rp.bool (fun a b=>(b,a.2)):=ah.fst
instance {a:fb}:ai (.ra a7 a) 0 1 false (.is (.bool a.1)):=ai.cell inferInstance ⟨rfl⟩ inferInstance
instance:aZ a7 1 Rp.str (fun a=>a.2.1):=(aZ.tail (n:=1) ⟨rfl⟩ aZ.fst rfl)
instance:ah a7 1 Rp.str (fun a b=>(a.1,(b,a.2.2))):=(ah.tail (n:=1) ⟨rfl⟩ ah.fst rfl)
instance {a:fb}:ai (.ra a7 a) 1 1 false (.is (Tx a.2.1)):=ai.cell inferInstance ⟨rfl⟩ inferInstance
instance:aZ a7 2 (Rp.int .u8) (fun a=>a.2.2.1):=(aZ.tail (n:=2) ⟨rfl⟩ (aZ.tail (n:=1) ⟨rfl⟩ aZ.fst rfl) rfl)
instance:ah a7 2 (Rp.int .u8) (fun a b=>(a.1,(a.2.1,(b,a.2.2.2)))):=(ah.tail (n:=2) ⟨rfl⟩ (ah.tail (n:=1) ⟨rfl⟩ ah.fst rfl) rfl)
instance {a:fb}:ai (.ra a7 a) 2 1 false (.is (.int .u8 a.2.2.1)):=ai.cell inferInstance ⟨rfl⟩ inferInstance
instance:aZ a7 3 Rp.str (fun a=>a.2.2.2.1):=(aZ.tail (n:=3) ⟨rfl⟩ (aZ.tail (n:=2) ⟨rfl⟩ (aZ.tail (n:=1) ⟨rfl⟩ aZ.fst rfl) rfl) rfl)
instance:ah a7 3 Rp.str (fun a b=>(a.1,(a.2.1,(a.2.2.1,(b,a.2.2.2.2))))):=(ah.tail (n:=3) ⟨rfl⟩ (ah.tail (n:=2) ⟨rfl⟩ (ah.tail (n:=1) ⟨rfl⟩ ah.fst rfl) rfl) rfl)
instance {a:fb}:ai (.ra a7 a) 3 1 false (.is (Tx a.2.2.2.1)):=ai.cell inferInstance ⟨rfl⟩ inferInstance
instance:aZ a7 4 Rp.str (fun a=>a.2.2.2.2.1):=(aZ.tail (n:=4) ⟨rfl⟩ (aZ.tail (n:=3) ⟨rfl⟩ (aZ.tail (n:=2) ⟨rfl⟩ (aZ.tail (n:=1) ⟨rfl⟩ aZ.fst rfl) rfl) rfl) rfl)
instance:ah a7 4 Rp.str (fun a b=>(a.1,(a.2.1,(a.2.2.1,(a.2.2.2.1,(b,a.2.2.2.2.2)))))):=(ah.tail (n:=4) ⟨rfl⟩ (ah.tail (n:=3) ⟨rfl⟩ (ah.tail (n:=2) ⟨rfl⟩ (ah.tail (n:=1) ⟨rfl⟩ ah.fst rfl) rfl) rfl) rfl)
instance {a:fb}:ai (.ra a7 a) 4 1 false (.is (Tx a.2.2.2.2.1)):=ai.cell inferInstance ⟨rfl⟩ inferInstance
instance:aZ a7 5 Rp.str (fun a=>a.2.2.2.2.2.1):=(aZ.tail (n:=5) ⟨rfl⟩ (aZ.tail (n:=4) ⟨rfl⟩ (aZ.tail (n:=3) ⟨rfl⟩ (aZ.tail (n:=2) ⟨rfl⟩ (aZ.tail (n:=1) ⟨rfl⟩ aZ.fst rfl) rfl) rfl) rfl) rfl)
instance:ah a7 5 Rp.str (fun a b=>(a.1,(a.2.1,(a.2.2.1,(a.2.2.2.1,(a.2.2.2.2.1,(b,a.2.2.2.2.2.2))))))):=(ah.tail (n:=5) ⟨rfl⟩ (ah.tail (n:=4) ⟨rfl⟩ (ah.tail (n:=3) ⟨rfl⟩ (ah.tail (n:=2) ⟨rfl⟩ (ah.tail (n:=1) ⟨rfl⟩ ah.fst rfl) rfl) rfl) rfl) rfl)
instance {a:fb}:ai (.ra a7 a) 5 1 false (.is (Tx a.2.2.2.2.2.1)):=ai.cell inferInstance ⟨rfl⟩ inferInstance
instance:aZ a7 6 Rp.frac (fun a=>a.2.2.2.2.2.2):=(aZ.tail (n:=6) ⟨rfl⟩ (aZ.tail (n:=5) ⟨rfl⟩ (aZ.tail (n:=4) ⟨rfl⟩ (aZ.tail (n:=3) ⟨rfl⟩ (aZ.tail (n:=2) ⟨rfl⟩ (aZ.tail (n:=1) ⟨rfl⟩ aZ.self rfl) rfl) rfl) rfl) rfl) rfl)
instance:ah a7 6 Rp.frac (fun a b=>(a.1,(a.2.1,(a.2.2.1,(a.2.2.2.1,(a.2.2.2.2.1,(a.2.2.2.2.2.1,b))))))):=(ah.tail (n:=6) ⟨rfl⟩ (ah.tail (n:=5) ⟨rfl⟩ (ah.tail (n:=4) ⟨rfl⟩ (ah.tail (n:=3) ⟨rfl⟩ (ah.tail (n:=2) ⟨rfl⟩ (ah.tail (n:=1) ⟨rfl⟩ ah.self rfl) rfl) rfl) rfl) rfl) rfl)
instance {a:fb}:ai (.ra a7 a) 6 4 true (.ra Rp.frac a.2.2.2.2.2.2):=ai.agg (g:=fun (a:fb)=>a.2.2.2.2.2.2) inferInstance ⟨rfl⟩
instance:fw Tryz.prog 104 10 true:=⟨⟨_,Tryz.underlying104,rfl⟩,by kernel_rfl⟩
instance:aq Tryz.prog 104 0 0 1 false:=⟨⟨_,_,Tryz.underlying104,rfl,rfl,by kernel_rfl,by decide,_,Tryz.underlying4,rfl⟩⟩
instance:aq Tryz.prog 104 1 1 1 false:=⟨⟨_,_,Tryz.underlying104,rfl,rfl,by kernel_rfl,by decide,_,Tryz.underlying9,rfl⟩⟩
instance:aq Tryz.prog 104 2 2 1 false:=⟨⟨_,_,Tryz.underlying104,rfl,rfl,by kernel_rfl,by decide,_,Tryz.underlying5,rfl⟩⟩
instance:aq Tryz.prog 104 3 3 1 false:=⟨⟨_,_,Tryz.underlying104,rfl,rfl,by kernel_rfl,by decide,_,Tryz.underlying9,rfl⟩⟩
instance:aq Tryz.prog 104 4 4 1 false:=⟨⟨_,_,Tryz.underlying104,rfl,rfl,by kernel_rfl,by decide,_,Tryz.underlying9,rfl⟩⟩
instance:aq Tryz.prog 104 5 5 1 false:=⟨⟨_,_,Tryz.underlying104,rfl,rfl,by kernel_rfl,by decide,_,Tryz.underlying9,rfl⟩⟩
instance:aq Tryz.prog 104 6 6 4 true:=⟨⟨_,_,Tryz.underlying104,rfl,rfl,by kernel_rfl,by decide,_,Tryz.underlying27,rfl⟩⟩
theorem nh:dS Tryz.prog 104 a7 (false,[],0,[],[],[],((false,[]),(false,[]))):=⟨by
 obtain ⟨i,h1,h2,h3,h4⟩:∃ i,Tryz.prog.info? 104=some i∧i.zero=some (.agg #[.bool false,Tx [], .int .u8 0,Tx [],Tx [],Tx [], .bool false, .slice none 0 0, .bool false, .slice none 0 0])∧i.size=10∧i.bytes=144:=info_parts qK
 refine ⟨_,i,_,Tryz.underlying104,(fun f hf=> ?_),h1,h2,fun w S=> ?_⟩
 ·simp only [List.mem_cons,List.not_mem_nil,or_false] at hf
  rcases hf with rfl|rfl|rfl|rfl|rfl|rfl|rfl<;>exact Option.isSome_iff_exists.1 qK
 ·exact ⟨[.bool false],[Tx [], .int .u8 0,Tx [],Tx [],Tx [], .bool false, .slice none 0 0, .bool false, .slice none 0 0],rfl,rfl,⟨[Tx []],[.int .u8 0,Tx [],Tx [],Tx [], .bool false, .slice none 0 0, .bool false, .slice none 0 0],rfl,⟨_,rfl,bu []⟩,⟨[.int .u8 0],[Tx [],Tx [],Tx [], .bool false, .slice none 0 0, .bool false, .slice none 0 0],rfl,rfl,⟨[Tx []],[Tx [],Tx [], .bool false, .slice none 0 0, .bool false, .slice none 0 0],rfl,⟨_,rfl,bu []⟩,⟨[Tx []],[Tx [], .bool false, .slice none 0 0, .bool false, .slice none 0 0],rfl,⟨_,rfl,bu []⟩,⟨[Tx []],[.bool false, .slice none 0 0, .bool false, .slice none 0 0],rfl,⟨_,rfl,bu []⟩,⟨[.bool false, .slice none 0 0],[.bool false, .slice none 0 0],rfl,⟨[.bool false],[.slice none 0 0],rfl,rfl,⟨none,0,0,rfl,⟨⟨rfl,Nat.le_refl _,Nat.zero_le _,fun _=>rfl,fun h=>absurd h qO⟩,fun h=>absurd h qO⟩,fun _ h=>by cases h⟩⟩,⟨[.bool false],[.slice none 0 0],rfl,rfl,⟨none,0,0,rfl,⟨⟨rfl,Nat.le_refl _,Nat.zero_le _,fun _=>rfl,fun h=>absurd h qO⟩,fun h=>absurd h qO⟩,fun _ h=>by cases h⟩⟩⟩⟩⟩⟩⟩⟩⟩⟩
instance:fw Tryz.prog 56 1 false:=⟨⟨_,Tryz.underlying56,rfl⟩,by kernel_rfl⟩
instance:cP Tryz.prog 56 10:=⟨⟨_,Tryz.underlying56,by kernel_rfl⟩⟩
theorem uw:pp Tryz.prog 56 104 10:=⟨Tryz.underlying56,by
 obtain ⟨i,h1,h2,h3,h4⟩:∃ i,Tryz.prog.info? 104=some i∧i.zero=some (.agg #[.bool false,Tx [], .int .u8 0,Tx [],Tx [],Tx [], .bool false, .slice none 0 0, .bool false, .slice none 0 0])∧i.size=10∧i.bytes=144:=info_parts qK
 exact ⟨i,_,h1,h2,h3,rfl⟩⟩
theorem nr:iz Tryz.prog 56 104 10 144:=⟨Tryz.underlying56,by decide,by
 obtain ⟨i,h1,h2,h3,h4⟩:∃ i,Tryz.prog.info? 104=some i∧i.zero=some (.agg #[.bool false,Tx [], .int .u8 0,Tx [],Tx [],Tx [], .bool false, .slice none 0 0, .bool false, .slice none 0 0])∧i.size=10∧i.bytes=144:=info_parts qK
 exact ⟨i,_,h1,h2,h3,h4,rfl⟩⟩
instance:fw Tryz.prog 130 10 true:=⟨⟨_,Tryz.underlying130,rfl⟩,by kernel_rfl⟩
instance:aq Tryz.prog 130 0 0 1 false:=⟨⟨_,_,Tryz.underlying130,rfl,rfl,by kernel_rfl,by decide,_,Tryz.underlying4,rfl⟩⟩
instance:aq Tryz.prog 130 1 1 1 false:=⟨⟨_,_,Tryz.underlying130,rfl,rfl,by kernel_rfl,by decide,_,Tryz.underlying9,rfl⟩⟩
instance:aq Tryz.prog 130 2 2 1 false:=⟨⟨_,_,Tryz.underlying130,rfl,rfl,by kernel_rfl,by decide,_,Tryz.underlying5,rfl⟩⟩
instance:aq Tryz.prog 130 3 3 1 false:=⟨⟨_,_,Tryz.underlying130,rfl,rfl,by kernel_rfl,by decide,_,Tryz.underlying9,rfl⟩⟩
instance:aq Tryz.prog 130 4 4 1 false:=⟨⟨_,_,Tryz.underlying130,rfl,rfl,by kernel_rfl,by decide,_,Tryz.underlying9,rfl⟩⟩
instance:aq Tryz.prog 130 5 5 1 false:=⟨⟨_,_,Tryz.underlying130,rfl,rfl,by kernel_rfl,by decide,_,Tryz.underlying9,rfl⟩⟩
instance:aq Tryz.prog 130 6 6 4 true:=⟨⟨_,_,Tryz.underlying130,rfl,rfl,by kernel_rfl,by decide,_,Tryz.underlying38,rfl⟩⟩
theorem e_:dS Tryz.prog 130 a7 (false,[],0,[],[],[],((false,[]),(false,[]))):=⟨by
 obtain ⟨i,h1,h2,h3,h4⟩:∃ i,Tryz.prog.info? 130=some i∧i.zero=some (.agg #[.bool false,Tx [], .int .u8 0,Tx [],Tx [],Tx [], .bool false, .slice none 0 0, .bool false, .slice none 0 0])∧i.size=10∧i.bytes=144:=info_parts qK
 refine ⟨_,i,_,Tryz.underlying130,(fun f hf=> ?_),h1,h2,fun w S=> ?_⟩
 ·simp only [List.mem_cons,List.not_mem_nil,or_false] at hf
  rcases hf with rfl|rfl|rfl|rfl|rfl|rfl|rfl<;>exact Option.isSome_iff_exists.1 qK
 ·exact ⟨[.bool false],[Tx [], .int .u8 0,Tx [],Tx [],Tx [], .bool false, .slice none 0 0, .bool false, .slice none 0 0],rfl,rfl,⟨[Tx []],[.int .u8 0,Tx [],Tx [],Tx [], .bool false, .slice none 0 0, .bool false, .slice none 0 0],rfl,⟨_,rfl,bu []⟩,⟨[.int .u8 0],[Tx [],Tx [],Tx [], .bool false, .slice none 0 0, .bool false, .slice none 0 0],rfl,rfl,⟨[Tx []],[Tx [],Tx [], .bool false, .slice none 0 0, .bool false, .slice none 0 0],rfl,⟨_,rfl,bu []⟩,⟨[Tx []],[Tx [], .bool false, .slice none 0 0, .bool false, .slice none 0 0],rfl,⟨_,rfl,bu []⟩,⟨[Tx []],[.bool false, .slice none 0 0, .bool false, .slice none 0 0],rfl,⟨_,rfl,bu []⟩,⟨[.bool false, .slice none 0 0],[.bool false, .slice none 0 0],rfl,⟨[.bool false],[.slice none 0 0],rfl,rfl,⟨none,0,0,rfl,⟨⟨rfl,Nat.le_refl _,Nat.zero_le _,fun _=>rfl,fun h=>absurd h qO⟩,fun h=>absurd h qO⟩,fun _ h=>by cases h⟩⟩,⟨[.bool false],[.slice none 0 0],rfl,rfl,⟨none,0,0,rfl,⟨⟨rfl,Nat.le_refl _,Nat.zero_le _,fun _=>rfl,fun h=>absurd h qO⟩,fun h=>absurd h qO⟩,fun _ h=>by cases h⟩⟩⟩⟩⟩⟩⟩⟩⟩⟩
instance:fw Tryz.prog 81 1 false:=⟨⟨_,Tryz.underlying81,rfl⟩,by kernel_rfl⟩
instance:cP Tryz.prog 81 10:=⟨⟨_,Tryz.underlying81,by kernel_rfl⟩⟩
theorem ig:pp Tryz.prog 81 130 10:=⟨Tryz.underlying81,by
 obtain ⟨i,h1,h2,h3,h4⟩:∃ i,Tryz.prog.info? 130=some i∧i.zero=some (.agg #[.bool false,Tx [], .int .u8 0,Tx [],Tx [],Tx [], .bool false, .slice none 0 0, .bool false, .slice none 0 0])∧i.size=10∧i.bytes=144:=info_parts qK
 exact ⟨i,_,h1,h2,h3,rfl⟩⟩
theorem kO:iz Tryz.prog 81 130 10 144:=⟨Tryz.underlying81,by decide,by
 obtain ⟨i,h1,h2,h3,h4⟩:∃ i,Tryz.prog.info? 130=some i∧i.zero=some (.agg #[.bool false,Tx [], .int .u8 0,Tx [],Tx [],Tx [], .bool false, .slice none 0 0, .bool false, .slice none 0 0])∧i.size=10∧i.bytes=144:=info_parts qK
 exact ⟨i,_,h1,h2,h3,h4,rfl⟩⟩
theorem Ao:bc Tryz.prog 104 a7:=bc.strct Tryz.underlying104 (.cons (bc.bool Tryz.underlying4 qK) rfl rfl (.cons (bc.str Tryz.underlying9 qK) rfl rfl (.cons (bc.int Tryz.underlying5 qK) rfl rfl (.cons (bc.str Tryz.underlying9 qK) rfl rfl (.cons (bc.str Tryz.underlying9 qK) rfl rfl (.cons (bc.str Tryz.underlying9 qK) rfl rfl (.one fD rfl))))))) qK
abbrev eS:=(List UInt8)×(aR)×(aR)
abbrev bn:Rp eS:=Rp.str.pair (Rp.frac.pair (Rp.frac))
instance:KC bn 9:=⟨rfl⟩
instance:aZ bn 0 Rp.str (fun a=>a.1):=aZ.fst
instance:ah bn 0 Rp.str (fun a b=>(b,a.2)):=ah.fst
instance {a:eS}:ai (.ra bn a) 0 1 false (.is (Tx a.1)):=ai.cell inferInstance ⟨rfl⟩ inferInstance
instance:aZ bn 1 Rp.frac (fun a=>a.2.1):=(aZ.tail (n:=1) ⟨rfl⟩ aZ.fst rfl)
instance:ah bn 1 Rp.frac (fun a b=>(a.1,(b,a.2.2))):=(ah.tail (n:=1) ⟨rfl⟩ ah.fst rfl)
instance {a:eS}:ai (.ra bn a) 1 4 true (.ra Rp.frac a.2.1):=ai.agg (g:=fun (a:eS)=>a.2.1) inferInstance ⟨rfl⟩
instance:aZ bn 5 Rp.frac (fun a=>a.2.2):=(aZ.tail (n:=5) ⟨rfl⟩ (aZ.tail (n:=4) ⟨rfl⟩ aZ.self rfl) rfl)
instance:ah bn 5 Rp.frac (fun a b=>(a.1,(a.2.1,b))):=(ah.tail (n:=5) ⟨rfl⟩ (ah.tail (n:=4) ⟨rfl⟩ ah.self rfl) rfl)
instance {a:eS}:ai (.ra bn a) 5 4 true (.ra Rp.frac a.2.2):=ai.agg (g:=fun (a:eS)=>a.2.2) inferInstance ⟨rfl⟩
instance:fw Tryz.prog 106 9 true:=⟨⟨_,Tryz.underlying106,rfl⟩,by kernel_rfl⟩
instance:aq Tryz.prog 106 0 0 1 false:=⟨⟨_,_,Tryz.underlying106,rfl,rfl,by kernel_rfl,by decide,_,Tryz.underlying9,rfl⟩⟩
instance:aq Tryz.prog 106 1 1 4 true:=⟨⟨_,_,Tryz.underlying106,rfl,rfl,by kernel_rfl,by decide,_,Tryz.underlying27,rfl⟩⟩
instance:aq Tryz.prog 106 2 5 4 true:=⟨⟨_,_,Tryz.underlying106,rfl,rfl,by kernel_rfl,by decide,_,Tryz.underlying27,rfl⟩⟩
theorem mn:dS Tryz.prog 106 bn ([],((false,[]),(false,[])),((false,[]),(false,[]))):=⟨by
 obtain ⟨i,h1,h2,h3,h4⟩:∃ i,Tryz.prog.info? 106=some i∧i.zero=some (.agg #[Tx [], .bool false, .slice none 0 0, .bool false, .slice none 0 0, .bool false, .slice none 0 0, .bool false, .slice none 0 0])∧i.size=9∧i.bytes=144:=info_parts qK
 refine ⟨_,i,_,Tryz.underlying106,(fun f hf=> ?_),h1,h2,fun w S=> ?_⟩
 ·simp only [List.mem_cons,List.not_mem_nil,or_false] at hf
  rcases hf with rfl|rfl|rfl<;>exact Option.isSome_iff_exists.1 qK
 ·exact ⟨[Tx []],[.bool false, .slice none 0 0, .bool false, .slice none 0 0, .bool false, .slice none 0 0, .bool false, .slice none 0 0],rfl,⟨_,rfl,bu []⟩,⟨[.bool false, .slice none 0 0, .bool false, .slice none 0 0],[.bool false, .slice none 0 0, .bool false, .slice none 0 0],rfl,⟨[.bool false, .slice none 0 0],[.bool false, .slice none 0 0],rfl,⟨[.bool false],[.slice none 0 0],rfl,rfl,⟨none,0,0,rfl,⟨⟨rfl,Nat.le_refl _,Nat.zero_le _,fun _=>rfl,fun h=>absurd h qO⟩,fun h=>absurd h qO⟩,fun _ h=>by cases h⟩⟩,⟨[.bool false],[.slice none 0 0],rfl,rfl,⟨none,0,0,rfl,⟨⟨rfl,Nat.le_refl _,Nat.zero_le _,fun _=>rfl,fun h=>absurd h qO⟩,fun h=>absurd h qO⟩,fun _ h=>by cases h⟩⟩⟩,⟨[.bool false, .slice none 0 0],[.bool false, .slice none 0 0],rfl,⟨[.bool false],[.slice none 0 0],rfl,rfl,⟨none,0,0,rfl,⟨⟨rfl,Nat.le_refl _,Nat.zero_le _,fun _=>rfl,fun h=>absurd h qO⟩,fun h=>absurd h qO⟩,fun _ h=>by cases h⟩⟩,⟨[.bool false],[.slice none 0 0],rfl,rfl,⟨none,0,0,rfl,⟨⟨rfl,Nat.le_refl _,Nat.zero_le _,fun _=>rfl,fun h=>absurd h qO⟩,fun h=>absurd h qO⟩,fun _ h=>by cases h⟩⟩⟩⟩⟩⟩
instance:fw Tryz.prog 57 1 false:=⟨⟨_,Tryz.underlying57,rfl⟩,by kernel_rfl⟩
instance:cP Tryz.prog 57 9:=⟨⟨_,Tryz.underlying57,by kernel_rfl⟩⟩
theorem tC:pp Tryz.prog 57 106 9:=⟨Tryz.underlying57,by
 obtain ⟨i,h1,h2,h3,h4⟩:∃ i,Tryz.prog.info? 106=some i∧i.zero=some (.agg #[Tx [], .bool false, .slice none 0 0, .bool false, .slice none 0 0, .bool false, .slice none 0 0, .bool false, .slice none 0 0])∧i.size=9∧i.bytes=144:=info_parts qK
 exact ⟨i,_,h1,h2,h3,rfl⟩⟩
instance:fw Tryz.prog 132 9 true:=⟨⟨_,Tryz.underlying132,rfl⟩,by kernel_rfl⟩
instance:aq Tryz.prog 132 0 0 1 false:=⟨⟨_,_,Tryz.underlying132,rfl,rfl,by kernel_rfl,by decide,_,Tryz.underlying9,rfl⟩⟩
instance:aq Tryz.prog 132 1 1 4 true:=⟨⟨_,_,Tryz.underlying132,rfl,rfl,by kernel_rfl,by decide,_,Tryz.underlying38,rfl⟩⟩
instance:aq Tryz.prog 132 2 5 4 true:=⟨⟨_,_,Tryz.underlying132,rfl,rfl,by kernel_rfl,by decide,_,Tryz.underlying38,rfl⟩⟩
theorem go:dS Tryz.prog 132 bn ([],((false,[]),(false,[])),((false,[]),(false,[]))):=⟨by
 obtain ⟨i,h1,h2,h3,h4⟩:∃ i,Tryz.prog.info? 132=some i∧i.zero=some (.agg #[Tx [], .bool false, .slice none 0 0, .bool false, .slice none 0 0, .bool false, .slice none 0 0, .bool false, .slice none 0 0])∧i.size=9∧i.bytes=144:=info_parts qK
 refine ⟨_,i,_,Tryz.underlying132,(fun f hf=> ?_),h1,h2,fun w S=> ?_⟩
 ·simp only [List.mem_cons,List.not_mem_nil,or_false] at hf
  rcases hf with rfl|rfl|rfl<;>exact Option.isSome_iff_exists.1 qK
 ·exact ⟨[Tx []],[.bool false, .slice none 0 0, .bool false, .slice none 0 0, .bool false, .slice none 0 0, .bool false, .slice none 0 0],rfl,⟨_,rfl,bu []⟩,⟨[.bool false, .slice none 0 0, .bool false, .slice none 0 0],[.bool false, .slice none 0 0, .bool false, .slice none 0 0],rfl,⟨[.bool false, .slice none 0 0],[.bool false, .slice none 0 0],rfl,⟨[.bool false],[.slice none 0 0],rfl,rfl,⟨none,0,0,rfl,⟨⟨rfl,Nat.le_refl _,Nat.zero_le _,fun _=>rfl,fun h=>absurd h qO⟩,fun h=>absurd h qO⟩,fun _ h=>by cases h⟩⟩,⟨[.bool false],[.slice none 0 0],rfl,rfl,⟨none,0,0,rfl,⟨⟨rfl,Nat.le_refl _,Nat.zero_le _,fun _=>rfl,fun h=>absurd h qO⟩,fun h=>absurd h qO⟩,fun _ h=>by cases h⟩⟩⟩,⟨[.bool false, .slice none 0 0],[.bool false, .slice none 0 0],rfl,⟨[.bool false],[.slice none 0 0],rfl,rfl,⟨none,0,0,rfl,⟨⟨rfl,Nat.le_refl _,Nat.zero_le _,fun _=>rfl,fun h=>absurd h qO⟩,fun h=>absurd h qO⟩,fun _ h=>by cases h⟩⟩,⟨[.bool false],[.slice none 0 0],rfl,rfl,⟨none,0,0,rfl,⟨⟨rfl,Nat.le_refl _,Nat.zero_le _,fun _=>rfl,fun h=>absurd h qO⟩,fun h=>absurd h qO⟩,fun _ h=>by cases h⟩⟩⟩⟩⟩⟩
instance:fw Tryz.prog 82 1 false:=⟨⟨_,Tryz.underlying82,rfl⟩,by kernel_rfl⟩
instance:cP Tryz.prog 82 9:=⟨⟨_,Tryz.underlying82,by kernel_rfl⟩⟩
theorem gx:pp Tryz.prog 82 132 9:=⟨Tryz.underlying82,by
 obtain ⟨i,h1,h2,h3,h4⟩:∃ i,Tryz.prog.info? 132=some i∧i.zero=some (.agg #[Tx [], .bool false, .slice none 0 0, .bool false, .slice none 0 0, .bool false, .slice none 0 0, .bool false, .slice none 0 0])∧i.size=9∧i.bytes=144:=info_parts qK
 exact ⟨i,_,h1,h2,h3,rfl⟩⟩
theorem kh:iz Tryz.prog 82 132 9 144:=⟨Tryz.underlying82,by decide,by
 obtain ⟨i,h1,h2,h3,h4⟩:∃ i,Tryz.prog.info? 132=some i∧i.zero=some (.agg #[Tx [], .bool false, .slice none 0 0, .bool false, .slice none 0 0, .bool false, .slice none 0 0, .bool false, .slice none 0 0])∧i.size=9∧i.bytes=144:=info_parts qK
 exact ⟨i,_,h1,h2,h3,h4,rfl⟩⟩
theorem xg:bc Tryz.prog 106 bn:=bc.strct Tryz.underlying106 (.cons (bc.str Tryz.underlying9 qK) rfl rfl (.cons fD rfl rfl (.one fD rfl))) qK
abbrev gK:=(List UInt8)×(aR)
abbrev b7:Rp gK:=Rp.str.pair (Rp.frac)
instance:KC b7 5:=⟨rfl⟩
instance:aZ b7 0 Rp.str (fun a=>a.1):=aZ.fst
instance:ah b7 0 Rp.str (fun a b=>(b,a.2)):=ah.fst
instance {a:gK}:ai (.ra b7 a) 0 1 false (.is (Tx a.1)):=ai.cell inferInstance ⟨rfl⟩ inferInstance
instance:aZ b7 1 Rp.frac (fun a=>a.2):=(aZ.tail (n:=1) ⟨rfl⟩ aZ.self rfl)
instance:ah b7 1 Rp.frac (fun a b=>(a.1,b)):=(ah.tail (n:=1) ⟨rfl⟩ ah.self rfl)
instance {a:gK}:ai (.ra b7 a) 1 4 true (.ra Rp.frac a.2):=ai.agg (g:=fun (a:gK)=>a.2) inferInstance ⟨rfl⟩
instance:fw Tryz.prog 108 5 true:=⟨⟨_,Tryz.underlying108,rfl⟩,by kernel_rfl⟩
instance:aq Tryz.prog 108 0 0 1 false:=⟨⟨_,_,Tryz.underlying108,rfl,rfl,by kernel_rfl,by decide,_,Tryz.underlying9,rfl⟩⟩
instance:aq Tryz.prog 108 1 1 4 true:=⟨⟨_,_,Tryz.underlying108,rfl,rfl,by kernel_rfl,by decide,_,Tryz.underlying27,rfl⟩⟩
theorem mS:dS Tryz.prog 108 b7 ([],((false,[]),(false,[]))):=⟨by
 obtain ⟨i,h1,h2,h3,h4⟩:∃ i,Tryz.prog.info? 108=some i∧i.zero=some (.agg #[Tx [], .bool false, .slice none 0 0, .bool false, .slice none 0 0])∧i.size=5∧i.bytes=80:=info_parts qK
 refine ⟨_,i,_,Tryz.underlying108,(fun f hf=> ?_),h1,h2,fun w S=> ?_⟩
 ·simp only [List.mem_cons,List.not_mem_nil,or_false] at hf
  rcases hf with rfl|rfl<;>exact Option.isSome_iff_exists.1 qK
 ·exact ⟨[Tx []],[.bool false, .slice none 0 0, .bool false, .slice none 0 0],rfl,⟨_,rfl,bu []⟩,⟨[.bool false, .slice none 0 0],[.bool false, .slice none 0 0],rfl,⟨[.bool false],[.slice none 0 0],rfl,rfl,⟨none,0,0,rfl,⟨⟨rfl,Nat.le_refl _,Nat.zero_le _,fun _=>rfl,fun h=>absurd h qO⟩,fun h=>absurd h qO⟩,fun _ h=>by cases h⟩⟩,⟨[.bool false],[.slice none 0 0],rfl,rfl,⟨none,0,0,rfl,⟨⟨rfl,Nat.le_refl _,Nat.zero_le _,fun _=>rfl,fun h=>absurd h qO⟩,fun h=>absurd h qO⟩,fun _ h=>by cases h⟩⟩⟩⟩⟩
instance:fw Tryz.prog 58 1 false:=⟨⟨_,Tryz.underlying58,rfl⟩,by kernel_rfl⟩
instance:cP Tryz.prog 58 5:=⟨⟨_,Tryz.underlying58,by kernel_rfl⟩⟩
theorem vD:pp Tryz.prog 58 108 5:=⟨Tryz.underlying58,by
 obtain ⟨i,h1,h2,h3,h4⟩:∃ i,Tryz.prog.info? 108=some i∧i.zero=some (.agg #[Tx [], .bool false, .slice none 0 0, .bool false, .slice none 0 0])∧i.size=5∧i.bytes=80:=info_parts qK
 exact ⟨i,_,h1,h2,h3,rfl⟩⟩
instance:fw Tryz.prog 134 5 true:=⟨⟨_,Tryz.underlying134,rfl⟩,by kernel_rfl⟩
instance:aq Tryz.prog 134 0 0 1 false:=⟨⟨_,_,Tryz.underlying134,rfl,rfl,by kernel_rfl,by decide,_,Tryz.underlying9,rfl⟩⟩
instance:aq Tryz.prog 134 1 1 4 true:=⟨⟨_,_,Tryz.underlying134,rfl,rfl,by kernel_rfl,by decide,_,Tryz.underlying38,rfl⟩⟩
theorem gw:dS Tryz.prog 134 b7 ([],((false,[]),(false,[]))):=⟨by
 obtain ⟨i,h1,h2,h3,h4⟩:∃ i,Tryz.prog.info? 134=some i∧i.zero=some (.agg #[Tx [], .bool false, .slice none 0 0, .bool false, .slice none 0 0])∧i.size=5∧i.bytes=80:=info_parts qK
 refine ⟨_,i,_,Tryz.underlying134,(fun f hf=> ?_),h1,h2,fun w S=> ?_⟩
 ·simp only [List.mem_cons,List.not_mem_nil,or_false] at hf
  rcases hf with rfl|rfl<;>exact Option.isSome_iff_exists.1 qK
 ·exact ⟨[Tx []],[.bool false, .slice none 0 0, .bool false, .slice none 0 0],rfl,⟨_,rfl,bu []⟩,⟨[.bool false, .slice none 0 0],[.bool false, .slice none 0 0],rfl,⟨[.bool false],[.slice none 0 0],rfl,rfl,⟨none,0,0,rfl,⟨⟨rfl,Nat.le_refl _,Nat.zero_le _,fun _=>rfl,fun h=>absurd h qO⟩,fun h=>absurd h qO⟩,fun _ h=>by cases h⟩⟩,⟨[.bool false],[.slice none 0 0],rfl,rfl,⟨none,0,0,rfl,⟨⟨rfl,Nat.le_refl _,Nat.zero_le _,fun _=>rfl,fun h=>absurd h qO⟩,fun h=>absurd h qO⟩,fun _ h=>by cases h⟩⟩⟩⟩⟩
instance:fw Tryz.prog 83 1 false:=⟨⟨_,Tryz.underlying83,rfl⟩,by kernel_rfl⟩
instance:cP Tryz.prog 83 5:=⟨⟨_,Tryz.underlying83,by kernel_rfl⟩⟩
theorem ia:pp Tryz.prog 83 134 5:=⟨Tryz.underlying83,by
 obtain ⟨i,h1,h2,h3,h4⟩:∃ i,Tryz.prog.info? 134=some i∧i.zero=some (.agg #[Tx [], .bool false, .slice none 0 0, .bool false, .slice none 0 0])∧i.size=5∧i.bytes=80:=info_parts qK
 exact ⟨i,_,h1,h2,h3,rfl⟩⟩
theorem kV:iz Tryz.prog 83 134 5 80:=⟨Tryz.underlying83,by decide,by
 obtain ⟨i,h1,h2,h3,h4⟩:∃ i,Tryz.prog.info? 134=some i∧i.zero=some (.agg #[Tx [], .bool false, .slice none 0 0, .bool false, .slice none 0 0])∧i.size=5∧i.bytes=80:=info_parts qK
 exact ⟨i,_,h1,h2,h3,h4,rfl⟩⟩
theorem yW:bc Tryz.prog 108 b7:=bc.strct Tryz.underlying108 (.cons (bc.str Tryz.underlying9 qK) rfl rfl (.one fD rfl)) qK
abbrev aX:=(Int)×(List gk)×(List gl)×(List fb)×(List eS)×(List gK)
abbrev aw:Rp aX:=((Rp.int .i64).pair (bl.row.pair (bk.row.pair (a7.row.pair (bn.row.pair (b7.row))))))
instance:KC aw 6:=⟨rfl⟩
instance:aZ aw 0 (Rp.int .i64) (fun a=>a.1):=aZ.fst
instance:ah aw 0 (Rp.int .i64) (fun a b=>(b,a.2)):=ah.fst
instance {a:aX}:ai (.ra aw a) 0 1 false (.is (.int .i64 a.1)):=ai.cell inferInstance ⟨rfl⟩ inferInstance
instance:aZ aw 1 bl.row (fun a=>a.2.1):=(aZ.tail (n:=1) ⟨rfl⟩ aZ.fst rfl)
instance:ah aw 1 bl.row (fun a b=>(a.1,(b,a.2.2))):=(ah.tail (n:=1) ⟨rfl⟩ ah.fst rfl)
instance {a:aX}:ai (.ra aw a) 1 1 false (.rw bl tt a.2.1):=ai.cell inferInstance ⟨rfl⟩ inferInstance
instance:aZ aw 2 bk.row (fun a=>a.2.2.1):=(aZ.tail (n:=2) ⟨rfl⟩ (aZ.tail (n:=1) ⟨rfl⟩ aZ.fst rfl) rfl)
instance:ah aw 2 bk.row (fun a b=>(a.1,(a.2.1,(b,a.2.2.2)))):=(ah.tail (n:=2) ⟨rfl⟩ (ah.tail (n:=1) ⟨rfl⟩ ah.fst rfl) rfl)
instance {a:aX}:ai (.ra aw a) 2 1 false (.rw bk tt a.2.2.1):=ai.cell inferInstance ⟨rfl⟩ inferInstance
instance:aZ aw 3 a7.row (fun a=>a.2.2.2.1):=(aZ.tail (n:=3) ⟨rfl⟩ (aZ.tail (n:=2) ⟨rfl⟩ (aZ.tail (n:=1) ⟨rfl⟩ aZ.fst rfl) rfl) rfl)
instance:ah aw 3 a7.row (fun a b=>(a.1,(a.2.1,(a.2.2.1,(b,a.2.2.2.2))))):=(ah.tail (n:=3) ⟨rfl⟩ (ah.tail (n:=2) ⟨rfl⟩ (ah.tail (n:=1) ⟨rfl⟩ ah.fst rfl) rfl) rfl)
instance {a:aX}:ai (.ra aw a) 3 1 false (.rw a7 tt a.2.2.2.1):=ai.cell inferInstance ⟨rfl⟩ inferInstance
instance:aZ aw 4 bn.row (fun a=>a.2.2.2.2.1):=(aZ.tail (n:=4) ⟨rfl⟩ (aZ.tail (n:=3) ⟨rfl⟩ (aZ.tail (n:=2) ⟨rfl⟩ (aZ.tail (n:=1) ⟨rfl⟩ aZ.fst rfl) rfl) rfl) rfl)
instance:ah aw 4 bn.row (fun a b=>(a.1,(a.2.1,(a.2.2.1,(a.2.2.2.1,(b,a.2.2.2.2.2)))))):=(ah.tail (n:=4) ⟨rfl⟩ (ah.tail (n:=3) ⟨rfl⟩ (ah.tail (n:=2) ⟨rfl⟩ (ah.tail (n:=1) ⟨rfl⟩ ah.fst rfl) rfl) rfl) rfl)
instance {a:aX}:ai (.ra aw a) 4 1 false (.rw bn tt a.2.2.2.2.1):=ai.cell inferInstance ⟨rfl⟩ inferInstance
instance:aZ aw 5 b7.row (fun a=>a.2.2.2.2.2):=(aZ.tail (n:=5) ⟨rfl⟩ (aZ.tail (n:=4) ⟨rfl⟩ (aZ.tail (n:=3) ⟨rfl⟩ (aZ.tail (n:=2) ⟨rfl⟩ (aZ.tail (n:=1) ⟨rfl⟩ aZ.self rfl) rfl) rfl) rfl) rfl)
instance:ah aw 5 b7.row (fun a b=>(a.1,(a.2.1,(a.2.2.1,(a.2.2.2.1,(a.2.2.2.2.1,b)))))):=(ah.tail (n:=5) ⟨rfl⟩ (ah.tail (n:=4) ⟨rfl⟩ (ah.tail (n:=3) ⟨rfl⟩ (ah.tail (n:=2) ⟨rfl⟩ (ah.tail (n:=1) ⟨rfl⟩ ah.self rfl) rfl) rfl) rfl) rfl)
instance {a:aX}:ai (.ra aw a) 5 1 false (.rw b7 tt a.2.2.2.2.2):=ai.cell inferInstance ⟨rfl⟩ inferInstance
instance:fw Tryz.prog 60 6 true:=⟨⟨_,Tryz.underlying60,rfl⟩,by kernel_rfl⟩
instance:aq Tryz.prog 60 0 0 1 false:=⟨⟨_,_,Tryz.underlying60,rfl,rfl,by kernel_rfl,by decide,_,Tryz.underlying3,rfl⟩⟩
instance:aq Tryz.prog 60 1 1 1 false:=⟨⟨_,_,Tryz.underlying60,rfl,rfl,by kernel_rfl,by decide,_,Tryz.underlying54,rfl⟩⟩
instance:aq Tryz.prog 60 2 2 1 false:=⟨⟨_,_,Tryz.underlying60,rfl,rfl,by kernel_rfl,by decide,_,Tryz.underlying55,rfl⟩⟩
instance:aq Tryz.prog 60 3 3 1 false:=⟨⟨_,_,Tryz.underlying60,rfl,rfl,by kernel_rfl,by decide,_,Tryz.underlying56,rfl⟩⟩
instance:aq Tryz.prog 60 4 4 1 false:=⟨⟨_,_,Tryz.underlying60,rfl,rfl,by kernel_rfl,by decide,_,Tryz.underlying57,rfl⟩⟩
instance:aq Tryz.prog 60 5 5 1 false:=⟨⟨_,_,Tryz.underlying60,rfl,rfl,by kernel_rfl,by decide,_,Tryz.underlying58,rfl⟩⟩
theorem iC:dS Tryz.prog 60 aw (0,[],[],[],[],[]):=⟨by
 obtain ⟨i,h1,h2,h3,h4⟩:∃ i,Tryz.prog.info? 60=some i∧i.zero=some (.agg #[.int .i64 0, .slice none 0 0, .slice none 0 0, .slice none 0 0, .slice none 0 0, .slice none 0 0])∧i.size=6∧i.bytes=128:=info_parts qK
 refine ⟨_,i,_,Tryz.underlying60,(fun f hf=> ?_),h1,h2,fun w S=> ?_⟩
 ·simp only [List.mem_cons,List.not_mem_nil,or_false] at hf
  rcases hf with rfl|rfl|rfl|rfl|rfl|rfl<;>exact Option.isSome_iff_exists.1 qK
 ·exact ⟨[.int .i64 0],[.slice none 0 0, .slice none 0 0, .slice none 0 0, .slice none 0 0, .slice none 0 0],rfl,rfl,⟨[.slice none 0 0],[.slice none 0 0, .slice none 0 0, .slice none 0 0, .slice none 0 0],rfl,⟨none,0,0,rfl,rfl,Nat.le_refl _,Nat.zero_le _,fun _=>rfl,fun h=>absurd h qO⟩,⟨[.slice none 0 0],[.slice none 0 0, .slice none 0 0, .slice none 0 0],rfl,⟨none,0,0,rfl,rfl,Nat.le_refl _,Nat.zero_le _,fun _=>rfl,fun h=>absurd h qO⟩,⟨[.slice none 0 0],[.slice none 0 0, .slice none 0 0],rfl,⟨none,0,0,rfl,rfl,Nat.le_refl _,Nat.zero_le _,fun _=>rfl,fun h=>absurd h qO⟩,⟨[.slice none 0 0],[.slice none 0 0],rfl,⟨none,0,0,rfl,rfl,Nat.le_refl _,Nat.zero_le _,fun _=>rfl,fun h=>absurd h qO⟩,⟨none,0,0,rfl,rfl,Nat.le_refl _,Nat.zero_le _,fun _=>rfl,fun h=>absurd h qO⟩⟩⟩⟩⟩⟩⟩
instance:fw Tryz.prog 30 1 false:=⟨⟨_,Tryz.underlying30,rfl⟩,by kernel_rfl⟩
instance:cP Tryz.prog 30 6:=⟨⟨_,Tryz.underlying30,by kernel_rfl⟩⟩
theorem oZ:pp Tryz.prog 30 60 6:=⟨Tryz.underlying30,by
 obtain ⟨i,h1,h2,h3,h4⟩:∃ i,Tryz.prog.info? 60=some i∧i.zero=some (.agg #[.int .i64 0, .slice none 0 0, .slice none 0 0, .slice none 0 0, .slice none 0 0, .slice none 0 0])∧i.size=6∧i.bytes=128:=info_parts qK
 exact ⟨i,_,h1,h2,h3,rfl⟩⟩
instance:fw Tryz.prog 85 6 true:=⟨⟨_,Tryz.underlying85,rfl⟩,by kernel_rfl⟩
instance:aq Tryz.prog 85 0 0 1 false:=⟨⟨_,_,Tryz.underlying85,rfl,rfl,by kernel_rfl,by decide,_,Tryz.underlying3,rfl⟩⟩
instance:aq Tryz.prog 85 1 1 1 false:=⟨⟨_,_,Tryz.underlying85,rfl,rfl,by kernel_rfl,by decide,_,Tryz.underlying79,rfl⟩⟩
instance:aq Tryz.prog 85 2 2 1 false:=⟨⟨_,_,Tryz.underlying85,rfl,rfl,by kernel_rfl,by decide,_,Tryz.underlying80,rfl⟩⟩
instance:aq Tryz.prog 85 3 3 1 false:=⟨⟨_,_,Tryz.underlying85,rfl,rfl,by kernel_rfl,by decide,_,Tryz.underlying81,rfl⟩⟩
instance:aq Tryz.prog 85 4 4 1 false:=⟨⟨_,_,Tryz.underlying85,rfl,rfl,by kernel_rfl,by decide,_,Tryz.underlying82,rfl⟩⟩
instance:aq Tryz.prog 85 5 5 1 false:=⟨⟨_,_,Tryz.underlying85,rfl,rfl,by kernel_rfl,by decide,_,Tryz.underlying83,rfl⟩⟩
theorem kX:dS Tryz.prog 85 aw (0,[],[],[],[],[]):=⟨by
 obtain ⟨i,h1,h2,h3,h4⟩:∃ i,Tryz.prog.info? 85=some i∧i.zero=some (.agg #[.int .i64 0, .slice none 0 0, .slice none 0 0, .slice none 0 0, .slice none 0 0, .slice none 0 0])∧i.size=6∧i.bytes=128:=info_parts qK
 refine ⟨_,i,_,Tryz.underlying85,(fun f hf=> ?_),h1,h2,fun w S=> ?_⟩
 ·simp only [List.mem_cons,List.not_mem_nil,or_false] at hf
  rcases hf with rfl|rfl|rfl|rfl|rfl|rfl<;>exact Option.isSome_iff_exists.1 qK
 ·exact ⟨[.int .i64 0],[.slice none 0 0, .slice none 0 0, .slice none 0 0, .slice none 0 0, .slice none 0 0],rfl,rfl,⟨[.slice none 0 0],[.slice none 0 0, .slice none 0 0, .slice none 0 0, .slice none 0 0],rfl,⟨none,0,0,rfl,rfl,Nat.le_refl _,Nat.zero_le _,fun _=>rfl,fun h=>absurd h qO⟩,⟨[.slice none 0 0],[.slice none 0 0, .slice none 0 0, .slice none 0 0],rfl,⟨none,0,0,rfl,rfl,Nat.le_refl _,Nat.zero_le _,fun _=>rfl,fun h=>absurd h qO⟩,⟨[.slice none 0 0],[.slice none 0 0, .slice none 0 0],rfl,⟨none,0,0,rfl,rfl,Nat.le_refl _,Nat.zero_le _,fun _=>rfl,fun h=>absurd h qO⟩,⟨[.slice none 0 0],[.slice none 0 0],rfl,⟨none,0,0,rfl,rfl,Nat.le_refl _,Nat.zero_le _,fun _=>rfl,fun h=>absurd h qO⟩,⟨none,0,0,rfl,rfl,Nat.le_refl _,Nat.zero_le _,fun _=>rfl,fun h=>absurd h qO⟩⟩⟩⟩⟩⟩⟩
instance:fw Tryz.prog 40 1 false:=⟨⟨_,Tryz.underlying40,rfl⟩,by kernel_rfl⟩
instance:cP Tryz.prog 40 6:=⟨⟨_,Tryz.underlying40,by kernel_rfl⟩⟩
theorem lI:pp Tryz.prog 40 85 6:=⟨Tryz.underlying40,by
 obtain ⟨i,h1,h2,h3,h4⟩:∃ i,Tryz.prog.info? 85=some i∧i.zero=some (.agg #[.int .i64 0, .slice none 0 0, .slice none 0 0, .slice none 0 0, .slice none 0 0, .slice none 0 0])∧i.size=6∧i.bytes=128:=info_parts qK
 exact ⟨i,_,h1,h2,h3,rfl⟩⟩
theorem kU:iz Tryz.prog 40 85 6 128:=⟨Tryz.underlying40,by decide,by
 obtain ⟨i,h1,h2,h3,h4⟩:∃ i,Tryz.prog.info? 85=some i∧i.zero=some (.agg #[.int .i64 0, .slice none 0 0, .slice none 0 0, .slice none 0 0, .slice none 0 0, .slice none 0 0])∧i.size=6∧i.bytes=128:=info_parts qK
 exact ⟨i,_,h1,h2,h3,h4,rfl⟩⟩
theorem yR:bc Tryz.prog 60 aw:=bc.strct Tryz.underlying60 (.cons (bc.int Tryz.underlying3 qK) rfl rfl (.cons (bc.row Tryz.underlying54 y9 qK qD) rfl rfl (.cons (bc.row Tryz.underlying55 zW qK qD) rfl rfl (.cons (bc.row Tryz.underlying56 Ao qK qD) rfl rfl (.cons (bc.row Tryz.underlying57 xg qK qD) rfl rfl (.one (bc.row Tryz.underlying58 yW qK qD) rfl)))))) qK
abbrev aj:=(List UInt8)×(List UInt8)×(List dJ)×(aR)×(aR)×(Int)×(Int)×(aR)×(aR)×(Int)×(List ej)×(List (List UInt8))×(List aX)
abbrev ab:Rp aj:=Rp.str.pair (Rp.str.pair (a_.row.pair (Rp.frac.pair (Rp.frac.pair (((Rp.int .i64).pair (((Rp.int .i64).pair (Rp.frac.pair (Rp.frac.pair (((Rp.int .i64).pair (bq.row.pair (Rp.str.row.pair (aw.row)))))))))))))))
instance:KC ab 25:=⟨rfl⟩
instance:aZ ab 0 Rp.str (fun a=>a.1):=aZ.fst
instance:ah ab 0 Rp.str (fun a b=>(b,a.2)):=ah.fst
instance {a:aj}:ai (.ra ab a) 0 1 false (.is (Tx a.1)):=ai.cell inferInstance ⟨rfl⟩ inferInstance
instance:aZ ab 1 Rp.str (fun a=>a.2.1):=(aZ.tail (n:=1) ⟨rfl⟩ aZ.fst rfl)
instance:ah ab 1 Rp.str (fun a b=>(a.1,(b,a.2.2))):=(ah.tail (n:=1) ⟨rfl⟩ ah.fst rfl)
instance {a:aj}:ai (.ra ab a) 1 1 false (.is (Tx a.2.1)):=ai.cell inferInstance ⟨rfl⟩ inferInstance
instance:aZ ab 2 a_.row (fun a=>a.2.2.1):=(aZ.tail (n:=2) ⟨rfl⟩ (aZ.tail (n:=1) ⟨rfl⟩ aZ.fst rfl) rfl)
instance:ah ab 2 a_.row (fun a b=>(a.1,(a.2.1,(b,a.2.2.2)))):=(ah.tail (n:=2) ⟨rfl⟩ (ah.tail (n:=1) ⟨rfl⟩ ah.fst rfl) rfl)
instance {a:aj}:ai (.ra ab a) 2 1 false (.rw a_ tt a.2.2.1):=ai.cell inferInstance ⟨rfl⟩ inferInstance
instance:aZ ab 3 Rp.frac (fun a=>a.2.2.2.1):=(aZ.tail (n:=3) ⟨rfl⟩ (aZ.tail (n:=2) ⟨rfl⟩ (aZ.tail (n:=1) ⟨rfl⟩ aZ.fst rfl) rfl) rfl)
instance:ah ab 3 Rp.frac (fun a b=>(a.1,(a.2.1,(a.2.2.1,(b,a.2.2.2.2))))):=(ah.tail (n:=3) ⟨rfl⟩ (ah.tail (n:=2) ⟨rfl⟩ (ah.tail (n:=1) ⟨rfl⟩ ah.fst rfl) rfl) rfl)
instance {a:aj}:ai (.ra ab a) 3 4 true (.ra Rp.frac a.2.2.2.1):=ai.agg (g:=fun (a:aj)=>a.2.2.2.1) inferInstance ⟨rfl⟩
instance:aZ ab 7 Rp.frac (fun a=>a.2.2.2.2.1):=(aZ.tail (n:=7) ⟨rfl⟩ (aZ.tail (n:=6) ⟨rfl⟩ (aZ.tail (n:=5) ⟨rfl⟩ (aZ.tail (n:=4) ⟨rfl⟩ aZ.fst rfl) rfl) rfl) rfl)
instance:ah ab 7 Rp.frac (fun a b=>(a.1,(a.2.1,(a.2.2.1,(a.2.2.2.1,(b,a.2.2.2.2.2)))))):=(ah.tail (n:=7) ⟨rfl⟩ (ah.tail (n:=6) ⟨rfl⟩ (ah.tail (n:=5) ⟨rfl⟩ (ah.tail (n:=4) ⟨rfl⟩ ah.fst rfl) rfl) rfl) rfl)
instance {a:aj}:ai (.ra ab a) 7 4 true (.ra Rp.frac a.2.2.2.2.1):=ai.agg (g:=fun (a:aj)=>a.2.2.2.2.1) inferInstance ⟨rfl⟩
instance:aZ ab 11 (Rp.int .i64) (fun a=>a.2.2.2.2.2.1):=(aZ.tail (n:=11) ⟨rfl⟩ (aZ.tail (n:=10) ⟨rfl⟩ (aZ.tail (n:=9) ⟨rfl⟩ (aZ.tail (n:=8) ⟨rfl⟩ (aZ.tail (n:=4) ⟨rfl⟩ aZ.fst rfl) rfl) rfl) rfl) rfl)
instance:ah ab 11 (Rp.int .i64) (fun a b=>(a.1,(a.2.1,(a.2.2.1,(a.2.2.2.1,(a.2.2.2.2.1,(b,a.2.2.2.2.2.2))))))):=(ah.tail (n:=11) ⟨rfl⟩ (ah.tail (n:=10) ⟨rfl⟩ (ah.tail (n:=9) ⟨rfl⟩ (ah.tail (n:=8) ⟨rfl⟩ (ah.tail (n:=4) ⟨rfl⟩ ah.fst rfl) rfl) rfl) rfl) rfl)
instance {a:aj}:ai (.ra ab a) 11 1 false (.is (.int .i64 a.2.2.2.2.2.1)):=ai.cell inferInstance ⟨rfl⟩ inferInstance
instance:aZ ab 12 (Rp.int .i64) (fun a=>a.2.2.2.2.2.2.1):=(aZ.tail (n:=12) ⟨rfl⟩ (aZ.tail (n:=11) ⟨rfl⟩ (aZ.tail (n:=10) ⟨rfl⟩ (aZ.tail (n:=9) ⟨rfl⟩ (aZ.tail (n:=5) ⟨rfl⟩ (aZ.tail (n:=1) ⟨rfl⟩ aZ.fst rfl) rfl) rfl) rfl) rfl) rfl)
instance:ah ab 12 (Rp.int .i64) (fun a b=>(a.1,(a.2.1,(a.2.2.1,(a.2.2.2.1,(a.2.2.2.2.1,(a.2.2.2.2.2.1,(b,a.2.2.2.2.2.2.2)))))))):=(ah.tail (n:=12) ⟨rfl⟩ (ah.tail (n:=11) ⟨rfl⟩ (ah.tail (n:=10) ⟨rfl⟩ (ah.tail (n:=9) ⟨rfl⟩ (ah.tail (n:=5) ⟨rfl⟩ (ah.tail (n:=1) ⟨rfl⟩ ah.fst rfl) rfl) rfl) rfl) rfl) rfl)
instance {a:aj}:ai (.ra ab a) 12 1 false (.is (.int .i64 a.2.2.2.2.2.2.1)):=ai.cell inferInstance ⟨rfl⟩ inferInstance
instance:aZ ab 13 Rp.frac (fun a=>a.2.2.2.2.2.2.2.1):=(aZ.tail (n:=13) ⟨rfl⟩ (aZ.tail (n:=12) ⟨rfl⟩ (aZ.tail (n:=11) ⟨rfl⟩ (aZ.tail (n:=10) ⟨rfl⟩ (aZ.tail (n:=6) ⟨rfl⟩ (aZ.tail (n:=2) ⟨rfl⟩ (aZ.tail (n:=1) ⟨rfl⟩ aZ.fst rfl) rfl) rfl) rfl) rfl) rfl) rfl)
instance:ah ab 13 Rp.frac (fun a b=>(a.1,(a.2.1,(a.2.2.1,(a.2.2.2.1,(a.2.2.2.2.1,(a.2.2.2.2.2.1,(a.2.2.2.2.2.2.1,(b,a.2.2.2.2.2.2.2.2))))))))):=(ah.tail (n:=13) ⟨rfl⟩ (ah.tail (n:=12) ⟨rfl⟩ (ah.tail (n:=11) ⟨rfl⟩ (ah.tail (n:=10) ⟨rfl⟩ (ah.tail (n:=6) ⟨rfl⟩ (ah.tail (n:=2) ⟨rfl⟩ (ah.tail (n:=1) ⟨rfl⟩ ah.fst rfl) rfl) rfl) rfl) rfl) rfl) rfl)
instance {a:aj}:ai (.ra ab a) 13 4 true (.ra Rp.frac a.2.2.2.2.2.2.2.1):=ai.agg (g:=fun (a:aj)=>a.2.2.2.2.2.2.2.1) inferInstance ⟨rfl⟩
instance:aZ ab 17 Rp.frac (fun a=>a.2.2.2.2.2.2.2.2.1):=(aZ.tail (n:=17) ⟨rfl⟩ (aZ.tail (n:=16) ⟨rfl⟩ (aZ.tail (n:=15) ⟨rfl⟩ (aZ.tail (n:=14) ⟨rfl⟩ (aZ.tail (n:=10) ⟨rfl⟩ (aZ.tail (n:=6) ⟨rfl⟩ (aZ.tail (n:=5) ⟨rfl⟩ (aZ.tail (n:=4) ⟨rfl⟩ aZ.fst rfl) rfl) rfl) rfl) rfl) rfl) rfl) rfl)
instance:ah ab 17 Rp.frac (fun a b=>(a.1,(a.2.1,(a.2.2.1,(a.2.2.2.1,(a.2.2.2.2.1,(a.2.2.2.2.2.1,(a.2.2.2.2.2.2.1,(a.2.2.2.2.2.2.2.1,(b,a.2.2.2.2.2.2.2.2.2)))))))))):=(ah.tail (n:=17) ⟨rfl⟩ (ah.tail (n:=16) ⟨rfl⟩ (ah.tail (n:=15) ⟨rfl⟩ (ah.tail (n:=14) ⟨rfl⟩ (ah.tail (n:=10) ⟨rfl⟩ (ah.tail (n:=6) ⟨rfl⟩ (ah.tail (n:=5) ⟨rfl⟩ (ah.tail (n:=4) ⟨rfl⟩ ah.fst rfl) rfl) rfl) rfl) rfl) rfl) rfl) rfl)
instance {a:aj}:ai (.ra ab a) 17 4 true (.ra Rp.frac a.2.2.2.2.2.2.2.2.1):=ai.agg (g:=fun (a:aj)=>a.2.2.2.2.2.2.2.2.1) inferInstance ⟨rfl⟩
instance:aZ ab 21 (Rp.int .i64) (fun a=>a.2.2.2.2.2.2.2.2.2.1):=(aZ.tail (n:=21) ⟨rfl⟩ (aZ.tail (n:=20) ⟨rfl⟩ (aZ.tail (n:=19) ⟨rfl⟩ (aZ.tail (n:=18) ⟨rfl⟩ (aZ.tail (n:=14) ⟨rfl⟩ (aZ.tail (n:=10) ⟨rfl⟩ (aZ.tail (n:=9) ⟨rfl⟩ (aZ.tail (n:=8) ⟨rfl⟩ (aZ.tail (n:=4) ⟨rfl⟩ aZ.fst rfl) rfl) rfl) rfl) rfl) rfl) rfl) rfl) rfl)
instance:ah ab 21 (Rp.int .i64) (fun a b=>(a.1,(a.2.1,(a.2.2.1,(a.2.2.2.1,(a.2.2.2.2.1,(a.2.2.2.2.2.1,(a.2.2.2.2.2.2.1,(a.2.2.2.2.2.2.2.1,(a.2.2.2.2.2.2.2.2.1,(b,a.2.2.2.2.2.2.2.2.2.2))))))))))):=(ah.tail (n:=21) ⟨rfl⟩ (ah.tail (n:=20) ⟨rfl⟩ (ah.tail (n:=19) ⟨rfl⟩ (ah.tail (n:=18) ⟨rfl⟩ (ah.tail (n:=14) ⟨rfl⟩ (ah.tail (n:=10) ⟨rfl⟩ (ah.tail (n:=9) ⟨rfl⟩ (ah.tail (n:=8) ⟨rfl⟩ (ah.tail (n:=4) ⟨rfl⟩ ah.fst rfl) rfl) rfl) rfl) rfl) rfl) rfl) rfl) rfl)
instance {a:aj}:ai (.ra ab a) 21 1 false (.is (.int .i64 a.2.2.2.2.2.2.2.2.2.1)):=ai.cell inferInstance ⟨rfl⟩ inferInstance
instance:aZ ab 22 bq.row (fun a=>a.2.2.2.2.2.2.2.2.2.2.1):=(aZ.tail (n:=22) ⟨rfl⟩ (aZ.tail (n:=21) ⟨rfl⟩ (aZ.tail (n:=20) ⟨rfl⟩ (aZ.tail (n:=19) ⟨rfl⟩ (aZ.tail (n:=15) ⟨rfl⟩ (aZ.tail (n:=11) ⟨rfl⟩ (aZ.tail (n:=10) ⟨rfl⟩ (aZ.tail (n:=9) ⟨rfl⟩ (aZ.tail (n:=5) ⟨rfl⟩ (aZ.tail (n:=1) ⟨rfl⟩ aZ.fst rfl) rfl) rfl) rfl) rfl) rfl) rfl) rfl) rfl) rfl)
instance:ah ab 22 bq.row (fun a b=>(a.1,(a.2.1,(a.2.2.1,(a.2.2.2.1,(a.2.2.2.2.1,(a.2.2.2.2.2.1,(a.2.2.2.2.2.2.1,(a.2.2.2.2.2.2.2.1,(a.2.2.2.2.2.2.2.2.1,(a.2.2.2.2.2.2.2.2.2.1,(b,a.2.2.2.2.2.2.2.2.2.2.2)))))))))))):=(ah.tail (n:=22) ⟨rfl⟩ (ah.tail (n:=21) ⟨rfl⟩ (ah.tail (n:=20) ⟨rfl⟩ (ah.tail (n:=19) ⟨rfl⟩ (ah.tail (n:=15) ⟨rfl⟩ (ah.tail (n:=11) ⟨rfl⟩ (ah.tail (n:=10) ⟨rfl⟩ (ah.tail (n:=9) ⟨rfl⟩ (ah.tail (n:=5) ⟨rfl⟩ (ah.tail (n:=1) ⟨rfl⟩ ah.fst rfl) rfl) rfl) rfl) rfl) rfl) rfl) rfl) rfl) rfl)
instance {a:aj}:ai (.ra ab a) 22 1 false (.rw bq tt a.2.2.2.2.2.2.2.2.2.2.1):=ai.cell inferInstance ⟨rfl⟩ inferInstance
instance:aZ ab 23 Rp.str.row (fun a=>a.2.2.2.2.2.2.2.2.2.2.2.1):=(aZ.tail (n:=23) ⟨rfl⟩ (aZ.tail (n:=22) ⟨rfl⟩ (aZ.tail (n:=21) ⟨rfl⟩ (aZ.tail (n:=20) ⟨rfl⟩ (aZ.tail (n:=16) ⟨rfl⟩ (aZ.tail (n:=12) ⟨rfl⟩ (aZ.tail (n:=11) ⟨rfl⟩ (aZ.tail (n:=10) ⟨rfl⟩ (aZ.tail (n:=6) ⟨rfl⟩ (aZ.tail (n:=2) ⟨rfl⟩ (aZ.tail (n:=1) ⟨rfl⟩ aZ.fst rfl) rfl) rfl) rfl) rfl) rfl) rfl) rfl) rfl) rfl) rfl)
instance:ah ab 23 Rp.str.row (fun a b=>(a.1,(a.2.1,(a.2.2.1,(a.2.2.2.1,(a.2.2.2.2.1,(a.2.2.2.2.2.1,(a.2.2.2.2.2.2.1,(a.2.2.2.2.2.2.2.1,(a.2.2.2.2.2.2.2.2.1,(a.2.2.2.2.2.2.2.2.2.1,(a.2.2.2.2.2.2.2.2.2.2.1,(b,a.2.2.2.2.2.2.2.2.2.2.2.2))))))))))))):=(ah.tail (n:=23) ⟨rfl⟩ (ah.tail (n:=22) ⟨rfl⟩ (ah.tail (n:=21) ⟨rfl⟩ (ah.tail (n:=20) ⟨rfl⟩ (ah.tail (n:=16) ⟨rfl⟩ (ah.tail (n:=12) ⟨rfl⟩ (ah.tail (n:=11) ⟨rfl⟩ (ah.tail (n:=10) ⟨rfl⟩ (ah.tail (n:=6) ⟨rfl⟩ (ah.tail (n:=2) ⟨rfl⟩ (ah.tail (n:=1) ⟨rfl⟩ ah.fst rfl) rfl) rfl) rfl) rfl) rfl) rfl) rfl) rfl) rfl) rfl)
instance {a:aj}:ai (.ra ab a) 23 1 false (.rw Rp.str tt a.2.2.2.2.2.2.2.2.2.2.2.1):=ai.cell inferInstance ⟨rfl⟩ inferInstance
instance:aZ ab 24 aw.row (fun a=>a.2.2.2.2.2.2.2.2.2.2.2.2):=(aZ.tail (n:=24) ⟨rfl⟩ (aZ.tail (n:=23) ⟨rfl⟩ (aZ.tail (n:=22) ⟨rfl⟩ (aZ.tail (n:=21) ⟨rfl⟩ (aZ.tail (n:=17) ⟨rfl⟩ (aZ.tail (n:=13) ⟨rfl⟩ (aZ.tail (n:=12) ⟨rfl⟩ (aZ.tail (n:=11) ⟨rfl⟩ (aZ.tail (n:=7) ⟨rfl⟩ (aZ.tail (n:=3) ⟨rfl⟩ (aZ.tail (n:=2) ⟨rfl⟩ (aZ.tail (n:=1) ⟨rfl⟩ aZ.self rfl) rfl) rfl) rfl) rfl) rfl) rfl) rfl) rfl) rfl) rfl) rfl)
instance:ah ab 24 aw.row (fun a b=>(a.1,(a.2.1,(a.2.2.1,(a.2.2.2.1,(a.2.2.2.2.1,(a.2.2.2.2.2.1,(a.2.2.2.2.2.2.1,(a.2.2.2.2.2.2.2.1,(a.2.2.2.2.2.2.2.2.1,(a.2.2.2.2.2.2.2.2.2.1,(a.2.2.2.2.2.2.2.2.2.2.1,(a.2.2.2.2.2.2.2.2.2.2.2.1,b))))))))))))):=(ah.tail (n:=24) ⟨rfl⟩ (ah.tail (n:=23) ⟨rfl⟩ (ah.tail (n:=22) ⟨rfl⟩ (ah.tail (n:=21) ⟨rfl⟩ (ah.tail (n:=17) ⟨rfl⟩ (ah.tail (n:=13) ⟨rfl⟩ (ah.tail (n:=12) ⟨rfl⟩ (ah.tail (n:=11) ⟨rfl⟩ (ah.tail (n:=7) ⟨rfl⟩ (ah.tail (n:=3) ⟨rfl⟩ (ah.tail (n:=2) ⟨rfl⟩ (ah.tail (n:=1) ⟨rfl⟩ ah.self rfl) rfl) rfl) rfl) rfl) rfl) rfl) rfl) rfl) rfl) rfl) rfl)
instance {a:aj}:ai (.ra ab a) 24 1 false (.rw aw tt a.2.2.2.2.2.2.2.2.2.2.2.2):=ai.cell inferInstance ⟨rfl⟩ inferInstance
instance:fw Tryz.prog 32 25 true:=⟨⟨_,Tryz.underlying32,rfl⟩,by kernel_rfl⟩
instance:aq Tryz.prog 32 0 0 1 false:=⟨⟨_,_,Tryz.underlying32,rfl,rfl,by kernel_rfl,by decide,_,Tryz.underlying9,rfl⟩⟩
instance:aq Tryz.prog 32 1 1 1 false:=⟨⟨_,_,Tryz.underlying32,rfl,rfl,by kernel_rfl,by decide,_,Tryz.underlying9,rfl⟩⟩
instance:aq Tryz.prog 32 2 2 1 false:=⟨⟨_,_,Tryz.underlying32,rfl,rfl,by kernel_rfl,by decide,_,Tryz.underlying22,rfl⟩⟩
instance:aq Tryz.prog 32 3 3 4 true:=⟨⟨_,_,Tryz.underlying32,rfl,rfl,by kernel_rfl,by decide,_,Tryz.underlying27,rfl⟩⟩
instance:aq Tryz.prog 32 4 7 4 true:=⟨⟨_,_,Tryz.underlying32,rfl,rfl,by kernel_rfl,by decide,_,Tryz.underlying27,rfl⟩⟩
instance:aq Tryz.prog 32 5 11 1 false:=⟨⟨_,_,Tryz.underlying32,rfl,rfl,by kernel_rfl,by decide,_,Tryz.underlying3,rfl⟩⟩
instance:aq Tryz.prog 32 6 12 1 false:=⟨⟨_,_,Tryz.underlying32,rfl,rfl,by kernel_rfl,by decide,_,Tryz.underlying3,rfl⟩⟩
instance:aq Tryz.prog 32 7 13 4 true:=⟨⟨_,_,Tryz.underlying32,rfl,rfl,by kernel_rfl,by decide,_,Tryz.underlying27,rfl⟩⟩
instance:aq Tryz.prog 32 8 17 4 true:=⟨⟨_,_,Tryz.underlying32,rfl,rfl,by kernel_rfl,by decide,_,Tryz.underlying27,rfl⟩⟩
instance:aq Tryz.prog 32 9 21 1 false:=⟨⟨_,_,Tryz.underlying32,rfl,rfl,by kernel_rfl,by decide,_,Tryz.underlying3,rfl⟩⟩
instance:aq Tryz.prog 32 10 22 1 false:=⟨⟨_,_,Tryz.underlying32,rfl,rfl,by kernel_rfl,by decide,_,Tryz.underlying28,rfl⟩⟩
instance:aq Tryz.prog 32 11 23 1 false:=⟨⟨_,_,Tryz.underlying32,rfl,rfl,by kernel_rfl,by decide,_,Tryz.underlying29,rfl⟩⟩
instance:aq Tryz.prog 32 12 24 1 false:=⟨⟨_,_,Tryz.underlying32,rfl,rfl,by kernel_rfl,by decide,_,Tryz.underlying30,rfl⟩⟩
theorem lb:dS Tryz.prog 32 ab ([],[],[],((false,[]),(false,[])),((false,[]),(false,[])),0,0,((false,[]),(false,[])),((false,[]),(false,[])),0,[],[],[]):=⟨by
 obtain ⟨i,h1,h2,h3,h4⟩:∃ i,Tryz.prog.info? 32=some i∧i.zero=some (.agg #[Tx [],Tx [], .slice none 0 0, .bool false, .slice none 0 0, .bool false, .slice none 0 0, .bool false, .slice none 0 0, .bool false, .slice none 0 0, .int .i64 0, .int .i64 0, .bool false, .slice none 0 0, .bool false, .slice none 0 0, .bool false, .slice none 0 0, .bool false, .slice none 0 0, .int .i64 0, .slice none 0 0, .slice none 0 0, .slice none 0 0])∧i.size=25∧i.bytes=408:=info_parts qK
 refine ⟨_,i,_,Tryz.underlying32,(fun f hf=> ?_),h1,h2,fun w S=> ?_⟩
 ·simp only [List.mem_cons,List.not_mem_nil,or_false] at hf
  rcases hf with rfl|rfl|rfl|rfl|rfl|rfl|rfl|rfl|rfl|rfl|rfl|rfl|rfl<;>exact Option.isSome_iff_exists.1 qK
 ·exact ⟨[Tx []],[Tx [], .slice none 0 0, .bool false, .slice none 0 0, .bool false, .slice none 0 0, .bool false, .slice none 0 0, .bool false, .slice none 0 0, .int .i64 0, .int .i64 0, .bool false, .slice none 0 0, .bool false, .slice none 0 0, .bool false, .slice none 0 0, .bool false, .slice none 0 0, .int .i64 0, .slice none 0 0, .slice none 0 0, .slice none 0 0],rfl,⟨_,rfl,bu []⟩,⟨[Tx []],[.slice none 0 0, .bool false, .slice none 0 0, .bool false, .slice none 0 0, .bool false, .slice none 0 0, .bool false, .slice none 0 0, .int .i64 0, .int .i64 0, .bool false, .slice none 0 0, .bool false, .slice none 0 0, .bool false, .slice none 0 0, .bool false, .slice none 0 0, .int .i64 0, .slice none 0 0, .slice none 0 0, .slice none 0 0],rfl,⟨_,rfl,bu []⟩,⟨[.slice none 0 0],[.bool false, .slice none 0 0, .bool false, .slice none 0 0, .bool false, .slice none 0 0, .bool false, .slice none 0 0, .int .i64 0, .int .i64 0, .bool false, .slice none 0 0, .bool false, .slice none 0 0, .bool false, .slice none 0 0, .bool false, .slice none 0 0, .int .i64 0, .slice none 0 0, .slice none 0 0, .slice none 0 0],rfl,⟨none,0,0,rfl,rfl,Nat.le_refl _,Nat.zero_le _,fun _=>rfl,fun h=>absurd h qO⟩,⟨[.bool false, .slice none 0 0, .bool false, .slice none 0 0],[.bool false, .slice none 0 0, .bool false, .slice none 0 0, .int .i64 0, .int .i64 0, .bool false, .slice none 0 0, .bool false, .slice none 0 0, .bool false, .slice none 0 0, .bool false, .slice none 0 0, .int .i64 0, .slice none 0 0, .slice none 0 0, .slice none 0 0],rfl,⟨[.bool false, .slice none 0 0],[.bool false, .slice none 0 0],rfl,⟨[.bool false],[.slice none 0 0],rfl,rfl,⟨none,0,0,rfl,⟨⟨rfl,Nat.le_refl _,Nat.zero_le _,fun _=>rfl,fun h=>absurd h qO⟩,fun h=>absurd h qO⟩,fun _ h=>by cases h⟩⟩,⟨[.bool false],[.slice none 0 0],rfl,rfl,⟨none,0,0,rfl,⟨⟨rfl,Nat.le_refl _,Nat.zero_le _,fun _=>rfl,fun h=>absurd h qO⟩,fun h=>absurd h qO⟩,fun _ h=>by cases h⟩⟩⟩,⟨[.bool false, .slice none 0 0, .bool false, .slice none 0 0],[.int .i64 0, .int .i64 0, .bool false, .slice none 0 0, .bool false, .slice none 0 0, .bool false, .slice none 0 0, .bool false, .slice none 0 0, .int .i64 0, .slice none 0 0, .slice none 0 0, .slice none 0 0],rfl,⟨[.bool false, .slice none 0 0],[.bool false, .slice none 0 0],rfl,⟨[.bool false],[.slice none 0 0],rfl,rfl,⟨none,0,0,rfl,⟨⟨rfl,Nat.le_refl _,Nat.zero_le _,fun _=>rfl,fun h=>absurd h qO⟩,fun h=>absurd h qO⟩,fun _ h=>by cases h⟩⟩,⟨[.bool false],[.slice none 0 0],rfl,rfl,⟨none,0,0,rfl,⟨⟨rfl,Nat.le_refl _,Nat.zero_le _,fun _=>rfl,fun h=>absurd h qO⟩,fun h=>absurd h qO⟩,fun _ h=>by cases h⟩⟩⟩,⟨[.int .i64 0],[.int .i64 0, .bool false, .slice none 0 0, .bool false, .slice none 0 0, .bool false, .slice none 0 0, .bool false, .slice none 0 0, .int .i64 0, .slice none 0 0, .slice none 0 0, .slice none 0 0],rfl,rfl,⟨[.int .i64 0],[.bool false, .slice none 0 0, .bool false, .slice none 0 0, .bool false, .slice none 0 0, .bool false, .slice none 0 0, .int .i64 0, .slice none 0 0, .slice none 0 0, .slice none 0 0],rfl,rfl,⟨[.bool false, .slice none 0 0, .bool false, .slice none 0 0],[.bool false, .slice none 0 0, .bool false, .slice none 0 0, .int .i64 0, .slice none 0 0, .slice none 0 0, .slice none 0 0],rfl,⟨[.bool false, .slice none 0 0],[.bool false, .slice none 0 0],rfl,⟨[.bool false],[.slice none 0 0],rfl,rfl,⟨none,0,0,rfl,⟨⟨rfl,Nat.le_refl _,Nat.zero_le _,fun _=>rfl,fun h=>absurd h qO⟩,fun h=>absurd h qO⟩,fun _ h=>by cases h⟩⟩,⟨[.bool false],[.slice none 0 0],rfl,rfl,⟨none,0,0,rfl,⟨⟨rfl,Nat.le_refl _,Nat.zero_le _,fun _=>rfl,fun h=>absurd h qO⟩,fun h=>absurd h qO⟩,fun _ h=>by cases h⟩⟩⟩,⟨[.bool false, .slice none 0 0, .bool false, .slice none 0 0],[.int .i64 0, .slice none 0 0, .slice none 0 0, .slice none 0 0],rfl,⟨[.bool false, .slice none 0 0],[.bool false, .slice none 0 0],rfl,⟨[.bool false],[.slice none 0 0],rfl,rfl,⟨none,0,0,rfl,⟨⟨rfl,Nat.le_refl _,Nat.zero_le _,fun _=>rfl,fun h=>absurd h qO⟩,fun h=>absurd h qO⟩,fun _ h=>by cases h⟩⟩,⟨[.bool false],[.slice none 0 0],rfl,rfl,⟨none,0,0,rfl,⟨⟨rfl,Nat.le_refl _,Nat.zero_le _,fun _=>rfl,fun h=>absurd h qO⟩,fun h=>absurd h qO⟩,fun _ h=>by cases h⟩⟩⟩,⟨[.int .i64 0],[.slice none 0 0, .slice none 0 0, .slice none 0 0],rfl,rfl,⟨[.slice none 0 0],[.slice none 0 0, .slice none 0 0],rfl,⟨none,0,0,rfl,rfl,Nat.le_refl _,Nat.zero_le _,fun _=>rfl,fun h=>absurd h qO⟩,⟨[.slice none 0 0],[.slice none 0 0],rfl,⟨none,0,0,rfl,rfl,Nat.le_refl _,Nat.zero_le _,fun _=>rfl,fun h=>absurd h qO⟩,⟨none,0,0,rfl,rfl,Nat.le_refl _,Nat.zero_le _,fun _=>rfl,fun h=>absurd h qO⟩⟩⟩⟩⟩⟩⟩⟩⟩⟩⟩⟩⟩⟩
instance:fw Tryz.prog 42 25 true:=⟨⟨_,Tryz.underlying42,rfl⟩,by kernel_rfl⟩
instance:aq Tryz.prog 42 0 0 1 false:=⟨⟨_,_,Tryz.underlying42,rfl,rfl,by kernel_rfl,by decide,_,Tryz.underlying9,rfl⟩⟩
instance:aq Tryz.prog 42 1 1 1 false:=⟨⟨_,_,Tryz.underlying42,rfl,rfl,by kernel_rfl,by decide,_,Tryz.underlying9,rfl⟩⟩
instance:aq Tryz.prog 42 2 2 1 false:=⟨⟨_,_,Tryz.underlying42,rfl,rfl,by kernel_rfl,by decide,_,Tryz.underlying35,rfl⟩⟩
instance:aq Tryz.prog 42 3 3 4 true:=⟨⟨_,_,Tryz.underlying42,rfl,rfl,by kernel_rfl,by decide,_,Tryz.underlying38,rfl⟩⟩
instance:aq Tryz.prog 42 4 7 4 true:=⟨⟨_,_,Tryz.underlying42,rfl,rfl,by kernel_rfl,by decide,_,Tryz.underlying38,rfl⟩⟩
instance:aq Tryz.prog 42 5 11 1 false:=⟨⟨_,_,Tryz.underlying42,rfl,rfl,by kernel_rfl,by decide,_,Tryz.underlying3,rfl⟩⟩
instance:aq Tryz.prog 42 6 12 1 false:=⟨⟨_,_,Tryz.underlying42,rfl,rfl,by kernel_rfl,by decide,_,Tryz.underlying3,rfl⟩⟩
instance:aq Tryz.prog 42 7 13 4 true:=⟨⟨_,_,Tryz.underlying42,rfl,rfl,by kernel_rfl,by decide,_,Tryz.underlying38,rfl⟩⟩
instance:aq Tryz.prog 42 8 17 4 true:=⟨⟨_,_,Tryz.underlying42,rfl,rfl,by kernel_rfl,by decide,_,Tryz.underlying38,rfl⟩⟩
instance:aq Tryz.prog 42 9 21 1 false:=⟨⟨_,_,Tryz.underlying42,rfl,rfl,by kernel_rfl,by decide,_,Tryz.underlying3,rfl⟩⟩
instance:aq Tryz.prog 42 10 22 1 false:=⟨⟨_,_,Tryz.underlying42,rfl,rfl,by kernel_rfl,by decide,_,Tryz.underlying39,rfl⟩⟩
instance:aq Tryz.prog 42 11 23 1 false:=⟨⟨_,_,Tryz.underlying42,rfl,rfl,by kernel_rfl,by decide,_,Tryz.underlying29,rfl⟩⟩
instance:aq Tryz.prog 42 12 24 1 false:=⟨⟨_,_,Tryz.underlying42,rfl,rfl,by kernel_rfl,by decide,_,Tryz.underlying40,rfl⟩⟩
theorem pj:bc Tryz.prog 32 ab:=bc.strct Tryz.underlying32 (.cons (bc.str Tryz.underlying9 qK) rfl rfl (.cons (bc.str Tryz.underlying9 qK) rfl rfl (.cons (bc.row Tryz.underlying22 tz qK qD) rfl rfl (.cons fD rfl rfl (.cons fD rfl rfl (.cons (bc.int Tryz.underlying3 qK) rfl rfl (.cons (bc.int Tryz.underlying3 qK) rfl rfl (.cons fD rfl rfl (.cons fD rfl rfl (.cons (bc.int Tryz.underlying3 qK) rfl rfl (.cons (bc.row Tryz.underlying28 wC qK qD) rfl rfl (.cons (bc.row Tryz.underlying29 (bc.str Tryz.underlying9 qK) qK qD) rfl rfl (.one (bc.row Tryz.underlying30 yR qK qD) rfl))))))))))))) qK
abbrev mQ:=(Int)×(Int)×(Int)
abbrev bM:Rp mQ:=((Rp.int .u8).pair (((Rp.int .i64).pair ((Rp.int .i64)))))
instance:KC bM 3:=⟨rfl⟩
instance:aZ bM 0 (Rp.int .u8) (fun a=>a.1):=aZ.fst
instance:ah bM 0 (Rp.int .u8) (fun a b=>(b,a.2)):=ah.fst
instance {a:mQ}:ai (.ra bM a) 0 1 false (.is (.int .u8 a.1)):=ai.cell inferInstance ⟨rfl⟩ inferInstance
instance:aZ bM 1 (Rp.int .i64) (fun a=>a.2.1):=(aZ.tail (n:=1) ⟨rfl⟩ aZ.fst rfl)
instance:ah bM 1 (Rp.int .i64) (fun a b=>(a.1,(b,a.2.2))):=(ah.tail (n:=1) ⟨rfl⟩ ah.fst rfl)
instance {a:mQ}:ai (.ra bM a) 1 1 false (.is (.int .i64 a.2.1)):=ai.cell inferInstance ⟨rfl⟩ inferInstance
instance:aZ bM 2 (Rp.int .i64) (fun a=>a.2.2):=(aZ.tail (n:=2) ⟨rfl⟩ (aZ.tail (n:=1) ⟨rfl⟩ aZ.self rfl) rfl)
instance:ah bM 2 (Rp.int .i64) (fun a b=>(a.1,(a.2.1,b))):=(ah.tail (n:=2) ⟨rfl⟩ (ah.tail (n:=1) ⟨rfl⟩ ah.self rfl) rfl)
instance {a:mQ}:ai (.ra bM a) 2 1 false (.is (.int .i64 a.2.2)):=ai.cell inferInstance ⟨rfl⟩ inferInstance
instance:fw Tryz.prog 45 3 true:=⟨⟨_,Tryz.underlying45,rfl⟩,by kernel_rfl⟩
instance:aq Tryz.prog 45 0 0 1 false:=⟨⟨_,_,Tryz.underlying45,rfl,rfl,by kernel_rfl,by decide,_,Tryz.underlying5,rfl⟩⟩
instance:aq Tryz.prog 45 1 1 1 false:=⟨⟨_,_,Tryz.underlying45,rfl,rfl,by kernel_rfl,by decide,_,Tryz.underlying3,rfl⟩⟩
instance:aq Tryz.prog 45 2 2 1 false:=⟨⟨_,_,Tryz.underlying45,rfl,rfl,by kernel_rfl,by decide,_,Tryz.underlying3,rfl⟩⟩
theorem mf:dS Tryz.prog 45 bM (0,0,0):=⟨by
 obtain ⟨i,h1,h2,h3,h4⟩:∃ i,Tryz.prog.info? 45=some i∧i.zero=some (.agg #[.int .u8 0, .int .i64 0, .int .i64 0])∧i.size=3∧i.bytes=24:=info_parts qK
 refine ⟨_,i,_,Tryz.underlying45,(fun f hf=> ?_),h1,h2,fun w S=> ?_⟩
 ·simp only [List.mem_cons,List.not_mem_nil,or_false] at hf
  rcases hf with rfl|rfl|rfl<;>exact Option.isSome_iff_exists.1 qK
 ·exact ⟨[.int .u8 0],[.int .i64 0, .int .i64 0],rfl,rfl,⟨[.int .i64 0],[.int .i64 0],rfl,rfl,rfl⟩⟩⟩
instance:fw Tryz.prog 49 3 true:=⟨⟨_,Tryz.underlying49,rfl⟩,by kernel_rfl⟩
instance:aq Tryz.prog 49 0 0 1 false:=⟨⟨_,_,Tryz.underlying49,rfl,rfl,by kernel_rfl,by decide,_,Tryz.underlying5,rfl⟩⟩
instance:aq Tryz.prog 49 1 1 1 false:=⟨⟨_,_,Tryz.underlying49,rfl,rfl,by kernel_rfl,by decide,_,Tryz.underlying3,rfl⟩⟩
instance:aq Tryz.prog 49 2 2 1 false:=⟨⟨_,_,Tryz.underlying49,rfl,rfl,by kernel_rfl,by decide,_,Tryz.underlying3,rfl⟩⟩
theorem gm:dS Tryz.prog 49 bM (0,0,0):=⟨by
 obtain ⟨i,h1,h2,h3,h4⟩:∃ i,Tryz.prog.info? 49=some i∧i.zero=some (.agg #[.int .u8 0, .int .i64 0, .int .i64 0])∧i.size=3∧i.bytes=24:=info_parts qK
 refine ⟨_,i,_,Tryz.underlying49,(fun f hf=> ?_),h1,h2,fun w S=> ?_⟩
 ·simp only [List.mem_cons,List.not_mem_nil,or_false] at hf
  rcases hf with rfl|rfl|rfl<;>exact Option.isSome_iff_exists.1 qK
 ·exact ⟨[.int .u8 0],[.int .i64 0, .int .i64 0],rfl,rfl,⟨[.int .i64 0],[.int .i64 0],rfl,rfl,rfl⟩⟩⟩
theorem kb:∀ (ds:List Value) (w:World) (r o:Nat) (cs:List Value) (ty:TypeId),w.heap[r]? =some (.cells cs.toArray ty (0,0))→o+ds.length≤cs.length→w.setCells r o ds=w.setRow r (cs.take o++ds++cs.drop (o+ds.length)).toArray
 |[],w,r,o,cs,ty,h,hl=>by
  rw [List.append_nil,List.length_nil,Nat.add_zero,List.take_append_drop,setRow_self w r _ ty (0,0) h]
  rfl
 |v::ds,w,r,o,cs,ty,h,hl=>by
  rw [List.length_cons] at hl
  have hs:(cs.toArray.setIfInBounds o v)=(cs.set o v).toArray:=by simp
  show (w.setCell ⟨r,o,none⟩ v).setCells r (o+1) ds=_
  rw [setCell_eq_setRow w r o cs.toArray ty (0,0) v h,hs,kb ds (w.setRow r (cs.set o v).toArray) r (o+1) (cs.set o v) ty (setRow_heap w r _ _ ty _ h) (by rw [List.length_set];omega),setRow_setRow]
  congr 2
  rw [List.length_cons,show o+1+ds.length=o+(ds.length+1) by omega,List.drop_set_of_lt qO,List.append_assoc,List.append_assoc]
  rw [List.take_succ_eq_append_getElem (by rw [List.length_set];omega),List.getElem_set_self,List.take_set_of_le (Nat.le_refl o)]
  simp
theorem dS.al {α:Type} {P:Program} {ty:TypeId} {r:Rp α} {a:α} (z:dS P ty r a):cQ P ty (.ra r a):=by
 obtain ⟨fs,i,zs,hu,hf,hi,hz,hr⟩:=z.ok
 refine ⟨.agg zs,fun X w=>⟨zs.toList,by simp,hr w _⟩,fun o ρ w e=> ?_⟩
 have hze:(zeroValue ty).run P w= .ok (.agg zs) w:=by simp [zeroValue,typeInfo,hi,hz]
 cases o with
 |mk dst op t pos af gd=>
  have e':op=_:=e
  subst e'
  unfold execOp
  simp [Instr.alloc,newVar,newRow,Sem.run_bind,hze,Result.andThen_ok]
section
variable {P:Program} {w00:World} {X:List Nat} {L L':List Loc} {E:List (Nat×aa)} {n:Nat} {ops:Array Oper} {rest:List Oper} {Q:Exit→Act→World→Prop} {cs:List Code} {t0:TypeId} {pos:String} {af:Array Edge}
theorem vm {α β:Type} {r':Rp β} {rr:Rp α} {a:α} {b:β} {u:α→β→α} {ty:TypeId} {s r off k:Nat} {o:Operand} {T:aa} {ag:Bool} [hs:ck E s (.is (.pointer (some ⟨r,off,none⟩)))] [hl:p5 L r (.ra rr a)] [sr:ah rr off r' u] [ho:bD E o T] [ap:CA T r' b] [hu:j8 L r (.ra rr a) (.ra rr (u a b)) L'] [kc:KC r' k] [hty:fw P ty k ag]
 (h:GR P w00 X L' E n ops rest cs Q):GR P w00 X L E n ops (⟨none, .store ty (.tmp s) o,t0,pos,af,none⟩::rest) cs Q:=⟨fun ac w ht=>by
 refine dT rfl ?_
 have e1:ac.eval (.tmp s)= .pointer (some ⟨r,off,none⟩):=ht.slots _ hs.mem
 obtain ⟨ds,hd1,hd2⟩:=ap.ok (ho.get (X:=X) (w:=w) (ρ:=ac.eval) (fun _=>rfl) fun p hp _=>ht.slots p hp)
 obtain ⟨g1,g2,v,ty',g3,g4⟩:=ht.mem.loc _ hu.upd.mem
 obtain ⟨cs0,hc1,hc2⟩:=g3
 rw [hc1] at g4
 replace g4:w.heap[r]? =some (.cells cs0.toArray ty' (0,0)):=g4
 obtain ⟨hle,hr⟩:=sr.ok hc2 hd2
 have hlc:=rr.len hc2
 have hld:=r'.len hd2
 have hk:=kc.ok
 have hone:∀ x∈ds,x.oneCell'=true:=r'.one hd2
 have hv2:ac.eval o= .agg ds.toArray∨(ac.eval o).cells=ds.toArray:= .inr hd1
 have hsv:(storeVar ty ⟨r,off,none⟩ (ac.eval o)).run P w= .ok () (w.setRow r (cs0.take off++ds++cs0.drop (off+ds.length)).toArray):=by
  have:=run_storeVar_mid (P:=P) w r off ty ds.toArray (fun j hj=>by
   have hj:j<ds.length:=by simpa using hj
   refine ⟨?_,by simp [World.frozen?,g4]⟩
   rw [gg (u:=cs0[off+j]' qO) g4 (by simp [show off+j<cs0.length by omega])]
   rfl) (by rw [hty.size];simp [hld,hk]) (all_oneCell_toArray hone)
  rw [←kb ds w r off cs0 ty' g4 qO]
  rw [←this]
  unfold storeVar
  rw [hd1]
  rfl
 unfold Oper.wp execOp
 simp only [e1,Instr.storeAt,Instr.sureAddr,Sem.run_bind,Sem.run_pure,Result.andThen_ok,hsv]
 have hw:=ht.write (T:= .ra rr (u a b)) (k:=0) (k0:=0) (ag:=true) (ag0:=true) (v:= .agg (cs0.take off++ds++cs0.drop (off+ds.length)).toArray) hu.upd ⟨_,rfl,by rw [hld];exact hr⟩
 exact h.run ac _ hw⟩
end
def ga (c:UInt8):Bool:=(decide (97≤c.toNat)&&decide (c.toNat≤122)) || (decide (65≤c.toNat)&&decide (c.toNat≤90))
def mJ (c:UInt8):Bool:=ga c || (decide (48≤c.toNat)&&decide (c.toNat≤57)) || c.toNat==95 || c.toNat==45
def bg (l:List UInt8):Bool:=(match l with|[]=>false|c::_=>ga c)&&l.all mJ&&decide (l.length≤32)
def cV (k:Nat) (x:aR):Bool:=jB x&&decide (k%(qv x).den=0)
def l9:Rat:=((1000000000000000:Int):Rat)*((1000000000000000:Int):Rat)
def j0 (x:aR):Bool:=cV 100 x&&decide (de (qv x) l9<0)&&decide (de (-qv x) l9<0)
def jH (k:Int) (x:aR):Bool:=decide (0≤de (qv x) 0)&&decide (de (qv x) (k:Rat)≤0)
def jS (x:aR):Bool:=cV 1000000 x&&jH 1 x
def gp (n a b:Int):Bool:=decide (a≤n)&&decide (n≤b)
def fG (b:dJ):Bool:=j0 b.1&&jS b.2
def tU (k:Int) (x:aR):Bool:=bif k==4 then jS x else bif k==5 then j0 x else bif k==6 then cV 1 x&&jH 40 x else cV 1 x&&jH 0 x
def fp (c:ej):Bool:=bg c.1&&gp c.2.1 1 11&&tU c.2.1 c.2.2
def ln (y:aX):Bool:=gp y.1 1 9999
def iy (h:gk):Bool:=bg h.1&&bg h.2.1&&jS h.2.2
def iq (b:gl):Bool:=bg b.1&&bg b.2.1&&j0 b.2.2
def iu (d:fb):Bool:=bg d.2.1&&gp d.2.2.1 1 4&&bg d.2.2.2.1&&bg d.2.2.2.2.1&&bg d.2.2.2.2.2.1&&j0 d.2.2.2.2.2.2
def fH (s:eS):Bool:=bg s.1&&j0 s.2.1&&jS s.2.2
def ir (s:gK):Bool:=bg s.1&&jS s.2
def brk {α:Type} (p:α→Bool) (most:Nat):Nat→List α→Int×Int
 |_,[]=>(0,0)
 |i,x::l=>if i=most then ((i:Int),3) else bif p x then brk p most (i+1) l else ((i:Int),2)
theorem wT {α:Type} {p:α→Bool} {most:Nat}:∀ {l:List α} {i:Nat},i≤most→((brk p most i l).2=0↔(∀ x∈l,p x=true)∧i+l.length≤most)
 |[],i,hi=>by simp [brk,hi]
 |x::l,i,hi=>by
  unfold brk
  by_cases h:i=most
  ·rw [if_pos h]
   simp
   intros;omega
  ·rw [if_neg h]
   cases hp:p x
   ·simp [hp]
   ·simp only [cond_true,List.mem_cons,forall_eq_or_imp,hp,true_and,List.length_cons]
    rw [wT qO]
    constructor<;>rintro ⟨h1,h2⟩<;>exact ⟨h1,by omega⟩
theorem t6 {α:Type} {p:α→Bool} {most:Nat}:∀ {l:List α} {i:Nat},(brk p most i l).2=0→(brk p most i l).1=0
 |[],i,_=>rfl
 |x::l,i,h=>by
  unfold brk at h ⊢
  by_cases hi:i=most
  ·rw [if_pos hi] at h;cases h
  ·rw [if_neg hi] at h ⊢
   cases hp:p x
   ·rw [hp] at h;cases h
   ·rw [hp] at h
    exact t6 h
def fz:Nat→List Bool→Int
 |_,[]=> -1
 |i,b::l=>bif b then fz (i+1) l else (i:Int)
def dR (d:aj):List Bool:=[jS d.2.2.2.1,jS d.2.2.2.2.1,jS d.2.2.2.2.2.2.2.1,gp d.2.2.2.2.2.1 0 3,gp d.2.2.2.2.2.2.1 0 40,gp d.2.2.2.2.2.2.2.2.2.1 0 40,j0 d.2.2.2.2.2.2.2.2.1]
def lc (d:aj):Int×Int:=bif decide (0≤fz 0 (dR d)) then (fz 0 (dR d),2) else (0,0)
def dC (d:aj):List (Int×Int×Int):=[(1,brk bg 2 0 [d.1,d.2.1]),(2,brk fG 16 0 d.2.2.1),(3,lc d),(4,brk fp 64 0 d.2.2.2.2.2.2.2.2.2.2.1),(5,brk bg 256 0 d.2.2.2.2.2.2.2.2.2.2.2.1),(6,brk ln 40 0 d.2.2.2.2.2.2.2.2.2.2.2.2)]
def dp (y:aX):List (Int×Int×Int):=[(7,brk iy 4096 0 y.2.1),(8,brk iq 4096 0 y.2.2.1),(9,brk iu 4096 0 y.2.2.2.1),(10,brk fH 4096 0 y.2.2.2.2.1),(11,brk ir 4096 0 y.2.2.2.2.2)]
abbrev II:=(Int×Int×Int)×Int
def dw (year:Int):List (Int×Int×Int)→II
 |[]=>((0,0,0),0)
 |(p,a,e)::t=>bif e==0 then dw year t else ((p,year,a),e)
def kB:Nat→List aX→II
 |_,[]=>((0,0,0),0)
 |i,y::t=>bif (dw (i:Int) (dp y)).2==0 then kB (i+1) t else dw (i:Int) (dp y)
def bK (d:aj):II:=bif (dw (-1) (dC d)).2==0 then kB 0 d.2.2.2.2.2.2.2.2.2.2.2.2 else dw (-1) (dC d)
theorem nX {year:Int}:∀ {l:List (Int×Int×Int)},(dw year l).2=0→dw year l=((0,0,0),0)
 |[],_=>rfl
 |(p,a,e)::t,h=>by
  unfold dw at h ⊢
  cases he:(e==0)
  ·rw [he] at h
   have:e=0:=h
   rw [this] at he;cases he
  ·rw [he] at h
   exact nX h
end Go.Proofs.YtpmhjieibebclaaGreatDoor
