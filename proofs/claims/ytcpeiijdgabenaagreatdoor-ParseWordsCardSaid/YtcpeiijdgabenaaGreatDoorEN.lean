/- What the walks want of ast's and tallageref08's structs. Written by gen_wc.py. -/
import Derived.Test.YtcpeiijdgabenaaGreatDoorEM
import Derived.Test.YtcpeiijdgabenaaGreatDoorEK
import Derived.Test.YtcpeiijdgabenaaGreatDoorEH
import Derived.Laws.CopyRow
set_option linter.unusedSimpArgs false
set_option linter.unusedVariables false
namespace Go.Proofs.YtcpeiijdgabenaaGreatDoor
open Go Go.ChangeShapes Go.WideShapes Go.ChangeAt Go.RowKit Go.Deep
instance:KC Rp.frac 4:=⟨rfl⟩
instance {b:Bool}:fI Rp.bool b (.is (.bool b)):=⟨fun h=>by
 injection (show [_]=[_] from h) with e _⟩
abbrev cK:=(bA)×(bA)
abbrev cq:Rp cK:=Rp.frac.pair (Rp.frac)
instance:KC cq 8:=⟨rfl⟩
instance:bB cq 0 Rp.frac (fun a=>a.1):=bB.fst
instance:aO cq 0 Rp.frac (fun a b=>(b,a.2)):=aO.fst
instance {a:cK}:az (.ra cq a) 0 4 true (.ra Rp.frac a.1):=az.agg (g:=fun (a:cK)=>a.1) inferInstance ⟨rfl⟩
instance:bB cq 4 Rp.frac (fun a=>a.2):=(bB.tail (n:=4) ⟨rfl⟩ bB.self rfl)
instance:aO cq 4 Rp.frac (fun a b=>(a.1,b)):=(aO.tail (n:=4) ⟨rfl⟩ aO.self rfl)
instance {a:cK}:az (.ra cq a) 4 4 true (.ra Rp.frac a.2):=az.agg (g:=fun (a:cK)=>a.2) inferInstance ⟨rfl⟩
instance:eV Tryz.prog 122 8 true:=⟨⟨_,Tryz.underlying122,rfl⟩,by kernel_rfl⟩
instance:aP Tryz.prog 122 0 0 4 true:=⟨⟨_,_,Tryz.underlying122,rfl,rfl,by kernel_rfl,by decide,_,Tryz.underlying40,rfl⟩⟩
instance:aP Tryz.prog 122 1 4 4 true:=⟨⟨_,_,Tryz.underlying122,rfl,rfl,by kernel_rfl,by decide,_,Tryz.underlying40,rfl⟩⟩
theorem pf:fU Tryz.prog 122 cq (((false,[]),(false,[])),((false,[]),(false,[]))):=⟨by
 obtain ⟨i,h1,h2,h3,h4⟩:∃ i,Tryz.prog.info? 122=some i∧i.zero=some (.agg #[.bool false, .slice none 0 0, .bool false, .slice none 0 0, .bool false, .slice none 0 0, .bool false, .slice none 0 0])∧i.size=8∧i.bytes=128:=info_parts qK
 refine ⟨_,i,_,Tryz.underlying122,(fun f hf=> ?_),h1,h2,fun w S=> ?_⟩
 ·simp only [List.mem_cons,List.not_mem_nil,or_false] at hf
  rcases hf with rfl|rfl<;>exact Option.isSome_iff_exists.1 qK
 ·exact ⟨[.bool false, .slice none 0 0, .bool false, .slice none 0 0],[.bool false, .slice none 0 0, .bool false, .slice none 0 0],rfl,⟨[.bool false, .slice none 0 0],[.bool false, .slice none 0 0],rfl,⟨[.bool false],[.slice none 0 0],rfl,rfl,⟨none,0,0,rfl,⟨⟨rfl,Nat.le_refl _,Nat.zero_le _,fun _=>rfl,fun h=>absurd h qO⟩,fun h=>absurd h qO⟩,fun _ h=>by cases h⟩⟩,⟨[.bool false],[.slice none 0 0],rfl,rfl,⟨none,0,0,rfl,⟨⟨rfl,Nat.le_refl _,Nat.zero_le _,fun _=>rfl,fun h=>absurd h qO⟩,fun h=>absurd h qO⟩,fun _ h=>by cases h⟩⟩⟩,⟨[.bool false, .slice none 0 0],[.bool false, .slice none 0 0],rfl,⟨[.bool false],[.slice none 0 0],rfl,rfl,⟨none,0,0,rfl,⟨⟨rfl,Nat.le_refl _,Nat.zero_le _,fun _=>rfl,fun h=>absurd h qO⟩,fun h=>absurd h qO⟩,fun _ h=>by cases h⟩⟩,⟨[.bool false],[.slice none 0 0],rfl,rfl,⟨none,0,0,rfl,⟨⟨rfl,Nat.le_refl _,Nat.zero_le _,fun _=>rfl,fun h=>absurd h qO⟩,fun h=>absurd h qO⟩,fun _ h=>by cases h⟩⟩⟩⟩⟩
instance:eV Tryz.prog 37 1 false:=⟨⟨_,Tryz.underlying37,rfl⟩,by kernel_rfl⟩
instance:cO Tryz.prog 37 8:=⟨⟨_,Tryz.underlying37,by kernel_rfl⟩⟩
theorem pN:DK Tryz.prog 37 122 8:=⟨Tryz.underlying37,by
 obtain ⟨i,h1,h2,h3,h4⟩:∃ i,Tryz.prog.info? 122=some i∧i.zero=some (.agg #[.bool false, .slice none 0 0, .bool false, .slice none 0 0, .bool false, .slice none 0 0, .bool false, .slice none 0 0])∧i.size=8∧i.bytes=128:=info_parts qK
 exact ⟨i,_,h1,h2,h3,rfl⟩⟩
theorem pa:iC Tryz.prog 37 122 8 128:=⟨Tryz.underlying37,by decide,by
 obtain ⟨i,h1,h2,h3,h4⟩:∃ i,Tryz.prog.info? 122=some i∧i.zero=some (.agg #[.bool false, .slice none 0 0, .bool false, .slice none 0 0, .bool false, .slice none 0 0, .bool false, .slice none 0 0])∧i.size=8∧i.bytes=128:=info_parts qK
 exact ⟨i,_,h1,h2,h3,h4,rfl⟩⟩
instance:eV Tryz.prog 109 8 true:=⟨⟨_,Tryz.underlying109,rfl⟩,by kernel_rfl⟩
instance:aP Tryz.prog 109 0 0 4 true:=⟨⟨_,_,Tryz.underlying109,rfl,rfl,by kernel_rfl,by decide,_,Tryz.underlying28,rfl⟩⟩
instance:aP Tryz.prog 109 1 4 4 true:=⟨⟨_,_,Tryz.underlying109,rfl,rfl,by kernel_rfl,by decide,_,Tryz.underlying28,rfl⟩⟩
instance:eV Tryz.prog 23 1 false:=⟨⟨_,Tryz.underlying23,rfl⟩,by kernel_rfl⟩
instance:cO Tryz.prog 23 8:=⟨⟨_,Tryz.underlying23,by kernel_rfl⟩⟩
abbrev h_:=(List UInt8)×(Int)×(bA)
abbrev d7:Rp h_:=Rp.str.pair (((Rp.int .u8).pair (Rp.frac)))
instance:KC d7 6:=⟨rfl⟩
instance:bB d7 0 Rp.str (fun a=>a.1):=bB.fst
instance:aO d7 0 Rp.str (fun a b=>(b,a.2)):=aO.fst
instance {a:h_}:az (.ra d7 a) 0 1 false (.is (Tx a.1)):=az.cell inferInstance ⟨rfl⟩ inferInstance
instance:bB d7 1 (Rp.int .u8) (fun a=>a.2.1):=(bB.tail (n:=1) ⟨rfl⟩ bB.fst rfl)
instance:aO d7 1 (Rp.int .u8) (fun a b=>(a.1,(b,a.2.2))):=(aO.tail (n:=1) ⟨rfl⟩ aO.fst rfl)
instance {a:h_}:az (.ra d7 a) 1 1 false (.is (.int .u8 a.2.1)):=az.cell inferInstance ⟨rfl⟩ inferInstance
instance:bB d7 2 Rp.frac (fun a=>a.2.2):=(bB.tail (n:=2) ⟨rfl⟩ (bB.tail (n:=1) ⟨rfl⟩ bB.self rfl) rfl)
instance:aO d7 2 Rp.frac (fun a b=>(a.1,(a.2.1,b))):=(aO.tail (n:=2) ⟨rfl⟩ (aO.tail (n:=1) ⟨rfl⟩ aO.self rfl) rfl)
instance {a:h_}:az (.ra d7 a) 2 4 true (.ra Rp.frac a.2.2):=az.agg (g:=fun (a:h_)=>a.2.2) inferInstance ⟨rfl⟩
instance:eV Tryz.prog 124 6 true:=⟨⟨_,Tryz.underlying124,rfl⟩,by kernel_rfl⟩
instance:aP Tryz.prog 124 0 0 1 false:=⟨⟨_,_,Tryz.underlying124,rfl,rfl,by kernel_rfl,by decide,_,Tryz.underlying9,rfl⟩⟩
instance:aP Tryz.prog 124 1 1 1 false:=⟨⟨_,_,Tryz.underlying124,rfl,rfl,by kernel_rfl,by decide,_,Tryz.underlying5,rfl⟩⟩
instance:aP Tryz.prog 124 2 2 4 true:=⟨⟨_,_,Tryz.underlying124,rfl,rfl,by kernel_rfl,by decide,_,Tryz.underlying40,rfl⟩⟩
theorem rz:fU Tryz.prog 124 d7 ([],0,((false,[]),(false,[]))):=⟨by
 obtain ⟨i,h1,h2,h3,h4⟩:∃ i,Tryz.prog.info? 124=some i∧i.zero=some (.agg #[Tx [], .int .u8 0, .bool false, .slice none 0 0, .bool false, .slice none 0 0])∧i.size=6∧i.bytes=88:=info_parts qK
 refine ⟨_,i,_,Tryz.underlying124,(fun f hf=> ?_),h1,h2,fun w S=> ?_⟩
 ·simp only [List.mem_cons,List.not_mem_nil,or_false] at hf
  rcases hf with rfl|rfl|rfl<;>exact Option.isSome_iff_exists.1 qK
 ·exact ⟨[Tx []],[.int .u8 0, .bool false, .slice none 0 0, .bool false, .slice none 0 0],rfl,⟨_,rfl,bU []⟩,⟨[.int .u8 0],[.bool false, .slice none 0 0, .bool false, .slice none 0 0],rfl,rfl,⟨[.bool false, .slice none 0 0],[.bool false, .slice none 0 0],rfl,⟨[.bool false],[.slice none 0 0],rfl,rfl,⟨none,0,0,rfl,⟨⟨rfl,Nat.le_refl _,Nat.zero_le _,fun _=>rfl,fun h=>absurd h qO⟩,fun h=>absurd h qO⟩,fun _ h=>by cases h⟩⟩,⟨[.bool false],[.slice none 0 0],rfl,rfl,⟨none,0,0,rfl,⟨⟨rfl,Nat.le_refl _,Nat.zero_le _,fun _=>rfl,fun h=>absurd h qO⟩,fun h=>absurd h qO⟩,fun _ h=>by cases h⟩⟩⟩⟩⟩⟩
instance:eV Tryz.prog 41 1 false:=⟨⟨_,Tryz.underlying41,rfl⟩,by kernel_rfl⟩
instance:cO Tryz.prog 41 6:=⟨⟨_,Tryz.underlying41,by kernel_rfl⟩⟩
instance:eV Tryz.prog 111 6 true:=⟨⟨_,Tryz.underlying111,rfl⟩,by kernel_rfl⟩
instance:aP Tryz.prog 111 0 0 1 false:=⟨⟨_,_,Tryz.underlying111,rfl,rfl,by kernel_rfl,by decide,_,Tryz.underlying9,rfl⟩⟩
instance:aP Tryz.prog 111 1 1 1 false:=⟨⟨_,_,Tryz.underlying111,rfl,rfl,by kernel_rfl,by decide,_,Tryz.underlying5,rfl⟩⟩
instance:aP Tryz.prog 111 2 2 4 true:=⟨⟨_,_,Tryz.underlying111,rfl,rfl,by kernel_rfl,by decide,_,Tryz.underlying28,rfl⟩⟩
instance:eV Tryz.prog 29 1 false:=⟨⟨_,Tryz.underlying29,rfl⟩,by kernel_rfl⟩
instance:cO Tryz.prog 29 6:=⟨⟨_,Tryz.underlying29,by kernel_rfl⟩⟩
abbrev eL:=(List UInt8)×(List UInt8)×(bA)
abbrev eH:Rp eL:=Rp.str.pair (Rp.str.pair (Rp.frac))
instance:KC eH 6:=⟨rfl⟩
instance:bB eH 0 Rp.str (fun a=>a.1):=bB.fst
instance:aO eH 0 Rp.str (fun a b=>(b,a.2)):=aO.fst
instance {a:eL}:az (.ra eH a) 0 1 false (.is (Tx a.1)):=az.cell inferInstance ⟨rfl⟩ inferInstance
instance:bB eH 1 Rp.str (fun a=>a.2.1):=(bB.tail (n:=1) ⟨rfl⟩ bB.fst rfl)
instance:aO eH 1 Rp.str (fun a b=>(a.1,(b,a.2.2))):=(aO.tail (n:=1) ⟨rfl⟩ aO.fst rfl)
instance {a:eL}:az (.ra eH a) 1 1 false (.is (Tx a.2.1)):=az.cell inferInstance ⟨rfl⟩ inferInstance
instance:bB eH 2 Rp.frac (fun a=>a.2.2):=(bB.tail (n:=2) ⟨rfl⟩ (bB.tail (n:=1) ⟨rfl⟩ bB.self rfl) rfl)
instance:aO eH 2 Rp.frac (fun a b=>(a.1,(a.2.1,b))):=(aO.tail (n:=2) ⟨rfl⟩ (aO.tail (n:=1) ⟨rfl⟩ aO.self rfl) rfl)
instance {a:eL}:az (.ra eH a) 2 4 true (.ra Rp.frac a.2.2):=az.agg (g:=fun (a:eL)=>a.2.2) inferInstance ⟨rfl⟩
instance:eV Tryz.prog 130 6 true:=⟨⟨_,Tryz.underlying130,rfl⟩,by kernel_rfl⟩
instance:aP Tryz.prog 130 0 0 1 false:=⟨⟨_,_,Tryz.underlying130,rfl,rfl,by kernel_rfl,by decide,_,Tryz.underlying9,rfl⟩⟩
instance:aP Tryz.prog 130 1 1 1 false:=⟨⟨_,_,Tryz.underlying130,rfl,rfl,by kernel_rfl,by decide,_,Tryz.underlying9,rfl⟩⟩
instance:aP Tryz.prog 130 2 2 4 true:=⟨⟨_,_,Tryz.underlying130,rfl,rfl,by kernel_rfl,by decide,_,Tryz.underlying40,rfl⟩⟩
theorem sT:fU Tryz.prog 130 eH ([],[],((false,[]),(false,[]))):=⟨by
 obtain ⟨i,h1,h2,h3,h4⟩:∃ i,Tryz.prog.info? 130=some i∧i.zero=some (.agg #[Tx [],Tx [], .bool false, .slice none 0 0, .bool false, .slice none 0 0])∧i.size=6∧i.bytes=96:=info_parts qK
 refine ⟨_,i,_,Tryz.underlying130,(fun f hf=> ?_),h1,h2,fun w S=> ?_⟩
 ·simp only [List.mem_cons,List.not_mem_nil,or_false] at hf
  rcases hf with rfl|rfl|rfl<;>exact Option.isSome_iff_exists.1 qK
 ·exact ⟨[Tx []],[Tx [], .bool false, .slice none 0 0, .bool false, .slice none 0 0],rfl,⟨_,rfl,bU []⟩,⟨[Tx []],[.bool false, .slice none 0 0, .bool false, .slice none 0 0],rfl,⟨_,rfl,bU []⟩,⟨[.bool false, .slice none 0 0],[.bool false, .slice none 0 0],rfl,⟨[.bool false],[.slice none 0 0],rfl,rfl,⟨none,0,0,rfl,⟨⟨rfl,Nat.le_refl _,Nat.zero_le _,fun _=>rfl,fun h=>absurd h qO⟩,fun h=>absurd h qO⟩,fun _ h=>by cases h⟩⟩,⟨[.bool false],[.slice none 0 0],rfl,rfl,⟨none,0,0,rfl,⟨⟨rfl,Nat.le_refl _,Nat.zero_le _,fun _=>rfl,fun h=>absurd h qO⟩,fun h=>absurd h qO⟩,fun _ h=>by cases h⟩⟩⟩⟩⟩⟩
instance:eV Tryz.prog 74 1 false:=⟨⟨_,Tryz.underlying74,rfl⟩,by kernel_rfl⟩
instance:cO Tryz.prog 74 6:=⟨⟨_,Tryz.underlying74,by kernel_rfl⟩⟩
theorem vC:DK Tryz.prog 74 130 6:=⟨Tryz.underlying74,by
 obtain ⟨i,h1,h2,h3,h4⟩:∃ i,Tryz.prog.info? 130=some i∧i.zero=some (.agg #[Tx [],Tx [], .bool false, .slice none 0 0, .bool false, .slice none 0 0])∧i.size=6∧i.bytes=96:=info_parts qK
 exact ⟨i,_,h1,h2,h3,rfl⟩⟩
theorem tj:iC Tryz.prog 74 130 6 96:=⟨Tryz.underlying74,by decide,by
 obtain ⟨i,h1,h2,h3,h4⟩:∃ i,Tryz.prog.info? 130=some i∧i.zero=some (.agg #[Tx [],Tx [], .bool false, .slice none 0 0, .bool false, .slice none 0 0])∧i.size=6∧i.bytes=96:=info_parts qK
 exact ⟨i,_,h1,h2,h3,h4,rfl⟩⟩
instance:eV Tryz.prog 178 6 true:=⟨⟨_,Tryz.underlying178,rfl⟩,by kernel_rfl⟩
instance:aP Tryz.prog 178 0 0 1 false:=⟨⟨_,_,Tryz.underlying178,rfl,rfl,by kernel_rfl,by decide,_,Tryz.underlying9,rfl⟩⟩
instance:aP Tryz.prog 178 1 1 1 false:=⟨⟨_,_,Tryz.underlying178,rfl,rfl,by kernel_rfl,by decide,_,Tryz.underlying9,rfl⟩⟩
instance:aP Tryz.prog 178 2 2 4 true:=⟨⟨_,_,Tryz.underlying178,rfl,rfl,by kernel_rfl,by decide,_,Tryz.underlying28,rfl⟩⟩
instance:eV Tryz.prog 113 1 false:=⟨⟨_,Tryz.underlying113,rfl⟩,by kernel_rfl⟩
instance:cO Tryz.prog 113 6:=⟨⟨_,Tryz.underlying113,by kernel_rfl⟩⟩
abbrev eT:=(List UInt8)×(List UInt8)×(bA)
abbrev eF:Rp eT:=Rp.str.pair (Rp.str.pair (Rp.frac))
instance:KC eF 6:=⟨rfl⟩
instance:bB eF 0 Rp.str (fun a=>a.1):=bB.fst
instance:aO eF 0 Rp.str (fun a b=>(b,a.2)):=aO.fst
instance {a:eT}:az (.ra eF a) 0 1 false (.is (Tx a.1)):=az.cell inferInstance ⟨rfl⟩ inferInstance
instance:bB eF 1 Rp.str (fun a=>a.2.1):=(bB.tail (n:=1) ⟨rfl⟩ bB.fst rfl)
instance:aO eF 1 Rp.str (fun a b=>(a.1,(b,a.2.2))):=(aO.tail (n:=1) ⟨rfl⟩ aO.fst rfl)
instance {a:eT}:az (.ra eF a) 1 1 false (.is (Tx a.2.1)):=az.cell inferInstance ⟨rfl⟩ inferInstance
instance:bB eF 2 Rp.frac (fun a=>a.2.2):=(bB.tail (n:=2) ⟨rfl⟩ (bB.tail (n:=1) ⟨rfl⟩ bB.self rfl) rfl)
instance:aO eF 2 Rp.frac (fun a b=>(a.1,(a.2.1,b))):=(aO.tail (n:=2) ⟨rfl⟩ (aO.tail (n:=1) ⟨rfl⟩ aO.self rfl) rfl)
instance {a:eT}:az (.ra eF a) 2 4 true (.ra Rp.frac a.2.2):=az.agg (g:=fun (a:eT)=>a.2.2) inferInstance ⟨rfl⟩
instance:eV Tryz.prog 82 6 true:=⟨⟨_,Tryz.underlying82,rfl⟩,by kernel_rfl⟩
instance:aP Tryz.prog 82 0 0 1 false:=⟨⟨_,_,Tryz.underlying82,rfl,rfl,by kernel_rfl,by decide,_,Tryz.underlying9,rfl⟩⟩
instance:aP Tryz.prog 82 1 1 1 false:=⟨⟨_,_,Tryz.underlying82,rfl,rfl,by kernel_rfl,by decide,_,Tryz.underlying9,rfl⟩⟩
instance:aP Tryz.prog 82 2 2 4 true:=⟨⟨_,_,Tryz.underlying82,rfl,rfl,by kernel_rfl,by decide,_,Tryz.underlying40,rfl⟩⟩
theorem tB:fU Tryz.prog 82 eF ([],[],((false,[]),(false,[]))):=⟨by
 obtain ⟨i,h1,h2,h3,h4⟩:∃ i,Tryz.prog.info? 82=some i∧i.zero=some (.agg #[Tx [],Tx [], .bool false, .slice none 0 0, .bool false, .slice none 0 0])∧i.size=6∧i.bytes=96:=info_parts qK
 refine ⟨_,i,_,Tryz.underlying82,(fun f hf=> ?_),h1,h2,fun w S=> ?_⟩
 ·simp only [List.mem_cons,List.not_mem_nil,or_false] at hf
  rcases hf with rfl|rfl|rfl<;>exact Option.isSome_iff_exists.1 qK
 ·exact ⟨[Tx []],[Tx [], .bool false, .slice none 0 0, .bool false, .slice none 0 0],rfl,⟨_,rfl,bU []⟩,⟨[Tx []],[.bool false, .slice none 0 0, .bool false, .slice none 0 0],rfl,⟨_,rfl,bU []⟩,⟨[.bool false, .slice none 0 0],[.bool false, .slice none 0 0],rfl,⟨[.bool false],[.slice none 0 0],rfl,rfl,⟨none,0,0,rfl,⟨⟨rfl,Nat.le_refl _,Nat.zero_le _,fun _=>rfl,fun h=>absurd h qO⟩,fun h=>absurd h qO⟩,fun _ h=>by cases h⟩⟩,⟨[.bool false],[.slice none 0 0],rfl,rfl,⟨none,0,0,rfl,⟨⟨rfl,Nat.le_refl _,Nat.zero_le _,fun _=>rfl,fun h=>absurd h qO⟩,fun h=>absurd h qO⟩,fun _ h=>by cases h⟩⟩⟩⟩⟩⟩
instance:eV Tryz.prog 75 1 false:=⟨⟨_,Tryz.underlying75,rfl⟩,by kernel_rfl⟩
instance:cO Tryz.prog 75 6:=⟨⟨_,Tryz.underlying75,by kernel_rfl⟩⟩
theorem t_:DK Tryz.prog 75 82 6:=⟨Tryz.underlying75,by
 obtain ⟨i,h1,h2,h3,h4⟩:∃ i,Tryz.prog.info? 82=some i∧i.zero=some (.agg #[Tx [],Tx [], .bool false, .slice none 0 0, .bool false, .slice none 0 0])∧i.size=6∧i.bytes=96:=info_parts qK
 exact ⟨i,_,h1,h2,h3,rfl⟩⟩
theorem th:iC Tryz.prog 75 82 6 96:=⟨Tryz.underlying75,by decide,by
 obtain ⟨i,h1,h2,h3,h4⟩:∃ i,Tryz.prog.info? 82=some i∧i.zero=some (.agg #[Tx [],Tx [], .bool false, .slice none 0 0, .bool false, .slice none 0 0])∧i.size=6∧i.bytes=96:=info_parts qK
 exact ⟨i,_,h1,h2,h3,h4,rfl⟩⟩
instance:eV Tryz.prog 180 6 true:=⟨⟨_,Tryz.underlying180,rfl⟩,by kernel_rfl⟩
instance:aP Tryz.prog 180 0 0 1 false:=⟨⟨_,_,Tryz.underlying180,rfl,rfl,by kernel_rfl,by decide,_,Tryz.underlying9,rfl⟩⟩
instance:aP Tryz.prog 180 1 1 1 false:=⟨⟨_,_,Tryz.underlying180,rfl,rfl,by kernel_rfl,by decide,_,Tryz.underlying9,rfl⟩⟩
instance:aP Tryz.prog 180 2 2 4 true:=⟨⟨_,_,Tryz.underlying180,rfl,rfl,by kernel_rfl,by decide,_,Tryz.underlying28,rfl⟩⟩
instance:eV Tryz.prog 114 1 false:=⟨⟨_,Tryz.underlying114,rfl⟩,by kernel_rfl⟩
instance:cO Tryz.prog 114 6:=⟨⟨_,Tryz.underlying114,by kernel_rfl⟩⟩
abbrev c_:=(Bool)×(List UInt8)×(Int)×(List UInt8)×(List UInt8)×(List UInt8)×(bA)
abbrev cH:Rp c_:=Rp.bool.pair (Rp.str.pair (((Rp.int .u8).pair (Rp.str.pair (Rp.str.pair (Rp.str.pair (Rp.frac)))))))
instance:KC cH 10:=⟨rfl⟩
instance:bB cH 0 Rp.bool (fun a=>a.1):=bB.fst
instance:aO cH 0 Rp.bool (fun a b=>(b,a.2)):=aO.fst
instance {a:c_}:az (.ra cH a) 0 1 false (.is (.bool a.1)):=az.cell inferInstance ⟨rfl⟩ inferInstance
instance:bB cH 1 Rp.str (fun a=>a.2.1):=(bB.tail (n:=1) ⟨rfl⟩ bB.fst rfl)
instance:aO cH 1 Rp.str (fun a b=>(a.1,(b,a.2.2))):=(aO.tail (n:=1) ⟨rfl⟩ aO.fst rfl)
instance {a:c_}:az (.ra cH a) 1 1 false (.is (Tx a.2.1)):=az.cell inferInstance ⟨rfl⟩ inferInstance
instance:bB cH 2 (Rp.int .u8) (fun a=>a.2.2.1):=(bB.tail (n:=2) ⟨rfl⟩ (bB.tail (n:=1) ⟨rfl⟩ bB.fst rfl) rfl)
instance:aO cH 2 (Rp.int .u8) (fun a b=>(a.1,(a.2.1,(b,a.2.2.2)))):=(aO.tail (n:=2) ⟨rfl⟩ (aO.tail (n:=1) ⟨rfl⟩ aO.fst rfl) rfl)
instance {a:c_}:az (.ra cH a) 2 1 false (.is (.int .u8 a.2.2.1)):=az.cell inferInstance ⟨rfl⟩ inferInstance
instance:bB cH 3 Rp.str (fun a=>a.2.2.2.1):=(bB.tail (n:=3) ⟨rfl⟩ (bB.tail (n:=2) ⟨rfl⟩ (bB.tail (n:=1) ⟨rfl⟩ bB.fst rfl) rfl) rfl)
instance:aO cH 3 Rp.str (fun a b=>(a.1,(a.2.1,(a.2.2.1,(b,a.2.2.2.2))))):=(aO.tail (n:=3) ⟨rfl⟩ (aO.tail (n:=2) ⟨rfl⟩ (aO.tail (n:=1) ⟨rfl⟩ aO.fst rfl) rfl) rfl)
instance {a:c_}:az (.ra cH a) 3 1 false (.is (Tx a.2.2.2.1)):=az.cell inferInstance ⟨rfl⟩ inferInstance
instance:bB cH 4 Rp.str (fun a=>a.2.2.2.2.1):=(bB.tail (n:=4) ⟨rfl⟩ (bB.tail (n:=3) ⟨rfl⟩ (bB.tail (n:=2) ⟨rfl⟩ (bB.tail (n:=1) ⟨rfl⟩ bB.fst rfl) rfl) rfl) rfl)
instance:aO cH 4 Rp.str (fun a b=>(a.1,(a.2.1,(a.2.2.1,(a.2.2.2.1,(b,a.2.2.2.2.2)))))):=(aO.tail (n:=4) ⟨rfl⟩ (aO.tail (n:=3) ⟨rfl⟩ (aO.tail (n:=2) ⟨rfl⟩ (aO.tail (n:=1) ⟨rfl⟩ aO.fst rfl) rfl) rfl) rfl)
instance {a:c_}:az (.ra cH a) 4 1 false (.is (Tx a.2.2.2.2.1)):=az.cell inferInstance ⟨rfl⟩ inferInstance
instance:bB cH 5 Rp.str (fun a=>a.2.2.2.2.2.1):=(bB.tail (n:=5) ⟨rfl⟩ (bB.tail (n:=4) ⟨rfl⟩ (bB.tail (n:=3) ⟨rfl⟩ (bB.tail (n:=2) ⟨rfl⟩ (bB.tail (n:=1) ⟨rfl⟩ bB.fst rfl) rfl) rfl) rfl) rfl)
instance:aO cH 5 Rp.str (fun a b=>(a.1,(a.2.1,(a.2.2.1,(a.2.2.2.1,(a.2.2.2.2.1,(b,a.2.2.2.2.2.2))))))):=(aO.tail (n:=5) ⟨rfl⟩ (aO.tail (n:=4) ⟨rfl⟩ (aO.tail (n:=3) ⟨rfl⟩ (aO.tail (n:=2) ⟨rfl⟩ (aO.tail (n:=1) ⟨rfl⟩ aO.fst rfl) rfl) rfl) rfl) rfl)
instance {a:c_}:az (.ra cH a) 5 1 false (.is (Tx a.2.2.2.2.2.1)):=az.cell inferInstance ⟨rfl⟩ inferInstance
instance:bB cH 6 Rp.frac (fun a=>a.2.2.2.2.2.2):=(bB.tail (n:=6) ⟨rfl⟩ (bB.tail (n:=5) ⟨rfl⟩ (bB.tail (n:=4) ⟨rfl⟩ (bB.tail (n:=3) ⟨rfl⟩ (bB.tail (n:=2) ⟨rfl⟩ (bB.tail (n:=1) ⟨rfl⟩ bB.self rfl) rfl) rfl) rfl) rfl) rfl)
instance:aO cH 6 Rp.frac (fun a b=>(a.1,(a.2.1,(a.2.2.1,(a.2.2.2.1,(a.2.2.2.2.1,(a.2.2.2.2.2.1,b))))))):=(aO.tail (n:=6) ⟨rfl⟩ (aO.tail (n:=5) ⟨rfl⟩ (aO.tail (n:=4) ⟨rfl⟩ (aO.tail (n:=3) ⟨rfl⟩ (aO.tail (n:=2) ⟨rfl⟩ (aO.tail (n:=1) ⟨rfl⟩ aO.self rfl) rfl) rfl) rfl) rfl) rfl)
instance {a:c_}:az (.ra cH a) 6 4 true (.ra Rp.frac a.2.2.2.2.2.2):=az.agg (g:=fun (a:c_)=>a.2.2.2.2.2.2) inferInstance ⟨rfl⟩
instance:eV Tryz.prog 132 10 true:=⟨⟨_,Tryz.underlying132,rfl⟩,by kernel_rfl⟩
instance:aP Tryz.prog 132 0 0 1 false:=⟨⟨_,_,Tryz.underlying132,rfl,rfl,by kernel_rfl,by decide,_,Tryz.underlying4,rfl⟩⟩
instance:aP Tryz.prog 132 1 1 1 false:=⟨⟨_,_,Tryz.underlying132,rfl,rfl,by kernel_rfl,by decide,_,Tryz.underlying9,rfl⟩⟩
instance:aP Tryz.prog 132 2 2 1 false:=⟨⟨_,_,Tryz.underlying132,rfl,rfl,by kernel_rfl,by decide,_,Tryz.underlying5,rfl⟩⟩
instance:aP Tryz.prog 132 3 3 1 false:=⟨⟨_,_,Tryz.underlying132,rfl,rfl,by kernel_rfl,by decide,_,Tryz.underlying9,rfl⟩⟩
instance:aP Tryz.prog 132 4 4 1 false:=⟨⟨_,_,Tryz.underlying132,rfl,rfl,by kernel_rfl,by decide,_,Tryz.underlying9,rfl⟩⟩
instance:aP Tryz.prog 132 5 5 1 false:=⟨⟨_,_,Tryz.underlying132,rfl,rfl,by kernel_rfl,by decide,_,Tryz.underlying9,rfl⟩⟩
instance:aP Tryz.prog 132 6 6 4 true:=⟨⟨_,_,Tryz.underlying132,rfl,rfl,by kernel_rfl,by decide,_,Tryz.underlying40,rfl⟩⟩
theorem fe:fU Tryz.prog 132 cH (false,[],0,[],[],[],((false,[]),(false,[]))):=⟨by
 obtain ⟨i,h1,h2,h3,h4⟩:∃ i,Tryz.prog.info? 132=some i∧i.zero=some (.agg #[.bool false,Tx [], .int .u8 0,Tx [],Tx [],Tx [], .bool false, .slice none 0 0, .bool false, .slice none 0 0])∧i.size=10∧i.bytes=144:=info_parts qK
 refine ⟨_,i,_,Tryz.underlying132,(fun f hf=> ?_),h1,h2,fun w S=> ?_⟩
 ·simp only [List.mem_cons,List.not_mem_nil,or_false] at hf
  rcases hf with rfl|rfl|rfl|rfl|rfl|rfl|rfl<;>exact Option.isSome_iff_exists.1 qK
 ·exact ⟨[.bool false],[Tx [], .int .u8 0,Tx [],Tx [],Tx [], .bool false, .slice none 0 0, .bool false, .slice none 0 0],rfl,rfl,⟨[Tx []],[.int .u8 0,Tx [],Tx [],Tx [], .bool false, .slice none 0 0, .bool false, .slice none 0 0],rfl,⟨_,rfl,bU []⟩,⟨[.int .u8 0],[Tx [],Tx [],Tx [], .bool false, .slice none 0 0, .bool false, .slice none 0 0],rfl,rfl,⟨[Tx []],[Tx [],Tx [], .bool false, .slice none 0 0, .bool false, .slice none 0 0],rfl,⟨_,rfl,bU []⟩,⟨[Tx []],[Tx [], .bool false, .slice none 0 0, .bool false, .slice none 0 0],rfl,⟨_,rfl,bU []⟩,⟨[Tx []],[.bool false, .slice none 0 0, .bool false, .slice none 0 0],rfl,⟨_,rfl,bU []⟩,⟨[.bool false, .slice none 0 0],[.bool false, .slice none 0 0],rfl,⟨[.bool false],[.slice none 0 0],rfl,rfl,⟨none,0,0,rfl,⟨⟨rfl,Nat.le_refl _,Nat.zero_le _,fun _=>rfl,fun h=>absurd h qO⟩,fun h=>absurd h qO⟩,fun _ h=>by cases h⟩⟩,⟨[.bool false],[.slice none 0 0],rfl,rfl,⟨none,0,0,rfl,⟨⟨rfl,Nat.le_refl _,Nat.zero_le _,fun _=>rfl,fun h=>absurd h qO⟩,fun h=>absurd h qO⟩,fun _ h=>by cases h⟩⟩⟩⟩⟩⟩⟩⟩⟩⟩
instance:eV Tryz.prog 76 1 false:=⟨⟨_,Tryz.underlying76,rfl⟩,by kernel_rfl⟩
instance:cO Tryz.prog 76 10:=⟨⟨_,Tryz.underlying76,by kernel_rfl⟩⟩
theorem ot:DK Tryz.prog 76 132 10:=⟨Tryz.underlying76,by
 obtain ⟨i,h1,h2,h3,h4⟩:∃ i,Tryz.prog.info? 132=some i∧i.zero=some (.agg #[.bool false,Tx [], .int .u8 0,Tx [],Tx [],Tx [], .bool false, .slice none 0 0, .bool false, .slice none 0 0])∧i.size=10∧i.bytes=144:=info_parts qK
 exact ⟨i,_,h1,h2,h3,rfl⟩⟩
theorem nf:iC Tryz.prog 76 132 10 144:=⟨Tryz.underlying76,by decide,by
 obtain ⟨i,h1,h2,h3,h4⟩:∃ i,Tryz.prog.info? 132=some i∧i.zero=some (.agg #[.bool false,Tx [], .int .u8 0,Tx [],Tx [],Tx [], .bool false, .slice none 0 0, .bool false, .slice none 0 0])∧i.size=10∧i.bytes=144:=info_parts qK
 exact ⟨i,_,h1,h2,h3,h4,rfl⟩⟩
instance:eV Tryz.prog 182 10 true:=⟨⟨_,Tryz.underlying182,rfl⟩,by kernel_rfl⟩
instance:aP Tryz.prog 182 0 0 1 false:=⟨⟨_,_,Tryz.underlying182,rfl,rfl,by kernel_rfl,by decide,_,Tryz.underlying4,rfl⟩⟩
instance:aP Tryz.prog 182 1 1 1 false:=⟨⟨_,_,Tryz.underlying182,rfl,rfl,by kernel_rfl,by decide,_,Tryz.underlying9,rfl⟩⟩
instance:aP Tryz.prog 182 2 2 1 false:=⟨⟨_,_,Tryz.underlying182,rfl,rfl,by kernel_rfl,by decide,_,Tryz.underlying5,rfl⟩⟩
instance:aP Tryz.prog 182 3 3 1 false:=⟨⟨_,_,Tryz.underlying182,rfl,rfl,by kernel_rfl,by decide,_,Tryz.underlying9,rfl⟩⟩
instance:aP Tryz.prog 182 4 4 1 false:=⟨⟨_,_,Tryz.underlying182,rfl,rfl,by kernel_rfl,by decide,_,Tryz.underlying9,rfl⟩⟩
instance:aP Tryz.prog 182 5 5 1 false:=⟨⟨_,_,Tryz.underlying182,rfl,rfl,by kernel_rfl,by decide,_,Tryz.underlying9,rfl⟩⟩
instance:aP Tryz.prog 182 6 6 4 true:=⟨⟨_,_,Tryz.underlying182,rfl,rfl,by kernel_rfl,by decide,_,Tryz.underlying28,rfl⟩⟩
instance:eV Tryz.prog 115 1 false:=⟨⟨_,Tryz.underlying115,rfl⟩,by kernel_rfl⟩
instance:cO Tryz.prog 115 10:=⟨⟨_,Tryz.underlying115,by kernel_rfl⟩⟩
abbrev dG:=(List UInt8)×(bA)×(bA)
abbrev dz:Rp dG:=Rp.str.pair (Rp.frac.pair (Rp.frac))
instance:KC dz 9:=⟨rfl⟩
instance:bB dz 0 Rp.str (fun a=>a.1):=bB.fst
instance:aO dz 0 Rp.str (fun a b=>(b,a.2)):=aO.fst
instance {a:dG}:az (.ra dz a) 0 1 false (.is (Tx a.1)):=az.cell inferInstance ⟨rfl⟩ inferInstance
instance:bB dz 1 Rp.frac (fun a=>a.2.1):=(bB.tail (n:=1) ⟨rfl⟩ bB.fst rfl)
instance:aO dz 1 Rp.frac (fun a b=>(a.1,(b,a.2.2))):=(aO.tail (n:=1) ⟨rfl⟩ aO.fst rfl)
instance {a:dG}:az (.ra dz a) 1 4 true (.ra Rp.frac a.2.1):=az.agg (g:=fun (a:dG)=>a.2.1) inferInstance ⟨rfl⟩
instance:bB dz 5 Rp.frac (fun a=>a.2.2):=(bB.tail (n:=5) ⟨rfl⟩ (bB.tail (n:=4) ⟨rfl⟩ bB.self rfl) rfl)
instance:aO dz 5 Rp.frac (fun a b=>(a.1,(a.2.1,b))):=(aO.tail (n:=5) ⟨rfl⟩ (aO.tail (n:=4) ⟨rfl⟩ aO.self rfl) rfl)
instance {a:dG}:az (.ra dz a) 5 4 true (.ra Rp.frac a.2.2):=az.agg (g:=fun (a:dG)=>a.2.2) inferInstance ⟨rfl⟩
instance:eV Tryz.prog 134 9 true:=⟨⟨_,Tryz.underlying134,rfl⟩,by kernel_rfl⟩
instance:aP Tryz.prog 134 0 0 1 false:=⟨⟨_,_,Tryz.underlying134,rfl,rfl,by kernel_rfl,by decide,_,Tryz.underlying9,rfl⟩⟩
instance:aP Tryz.prog 134 1 1 4 true:=⟨⟨_,_,Tryz.underlying134,rfl,rfl,by kernel_rfl,by decide,_,Tryz.underlying40,rfl⟩⟩
instance:aP Tryz.prog 134 2 5 4 true:=⟨⟨_,_,Tryz.underlying134,rfl,rfl,by kernel_rfl,by decide,_,Tryz.underlying40,rfl⟩⟩
theorem rm:fU Tryz.prog 134 dz ([],((false,[]),(false,[])),((false,[]),(false,[]))):=⟨by
 obtain ⟨i,h1,h2,h3,h4⟩:∃ i,Tryz.prog.info? 134=some i∧i.zero=some (.agg #[Tx [], .bool false, .slice none 0 0, .bool false, .slice none 0 0, .bool false, .slice none 0 0, .bool false, .slice none 0 0])∧i.size=9∧i.bytes=144:=info_parts qK
 refine ⟨_,i,_,Tryz.underlying134,(fun f hf=> ?_),h1,h2,fun w S=> ?_⟩
 ·simp only [List.mem_cons,List.not_mem_nil,or_false] at hf
  rcases hf with rfl|rfl|rfl<;>exact Option.isSome_iff_exists.1 qK
 ·exact ⟨[Tx []],[.bool false, .slice none 0 0, .bool false, .slice none 0 0, .bool false, .slice none 0 0, .bool false, .slice none 0 0],rfl,⟨_,rfl,bU []⟩,⟨[.bool false, .slice none 0 0, .bool false, .slice none 0 0],[.bool false, .slice none 0 0, .bool false, .slice none 0 0],rfl,⟨[.bool false, .slice none 0 0],[.bool false, .slice none 0 0],rfl,⟨[.bool false],[.slice none 0 0],rfl,rfl,⟨none,0,0,rfl,⟨⟨rfl,Nat.le_refl _,Nat.zero_le _,fun _=>rfl,fun h=>absurd h qO⟩,fun h=>absurd h qO⟩,fun _ h=>by cases h⟩⟩,⟨[.bool false],[.slice none 0 0],rfl,rfl,⟨none,0,0,rfl,⟨⟨rfl,Nat.le_refl _,Nat.zero_le _,fun _=>rfl,fun h=>absurd h qO⟩,fun h=>absurd h qO⟩,fun _ h=>by cases h⟩⟩⟩,⟨[.bool false, .slice none 0 0],[.bool false, .slice none 0 0],rfl,⟨[.bool false],[.slice none 0 0],rfl,rfl,⟨none,0,0,rfl,⟨⟨rfl,Nat.le_refl _,Nat.zero_le _,fun _=>rfl,fun h=>absurd h qO⟩,fun h=>absurd h qO⟩,fun _ h=>by cases h⟩⟩,⟨[.bool false],[.slice none 0 0],rfl,rfl,⟨none,0,0,rfl,⟨⟨rfl,Nat.le_refl _,Nat.zero_le _,fun _=>rfl,fun h=>absurd h qO⟩,fun h=>absurd h qO⟩,fun _ h=>by cases h⟩⟩⟩⟩⟩⟩
instance:eV Tryz.prog 77 1 false:=⟨⟨_,Tryz.underlying77,rfl⟩,by kernel_rfl⟩
instance:cO Tryz.prog 77 9:=⟨⟨_,Tryz.underlying77,by kernel_rfl⟩⟩
theorem tp:DK Tryz.prog 77 134 9:=⟨Tryz.underlying77,by
 obtain ⟨i,h1,h2,h3,h4⟩:∃ i,Tryz.prog.info? 134=some i∧i.zero=some (.agg #[Tx [], .bool false, .slice none 0 0, .bool false, .slice none 0 0, .bool false, .slice none 0 0, .bool false, .slice none 0 0])∧i.size=9∧i.bytes=144:=info_parts qK
 exact ⟨i,_,h1,h2,h3,rfl⟩⟩
theorem ri:iC Tryz.prog 77 134 9 144:=⟨Tryz.underlying77,by decide,by
 obtain ⟨i,h1,h2,h3,h4⟩:∃ i,Tryz.prog.info? 134=some i∧i.zero=some (.agg #[Tx [], .bool false, .slice none 0 0, .bool false, .slice none 0 0, .bool false, .slice none 0 0, .bool false, .slice none 0 0])∧i.size=9∧i.bytes=144:=info_parts qK
 exact ⟨i,_,h1,h2,h3,h4,rfl⟩⟩
instance:eV Tryz.prog 184 9 true:=⟨⟨_,Tryz.underlying184,rfl⟩,by kernel_rfl⟩
instance:aP Tryz.prog 184 0 0 1 false:=⟨⟨_,_,Tryz.underlying184,rfl,rfl,by kernel_rfl,by decide,_,Tryz.underlying9,rfl⟩⟩
instance:aP Tryz.prog 184 1 1 4 true:=⟨⟨_,_,Tryz.underlying184,rfl,rfl,by kernel_rfl,by decide,_,Tryz.underlying28,rfl⟩⟩
instance:aP Tryz.prog 184 2 5 4 true:=⟨⟨_,_,Tryz.underlying184,rfl,rfl,by kernel_rfl,by decide,_,Tryz.underlying28,rfl⟩⟩
instance:eV Tryz.prog 116 1 false:=⟨⟨_,Tryz.underlying116,rfl⟩,by kernel_rfl⟩
instance:cO Tryz.prog 116 9:=⟨⟨_,Tryz.underlying116,by kernel_rfl⟩⟩
abbrev fq:=(List UInt8)×(bA)
abbrev e9:Rp fq:=Rp.str.pair (Rp.frac)
instance:KC e9 5:=⟨rfl⟩
instance:bB e9 0 Rp.str (fun a=>a.1):=bB.fst
instance:aO e9 0 Rp.str (fun a b=>(b,a.2)):=aO.fst
instance {a:fq}:az (.ra e9 a) 0 1 false (.is (Tx a.1)):=az.cell inferInstance ⟨rfl⟩ inferInstance
instance:bB e9 1 Rp.frac (fun a=>a.2):=(bB.tail (n:=1) ⟨rfl⟩ bB.self rfl)
instance:aO e9 1 Rp.frac (fun a b=>(a.1,b)):=(aO.tail (n:=1) ⟨rfl⟩ aO.self rfl)
instance {a:fq}:az (.ra e9 a) 1 4 true (.ra Rp.frac a.2):=az.agg (g:=fun (a:fq)=>a.2) inferInstance ⟨rfl⟩
instance:eV Tryz.prog 136 5 true:=⟨⟨_,Tryz.underlying136,rfl⟩,by kernel_rfl⟩
instance:aP Tryz.prog 136 0 0 1 false:=⟨⟨_,_,Tryz.underlying136,rfl,rfl,by kernel_rfl,by decide,_,Tryz.underlying9,rfl⟩⟩
instance:aP Tryz.prog 136 1 1 4 true:=⟨⟨_,_,Tryz.underlying136,rfl,rfl,by kernel_rfl,by decide,_,Tryz.underlying40,rfl⟩⟩
theorem s4:fU Tryz.prog 136 e9 ([],((false,[]),(false,[]))):=⟨by
 obtain ⟨i,h1,h2,h3,h4⟩:∃ i,Tryz.prog.info? 136=some i∧i.zero=some (.agg #[Tx [], .bool false, .slice none 0 0, .bool false, .slice none 0 0])∧i.size=5∧i.bytes=80:=info_parts qK
 refine ⟨_,i,_,Tryz.underlying136,(fun f hf=> ?_),h1,h2,fun w S=> ?_⟩
 ·simp only [List.mem_cons,List.not_mem_nil,or_false] at hf
  rcases hf with rfl|rfl<;>exact Option.isSome_iff_exists.1 qK
 ·exact ⟨[Tx []],[.bool false, .slice none 0 0, .bool false, .slice none 0 0],rfl,⟨_,rfl,bU []⟩,⟨[.bool false, .slice none 0 0],[.bool false, .slice none 0 0],rfl,⟨[.bool false],[.slice none 0 0],rfl,rfl,⟨none,0,0,rfl,⟨⟨rfl,Nat.le_refl _,Nat.zero_le _,fun _=>rfl,fun h=>absurd h qO⟩,fun h=>absurd h qO⟩,fun _ h=>by cases h⟩⟩,⟨[.bool false],[.slice none 0 0],rfl,rfl,⟨none,0,0,rfl,⟨⟨rfl,Nat.le_refl _,Nat.zero_le _,fun _=>rfl,fun h=>absurd h qO⟩,fun h=>absurd h qO⟩,fun _ h=>by cases h⟩⟩⟩⟩⟩
instance:eV Tryz.prog 78 1 false:=⟨⟨_,Tryz.underlying78,rfl⟩,by kernel_rfl⟩
instance:cO Tryz.prog 78 5:=⟨⟨_,Tryz.underlying78,by kernel_rfl⟩⟩
theorem vm:DK Tryz.prog 78 136 5:=⟨Tryz.underlying78,by
 obtain ⟨i,h1,h2,h3,h4⟩:∃ i,Tryz.prog.info? 136=some i∧i.zero=some (.agg #[Tx [], .bool false, .slice none 0 0, .bool false, .slice none 0 0])∧i.size=5∧i.bytes=80:=info_parts qK
 exact ⟨i,_,h1,h2,h3,rfl⟩⟩
theorem tn:iC Tryz.prog 78 136 5 80:=⟨Tryz.underlying78,by decide,by
 obtain ⟨i,h1,h2,h3,h4⟩:∃ i,Tryz.prog.info? 136=some i∧i.zero=some (.agg #[Tx [], .bool false, .slice none 0 0, .bool false, .slice none 0 0])∧i.size=5∧i.bytes=80:=info_parts qK
 exact ⟨i,_,h1,h2,h3,h4,rfl⟩⟩
instance:eV Tryz.prog 186 5 true:=⟨⟨_,Tryz.underlying186,rfl⟩,by kernel_rfl⟩
instance:aP Tryz.prog 186 0 0 1 false:=⟨⟨_,_,Tryz.underlying186,rfl,rfl,by kernel_rfl,by decide,_,Tryz.underlying9,rfl⟩⟩
instance:aP Tryz.prog 186 1 1 4 true:=⟨⟨_,_,Tryz.underlying186,rfl,rfl,by kernel_rfl,by decide,_,Tryz.underlying28,rfl⟩⟩
instance:eV Tryz.prog 117 1 false:=⟨⟨_,Tryz.underlying117,rfl⟩,by kernel_rfl⟩
instance:cO Tryz.prog 117 5:=⟨⟨_,Tryz.underlying117,by kernel_rfl⟩⟩
abbrev cI:=(Int)×(List eL)×(List eT)×(List c_)×(List dG)×(List fq)
abbrev cU:Rp cI:=((Rp.int .i64).pair (eH.row.pair (eF.row.pair (cH.row.pair (dz.row.pair (e9.row))))))
instance:KC cU 6:=⟨rfl⟩
instance:bB cU 0 (Rp.int .i64) (fun a=>a.1):=bB.fst
instance:aO cU 0 (Rp.int .i64) (fun a b=>(b,a.2)):=aO.fst
instance {a:cI}:az (.ra cU a) 0 1 false (.is (.int .i64 a.1)):=az.cell inferInstance ⟨rfl⟩ inferInstance
instance:bB cU 1 eH.row (fun a=>a.2.1):=(bB.tail (n:=1) ⟨rfl⟩ bB.fst rfl)
instance:aO cU 1 eH.row (fun a b=>(a.1,(b,a.2.2))):=(aO.tail (n:=1) ⟨rfl⟩ aO.fst rfl)
instance {a:cI}:az (.ra cU a) 1 1 false (.rw eH tt a.2.1):=az.cell inferInstance ⟨rfl⟩ inferInstance
instance:bB cU 2 eF.row (fun a=>a.2.2.1):=(bB.tail (n:=2) ⟨rfl⟩ (bB.tail (n:=1) ⟨rfl⟩ bB.fst rfl) rfl)
instance:aO cU 2 eF.row (fun a b=>(a.1,(a.2.1,(b,a.2.2.2)))):=(aO.tail (n:=2) ⟨rfl⟩ (aO.tail (n:=1) ⟨rfl⟩ aO.fst rfl) rfl)
instance {a:cI}:az (.ra cU a) 2 1 false (.rw eF tt a.2.2.1):=az.cell inferInstance ⟨rfl⟩ inferInstance
instance:bB cU 3 cH.row (fun a=>a.2.2.2.1):=(bB.tail (n:=3) ⟨rfl⟩ (bB.tail (n:=2) ⟨rfl⟩ (bB.tail (n:=1) ⟨rfl⟩ bB.fst rfl) rfl) rfl)
instance:aO cU 3 cH.row (fun a b=>(a.1,(a.2.1,(a.2.2.1,(b,a.2.2.2.2))))):=(aO.tail (n:=3) ⟨rfl⟩ (aO.tail (n:=2) ⟨rfl⟩ (aO.tail (n:=1) ⟨rfl⟩ aO.fst rfl) rfl) rfl)
instance {a:cI}:az (.ra cU a) 3 1 false (.rw cH tt a.2.2.2.1):=az.cell inferInstance ⟨rfl⟩ inferInstance
instance:bB cU 4 dz.row (fun a=>a.2.2.2.2.1):=(bB.tail (n:=4) ⟨rfl⟩ (bB.tail (n:=3) ⟨rfl⟩ (bB.tail (n:=2) ⟨rfl⟩ (bB.tail (n:=1) ⟨rfl⟩ bB.fst rfl) rfl) rfl) rfl)
instance:aO cU 4 dz.row (fun a b=>(a.1,(a.2.1,(a.2.2.1,(a.2.2.2.1,(b,a.2.2.2.2.2)))))):=(aO.tail (n:=4) ⟨rfl⟩ (aO.tail (n:=3) ⟨rfl⟩ (aO.tail (n:=2) ⟨rfl⟩ (aO.tail (n:=1) ⟨rfl⟩ aO.fst rfl) rfl) rfl) rfl)
instance {a:cI}:az (.ra cU a) 4 1 false (.rw dz tt a.2.2.2.2.1):=az.cell inferInstance ⟨rfl⟩ inferInstance
instance:bB cU 5 e9.row (fun a=>a.2.2.2.2.2):=(bB.tail (n:=5) ⟨rfl⟩ (bB.tail (n:=4) ⟨rfl⟩ (bB.tail (n:=3) ⟨rfl⟩ (bB.tail (n:=2) ⟨rfl⟩ (bB.tail (n:=1) ⟨rfl⟩ bB.self rfl) rfl) rfl) rfl) rfl)
instance:aO cU 5 e9.row (fun a b=>(a.1,(a.2.1,(a.2.2.1,(a.2.2.2.1,(a.2.2.2.2.1,b)))))):=(aO.tail (n:=5) ⟨rfl⟩ (aO.tail (n:=4) ⟨rfl⟩ (aO.tail (n:=3) ⟨rfl⟩ (aO.tail (n:=2) ⟨rfl⟩ (aO.tail (n:=1) ⟨rfl⟩ aO.self rfl) rfl) rfl) rfl) rfl)
instance {a:cI}:az (.ra cU a) 5 1 false (.rw e9 tt a.2.2.2.2.2):=az.cell inferInstance ⟨rfl⟩ inferInstance
instance:eV Tryz.prog 80 6 true:=⟨⟨_,Tryz.underlying80,rfl⟩,by kernel_rfl⟩
instance:aP Tryz.prog 80 0 0 1 false:=⟨⟨_,_,Tryz.underlying80,rfl,rfl,by kernel_rfl,by decide,_,Tryz.underlying3,rfl⟩⟩
instance:aP Tryz.prog 80 1 1 1 false:=⟨⟨_,_,Tryz.underlying80,rfl,rfl,by kernel_rfl,by decide,_,Tryz.underlying74,rfl⟩⟩
instance:aP Tryz.prog 80 2 2 1 false:=⟨⟨_,_,Tryz.underlying80,rfl,rfl,by kernel_rfl,by decide,_,Tryz.underlying75,rfl⟩⟩
instance:aP Tryz.prog 80 3 3 1 false:=⟨⟨_,_,Tryz.underlying80,rfl,rfl,by kernel_rfl,by decide,_,Tryz.underlying76,rfl⟩⟩
instance:aP Tryz.prog 80 4 4 1 false:=⟨⟨_,_,Tryz.underlying80,rfl,rfl,by kernel_rfl,by decide,_,Tryz.underlying77,rfl⟩⟩
instance:aP Tryz.prog 80 5 5 1 false:=⟨⟨_,_,Tryz.underlying80,rfl,rfl,by kernel_rfl,by decide,_,Tryz.underlying78,rfl⟩⟩
theorem mI:fU Tryz.prog 80 cU (0,[],[],[],[],[]):=⟨by
 obtain ⟨i,h1,h2,h3,h4⟩:∃ i,Tryz.prog.info? 80=some i∧i.zero=some (.agg #[.int .i64 0, .slice none 0 0, .slice none 0 0, .slice none 0 0, .slice none 0 0, .slice none 0 0])∧i.size=6∧i.bytes=128:=info_parts qK
 refine ⟨_,i,_,Tryz.underlying80,(fun f hf=> ?_),h1,h2,fun w S=> ?_⟩
 ·simp only [List.mem_cons,List.not_mem_nil,or_false] at hf
  rcases hf with rfl|rfl|rfl|rfl|rfl|rfl<;>exact Option.isSome_iff_exists.1 qK
 ·exact ⟨[.int .i64 0],[.slice none 0 0, .slice none 0 0, .slice none 0 0, .slice none 0 0, .slice none 0 0],rfl,rfl,⟨[.slice none 0 0],[.slice none 0 0, .slice none 0 0, .slice none 0 0, .slice none 0 0],rfl,⟨none,0,0,rfl,rfl,Nat.le_refl _,Nat.zero_le _,fun _=>rfl,fun h=>absurd h qO⟩,⟨[.slice none 0 0],[.slice none 0 0, .slice none 0 0, .slice none 0 0],rfl,⟨none,0,0,rfl,rfl,Nat.le_refl _,Nat.zero_le _,fun _=>rfl,fun h=>absurd h qO⟩,⟨[.slice none 0 0],[.slice none 0 0, .slice none 0 0],rfl,⟨none,0,0,rfl,rfl,Nat.le_refl _,Nat.zero_le _,fun _=>rfl,fun h=>absurd h qO⟩,⟨[.slice none 0 0],[.slice none 0 0],rfl,⟨none,0,0,rfl,rfl,Nat.le_refl _,Nat.zero_le _,fun _=>rfl,fun h=>absurd h qO⟩,⟨none,0,0,rfl,rfl,Nat.le_refl _,Nat.zero_le _,fun _=>rfl,fun h=>absurd h qO⟩⟩⟩⟩⟩⟩⟩
instance:eV Tryz.prog 42 1 false:=⟨⟨_,Tryz.underlying42,rfl⟩,by kernel_rfl⟩
instance:cO Tryz.prog 42 6:=⟨⟨_,Tryz.underlying42,by kernel_rfl⟩⟩
theorem vk:DK Tryz.prog 42 80 6:=⟨Tryz.underlying42,by
 obtain ⟨i,h1,h2,h3,h4⟩:∃ i,Tryz.prog.info? 80=some i∧i.zero=some (.agg #[.int .i64 0, .slice none 0 0, .slice none 0 0, .slice none 0 0, .slice none 0 0, .slice none 0 0])∧i.size=6∧i.bytes=128:=info_parts qK
 exact ⟨i,_,h1,h2,h3,rfl⟩⟩
theorem td:iC Tryz.prog 42 80 6 128:=⟨Tryz.underlying42,by decide,by
 obtain ⟨i,h1,h2,h3,h4⟩:∃ i,Tryz.prog.info? 80=some i∧i.zero=some (.agg #[.int .i64 0, .slice none 0 0, .slice none 0 0, .slice none 0 0, .slice none 0 0, .slice none 0 0])∧i.size=6∧i.bytes=128:=info_parts qK
 exact ⟨i,_,h1,h2,h3,h4,rfl⟩⟩
instance:eV Tryz.prog 119 6 true:=⟨⟨_,Tryz.underlying119,rfl⟩,by kernel_rfl⟩
instance:aP Tryz.prog 119 0 0 1 false:=⟨⟨_,_,Tryz.underlying119,rfl,rfl,by kernel_rfl,by decide,_,Tryz.underlying3,rfl⟩⟩
instance:aP Tryz.prog 119 1 1 1 false:=⟨⟨_,_,Tryz.underlying119,rfl,rfl,by kernel_rfl,by decide,_,Tryz.underlying113,rfl⟩⟩
instance:aP Tryz.prog 119 2 2 1 false:=⟨⟨_,_,Tryz.underlying119,rfl,rfl,by kernel_rfl,by decide,_,Tryz.underlying114,rfl⟩⟩
instance:aP Tryz.prog 119 3 3 1 false:=⟨⟨_,_,Tryz.underlying119,rfl,rfl,by kernel_rfl,by decide,_,Tryz.underlying115,rfl⟩⟩
instance:aP Tryz.prog 119 4 4 1 false:=⟨⟨_,_,Tryz.underlying119,rfl,rfl,by kernel_rfl,by decide,_,Tryz.underlying116,rfl⟩⟩
instance:aP Tryz.prog 119 5 5 1 false:=⟨⟨_,_,Tryz.underlying119,rfl,rfl,by kernel_rfl,by decide,_,Tryz.underlying117,rfl⟩⟩
instance:eV Tryz.prog 31 1 false:=⟨⟨_,Tryz.underlying31,rfl⟩,by kernel_rfl⟩
instance:cO Tryz.prog 31 6:=⟨⟨_,Tryz.underlying31,by kernel_rfl⟩⟩
abbrev ar:=(List UInt8)×(List UInt8)×(List cK)×(bA)×(bA)×(Int)×(Int)×(bA)×(bA)×(Int)×(List h_)×(List (List UInt8))×(List cI)
abbrev a7:Rp ar:=Rp.str.pair (Rp.str.pair (cq.row.pair (Rp.frac.pair (Rp.frac.pair (((Rp.int .i64).pair (((Rp.int .i64).pair (Rp.frac.pair (Rp.frac.pair (((Rp.int .i64).pair (d7.row.pair (Rp.str.row.pair (cU.row)))))))))))))))
instance:KC a7 25:=⟨rfl⟩
instance:bB a7 0 Rp.str (fun a=>a.1):=bB.fst
instance:aO a7 0 Rp.str (fun a b=>(b,a.2)):=aO.fst
instance {a:ar}:az (.ra a7 a) 0 1 false (.is (Tx a.1)):=az.cell inferInstance ⟨rfl⟩ inferInstance
instance:bB a7 1 Rp.str (fun a=>a.2.1):=(bB.tail (n:=1) ⟨rfl⟩ bB.fst rfl)
instance:aO a7 1 Rp.str (fun a b=>(a.1,(b,a.2.2))):=(aO.tail (n:=1) ⟨rfl⟩ aO.fst rfl)
instance {a:ar}:az (.ra a7 a) 1 1 false (.is (Tx a.2.1)):=az.cell inferInstance ⟨rfl⟩ inferInstance
instance:bB a7 2 cq.row (fun a=>a.2.2.1):=(bB.tail (n:=2) ⟨rfl⟩ (bB.tail (n:=1) ⟨rfl⟩ bB.fst rfl) rfl)
instance:aO a7 2 cq.row (fun a b=>(a.1,(a.2.1,(b,a.2.2.2)))):=(aO.tail (n:=2) ⟨rfl⟩ (aO.tail (n:=1) ⟨rfl⟩ aO.fst rfl) rfl)
instance {a:ar}:az (.ra a7 a) 2 1 false (.rw cq tt a.2.2.1):=az.cell inferInstance ⟨rfl⟩ inferInstance
instance:bB a7 3 Rp.frac (fun a=>a.2.2.2.1):=(bB.tail (n:=3) ⟨rfl⟩ (bB.tail (n:=2) ⟨rfl⟩ (bB.tail (n:=1) ⟨rfl⟩ bB.fst rfl) rfl) rfl)
instance:aO a7 3 Rp.frac (fun a b=>(a.1,(a.2.1,(a.2.2.1,(b,a.2.2.2.2))))):=(aO.tail (n:=3) ⟨rfl⟩ (aO.tail (n:=2) ⟨rfl⟩ (aO.tail (n:=1) ⟨rfl⟩ aO.fst rfl) rfl) rfl)
instance {a:ar}:az (.ra a7 a) 3 4 true (.ra Rp.frac a.2.2.2.1):=az.agg (g:=fun (a:ar)=>a.2.2.2.1) inferInstance ⟨rfl⟩
instance:bB a7 7 Rp.frac (fun a=>a.2.2.2.2.1):=(bB.tail (n:=7) ⟨rfl⟩ (bB.tail (n:=6) ⟨rfl⟩ (bB.tail (n:=5) ⟨rfl⟩ (bB.tail (n:=4) ⟨rfl⟩ bB.fst rfl) rfl) rfl) rfl)
instance:aO a7 7 Rp.frac (fun a b=>(a.1,(a.2.1,(a.2.2.1,(a.2.2.2.1,(b,a.2.2.2.2.2)))))):=(aO.tail (n:=7) ⟨rfl⟩ (aO.tail (n:=6) ⟨rfl⟩ (aO.tail (n:=5) ⟨rfl⟩ (aO.tail (n:=4) ⟨rfl⟩ aO.fst rfl) rfl) rfl) rfl)
instance {a:ar}:az (.ra a7 a) 7 4 true (.ra Rp.frac a.2.2.2.2.1):=az.agg (g:=fun (a:ar)=>a.2.2.2.2.1) inferInstance ⟨rfl⟩
instance:bB a7 11 (Rp.int .i64) (fun a=>a.2.2.2.2.2.1):=(bB.tail (n:=11) ⟨rfl⟩ (bB.tail (n:=10) ⟨rfl⟩ (bB.tail (n:=9) ⟨rfl⟩ (bB.tail (n:=8) ⟨rfl⟩ (bB.tail (n:=4) ⟨rfl⟩ bB.fst rfl) rfl) rfl) rfl) rfl)
instance:aO a7 11 (Rp.int .i64) (fun a b=>(a.1,(a.2.1,(a.2.2.1,(a.2.2.2.1,(a.2.2.2.2.1,(b,a.2.2.2.2.2.2))))))):=(aO.tail (n:=11) ⟨rfl⟩ (aO.tail (n:=10) ⟨rfl⟩ (aO.tail (n:=9) ⟨rfl⟩ (aO.tail (n:=8) ⟨rfl⟩ (aO.tail (n:=4) ⟨rfl⟩ aO.fst rfl) rfl) rfl) rfl) rfl)
instance {a:ar}:az (.ra a7 a) 11 1 false (.is (.int .i64 a.2.2.2.2.2.1)):=az.cell inferInstance ⟨rfl⟩ inferInstance
instance:bB a7 12 (Rp.int .i64) (fun a=>a.2.2.2.2.2.2.1):=(bB.tail (n:=12) ⟨rfl⟩ (bB.tail (n:=11) ⟨rfl⟩ (bB.tail (n:=10) ⟨rfl⟩ (bB.tail (n:=9) ⟨rfl⟩ (bB.tail (n:=5) ⟨rfl⟩ (bB.tail (n:=1) ⟨rfl⟩ bB.fst rfl) rfl) rfl) rfl) rfl) rfl)
instance:aO a7 12 (Rp.int .i64) (fun a b=>(a.1,(a.2.1,(a.2.2.1,(a.2.2.2.1,(a.2.2.2.2.1,(a.2.2.2.2.2.1,(b,a.2.2.2.2.2.2.2)))))))):=(aO.tail (n:=12) ⟨rfl⟩ (aO.tail (n:=11) ⟨rfl⟩ (aO.tail (n:=10) ⟨rfl⟩ (aO.tail (n:=9) ⟨rfl⟩ (aO.tail (n:=5) ⟨rfl⟩ (aO.tail (n:=1) ⟨rfl⟩ aO.fst rfl) rfl) rfl) rfl) rfl) rfl)
instance {a:ar}:az (.ra a7 a) 12 1 false (.is (.int .i64 a.2.2.2.2.2.2.1)):=az.cell inferInstance ⟨rfl⟩ inferInstance
instance:bB a7 13 Rp.frac (fun a=>a.2.2.2.2.2.2.2.1):=(bB.tail (n:=13) ⟨rfl⟩ (bB.tail (n:=12) ⟨rfl⟩ (bB.tail (n:=11) ⟨rfl⟩ (bB.tail (n:=10) ⟨rfl⟩ (bB.tail (n:=6) ⟨rfl⟩ (bB.tail (n:=2) ⟨rfl⟩ (bB.tail (n:=1) ⟨rfl⟩ bB.fst rfl) rfl) rfl) rfl) rfl) rfl) rfl)
instance:aO a7 13 Rp.frac (fun a b=>(a.1,(a.2.1,(a.2.2.1,(a.2.2.2.1,(a.2.2.2.2.1,(a.2.2.2.2.2.1,(a.2.2.2.2.2.2.1,(b,a.2.2.2.2.2.2.2.2))))))))):=(aO.tail (n:=13) ⟨rfl⟩ (aO.tail (n:=12) ⟨rfl⟩ (aO.tail (n:=11) ⟨rfl⟩ (aO.tail (n:=10) ⟨rfl⟩ (aO.tail (n:=6) ⟨rfl⟩ (aO.tail (n:=2) ⟨rfl⟩ (aO.tail (n:=1) ⟨rfl⟩ aO.fst rfl) rfl) rfl) rfl) rfl) rfl) rfl)
instance {a:ar}:az (.ra a7 a) 13 4 true (.ra Rp.frac a.2.2.2.2.2.2.2.1):=az.agg (g:=fun (a:ar)=>a.2.2.2.2.2.2.2.1) inferInstance ⟨rfl⟩
instance:bB a7 17 Rp.frac (fun a=>a.2.2.2.2.2.2.2.2.1):=(bB.tail (n:=17) ⟨rfl⟩ (bB.tail (n:=16) ⟨rfl⟩ (bB.tail (n:=15) ⟨rfl⟩ (bB.tail (n:=14) ⟨rfl⟩ (bB.tail (n:=10) ⟨rfl⟩ (bB.tail (n:=6) ⟨rfl⟩ (bB.tail (n:=5) ⟨rfl⟩ (bB.tail (n:=4) ⟨rfl⟩ bB.fst rfl) rfl) rfl) rfl) rfl) rfl) rfl) rfl)
instance:aO a7 17 Rp.frac (fun a b=>(a.1,(a.2.1,(a.2.2.1,(a.2.2.2.1,(a.2.2.2.2.1,(a.2.2.2.2.2.1,(a.2.2.2.2.2.2.1,(a.2.2.2.2.2.2.2.1,(b,a.2.2.2.2.2.2.2.2.2)))))))))):=(aO.tail (n:=17) ⟨rfl⟩ (aO.tail (n:=16) ⟨rfl⟩ (aO.tail (n:=15) ⟨rfl⟩ (aO.tail (n:=14) ⟨rfl⟩ (aO.tail (n:=10) ⟨rfl⟩ (aO.tail (n:=6) ⟨rfl⟩ (aO.tail (n:=5) ⟨rfl⟩ (aO.tail (n:=4) ⟨rfl⟩ aO.fst rfl) rfl) rfl) rfl) rfl) rfl) rfl) rfl)
instance {a:ar}:az (.ra a7 a) 17 4 true (.ra Rp.frac a.2.2.2.2.2.2.2.2.1):=az.agg (g:=fun (a:ar)=>a.2.2.2.2.2.2.2.2.1) inferInstance ⟨rfl⟩
instance:bB a7 21 (Rp.int .i64) (fun a=>a.2.2.2.2.2.2.2.2.2.1):=(bB.tail (n:=21) ⟨rfl⟩ (bB.tail (n:=20) ⟨rfl⟩ (bB.tail (n:=19) ⟨rfl⟩ (bB.tail (n:=18) ⟨rfl⟩ (bB.tail (n:=14) ⟨rfl⟩ (bB.tail (n:=10) ⟨rfl⟩ (bB.tail (n:=9) ⟨rfl⟩ (bB.tail (n:=8) ⟨rfl⟩ (bB.tail (n:=4) ⟨rfl⟩ bB.fst rfl) rfl) rfl) rfl) rfl) rfl) rfl) rfl) rfl)
instance:aO a7 21 (Rp.int .i64) (fun a b=>(a.1,(a.2.1,(a.2.2.1,(a.2.2.2.1,(a.2.2.2.2.1,(a.2.2.2.2.2.1,(a.2.2.2.2.2.2.1,(a.2.2.2.2.2.2.2.1,(a.2.2.2.2.2.2.2.2.1,(b,a.2.2.2.2.2.2.2.2.2.2))))))))))):=(aO.tail (n:=21) ⟨rfl⟩ (aO.tail (n:=20) ⟨rfl⟩ (aO.tail (n:=19) ⟨rfl⟩ (aO.tail (n:=18) ⟨rfl⟩ (aO.tail (n:=14) ⟨rfl⟩ (aO.tail (n:=10) ⟨rfl⟩ (aO.tail (n:=9) ⟨rfl⟩ (aO.tail (n:=8) ⟨rfl⟩ (aO.tail (n:=4) ⟨rfl⟩ aO.fst rfl) rfl) rfl) rfl) rfl) rfl) rfl) rfl) rfl)
instance {a:ar}:az (.ra a7 a) 21 1 false (.is (.int .i64 a.2.2.2.2.2.2.2.2.2.1)):=az.cell inferInstance ⟨rfl⟩ inferInstance
instance:bB a7 22 d7.row (fun a=>a.2.2.2.2.2.2.2.2.2.2.1):=(bB.tail (n:=22) ⟨rfl⟩ (bB.tail (n:=21) ⟨rfl⟩ (bB.tail (n:=20) ⟨rfl⟩ (bB.tail (n:=19) ⟨rfl⟩ (bB.tail (n:=15) ⟨rfl⟩ (bB.tail (n:=11) ⟨rfl⟩ (bB.tail (n:=10) ⟨rfl⟩ (bB.tail (n:=9) ⟨rfl⟩ (bB.tail (n:=5) ⟨rfl⟩ (bB.tail (n:=1) ⟨rfl⟩ bB.fst rfl) rfl) rfl) rfl) rfl) rfl) rfl) rfl) rfl) rfl)
instance:aO a7 22 d7.row (fun a b=>(a.1,(a.2.1,(a.2.2.1,(a.2.2.2.1,(a.2.2.2.2.1,(a.2.2.2.2.2.1,(a.2.2.2.2.2.2.1,(a.2.2.2.2.2.2.2.1,(a.2.2.2.2.2.2.2.2.1,(a.2.2.2.2.2.2.2.2.2.1,(b,a.2.2.2.2.2.2.2.2.2.2.2)))))))))))):=(aO.tail (n:=22) ⟨rfl⟩ (aO.tail (n:=21) ⟨rfl⟩ (aO.tail (n:=20) ⟨rfl⟩ (aO.tail (n:=19) ⟨rfl⟩ (aO.tail (n:=15) ⟨rfl⟩ (aO.tail (n:=11) ⟨rfl⟩ (aO.tail (n:=10) ⟨rfl⟩ (aO.tail (n:=9) ⟨rfl⟩ (aO.tail (n:=5) ⟨rfl⟩ (aO.tail (n:=1) ⟨rfl⟩ aO.fst rfl) rfl) rfl) rfl) rfl) rfl) rfl) rfl) rfl) rfl)
instance {a:ar}:az (.ra a7 a) 22 1 false (.rw d7 tt a.2.2.2.2.2.2.2.2.2.2.1):=az.cell inferInstance ⟨rfl⟩ inferInstance
instance:bB a7 23 Rp.str.row (fun a=>a.2.2.2.2.2.2.2.2.2.2.2.1):=(bB.tail (n:=23) ⟨rfl⟩ (bB.tail (n:=22) ⟨rfl⟩ (bB.tail (n:=21) ⟨rfl⟩ (bB.tail (n:=20) ⟨rfl⟩ (bB.tail (n:=16) ⟨rfl⟩ (bB.tail (n:=12) ⟨rfl⟩ (bB.tail (n:=11) ⟨rfl⟩ (bB.tail (n:=10) ⟨rfl⟩ (bB.tail (n:=6) ⟨rfl⟩ (bB.tail (n:=2) ⟨rfl⟩ (bB.tail (n:=1) ⟨rfl⟩ bB.fst rfl) rfl) rfl) rfl) rfl) rfl) rfl) rfl) rfl) rfl) rfl)
instance:aO a7 23 Rp.str.row (fun a b=>(a.1,(a.2.1,(a.2.2.1,(a.2.2.2.1,(a.2.2.2.2.1,(a.2.2.2.2.2.1,(a.2.2.2.2.2.2.1,(a.2.2.2.2.2.2.2.1,(a.2.2.2.2.2.2.2.2.1,(a.2.2.2.2.2.2.2.2.2.1,(a.2.2.2.2.2.2.2.2.2.2.1,(b,a.2.2.2.2.2.2.2.2.2.2.2.2))))))))))))):=(aO.tail (n:=23) ⟨rfl⟩ (aO.tail (n:=22) ⟨rfl⟩ (aO.tail (n:=21) ⟨rfl⟩ (aO.tail (n:=20) ⟨rfl⟩ (aO.tail (n:=16) ⟨rfl⟩ (aO.tail (n:=12) ⟨rfl⟩ (aO.tail (n:=11) ⟨rfl⟩ (aO.tail (n:=10) ⟨rfl⟩ (aO.tail (n:=6) ⟨rfl⟩ (aO.tail (n:=2) ⟨rfl⟩ (aO.tail (n:=1) ⟨rfl⟩ aO.fst rfl) rfl) rfl) rfl) rfl) rfl) rfl) rfl) rfl) rfl) rfl)
instance {a:ar}:az (.ra a7 a) 23 1 false (.rw Rp.str tt a.2.2.2.2.2.2.2.2.2.2.2.1):=az.cell inferInstance ⟨rfl⟩ inferInstance
instance:bB a7 24 cU.row (fun a=>a.2.2.2.2.2.2.2.2.2.2.2.2):=(bB.tail (n:=24) ⟨rfl⟩ (bB.tail (n:=23) ⟨rfl⟩ (bB.tail (n:=22) ⟨rfl⟩ (bB.tail (n:=21) ⟨rfl⟩ (bB.tail (n:=17) ⟨rfl⟩ (bB.tail (n:=13) ⟨rfl⟩ (bB.tail (n:=12) ⟨rfl⟩ (bB.tail (n:=11) ⟨rfl⟩ (bB.tail (n:=7) ⟨rfl⟩ (bB.tail (n:=3) ⟨rfl⟩ (bB.tail (n:=2) ⟨rfl⟩ (bB.tail (n:=1) ⟨rfl⟩ bB.self rfl) rfl) rfl) rfl) rfl) rfl) rfl) rfl) rfl) rfl) rfl) rfl)
instance:aO a7 24 cU.row (fun a b=>(a.1,(a.2.1,(a.2.2.1,(a.2.2.2.1,(a.2.2.2.2.1,(a.2.2.2.2.2.1,(a.2.2.2.2.2.2.1,(a.2.2.2.2.2.2.2.1,(a.2.2.2.2.2.2.2.2.1,(a.2.2.2.2.2.2.2.2.2.1,(a.2.2.2.2.2.2.2.2.2.2.1,(a.2.2.2.2.2.2.2.2.2.2.2.1,b))))))))))))):=(aO.tail (n:=24) ⟨rfl⟩ (aO.tail (n:=23) ⟨rfl⟩ (aO.tail (n:=22) ⟨rfl⟩ (aO.tail (n:=21) ⟨rfl⟩ (aO.tail (n:=17) ⟨rfl⟩ (aO.tail (n:=13) ⟨rfl⟩ (aO.tail (n:=12) ⟨rfl⟩ (aO.tail (n:=11) ⟨rfl⟩ (aO.tail (n:=7) ⟨rfl⟩ (aO.tail (n:=3) ⟨rfl⟩ (aO.tail (n:=2) ⟨rfl⟩ (aO.tail (n:=1) ⟨rfl⟩ aO.self rfl) rfl) rfl) rfl) rfl) rfl) rfl) rfl) rfl) rfl) rfl) rfl)
instance {a:ar}:az (.ra a7 a) 24 1 false (.rw cU tt a.2.2.2.2.2.2.2.2.2.2.2.2):=az.cell inferInstance ⟨rfl⟩ inferInstance
instance:eV Tryz.prog 44 25 true:=⟨⟨_,Tryz.underlying44,rfl⟩,by kernel_rfl⟩
instance:aP Tryz.prog 44 0 0 1 false:=⟨⟨_,_,Tryz.underlying44,rfl,rfl,by kernel_rfl,by decide,_,Tryz.underlying9,rfl⟩⟩
instance:aP Tryz.prog 44 1 1 1 false:=⟨⟨_,_,Tryz.underlying44,rfl,rfl,by kernel_rfl,by decide,_,Tryz.underlying9,rfl⟩⟩
instance:aP Tryz.prog 44 2 2 1 false:=⟨⟨_,_,Tryz.underlying44,rfl,rfl,by kernel_rfl,by decide,_,Tryz.underlying37,rfl⟩⟩
instance:aP Tryz.prog 44 3 3 4 true:=⟨⟨_,_,Tryz.underlying44,rfl,rfl,by kernel_rfl,by decide,_,Tryz.underlying40,rfl⟩⟩
instance:aP Tryz.prog 44 4 7 4 true:=⟨⟨_,_,Tryz.underlying44,rfl,rfl,by kernel_rfl,by decide,_,Tryz.underlying40,rfl⟩⟩
instance:aP Tryz.prog 44 5 11 1 false:=⟨⟨_,_,Tryz.underlying44,rfl,rfl,by kernel_rfl,by decide,_,Tryz.underlying3,rfl⟩⟩
instance:aP Tryz.prog 44 6 12 1 false:=⟨⟨_,_,Tryz.underlying44,rfl,rfl,by kernel_rfl,by decide,_,Tryz.underlying3,rfl⟩⟩
instance:aP Tryz.prog 44 7 13 4 true:=⟨⟨_,_,Tryz.underlying44,rfl,rfl,by kernel_rfl,by decide,_,Tryz.underlying40,rfl⟩⟩
instance:aP Tryz.prog 44 8 17 4 true:=⟨⟨_,_,Tryz.underlying44,rfl,rfl,by kernel_rfl,by decide,_,Tryz.underlying40,rfl⟩⟩
instance:aP Tryz.prog 44 9 21 1 false:=⟨⟨_,_,Tryz.underlying44,rfl,rfl,by kernel_rfl,by decide,_,Tryz.underlying3,rfl⟩⟩
instance:aP Tryz.prog 44 10 22 1 false:=⟨⟨_,_,Tryz.underlying44,rfl,rfl,by kernel_rfl,by decide,_,Tryz.underlying41,rfl⟩⟩
instance:aP Tryz.prog 44 11 23 1 false:=⟨⟨_,_,Tryz.underlying44,rfl,rfl,by kernel_rfl,by decide,_,Tryz.underlying30,rfl⟩⟩
instance:aP Tryz.prog 44 12 24 1 false:=⟨⟨_,_,Tryz.underlying44,rfl,rfl,by kernel_rfl,by decide,_,Tryz.underlying42,rfl⟩⟩
theorem dN:fU Tryz.prog 44 a7 ([],[],[],((false,[]),(false,[])),((false,[]),(false,[])),0,0,((false,[]),(false,[])),((false,[]),(false,[])),0,[],[],[]):=⟨by
 obtain ⟨i,h1,h2,h3,h4⟩:∃ i,Tryz.prog.info? 44=some i∧i.zero=some (.agg #[Tx [],Tx [], .slice none 0 0, .bool false, .slice none 0 0, .bool false, .slice none 0 0, .bool false, .slice none 0 0, .bool false, .slice none 0 0, .int .i64 0, .int .i64 0, .bool false, .slice none 0 0, .bool false, .slice none 0 0, .bool false, .slice none 0 0, .bool false, .slice none 0 0, .int .i64 0, .slice none 0 0, .slice none 0 0, .slice none 0 0])∧i.size=25∧i.bytes=408:=info_parts qK
 refine ⟨_,i,_,Tryz.underlying44,(fun f hf=> ?_),h1,h2,fun w S=> ?_⟩
 ·simp only [List.mem_cons,List.not_mem_nil,or_false] at hf
  rcases hf with rfl|rfl|rfl|rfl|rfl|rfl|rfl|rfl|rfl|rfl|rfl|rfl|rfl<;>exact Option.isSome_iff_exists.1 qK
 ·exact ⟨[Tx []],[Tx [], .slice none 0 0, .bool false, .slice none 0 0, .bool false, .slice none 0 0, .bool false, .slice none 0 0, .bool false, .slice none 0 0, .int .i64 0, .int .i64 0, .bool false, .slice none 0 0, .bool false, .slice none 0 0, .bool false, .slice none 0 0, .bool false, .slice none 0 0, .int .i64 0, .slice none 0 0, .slice none 0 0, .slice none 0 0],rfl,⟨_,rfl,bU []⟩,⟨[Tx []],[.slice none 0 0, .bool false, .slice none 0 0, .bool false, .slice none 0 0, .bool false, .slice none 0 0, .bool false, .slice none 0 0, .int .i64 0, .int .i64 0, .bool false, .slice none 0 0, .bool false, .slice none 0 0, .bool false, .slice none 0 0, .bool false, .slice none 0 0, .int .i64 0, .slice none 0 0, .slice none 0 0, .slice none 0 0],rfl,⟨_,rfl,bU []⟩,⟨[.slice none 0 0],[.bool false, .slice none 0 0, .bool false, .slice none 0 0, .bool false, .slice none 0 0, .bool false, .slice none 0 0, .int .i64 0, .int .i64 0, .bool false, .slice none 0 0, .bool false, .slice none 0 0, .bool false, .slice none 0 0, .bool false, .slice none 0 0, .int .i64 0, .slice none 0 0, .slice none 0 0, .slice none 0 0],rfl,⟨none,0,0,rfl,rfl,Nat.le_refl _,Nat.zero_le _,fun _=>rfl,fun h=>absurd h qO⟩,⟨[.bool false, .slice none 0 0, .bool false, .slice none 0 0],[.bool false, .slice none 0 0, .bool false, .slice none 0 0, .int .i64 0, .int .i64 0, .bool false, .slice none 0 0, .bool false, .slice none 0 0, .bool false, .slice none 0 0, .bool false, .slice none 0 0, .int .i64 0, .slice none 0 0, .slice none 0 0, .slice none 0 0],rfl,⟨[.bool false, .slice none 0 0],[.bool false, .slice none 0 0],rfl,⟨[.bool false],[.slice none 0 0],rfl,rfl,⟨none,0,0,rfl,⟨⟨rfl,Nat.le_refl _,Nat.zero_le _,fun _=>rfl,fun h=>absurd h qO⟩,fun h=>absurd h qO⟩,fun _ h=>by cases h⟩⟩,⟨[.bool false],[.slice none 0 0],rfl,rfl,⟨none,0,0,rfl,⟨⟨rfl,Nat.le_refl _,Nat.zero_le _,fun _=>rfl,fun h=>absurd h qO⟩,fun h=>absurd h qO⟩,fun _ h=>by cases h⟩⟩⟩,⟨[.bool false, .slice none 0 0, .bool false, .slice none 0 0],[.int .i64 0, .int .i64 0, .bool false, .slice none 0 0, .bool false, .slice none 0 0, .bool false, .slice none 0 0, .bool false, .slice none 0 0, .int .i64 0, .slice none 0 0, .slice none 0 0, .slice none 0 0],rfl,⟨[.bool false, .slice none 0 0],[.bool false, .slice none 0 0],rfl,⟨[.bool false],[.slice none 0 0],rfl,rfl,⟨none,0,0,rfl,⟨⟨rfl,Nat.le_refl _,Nat.zero_le _,fun _=>rfl,fun h=>absurd h qO⟩,fun h=>absurd h qO⟩,fun _ h=>by cases h⟩⟩,⟨[.bool false],[.slice none 0 0],rfl,rfl,⟨none,0,0,rfl,⟨⟨rfl,Nat.le_refl _,Nat.zero_le _,fun _=>rfl,fun h=>absurd h qO⟩,fun h=>absurd h qO⟩,fun _ h=>by cases h⟩⟩⟩,⟨[.int .i64 0],[.int .i64 0, .bool false, .slice none 0 0, .bool false, .slice none 0 0, .bool false, .slice none 0 0, .bool false, .slice none 0 0, .int .i64 0, .slice none 0 0, .slice none 0 0, .slice none 0 0],rfl,rfl,⟨[.int .i64 0],[.bool false, .slice none 0 0, .bool false, .slice none 0 0, .bool false, .slice none 0 0, .bool false, .slice none 0 0, .int .i64 0, .slice none 0 0, .slice none 0 0, .slice none 0 0],rfl,rfl,⟨[.bool false, .slice none 0 0, .bool false, .slice none 0 0],[.bool false, .slice none 0 0, .bool false, .slice none 0 0, .int .i64 0, .slice none 0 0, .slice none 0 0, .slice none 0 0],rfl,⟨[.bool false, .slice none 0 0],[.bool false, .slice none 0 0],rfl,⟨[.bool false],[.slice none 0 0],rfl,rfl,⟨none,0,0,rfl,⟨⟨rfl,Nat.le_refl _,Nat.zero_le _,fun _=>rfl,fun h=>absurd h qO⟩,fun h=>absurd h qO⟩,fun _ h=>by cases h⟩⟩,⟨[.bool false],[.slice none 0 0],rfl,rfl,⟨none,0,0,rfl,⟨⟨rfl,Nat.le_refl _,Nat.zero_le _,fun _=>rfl,fun h=>absurd h qO⟩,fun h=>absurd h qO⟩,fun _ h=>by cases h⟩⟩⟩,⟨[.bool false, .slice none 0 0, .bool false, .slice none 0 0],[.int .i64 0, .slice none 0 0, .slice none 0 0, .slice none 0 0],rfl,⟨[.bool false, .slice none 0 0],[.bool false, .slice none 0 0],rfl,⟨[.bool false],[.slice none 0 0],rfl,rfl,⟨none,0,0,rfl,⟨⟨rfl,Nat.le_refl _,Nat.zero_le _,fun _=>rfl,fun h=>absurd h qO⟩,fun h=>absurd h qO⟩,fun _ h=>by cases h⟩⟩,⟨[.bool false],[.slice none 0 0],rfl,rfl,⟨none,0,0,rfl,⟨⟨rfl,Nat.le_refl _,Nat.zero_le _,fun _=>rfl,fun h=>absurd h qO⟩,fun h=>absurd h qO⟩,fun _ h=>by cases h⟩⟩⟩,⟨[.int .i64 0],[.slice none 0 0, .slice none 0 0, .slice none 0 0],rfl,rfl,⟨[.slice none 0 0],[.slice none 0 0, .slice none 0 0],rfl,⟨none,0,0,rfl,rfl,Nat.le_refl _,Nat.zero_le _,fun _=>rfl,fun h=>absurd h qO⟩,⟨[.slice none 0 0],[.slice none 0 0],rfl,⟨none,0,0,rfl,rfl,Nat.le_refl _,Nat.zero_le _,fun _=>rfl,fun h=>absurd h qO⟩,⟨none,0,0,rfl,rfl,Nat.le_refl _,Nat.zero_le _,fun _=>rfl,fun h=>absurd h qO⟩⟩⟩⟩⟩⟩⟩⟩⟩⟩⟩⟩⟩⟩
instance:eV Tryz.prog 33 25 true:=⟨⟨_,Tryz.underlying33,rfl⟩,by kernel_rfl⟩
instance:aP Tryz.prog 33 0 0 1 false:=⟨⟨_,_,Tryz.underlying33,rfl,rfl,by kernel_rfl,by decide,_,Tryz.underlying9,rfl⟩⟩
instance:aP Tryz.prog 33 1 1 1 false:=⟨⟨_,_,Tryz.underlying33,rfl,rfl,by kernel_rfl,by decide,_,Tryz.underlying9,rfl⟩⟩
instance:aP Tryz.prog 33 2 2 1 false:=⟨⟨_,_,Tryz.underlying33,rfl,rfl,by kernel_rfl,by decide,_,Tryz.underlying23,rfl⟩⟩
instance:aP Tryz.prog 33 3 3 4 true:=⟨⟨_,_,Tryz.underlying33,rfl,rfl,by kernel_rfl,by decide,_,Tryz.underlying28,rfl⟩⟩
instance:aP Tryz.prog 33 4 7 4 true:=⟨⟨_,_,Tryz.underlying33,rfl,rfl,by kernel_rfl,by decide,_,Tryz.underlying28,rfl⟩⟩
instance:aP Tryz.prog 33 5 11 1 false:=⟨⟨_,_,Tryz.underlying33,rfl,rfl,by kernel_rfl,by decide,_,Tryz.underlying3,rfl⟩⟩
instance:aP Tryz.prog 33 6 12 1 false:=⟨⟨_,_,Tryz.underlying33,rfl,rfl,by kernel_rfl,by decide,_,Tryz.underlying3,rfl⟩⟩
instance:aP Tryz.prog 33 7 13 4 true:=⟨⟨_,_,Tryz.underlying33,rfl,rfl,by kernel_rfl,by decide,_,Tryz.underlying28,rfl⟩⟩
instance:aP Tryz.prog 33 8 17 4 true:=⟨⟨_,_,Tryz.underlying33,rfl,rfl,by kernel_rfl,by decide,_,Tryz.underlying28,rfl⟩⟩
instance:aP Tryz.prog 33 9 21 1 false:=⟨⟨_,_,Tryz.underlying33,rfl,rfl,by kernel_rfl,by decide,_,Tryz.underlying3,rfl⟩⟩
instance:aP Tryz.prog 33 10 22 1 false:=⟨⟨_,_,Tryz.underlying33,rfl,rfl,by kernel_rfl,by decide,_,Tryz.underlying29,rfl⟩⟩
instance:aP Tryz.prog 33 11 23 1 false:=⟨⟨_,_,Tryz.underlying33,rfl,rfl,by kernel_rfl,by decide,_,Tryz.underlying30,rfl⟩⟩
instance:aP Tryz.prog 33 12 24 1 false:=⟨⟨_,_,Tryz.underlying33,rfl,rfl,by kernel_rfl,by decide,_,Tryz.underlying31,rfl⟩⟩
abbrev mM:=(Int)×(Int)×(Int)
abbrev gl:Rp mM:=((Rp.int .u8).pair (((Rp.int .i64).pair ((Rp.int .i64)))))
instance:KC gl 3:=⟨rfl⟩
instance:bB gl 0 (Rp.int .u8) (fun a=>a.1):=bB.fst
instance:aO gl 0 (Rp.int .u8) (fun a b=>(b,a.2)):=aO.fst
instance {a:mM}:az (.ra gl a) 0 1 false (.is (.int .u8 a.1)):=az.cell inferInstance ⟨rfl⟩ inferInstance
instance:bB gl 1 (Rp.int .i64) (fun a=>a.2.1):=(bB.tail (n:=1) ⟨rfl⟩ bB.fst rfl)
instance:aO gl 1 (Rp.int .i64) (fun a b=>(a.1,(b,a.2.2))):=(aO.tail (n:=1) ⟨rfl⟩ aO.fst rfl)
instance {a:mM}:az (.ra gl a) 1 1 false (.is (.int .i64 a.2.1)):=az.cell inferInstance ⟨rfl⟩ inferInstance
instance:bB gl 2 (Rp.int .i64) (fun a=>a.2.2):=(bB.tail (n:=2) ⟨rfl⟩ (bB.tail (n:=1) ⟨rfl⟩ bB.self rfl) rfl)
instance:aO gl 2 (Rp.int .i64) (fun a b=>(a.1,(a.2.1,b))):=(aO.tail (n:=2) ⟨rfl⟩ (aO.tail (n:=1) ⟨rfl⟩ aO.self rfl) rfl)
instance {a:mM}:az (.ra gl a) 2 1 false (.is (.int .i64 a.2.2)):=az.cell inferInstance ⟨rfl⟩ inferInstance
instance:eV Tryz.prog 56 3 true:=⟨⟨_,Tryz.underlying56,rfl⟩,by kernel_rfl⟩
instance:aP Tryz.prog 56 0 0 1 false:=⟨⟨_,_,Tryz.underlying56,rfl,rfl,by kernel_rfl,by decide,_,Tryz.underlying5,rfl⟩⟩
instance:aP Tryz.prog 56 1 1 1 false:=⟨⟨_,_,Tryz.underlying56,rfl,rfl,by kernel_rfl,by decide,_,Tryz.underlying3,rfl⟩⟩
instance:aP Tryz.prog 56 2 2 1 false:=⟨⟨_,_,Tryz.underlying56,rfl,rfl,by kernel_rfl,by decide,_,Tryz.underlying3,rfl⟩⟩
theorem qX:fU Tryz.prog 56 gl (0,0,0):=⟨by
 obtain ⟨i,h1,h2,h3,h4⟩:∃ i,Tryz.prog.info? 56=some i∧i.zero=some (.agg #[.int .u8 0, .int .i64 0, .int .i64 0])∧i.size=3∧i.bytes=24:=info_parts qK
 refine ⟨_,i,_,Tryz.underlying56,(fun f hf=> ?_),h1,h2,fun w S=> ?_⟩
 ·simp only [List.mem_cons,List.not_mem_nil,or_false] at hf
  rcases hf with rfl|rfl|rfl<;>exact Option.isSome_iff_exists.1 qK
 ·exact ⟨[.int .u8 0],[.int .i64 0, .int .i64 0],rfl,rfl,⟨[.int .i64 0],[.int .i64 0],rfl,rfl,rfl⟩⟩⟩
theorem m7:∀ (ds:List Value) (w:World) (r o:Nat) (cs:List Value) (ty:TypeId),w.heap[r]? =some (.cells cs.toArray ty (0,0))→o+ds.length≤cs.length→w.setCells r o ds=w.setRow r (cs.take o++ds++cs.drop (o+ds.length)).toArray
 |[],w,r,o,cs,ty,h,hl=>by
  rw [List.append_nil,List.length_nil,Nat.add_zero,List.take_append_drop,setRow_self w r _ ty (0,0) h]
  rfl
 |v::ds,w,r,o,cs,ty,h,hl=>by
  rw [List.length_cons] at hl
  have hs:(cs.toArray.setIfInBounds o v)=(cs.set o v).toArray:=by simp
  show (w.setCell ⟨r,o,none⟩ v).setCells r (o+1) ds=_
  rw [setCell_eq_setRow w r o cs.toArray ty (0,0) v h,hs,m7 ds (w.setRow r (cs.set o v).toArray) r (o+1) (cs.set o v) ty (setRow_heap w r _ _ ty _ h) (by rw [List.length_set];omega),setRow_setRow]
  congr 2
  rw [List.length_cons,show o+1+ds.length=o+(ds.length+1) by omega,List.drop_set_of_lt qO,List.append_assoc,List.append_assoc]
  rw [List.take_succ_eq_append_getElem (by rw [List.length_set];omega),List.getElem_set_self,List.take_set_of_le (Nat.le_refl o)]
  simp
theorem fU.al {α:Type} {P:Program} {ty:TypeId} {r:Rp α} {a:α} (z:fU P ty r a):cX P ty (.ra r a):=by
 obtain ⟨fs,i,zs,hu,hf,hi,hz,hr⟩:=z.ok
 refine ⟨.agg zs,fun X w=>⟨zs.toList,by simp,hr w _⟩,fun o ρ w e=> ?_⟩
 have hze:(zeroValue ty).run P w= .ok (.agg zs) w:=by simp [zeroValue,typeInfo,hi,hz]
 cases o with
 |mk dst op t pos af gd=>
  have e':op=_:=e
  subst e'
  unfold execOp
  simp [Instr.alloc,newVar,newRow,Sem.run_bind,hze,Result.andThen_ok]
section
variable {P:Program} {w00:World} {X:List Nat} {L L':List Loc} {E:List (Nat×ai)} {n:Nat} {ops:Array Oper} {rest:List Oper} {Q:Exit→Act→World→Prop} {cs:List Code} {t0:TypeId} {pos:String} {af:Array Edge}
end
def C2 (c:UInt8):Bool:=(decide (97≤c.toNat)&&decide (c.toNat≤122)) || (decide (65≤c.toNat)&&decide (c.toNat≤90))
def Ih (c:UInt8):Bool:=C2 c || (decide (48≤c.toNat)&&decide (c.toNat≤57)) || c.toNat==95 || c.toNat==45
def lW (l:List UInt8):Bool:=(match l with|[]=>false|c::_=>C2 c)&&l.all Ih&&decide (l.length≤32)
def jn (k:Nat) (x:bA):Bool:=pO x&&decide (k%(qv x).den=0)
def nu:Rat:=((1000000000000000:Int):Rat)*((1000000000000000:Int):Rat)
def s8 (x:bA):Bool:=jn 100 x&&decide (gb (qv x) nu<0)&&decide (gb (-qv x) nu<0)
end Go.Proofs.YtcpeiijdgabenaaGreatDoor
