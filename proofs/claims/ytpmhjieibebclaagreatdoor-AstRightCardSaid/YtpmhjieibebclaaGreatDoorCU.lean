/- tallageref08: Same, of what is the same. -/
import Derived.Test.YtpmhjieibebclaaGreatDoorCT
import Derived.Test.YtpmhjieibebclaaGreatDoorCX
set_option maxHeartbeats 40000000
set_option maxRecDepth 20000
set_option synthInstance.maxHeartbeats 400000
set_option synthInstance.maxSize 4000
set_option linter.unusedSimpArgs false
set_option linter.unusedVariables false
namespace Go.Proofs.YtpmhjieibebclaaGreatDoor
open Go Go.RowKit
theorem Hc {X:List Nat} {w:World} {v:Value} {xs:List Int} (h:(aa.rc Rp.limbs xs).holds X w v):(aa.rw (Rp.int .u32) tt xs).holds X w v:=by
 obtain ⟨A,n,c,e,⟨⟨g1,g2,g3,g4,g5⟩,hf⟩,_⟩:=h
 obtain rfl:v= .slice A n c:=by simpa using e
 refine ⟨fun _ _=>trivial,A,n,c,rfl,g1,g2,g3,g4,fun hn=> ?_⟩
 obtain ⟨b,off,rfl,hb,hc⟩:=g5 hn
 refine ⟨b,off,rfl,hf hn b rfl,fun j a ha=>⟨[.int .u32 a],fun i u hu=> ?_,rfl⟩⟩
 cases i with
 |zero=>
  have e:Value.int .u32 a=u:=by simpa using hu
  subst e
  have:=hc j a ha
  simpa [show (Rp.int .u32).k=1 from rfl] using this
 |succ i=>simp at hu
section
variable {w00:World} {N:Nat} {L:List Loc} {E:List (Nat×aa)} {d:Nat} {t0:TypeId} {pos:String} {af:Array Edge} {gd:Option (Nat×Bool)}
theorem Ep {o0 o1:Operand} {x y:Bool} {t1:TypeId} {u:Bool} [h0:bD E o0 (.is (.bool x))] [h1:bD E o1 (.is (.bool y))] (hu:(x != y)=u):au Tryz.prog w00 N L E ⟨some d, .binOp .neq 4 o0 o1 t1,t0,pos,af,gd⟩ (.is (.bool u)):=by
 constructor
 intro X ρ w hc _ hN hm hsl
 have e0:ρ o0= .bool x:=h0.get (X:=X) (w:=w) hc fun p hp e=>hsl p hp qS
 have e1:ρ o1= .bool y:=h1.get (X:=X) (w:=w) hc fun p hp e=>hsl p hp qS
 clear hc hsl h0 h1
 unfold Yields
 have hb:=Tryz.underlying4
 subst hu
 cases x<;>cases y<;>go_simp<;>exact ⟨rfl,Below.refl _ _⟩
end
instance {x:fa}:ai (.ra Rp.num x) 0 1 false (.is (.bool x.1)):=ai.cell (r':=Rp.bool) (g:=fun (x:fa)=>x.1) aZ.fst ⟨rfl⟩ inferInstance
instance {x:fa}:ai (.ra Rp.num x) 1 1 false (.rw (Rp.int .u32) tt x.2):=ai.cell (r':=Rp.limbs) (g:=fun (x:fa)=>x.2) (aZ.tail (n:=1) (k:=1) ⟨rfl⟩ aZ.self rfl) ⟨rfl⟩ ⟨fun h=>Hc h⟩
instance Jy:fw Tryz.prog 36 2 true:=⟨⟨_,Tryz.underlying36,rfl⟩,by kernel_rfl⟩
instance {x:aR}:ai (.ra Rp.frac x) 0 2 true (.ra Rp.num x.1):=ai.agg (g:=fun (x:aR)=>x.1) aZ.fst ⟨rfl⟩
instance {x:aR}:ai (.ra Rp.frac x) 2 2 true (.ra Rp.num x.2):=ai.agg (g:=fun (x:aR)=>x.2) (aZ.tail (n:=2) (k:=2) ⟨rfl⟩ aZ.self rfl) ⟨rfl⟩
instance JA:fw Tryz.prog 115 1 false:=⟨⟨_,Tryz.underlying115,rfl⟩,by kernel_rfl⟩
theorem bh {α:Type} [BEq α] [LawfulBEq α] (x:α):(x != x)=false:=by
 show (!(x==x))=false
 rw [beq_self_eq_true]
 rfl
theorem dL {p:Prop} (h:p:=by first|exact gW (by assumption)|exact fO|exact jE|exact iA|exact l8 (by assumption)|exact nu|exact AH (by first|assumption|rfl)|exact Ep (by first|assumption|rfl)|exact nq (by first|assumption|rfl)|exact dt|exact dE|exact du|exact bm|exact lm|exact lk|exact eI|exact eH|exact bO (b:=true) (u:=false) rfl|exact bO (b:=false) (u:=true) rfl|exact bO rfl|exact iE (by first|assumption|rfl)|exact dh (by assumption)|exact dA|exact d8.nil|exact bG.nil|exact bE.nil|exact sc trivial k0|exact sc trivial k1|exact sc trivial k2|exact Cv.rfl'):p:=h
theorem u_ {da:fa} (hb:da.2.length≤1000):bW Tryz.prog S1 65 [0,0] [.ra Rp.num da, .ra Rp.num da] (fun _=> .is (.bool true)):=by
 have e0:(da.1 != da.1)=false:=bh _
 have hl0:(((da.2).length:Int) != ((da.2).length:Int))=false:=bh _
 refine cr Tryz.func65 Tryz.ntmps65 fun X w0 hE=> ?_
 repeat' first|kernel_rfl|apply Bt.mk|refine nx ?_|apply ar (id:=6) [] [] 10|apply az|apply aW|infer_instance|refine aE rfl dL ?_|refine aD rfl ?_|refine aF rfl ?_|apply ae|refine aQ rfl ?_|exact dL|intro _
 refine aY fun a w h=> ?_
 rename_i r1 r2
 refine aO (fun k a u=>∃ i:Nat,i+k=(da.2).length∧TS w0 (r2::r1::X) [(r2, .ra Rp.num da),(r1, .ra Rp.num da)] [(5, .is (.int .i64 (i:Int))),(2, .is (.pointer (some ⟨r1,0,none⟩))),(3, .is (.pointer (some ⟨r2,0,none⟩)))] 38 a u) (da.2).length ⟨0,by omega,h.keep [5,2,3]⟩ ?_
 clear h
 rintro k a u ⟨i,hi,h⟩
 by_cases hlt:i<(da.2).length
 ·obtain ⟨x,hx⟩:∃ x,(da.2)[i]? =some x:=⟨_,List.getElem?_eq_getElem hlt⟩
  have hc:decide ((i:Int)<((da.2).length:Int))=true:=decide_eq_true qO
  have hw:IntKind.i64.wrap ((i:Int)+1)=((i+1:Nat):Int):=aA qO qO
  have n0:(x != x)=false:=bh _
  refine aB h ?_
  clear h
  repeat' first|kernel_rfl|exact a8 fun _ _ h=>⟨k - 1,by omega,i+1,by omega,h.keep [5,2,3]⟩|apply Bt.mk|refine nx ?_|apply ar (id:=6) [] [] 10|apply az|apply aW|infer_instance|refine aE rfl dL ?_|refine aD rfl ?_|refine aF rfl ?_|apply ae|refine aQ rfl ?_|exact dL|intro _
 ·have hc:decide ((i:Int)<((da.2).length:Int))=false:=decide_eq_false qO
  refine aB h ?_
  clear h
  repeat' first|kernel_rfl|apply Bt.mk|refine nx ?_|apply ar (id:=6) [] [] 10|apply az|apply aW|infer_instance|refine aE rfl dL ?_|refine aD rfl ?_|refine aF rfl ?_|apply ae|refine aQ rfl ?_|exact dL|intro _
theorem fA {da:aR} (hb:b6 6 da):bW Tryz.prog S1 30 [0,0] [.ra Rp.frac da, .ra Rp.frac da] (fun _=> .is (.bool true)):=by
 have k0:=u_ (da:=da.1) (by have:=hb.1;omega)
 have k1:=u_ (da:=da.2) (by have:=hb.2.1;omega)
 refine cr Tryz.func30 Tryz.ntmps30 fun X w hE=> ?_
 repeat' first|kernel_rfl|apply Bt.mk|refine nx ?_|refine aE rfl dL ?_|refine aD rfl ?_|refine aF rfl ?_|apply ae|refine aQ rfl ?_|exact dL|intro _
instance Ju:cQ Tryz.prog 126 (.ra bl jQ):=fc.al
instance Jw:cQ Tryz.prog 128 (.ra bk jR):=fd.al
instance Jv:cQ Tryz.prog 130 (.ra a7 ky):=e_.al
theorem vK {da:aX} (hf:p9 da) (hn:da.2.1.length≤40∧da.2.2.1.length≤40∧da.2.2.2.1.length≤40∧da.2.2.2.2.1.length≤40∧da.2.2.2.2.2.length≤40):bW Tryz.prog S1 31 [0,0] [.ra aw da, .ra aw da] (fun _=> .is (.bool true)):=by
 obtain ⟨hn1,hn2,hn3,hn4,hn5⟩:=hn
 unfold p9 at hf
 obtain ⟨hf1,hf2,hf3,hf4,hf5⟩:=hf
 have e0:(da.1 != da.1)=false:=bh _
 have hl0:(((da.2.1).length:Int) != ((da.2.1).length:Int))=false:=bh _
 have hl1:(((da.2.2.1).length:Int) != ((da.2.2.1).length:Int))=false:=bh _
 have hl2:(((da.2.2.2.1).length:Int) != ((da.2.2.2.1).length:Int))=false:=bh _
 have hl3:(((da.2.2.2.2.1).length:Int) != ((da.2.2.2.2.1).length:Int))=false:=bh _
 have hl4:(((da.2.2.2.2.2).length:Int) != ((da.2.2.2.2.2).length:Int))=false:=bh _
 refine Jr Tryz.func31 rfl Tryz.ntmps31 qE (fun _ _=>by kernel_rfl) fun X w0 hE=> ?_
 simp only [eK,Nat.zero_add,Nat.reduceAdd]
 repeat' first|kernel_rfl|apply cx|apply cy|apply cE|apply ar (id:=24) [(225,false),(241,false)] [] 44|apply ar (id:=29) [(277,false)] [] 28|apply az|apply aW|refine @bG.cons _ _ _ _ inferInstance ?_|refine @bE.cons _ _ _ inferInstance ?_|apply cu|apply cB|apply co|apply cA|apply cp|apply cw|refine fK rfl inferInstance dL qK ?_|refine jz rfl inferInstance rfl qK ?_|refine jh rfl inferInstance qK ?_|apply ae|apply bB|apply eB|apply eu|apply ct|refine aQ rfl ?_|apply cq|apply ew|apply ep|apply jl|apply jj|refine jt rfl ?_|apply jn|apply jw|apply eC|exact dL|(intro _;simp only[cf,ci,cm,List.map,List.cons_append,List.nil_append])|intro _
 refine aY fun a w h=> ?_
 rename_i r1 r2
 refine aO (fun k a u=>∃ i:Nat,i+k=(da.2.1).length∧TS w0 (r2::r1::X) [(r2, .ra aw da),(r1, .ra aw da)] [(5, .is (.int .i64 (i:Int))),(2, .is (.pointer (some ⟨r1,0,none⟩))),(3, .is (.pointer (some ⟨r2,0,none⟩)))] 293 a u) (da.2.1).length ⟨0,by omega,h.keep [5,2,3]⟩ ?_
 clear h
 rintro k a u ⟨i,hi,h⟩
 by_cases hlt:i<(da.2.1).length
 ·obtain ⟨x,hx⟩:∃ x,(da.2.1)[i]? =some x:=⟨_,List.getElem?_eq_getElem hlt⟩
  have hc:decide ((i:Int)<((da.2.1).length:Int))=true:=decide_eq_true qO
  have hw:IntKind.i64.wrap ((i:Int)+1)=((i+1:Nat):Int):=aA qO qO
  have hh:=hf1 x (List.mem_of_getElem? hx)
  have n0:(x.1 != x.1)=false:=bh _
  have n1:(x.2.1 != x.2.1)=false:=bh _
  have k2:=fA (da:=x.2.2) hh
  refine aB h ?_
  clear h
  repeat' first|kernel_rfl|(apply pM (id:=6) 13 [(6, .ra bl jQ, .ra bl x),(7, .ra bl jQ, .ra bl jQ)];(focus repeat' first|exact eR.nil|(apply eR.alloc (d:=6) (Z:= .ra bl jQ) (T:= .ra bl x) (hv:= .head _);(focus infer_instance))|(apply eR.put (d:=6) (x:=77) (Z:= .ra bl jQ) (T:= .ra bl x) (k:=6) (k0:=6) (ag:=true) (ag0:=true) (hv:= .head _) (ho:=ck.mem) (z:=inferInstance) (z0:=inferInstance) (hk:=rfl);(focus kernel_rfl))|(apply eR.alloc (d:=7) (Z:= .ra bl jQ) (T:= .ra bl jQ) (hv:= .tail _ (.head _));(focus infer_instance))|apply eR.cons|exact dt|exact du|exact bm|exact gW qL|exact fO|kernel_rfl);(focus kernel_rfl);(focus kernel_rfl);(focus (intro v hv;simp only [List.mem_cons,List.not_mem_nil,or_false] at hv;rcases hv with rfl|rfl;exact .inl rfl;exact .inr rfl));(focus kernel_rfl);intro r;simp only[List.map,List.cons_append,List.nil_append])|(refine vm ?_)|exact a8 fun _ _ h=>⟨k - 1,by omega,i+1,by omega,h.drop.drop.keep [5,2,3]⟩|apply cx|apply cy|apply cE|apply ar (id:=24) [(225,false),(241,false)] [] 44|apply ar (id:=29) [(277,false)] [] 28|apply az|apply aW|refine @bG.cons _ _ _ _ inferInstance ?_|refine @bE.cons _ _ _ inferInstance ?_|apply cu|apply cB|apply co|apply cA|apply cp|apply cw|refine fK rfl inferInstance dL qK ?_|refine jz rfl inferInstance rfl qK ?_|refine jh rfl inferInstance qK ?_|apply ae|apply bB|apply eB|apply eu|apply ct|refine aQ rfl ?_|apply cq|apply ew|apply ep|apply jl|apply jj|refine jt rfl ?_|apply jn|apply jw|apply eC|exact dL|(intro _;simp only[cf,ci,cm,List.map,List.cons_append,List.nil_append])|intro _
 ·have hc:decide ((i:Int)<((da.2.1).length:Int))=false:=decide_eq_false qO
  refine aB h ?_
  clear h
  repeat' first|kernel_rfl|apply cx|apply cy|apply cE|apply ar (id:=24) [(225,false),(241,false)] [] 44|apply ar (id:=29) [(277,false)] [] 28|apply az|apply aW|refine @bG.cons _ _ _ _ inferInstance ?_|refine @bE.cons _ _ _ inferInstance ?_|apply cu|apply cB|apply co|apply cA|apply cp|apply cw|refine fK rfl inferInstance dL qK ?_|refine jz rfl inferInstance rfl qK ?_|refine jh rfl inferInstance qK ?_|apply ae|apply bB|apply eB|apply eu|apply ct|refine aQ rfl ?_|apply cq|apply ew|apply ep|apply jl|apply jj|refine jt rfl ?_|apply jn|apply jw|apply eC|exact dL|(intro _;simp only[cf,ci,cm,List.map,List.cons_append,List.nil_append])|intro _
  refine aY fun a w h=> ?_
  refine aO (fun k a u=>∃ i:Nat,i+k=(da.2.2.1).length∧TS w0 (r2::r1::X) [(r2, .ra aw da),(r1, .ra aw da)] [(8, .is (.int .i64 (i:Int))),(2, .is (.pointer (some ⟨r1,0,none⟩))),(3, .is (.pointer (some ⟨r2,0,none⟩)))] 293 a u) (da.2.2.1).length ⟨0,by omega,h.keep [8,2,3]⟩ ?_
  clear h
  rintro k a u ⟨i,hi,h⟩
  by_cases hlt:i<(da.2.2.1).length
  ·obtain ⟨x,hx⟩:∃ x,(da.2.2.1)[i]? =some x:=⟨_,List.getElem?_eq_getElem hlt⟩
   have hc:decide ((i:Int)<((da.2.2.1).length:Int))=true:=decide_eq_true qO
   have hw:IntKind.i64.wrap ((i:Int)+1)=((i+1:Nat):Int):=aA qO qO
   have hh:=hf2 x (List.mem_of_getElem? hx)
   have n0:(x.1 != x.1)=false:=bh _
   have n1:(x.2.1 != x.2.1)=false:=bh _
   have k2:=fA (da:=x.2.2) hh
   refine aB h ?_
   clear h
   repeat' first|kernel_rfl|(apply pM (id:=12) 13 [(9, .ra bk jR, .ra bk x),(10, .ra bk jR, .ra bk jR)];(focus repeat' first|exact eR.nil|(apply eR.alloc (d:=9) (Z:= .ra bk jR) (T:= .ra bk x) (hv:= .head _);(focus infer_instance))|(apply eR.put (d:=9) (x:=114) (Z:= .ra bk jR) (T:= .ra bk x) (k:=6) (k0:=6) (ag:=true) (ag0:=true) (hv:= .head _) (ho:=ck.mem) (z:=inferInstance) (z0:=inferInstance) (hk:=rfl);(focus kernel_rfl))|(apply eR.alloc (d:=10) (Z:= .ra bk jR) (T:= .ra bk jR) (hv:= .tail _ (.head _));(focus infer_instance))|apply eR.cons|exact dt|exact du|exact bm|exact gW qL|exact fO|kernel_rfl);(focus kernel_rfl);(focus kernel_rfl);(focus (intro v hv;simp only [List.mem_cons,List.not_mem_nil,or_false] at hv;rcases hv with rfl|rfl;exact .inl rfl;exact .inr rfl));(focus kernel_rfl);intro r;simp only[List.map,List.cons_append,List.nil_append])|(refine vm ?_)|exact a8 fun _ _ h=>⟨k - 1,by omega,i+1,by omega,h.drop.drop.keep [8,2,3]⟩|apply cx|apply cy|apply cE|apply ar (id:=24) [(225,false),(241,false)] [] 44|apply ar (id:=29) [(277,false)] [] 28|apply az|apply aW|refine @bG.cons _ _ _ _ inferInstance ?_|refine @bE.cons _ _ _ inferInstance ?_|apply cu|apply cB|apply co|apply cA|apply cp|apply cw|refine fK rfl inferInstance dL qK ?_|refine jz rfl inferInstance rfl qK ?_|refine jh rfl inferInstance qK ?_|apply ae|apply bB|apply eB|apply eu|apply ct|refine aQ rfl ?_|apply cq|apply ew|apply ep|apply jl|apply jj|refine jt rfl ?_|apply jn|apply jw|apply eC|exact dL|(intro _;simp only[cf,ci,cm,List.map,List.cons_append,List.nil_append])|intro _
  ·have hc:decide ((i:Int)<((da.2.2.1).length:Int))=false:=decide_eq_false qO
   refine aB h ?_
   clear h
   repeat' first|kernel_rfl|apply cx|apply cy|apply cE|apply ar (id:=24) [(225,false),(241,false)] [] 44|apply ar (id:=29) [(277,false)] [] 28|apply az|apply aW|refine @bG.cons _ _ _ _ inferInstance ?_|refine @bE.cons _ _ _ inferInstance ?_|apply cu|apply cB|apply co|apply cA|apply cp|apply cw|refine fK rfl inferInstance dL qK ?_|refine jz rfl inferInstance rfl qK ?_|refine jh rfl inferInstance qK ?_|apply ae|apply bB|apply eB|apply eu|apply ct|refine aQ rfl ?_|apply cq|apply ew|apply ep|apply jl|apply jj|refine jt rfl ?_|apply jn|apply jw|apply eC|exact dL|(intro _;simp only[cf,ci,cm,List.map,List.cons_append,List.nil_append])|intro _
   refine aY fun a w h=> ?_
   refine aO (fun k a u=>∃ i:Nat,i+k=(da.2.2.2.1).length∧TS w0 (r2::r1::X) [(r2, .ra aw da),(r1, .ra aw da)] [(11, .is (.int .i64 (i:Int))),(2, .is (.pointer (some ⟨r1,0,none⟩))),(3, .is (.pointer (some ⟨r2,0,none⟩)))] 293 a u) (da.2.2.2.1).length ⟨0,by omega,h.keep [11,2,3]⟩ ?_
   clear h
   rintro k a u ⟨i,hi,h⟩
   by_cases hlt:i<(da.2.2.2.1).length
   ·obtain ⟨x,hx⟩:∃ x,(da.2.2.2.1)[i]? =some x:=⟨_,List.getElem?_eq_getElem hlt⟩
    have hc:decide ((i:Int)<((da.2.2.2.1).length:Int))=true:=decide_eq_true qO
    have hw:IntKind.i64.wrap ((i:Int)+1)=((i+1:Nat):Int):=aA qO qO
    have hh:=hf3 x (List.mem_of_getElem? hx)
    have n0:(x.1 != x.1)=false:=bh _
    have n1:(x.2.1 != x.2.1)=false:=bh _
    have n2:(x.2.2.1 != x.2.2.1)=false:=bh _
    have n3:(x.2.2.2.1 != x.2.2.2.1)=false:=bh _
    have n4:(x.2.2.2.2.1 != x.2.2.2.2.1)=false:=bh _
    have n5:(x.2.2.2.2.2.1 != x.2.2.2.2.2.1)=false:=bh _
    have k6:=fA (da:=x.2.2.2.2.2.2) hh
    refine aB h ?_
    clear h
    repeat' first|kernel_rfl|(apply pM (id:=18) 13 [(12, .ra a7 ky, .ra a7 x),(13, .ra a7 ky, .ra a7 ky)];(focus repeat' first|exact eR.nil|(apply eR.alloc (d:=12) (Z:= .ra a7 ky) (T:= .ra a7 x) (hv:= .head _);(focus infer_instance))|(apply eR.put (d:=12) (x:=151) (Z:= .ra a7 ky) (T:= .ra a7 x) (k:=10) (k0:=10) (ag:=true) (ag0:=true) (hv:= .head _) (ho:=ck.mem) (z:=inferInstance) (z0:=inferInstance) (hk:=rfl);(focus kernel_rfl))|(apply eR.alloc (d:=13) (Z:= .ra a7 ky) (T:= .ra a7 ky) (hv:= .tail _ (.head _));(focus infer_instance))|apply eR.cons|exact dt|exact du|exact bm|exact gW qL|exact fO|kernel_rfl);(focus kernel_rfl);(focus kernel_rfl);(focus (intro v hv;simp only [List.mem_cons,List.not_mem_nil,or_false] at hv;rcases hv with rfl|rfl;exact .inl rfl;exact .inr rfl));(focus kernel_rfl);intro r;simp only[List.map,List.cons_append,List.nil_append])|(refine vm ?_)|exact a8 fun _ _ h=>⟨k - 1,by omega,i+1,by omega,h.drop.drop.keep [11,2,3]⟩|apply cx|apply cy|apply cE|apply ar (id:=24) [(225,false),(241,false)] [] 44|apply ar (id:=29) [(277,false)] [] 28|apply az|apply aW|refine @bG.cons _ _ _ _ inferInstance ?_|refine @bE.cons _ _ _ inferInstance ?_|apply cu|apply cB|apply co|apply cA|apply cp|apply cw|refine fK rfl inferInstance (by first|exact sc trivial k6|exact dL) qK ?_|refine jz rfl inferInstance rfl qK ?_|refine jh rfl inferInstance qK ?_|apply ae|apply bB|apply eB|apply eu|apply ct|refine aQ rfl ?_|apply cq|apply ew|apply ep|apply jl|apply jj|refine jt rfl ?_|apply jn|apply jw|apply eC|exact sc trivial k6|exact dL|(intro _;simp only[cf,ci,cm,List.map,List.cons_append,List.nil_append])|intro _
   ·have hc:decide ((i:Int)<((da.2.2.2.1).length:Int))=false:=decide_eq_false qO
    refine aB h ?_
    clear h
    repeat' first|kernel_rfl|apply cx|apply cy|apply cE|apply ar (id:=24) [(225,false),(241,false)] [] 44|apply ar (id:=29) [(277,false)] [] 28|apply az|apply aW|refine @bG.cons _ _ _ _ inferInstance ?_|refine @bE.cons _ _ _ inferInstance ?_|apply cu|apply cB|apply co|apply cA|apply cp|apply cw|refine fK rfl inferInstance (by first|exact sc trivial k6|exact dL) qK ?_|refine jz rfl inferInstance rfl qK ?_|refine jh rfl inferInstance qK ?_|apply ae|apply bB|apply eB|apply eu|apply ct|refine aQ rfl ?_|apply cq|apply ew|apply ep|apply jl|apply jj|refine jt rfl ?_|apply jn|apply jw|apply eC|exact sc trivial k6|exact dL|(intro _;simp only[cf,ci,cm,List.map,List.cons_append,List.nil_append])|intro _
    refine aY fun a w h=> ?_
    refine aO (fun k a u=>∃ i:Nat,i+k=(da.2.2.2.2.1).length∧TS w0 (r2::r1::X) [(r2, .ra aw da),(r1, .ra aw da)] [(14, .is (.int .i64 (i:Int))),(2, .is (.pointer (some ⟨r1,0,none⟩))),(3, .is (.pointer (some ⟨r2,0,none⟩)))] 293 a u) (da.2.2.2.2.1).length ⟨0,by omega,h.keep [14,2,3]⟩ ?_
    clear h
    rintro k a u ⟨i,hi,h⟩
    by_cases hlt:i<(da.2.2.2.2.1).length
    ·obtain ⟨x,hx⟩:∃ x,(da.2.2.2.2.1)[i]? =some x:=⟨_,List.getElem?_eq_getElem hlt⟩
     have hc:decide ((i:Int)<((da.2.2.2.2.1).length:Int))=true:=decide_eq_true qO
     have hw:IntKind.i64.wrap ((i:Int)+1)=((i+1:Nat):Int):=aA qO qO
     have hh:=hf4 x (List.mem_of_getElem? hx)
     have n0:(x.1 != x.1)=false:=bh _
     have k1:=fA (da:=x.2.1) hh.1
     have k2:=fA (da:=x.2.2) hh.2
     refine aB h ?_
     clear h
     repeat' first|kernel_rfl|exact a8 fun _ _ h=>⟨k - 1,by omega,i+1,by omega,h.keep [14,2,3]⟩|apply cx|apply cy|apply cE|apply ar (id:=24) [(225,false),(241,false)] [] 44|apply ar (id:=29) [(277,false)] [] 28|apply az|apply aW|refine @bG.cons _ _ _ _ inferInstance ?_|refine @bE.cons _ _ _ inferInstance ?_|apply cu|apply cB|apply co|apply cA|apply cp|apply cw|refine fK rfl inferInstance dL qK ?_|refine jz rfl inferInstance rfl qK ?_|refine jh rfl inferInstance qK ?_|apply ae|apply bB|apply eB|apply eu|apply ct|refine aQ rfl ?_|apply cq|apply ew|apply ep|apply jl|apply jj|refine jt rfl ?_|apply jn|apply jw|apply eC|exact dL|(intro _;simp only[cf,ci,cm,List.map,List.cons_append,List.nil_append])|intro _
    ·have hc:decide ((i:Int)<((da.2.2.2.2.1).length:Int))=false:=decide_eq_false qO
     refine aB h ?_
     clear h
     repeat' first|kernel_rfl|apply cx|apply cy|apply cE|apply ar (id:=24) [(225,false),(241,false)] [] 44|apply ar (id:=29) [(277,false)] [] 28|apply az|apply aW|refine @bG.cons _ _ _ _ inferInstance ?_|refine @bE.cons _ _ _ inferInstance ?_|apply cu|apply cB|apply co|apply cA|apply cp|apply cw|refine fK rfl inferInstance dL qK ?_|refine jz rfl inferInstance rfl qK ?_|refine jh rfl inferInstance qK ?_|apply ae|apply bB|apply eB|apply eu|apply ct|refine aQ rfl ?_|apply cq|apply ew|apply ep|apply jl|apply jj|refine jt rfl ?_|apply jn|apply jw|apply eC|exact dL|(intro _;simp only[cf,ci,cm,List.map,List.cons_append,List.nil_append])|intro _
     refine aY fun a w h=> ?_
     refine aO (fun k a u=>∃ i:Nat,i+k=(da.2.2.2.2.2).length∧TS w0 (r2::r1::X) [(r2, .ra aw da),(r1, .ra aw da)] [(15, .is (.int .i64 (i:Int))),(2, .is (.pointer (some ⟨r1,0,none⟩))),(3, .is (.pointer (some ⟨r2,0,none⟩)))] 293 a u) (da.2.2.2.2.2).length ⟨0,by omega,h.keep [15,2,3]⟩ ?_
     clear h
     rintro k a u ⟨i,hi,h⟩
     by_cases hlt:i<(da.2.2.2.2.2).length
     ·obtain ⟨x,hx⟩:∃ x,(da.2.2.2.2.2)[i]? =some x:=⟨_,List.getElem?_eq_getElem hlt⟩
      have hc:decide ((i:Int)<((da.2.2.2.2.2).length:Int))=true:=decide_eq_true qO
      have hw:IntKind.i64.wrap ((i:Int)+1)=((i+1:Nat):Int):=aA qO qO
      have hh:=hf5 x (List.mem_of_getElem? hx)
      have n0:(x.1 != x.1)=false:=bh _
      have k1:=fA (da:=x.2) hh
      refine aB h ?_
      clear h
      repeat' first|kernel_rfl|exact a8 fun _ _ h=>⟨k - 1,by omega,i+1,by omega,h.keep [15,2,3]⟩|apply cx|apply cy|apply cE|apply ar (id:=24) [(225,false),(241,false)] [] 44|apply ar (id:=29) [(277,false)] [] 28|apply az|apply aW|refine @bG.cons _ _ _ _ inferInstance ?_|refine @bE.cons _ _ _ inferInstance ?_|apply cu|apply cB|apply co|apply cA|apply cp|apply cw|refine fK rfl inferInstance dL qK ?_|refine jz rfl inferInstance rfl qK ?_|refine jh rfl inferInstance qK ?_|apply ae|apply bB|apply eB|apply eu|apply ct|refine aQ rfl ?_|apply cq|apply ew|apply ep|apply jl|apply jj|refine jt rfl ?_|apply jn|apply jw|apply eC|exact dL|(intro _;simp only[cf,ci,cm,List.map,List.cons_append,List.nil_append])|intro _
     ·have hc:decide ((i:Int)<((da.2.2.2.2.2).length:Int))=false:=decide_eq_false qO
      refine aB h ?_
      clear h
      repeat' first|kernel_rfl|apply cx|apply cy|apply cE|apply ar (id:=24) [(225,false),(241,false)] [] 44|apply ar (id:=29) [(277,false)] [] 28|apply az|apply aW|refine @bG.cons _ _ _ _ inferInstance ?_|refine @bE.cons _ _ _ inferInstance ?_|apply cu|apply cB|apply co|apply cA|apply cp|apply cw|refine fK rfl inferInstance dL qK ?_|refine jz rfl inferInstance rfl qK ?_|refine jh rfl inferInstance qK ?_|apply ae|apply bB|apply eB|apply eu|apply ct|refine aQ rfl ?_|apply cq|apply ew|apply ep|apply jl|apply jj|refine jt rfl ?_|apply jn|apply jw|apply eC|exact dL|(intro _;simp only[cf,ci,cm,List.map,List.cons_append,List.nil_append])|intro _
theorem Er {da:aj} (hf:nf da) (hn:qX da):bW Tryz.prog S1 10 [0,0] [.ra ab da, .ra ab da] (fun _=> .is (.bool true)):=by
 have hb1:=hn.br
 have hb2:=hn.cl
 have hb3:=hn.en
 have hb4:=hn.ys
 have e0:(da.1 != da.1)=false:=bh _
 have e1:(da.2.1 != da.2.1)=false:=bh _
 have hl0:(((da.2.2.1).length:Int) != ((da.2.2.1).length:Int))=false:=bh _
 have hl1:(((da.2.2.2.2.2.2.2.2.2.2.1).length:Int) != ((da.2.2.2.2.2.2.2.2.2.2.1).length:Int))=false:=bh _
 have hl2:(((da.2.2.2.2.2.2.2.2.2.2.2.1).length:Int) != ((da.2.2.2.2.2.2.2.2.2.2.2.1).length:Int))=false:=bh _
 have hl3:(((da.2.2.2.2.2.2.2.2.2.2.2.2).length:Int) != ((da.2.2.2.2.2.2.2.2.2.2.2.2).length:Int))=false:=bh _
 have q0:=fA (da:=da.2.2.2.1) hf.thr
 have q1:=fA (da:=da.2.2.2.2.1) hf.cap
 have n2:(da.2.2.2.2.2.1 != da.2.2.2.2.2.1)=false:=bh _
 have n3:(da.2.2.2.2.2.2.1 != da.2.2.2.2.2.2.1)=false:=bh _
 have q4:=fA (da:=da.2.2.2.2.2.2.2.1) hf.int
 have q5:=fA (da:=da.2.2.2.2.2.2.2.2.1) hf.flo
 have n6:(da.2.2.2.2.2.2.2.2.2.1 != da.2.2.2.2.2.2.2.2.2.1)=false:=bh _
 refine Jr Tryz.func10 rfl Tryz.ntmps10 qE (fun _ _=>by kernel_rfl) fun X w0 hE=> ?_
 simp only [eK,Nat.zero_add,Nat.reduceAdd]
 repeat' first|kernel_rfl|apply cx|apply cy|apply cE|apply ar (id:=8) [(129,false)] [] 29|apply ar (id:=13) [(165,false),(180,false)] [] 43|apply ar (id:=18) [] [] 10|apply ar (id:=23) [] [] 11|apply az|apply aW|refine @bG.cons _ _ _ _ inferInstance ?_|refine @bE.cons _ _ _ inferInstance ?_|apply cu|apply cB|apply co|apply cA|apply cp|apply cw|refine fK rfl inferInstance (by first|exact sc trivial q0|exact sc trivial q1|exact sc trivial q4|exact sc trivial q5|exact dL) qK ?_|refine jz rfl inferInstance rfl qK ?_|refine jh rfl inferInstance qK ?_|apply ae|apply bB|apply eB|apply eu|apply ct|refine aQ rfl ?_|apply cq|apply ew|apply ep|apply jl|apply jj|refine jt rfl ?_|apply jn|apply jw|apply eC|exact sc trivial q0|exact sc trivial q1|exact sc trivial q4|exact sc trivial q5|exact dL|(intro _;simp only[cf,ci,cm,List.map,List.cons_append,List.nil_append])|intro _
 refine aY fun a w h=> ?_
 rename_i r1 r2
 refine aO (fun k a u=>∃ i:Nat,i+k=(da.2.2.1).length∧TS w0 (r2::r1::X) [(r2, .ra ab da),(r1, .ra ab da)] [(5, .is (.int .i64 (i:Int))),(2, .is (.pointer (some ⟨r1,0,none⟩))),(3, .is (.pointer (some ⟨r2,0,none⟩)))] 233 a u) (da.2.2.1).length ⟨0,by omega,h.keep [5,2,3]⟩ ?_
 clear h
 rintro k a u ⟨i,hi,h⟩
 by_cases hlt:i<(da.2.2.1).length
 ·obtain ⟨x,hx⟩:∃ x,(da.2.2.1)[i]? =some x:=⟨_,List.getElem?_eq_getElem hlt⟩
  have hc:decide ((i:Int)<((da.2.2.1).length:Int))=true:=decide_eq_true qO
  have hw:IntKind.i64.wrap ((i:Int)+1)=((i+1:Nat):Int):=aA qO qO
  have hh:=hf.brk x (List.mem_of_getElem? hx)
  have k0:=fA (da:=x.1) hh.1
  have k1:=fA (da:=x.2) hh.2
  refine aB h ?_
  clear h
  repeat' first|kernel_rfl|exact a8 fun _ _ h=>⟨k - 1,by omega,i+1,by omega,h.keep [5,2,3]⟩|apply cx|apply cy|apply cE|apply ar (id:=8) [(129,false)] [] 29|apply ar (id:=13) [(165,false),(180,false)] [] 43|apply ar (id:=18) [] [] 10|apply ar (id:=23) [] [] 11|apply az|apply aW|refine @bG.cons _ _ _ _ inferInstance ?_|refine @bE.cons _ _ _ inferInstance ?_|apply cu|apply cB|apply co|apply cA|apply cp|apply cw|refine fK rfl inferInstance dL qK ?_|refine jz rfl inferInstance rfl qK ?_|refine jh rfl inferInstance qK ?_|apply ae|apply bB|apply eB|apply eu|apply ct|refine aQ rfl ?_|apply cq|apply ew|apply ep|apply jl|apply jj|refine jt rfl ?_|apply jn|apply jw|apply eC|exact dL|(intro _;simp only[cf,ci,cm,List.map,List.cons_append,List.nil_append])|intro _
 ·have hc:decide ((i:Int)<((da.2.2.1).length:Int))=false:=decide_eq_false qO
  refine aB h ?_
  clear h
  repeat' first|kernel_rfl|apply cx|apply cy|apply cE|apply ar (id:=8) [(129,false)] [] 29|apply ar (id:=13) [(165,false),(180,false)] [] 43|apply ar (id:=18) [] [] 10|apply ar (id:=23) [] [] 11|apply az|apply aW|refine @bG.cons _ _ _ _ inferInstance ?_|refine @bE.cons _ _ _ inferInstance ?_|apply cu|apply cB|apply co|apply cA|apply cp|apply cw|refine fK rfl inferInstance dL qK ?_|refine jz rfl inferInstance rfl qK ?_|refine jh rfl inferInstance qK ?_|apply ae|apply bB|apply eB|apply eu|apply ct|refine aQ rfl ?_|apply cq|apply ew|apply ep|apply jl|apply jj|refine jt rfl ?_|apply jn|apply jw|apply eC|exact dL|(intro _;simp only[cf,ci,cm,List.map,List.cons_append,List.nil_append])|intro _
  refine aY fun a w h=> ?_
  refine aO (fun k a u=>∃ i:Nat,i+k=(da.2.2.2.2.2.2.2.2.2.2.1).length∧TS w0 (r2::r1::X) [(r2, .ra ab da),(r1, .ra ab da)] [(6, .is (.int .i64 (i:Int))),(2, .is (.pointer (some ⟨r1,0,none⟩))),(3, .is (.pointer (some ⟨r2,0,none⟩)))] 233 a u) (da.2.2.2.2.2.2.2.2.2.2.1).length ⟨0,by omega,h.keep [6,2,3]⟩ ?_
  clear h
  rintro k a u ⟨i,hi,h⟩
  by_cases hlt:i<(da.2.2.2.2.2.2.2.2.2.2.1).length
  ·obtain ⟨x,hx⟩:∃ x,(da.2.2.2.2.2.2.2.2.2.2.1)[i]? =some x:=⟨_,List.getElem?_eq_getElem hlt⟩
   have hc:decide ((i:Int)<((da.2.2.2.2.2.2.2.2.2.2.1).length:Int))=true:=decide_eq_true qO
   have hw:IntKind.i64.wrap ((i:Int)+1)=((i+1:Nat):Int):=aA qO qO
   have hh:=hf.cls x (List.mem_of_getElem? hx)
   have n0:(x.1 != x.1)=false:=bh _
   have n1:(x.2.1 != x.2.1)=false:=bh _
   have k2:=fA (da:=x.2.2) hh
   refine aB h ?_
   clear h
   repeat' first|kernel_rfl|exact a8 fun _ _ h=>⟨k - 1,by omega,i+1,by omega,h.keep [6,2,3]⟩|apply cx|apply cy|apply cE|apply ar (id:=8) [(129,false)] [] 29|apply ar (id:=13) [(165,false),(180,false)] [] 43|apply ar (id:=18) [] [] 10|apply ar (id:=23) [] [] 11|apply az|apply aW|refine @bG.cons _ _ _ _ inferInstance ?_|refine @bE.cons _ _ _ inferInstance ?_|apply cu|apply cB|apply co|apply cA|apply cp|apply cw|refine fK rfl inferInstance dL qK ?_|refine jz rfl inferInstance rfl qK ?_|refine jh rfl inferInstance qK ?_|apply ae|apply bB|apply eB|apply eu|apply ct|refine aQ rfl ?_|apply cq|apply ew|apply ep|apply jl|apply jj|refine jt rfl ?_|apply jn|apply jw|apply eC|exact dL|(intro _;simp only[cf,ci,cm,List.map,List.cons_append,List.nil_append])|intro _
  ·have hc:decide ((i:Int)<((da.2.2.2.2.2.2.2.2.2.2.1).length:Int))=false:=decide_eq_false qO
   refine aB h ?_
   clear h
   repeat' first|kernel_rfl|apply cx|apply cy|apply cE|apply ar (id:=8) [(129,false)] [] 29|apply ar (id:=13) [(165,false),(180,false)] [] 43|apply ar (id:=18) [] [] 10|apply ar (id:=23) [] [] 11|apply az|apply aW|refine @bG.cons _ _ _ _ inferInstance ?_|refine @bE.cons _ _ _ inferInstance ?_|apply cu|apply cB|apply co|apply cA|apply cp|apply cw|refine fK rfl inferInstance dL qK ?_|refine jz rfl inferInstance rfl qK ?_|refine jh rfl inferInstance qK ?_|apply ae|apply bB|apply eB|apply eu|apply ct|refine aQ rfl ?_|apply cq|apply ew|apply ep|apply jl|apply jj|refine jt rfl ?_|apply jn|apply jw|apply eC|exact dL|(intro _;simp only[cf,ci,cm,List.map,List.cons_append,List.nil_append])|intro _
   refine aY fun a w h=> ?_
   refine aO (fun k a u=>∃ i:Nat,i+k=(da.2.2.2.2.2.2.2.2.2.2.2.1).length∧TS w0 (r2::r1::X) [(r2, .ra ab da),(r1, .ra ab da)] [(7, .is (.int .i64 (i:Int))),(2, .is (.pointer (some ⟨r1,0,none⟩))),(3, .is (.pointer (some ⟨r2,0,none⟩)))] 233 a u) (da.2.2.2.2.2.2.2.2.2.2.2.1).length ⟨0,by omega,h.keep [7,2,3]⟩ ?_
   clear h
   rintro k a u ⟨i,hi,h⟩
   by_cases hlt:i<(da.2.2.2.2.2.2.2.2.2.2.2.1).length
   ·obtain ⟨x,hx⟩:∃ x,(da.2.2.2.2.2.2.2.2.2.2.2.1)[i]? =some x:=⟨_,List.getElem?_eq_getElem hlt⟩
    have hc:decide ((i:Int)<((da.2.2.2.2.2.2.2.2.2.2.2.1).length:Int))=true:=decide_eq_true qO
    have hw:IntKind.i64.wrap ((i:Int)+1)=((i+1:Nat):Int):=aA qO qO
    have hh:=True.intro
    have n0:(x != x)=false:=bh _
    refine aB h ?_
    clear h
    repeat' first|kernel_rfl|exact a8 fun _ _ h=>⟨k - 1,by omega,i+1,by omega,h.keep [7,2,3]⟩|apply cx|apply cy|apply cE|apply ar (id:=8) [(129,false)] [] 29|apply ar (id:=13) [(165,false),(180,false)] [] 43|apply ar (id:=18) [] [] 10|apply ar (id:=23) [] [] 11|apply az|apply aW|refine @bG.cons _ _ _ _ inferInstance ?_|refine @bE.cons _ _ _ inferInstance ?_|apply cu|apply cB|apply co|apply cA|apply cp|apply cw|refine fK rfl inferInstance dL qK ?_|refine jz rfl inferInstance rfl qK ?_|refine jh rfl inferInstance qK ?_|apply ae|apply bB|apply eB|apply eu|apply ct|refine aQ rfl ?_|apply cq|apply ew|apply ep|apply jl|apply jj|refine jt rfl ?_|apply jn|apply jw|apply eC|exact dL|(intro _;simp only[cf,ci,cm,List.map,List.cons_append,List.nil_append])|intro _
   ·have hc:decide ((i:Int)<((da.2.2.2.2.2.2.2.2.2.2.2.1).length:Int))=false:=decide_eq_false qO
    refine aB h ?_
    clear h
    repeat' first|kernel_rfl|apply cx|apply cy|apply cE|apply ar (id:=8) [(129,false)] [] 29|apply ar (id:=13) [(165,false),(180,false)] [] 43|apply ar (id:=18) [] [] 10|apply ar (id:=23) [] [] 11|apply az|apply aW|refine @bG.cons _ _ _ _ inferInstance ?_|refine @bE.cons _ _ _ inferInstance ?_|apply cu|apply cB|apply co|apply cA|apply cp|apply cw|refine fK rfl inferInstance dL qK ?_|refine jz rfl inferInstance rfl qK ?_|refine jh rfl inferInstance qK ?_|apply ae|apply bB|apply eB|apply eu|apply ct|refine aQ rfl ?_|apply cq|apply ew|apply ep|apply jl|apply jj|refine jt rfl ?_|apply jn|apply jw|apply eC|exact dL|(intro _;simp only[cf,ci,cm,List.map,List.cons_append,List.nil_append])|intro _
    refine aY fun a w h=> ?_
    refine aO (fun k a u=>∃ i:Nat,i+k=(da.2.2.2.2.2.2.2.2.2.2.2.2).length∧TS w0 (r2::r1::X) [(r2, .ra ab da),(r1, .ra ab da)] [(8, .is (.int .i64 (i:Int))),(2, .is (.pointer (some ⟨r1,0,none⟩))),(3, .is (.pointer (some ⟨r2,0,none⟩)))] 233 a u) (da.2.2.2.2.2.2.2.2.2.2.2.2).length ⟨0,by omega,h.keep [8,2,3]⟩ ?_
    clear h
    rintro k a u ⟨i,hi,h⟩
    by_cases hlt:i<(da.2.2.2.2.2.2.2.2.2.2.2.2).length
    ·obtain ⟨x,hx⟩:∃ x,(da.2.2.2.2.2.2.2.2.2.2.2.2)[i]? =some x:=⟨_,List.getElem?_eq_getElem hlt⟩
     have hc:decide ((i:Int)<((da.2.2.2.2.2.2.2.2.2.2.2.2).length:Int))=true:=decide_eq_true qO
     have hw:IntKind.i64.wrap ((i:Int)+1)=((i+1:Nat):Int):=aA qO qO
     have hh:=hf.yrs x (List.mem_of_getElem? hx)
     have k0:=vK (da:=x) hh (hn.yr x (List.mem_of_getElem? hx))
     refine aB h ?_
     clear h
     repeat' first|kernel_rfl|exact a8 fun _ _ h=>⟨k - 1,by omega,i+1,by omega,h.keep [8,2,3]⟩|apply cx|apply cy|apply cE|apply ar (id:=8) [(129,false)] [] 29|apply ar (id:=13) [(165,false),(180,false)] [] 43|apply ar (id:=18) [] [] 10|apply ar (id:=23) [] [] 11|apply az|apply aW|refine @bG.cons _ _ _ _ inferInstance ?_|refine @bE.cons _ _ _ inferInstance ?_|apply cu|apply cB|apply co|apply cA|apply cp|apply cw|refine fK rfl inferInstance dL qK ?_|refine jz rfl inferInstance rfl qK ?_|refine jh rfl inferInstance qK ?_|apply ae|apply bB|apply eB|apply eu|apply ct|refine aQ rfl ?_|apply cq|apply ew|apply ep|apply jl|apply jj|refine jt rfl ?_|apply jn|apply jw|apply eC|exact dL|(intro _;simp only[cf,ci,cm,List.map,List.cons_append,List.nil_append])|intro _
    ·have hc:decide ((i:Int)<((da.2.2.2.2.2.2.2.2.2.2.2.2).length:Int))=false:=decide_eq_false qO
     refine aB h ?_
     clear h
     repeat' first|kernel_rfl|apply cx|apply cy|apply cE|apply ar (id:=8) [(129,false)] [] 29|apply ar (id:=13) [(165,false),(180,false)] [] 43|apply ar (id:=18) [] [] 10|apply ar (id:=23) [] [] 11|apply az|apply aW|refine @bG.cons _ _ _ _ inferInstance ?_|refine @bE.cons _ _ _ inferInstance ?_|apply cu|apply cB|apply co|apply cA|apply cp|apply cw|refine fK rfl inferInstance dL qK ?_|refine jz rfl inferInstance rfl qK ?_|refine jh rfl inferInstance qK ?_|apply ae|apply bB|apply eB|apply eu|apply ct|refine aQ rfl ?_|apply cq|apply ew|apply ep|apply jl|apply jj|refine jt rfl ?_|apply jn|apply jw|apply eC|exact dL|(intro _;simp only[cf,ci,cm,List.map,List.cons_append,List.nil_append])|intro _
end Go.Proofs.YtpmhjieibebclaaGreatDoor
