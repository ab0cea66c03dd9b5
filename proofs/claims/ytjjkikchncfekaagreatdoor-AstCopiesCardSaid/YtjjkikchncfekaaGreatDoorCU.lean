/- tallageref08: Same, of what is the same. -/
import Derived.Test.YtjjkikchncfekaaGreatDoorCT
import Derived.Test.YtjjkikchncfekaaGreatDoorCY
set_option maxHeartbeats 40000000
set_option maxRecDepth 20000
set_option synthInstance.maxHeartbeats 400000
set_option synthInstance.maxSize 4000
set_option linter.unusedSimpArgs false
set_option linter.unusedVariables false
namespace Go.Proofs.YtjjkikchncfekaaGreatDoor
open Go Go.RowKit
theorem Gm {X:List Nat} {w:World} {v:Value} {xs:List Int} (h:(aa.rc Rp.limbs xs).holds X w v):(aa.rw (Rp.int .u32) tt xs).holds X w v:=by
 obtain ⟨A,n,c,e,⟨⟨g1,g2,g3,g4,g5⟩,hf⟩,_⟩:=h
 obtain rfl:v= .slice A n c:=by simpa using e
 refine ⟨fun _ _=>trivial,A,n,c,rfl,g1,g2,g3,g4,fun hn=> ?_⟩
 obtain ⟨b,off,rfl,hb,hc⟩:=g5 hn
 refine ⟨b,off,rfl,hf hn b rfl,fun j a ha=>⟨[.int .u32 a],fun i u hu=> ?_,rfl⟩⟩
 cases i with
 |zero=>
  have e:Value.int .u32 a=u:=by simpa using hu
  subst e
  have:=hc j a ha
  simpa [show (Rp.int .u32).k=1 from rfl] using this
 |succ i=>simp at hu
section
variable {w00:World} {N:Nat} {L:List Loc} {E:List (Nat×aa)} {d:Nat} {t0:TypeId} {pos:String} {af:Array Edge} {gd:Option (Nat×Bool)}
theorem DC {o0 o1:Operand} {x y:Bool} {t1:TypeId} {u:Bool} [h0:cb E o0 (.is (.bool x))] [h1:cb E o1 (.is (.bool y))] (hu:(x != y)=u):ay Tryz.prog w00 N L E ⟨some d, .binOp .neq 4 o0 o1 t1,t0,pos,af,gd⟩ (.is (.bool u)):=by
 constructor
 intro X ρ w hc _ hN hm hsl
 have e0:ρ o0= .bool x:=h0.get (X:=X) (w:=w) hc fun p hp e=>hsl p hp qS
 have e1:ρ o1= .bool y:=h1.get (X:=X) (w:=w) hc fun p hp e=>hsl p hp qS
 clear hc hsl h0 h1
 unfold Yields
 have hb:=Tryz.underlying4
 subst hu
 cases x<;>cases y<;>go_simp<;>exact ⟨rfl,Below.refl _ _⟩
end
instance {x:eS}:ai (.ra Rp.num x) 0 1 false (.is (.bool x.1)):=ai.cell (r':=Rp.bool) (g:=fun (x:eS)=>x.1) a8.fst ⟨rfl⟩ inferInstance
instance {x:eS}:ai (.ra Rp.num x) 1 1 false (.rw (Rp.int .u32) tt x.2):=ai.cell (r':=Rp.limbs) (g:=fun (x:eS)=>x.2) (a8.tail (n:=1) (k:=1) ⟨rfl⟩ a8.self rfl) ⟨rfl⟩ ⟨fun h=>Gm h⟩
instance Jc:eP Tryz.prog 38 2 true:=⟨⟨_,Tryz.underlying38,rfl⟩,by kernel_rfl⟩
instance {x:aP}:ai (.ra Rp.frac x) 0 2 true (.ra Rp.num x.1):=ai.agg (g:=fun (x:aP)=>x.1) a8.fst ⟨rfl⟩
instance {x:aP}:ai (.ra Rp.frac x) 2 2 true (.ra Rp.num x.2):=ai.agg (g:=fun (x:aP)=>x.2) (a8.tail (n:=2) (k:=2) ⟨rfl⟩ a8.self rfl) ⟨rfl⟩
theorem bi {α:Type} [BEq α] [LawfulBEq α] (x:α):(x != x)=false:=by
 show (!(x==x))=false
 rw [beq_self_eq_true]
 rfl
theorem dE {p:Prop} (h:p:=by first|exact lj (by assumption)|exact jy|exact pn|exact iW|exact lk (by assumption)|exact o_|exact z7 (by first|assumption|rfl)|exact DC (by first|assumption|rfl)|exact s_ (by first|assumption|rfl)|exact cZ|exact cQ|exact c_|exact bC|exact pG|exact pF|exact gB|exact gw|exact dK (b:=true) (u:=false) rfl|exact dK (b:=false) (u:=true) rfl|exact dK rfl|exact iY (by first|assumption|rfl)|exact dB (by assumption)|exact dc|exact dW.nil|exact eM.nil|exact eI.nil|exact sc trivial k0|exact sc trivial k1|exact sc trivial k2|exact Cv.rfl'):p:=h
theorem um {da:eS} (hb:da.2.length≤1000):bJ Tryz.prog S1 100 [0,0] [.ra Rp.num da, .ra Rp.num da] (fun _=> .is (.bool true)):=by
 have e0:(da.1 != da.1)=false:=bi _
 have hl0:(((da.2).length:Int) != ((da.2).length:Int))=false:=bi _
 refine cr Tryz.func100 Tryz.ntmps100 fun X w0 hE=> ?_
 repeat' first|kernel_rfl|apply Bt.mk|refine nx ?_|apply aw (id:=6) [] [] 10|apply aG|apply be|infer_instance|refine bl rfl dE ?_|refine bj rfl ?_|refine bm rfl ?_|apply ae|refine bc rfl ?_|exact dE|intro _
 refine aK fun a w h=> ?_
 rename_i r1 r2
 refine aD (fun k a u=>∃ i:Nat,i+k=(da.2).length∧TS w0 (r2::r1::X) [(r2, .ra Rp.num da),(r1, .ra Rp.num da)] [(5, .is (.int .i64 (i:Int))),(2, .is (.pointer (some ⟨r1,0,none⟩))),(3, .is (.pointer (some ⟨r2,0,none⟩)))] 38 a u) (da.2).length ⟨0,by omega,h.keep [5,2,3]⟩ ?_
 clear h
 rintro k a u ⟨i,hi,h⟩
 by_cases hlt:i<(da.2).length
 ·obtain ⟨x,hx⟩:∃ x,(da.2)[i]? =some x:=⟨_,List.getElem?_eq_getElem hlt⟩
  have hc:decide ((i:Int)<((da.2).length:Int))=true:=decide_eq_true qO
  have hw:IntKind.i64.wrap ((i:Int)+1)=((i+1:Nat):Int):=ak qO qO
  have n0:(x != x)=false:=bi _
  refine aB h ?_
  clear h
  repeat' first|kernel_rfl|exact aQ fun _ _ h=>⟨k - 1,by omega,i+1,by omega,h.keep [5,2,3]⟩|apply Bt.mk|refine nx ?_|apply aw (id:=6) [] [] 10|apply aG|apply be|infer_instance|refine bl rfl dE ?_|refine bj rfl ?_|refine bm rfl ?_|apply ae|refine bc rfl ?_|exact dE|intro _
 ·have hc:decide ((i:Int)<((da.2).length:Int))=false:=decide_eq_false qO
  refine aB h ?_
  clear h
  repeat' first|kernel_rfl|apply Bt.mk|refine nx ?_|apply aw (id:=6) [] [] 10|apply aG|apply be|infer_instance|refine bl rfl dE ?_|refine bj rfl ?_|refine bm rfl ?_|apply ae|refine bc rfl ?_|exact dE|intro _
theorem fc {da:aP} (hb:cD 6 da):bJ Tryz.prog S1 41 [0,0] [.ra Rp.frac da, .ra Rp.frac da] (fun _=> .is (.bool true)):=by
 have k0:=um (da:=da.1) (by have:=hb.1;omega)
 have k1:=um (da:=da.2) (by have:=hb.2.1;omega)
 refine cr Tryz.func41 Tryz.ntmps41 fun X w hE=> ?_
 repeat' first|kernel_rfl|apply Bt.mk|refine nx ?_|refine bl rfl dE ?_|refine bj rfl ?_|refine bm rfl ?_|apply ae|refine bc rfl ?_|exact dE|intro _
instance I9:cH Tryz.prog 171 (.ra aZ iG):=eL.al
instance Ja:cH Tryz.prog 173 (.ra aY iH):=eN.al
instance I_:cH Tryz.prog 175 (.ra aI iR):=eJ.al
theorem uP {da:a_} (hf:p5 da) (hn:da.2.1.length≤40∧da.2.2.1.length≤40∧da.2.2.2.1.length≤40∧da.2.2.2.2.1.length≤40∧da.2.2.2.2.2.length≤40):bJ Tryz.prog S1 42 [0,0] [.ra aq da, .ra aq da] (fun _=> .is (.bool true)):=by
 obtain ⟨hn1,hn2,hn3,hn4,hn5⟩:=hn
 unfold p5 at hf
 obtain ⟨hf1,hf2,hf3,hf4,hf5⟩:=hf
 have e0:(da.1 != da.1)=false:=bi _
 have hl0:(((da.2.1).length:Int) != ((da.2.1).length:Int))=false:=bi _
 have hl1:(((da.2.2.1).length:Int) != ((da.2.2.1).length:Int))=false:=bi _
 have hl2:(((da.2.2.2.1).length:Int) != ((da.2.2.2.1).length:Int))=false:=bi _
 have hl3:(((da.2.2.2.2.1).length:Int) != ((da.2.2.2.2.1).length:Int))=false:=bi _
 have hl4:(((da.2.2.2.2.2).length:Int) != ((da.2.2.2.2.2).length:Int))=false:=bi _
 refine JC Tryz.func42 rfl Tryz.ntmps42 qE (fun _ _=>by kernel_rfl) fun X w0 hE=> ?_
 simp only [iq,Nat.zero_add,Nat.reduceAdd]
 repeat' first|kernel_rfl|apply bZ|apply b6|apply b_|apply aw (id:=24) [(225,false),(241,false)] [] 44|apply aw (id:=29) [(277,false)] [] 28|apply aG|apply be|refine @eM.cons _ _ _ _ inferInstance ?_|refine @eI.cons _ _ _ inferInstance ?_|apply bU|apply b9|apply bO|apply b7|apply bP|apply bW|refine Ih rfl inferInstance dE qK ?_|refine Jy rfl inferInstance rfl qK ?_|refine Ji rfl inferInstance qK ?_|apply ae|apply bk|apply dt|apply dp|apply bT|refine bc rfl ?_|apply bQ|apply dq|apply dm|apply ii|apply ig|refine ik rfl ?_|apply ij|apply il|apply du|exact dE|(intro _;simp only[fR,f6,gg,List.map,List.cons_append,List.nil_append])|intro _
 refine aK fun a w h=> ?_
 rename_i r1 r2
 refine aD (fun k a u=>∃ i:Nat,i+k=(da.2.1).length∧TS w0 (r2::r1::X) [(r2, .ra aq da),(r1, .ra aq da)] [(5, .is (.int .i64 (i:Int))),(2, .is (.pointer (some ⟨r1,0,none⟩))),(3, .is (.pointer (some ⟨r2,0,none⟩)))] 293 a u) (da.2.1).length ⟨0,by omega,h.keep [5,2,3]⟩ ?_
 clear h
 rintro k a u ⟨i,hi,h⟩
 by_cases hlt:i<(da.2.1).length
 ·obtain ⟨x,hx⟩:∃ x,(da.2.1)[i]? =some x:=⟨_,List.getElem?_eq_getElem hlt⟩
  have hc:decide ((i:Int)<((da.2.1).length:Int))=true:=decide_eq_true qO
  have hw:IntKind.i64.wrap ((i:Int)+1)=((i+1:Nat):Int):=ak qO qO
  have hh:=hf1 x (List.mem_of_getElem? hx)
  have n0:(x.1 != x.1)=false:=bi _
  have n1:(x.2.1 != x.2.1)=false:=bi _
  have k2:=fc (da:=x.2.2) hh
  refine aB h ?_
  clear h
  repeat' first|kernel_rfl|(apply sR (id:=6) 13 [(6, .ra aZ iG, .ra aZ x),(7, .ra aZ iG, .ra aZ iG)];(focus repeat' first|exact fQ.nil|(apply fQ.alloc (d:=6) (Z:= .ra aZ iG) (T:= .ra aZ x) (hv:= .head _);(focus infer_instance))|(apply fQ.put (d:=6) (x:=77) (Z:= .ra aZ iG) (T:= .ra aZ x) (k:=6) (k0:=6) (ag:=true) (ag0:=true) (hv:= .head _) (ho:=bH.mem) (z:=inferInstance) (z0:=inferInstance) (hk:=rfl);(focus kernel_rfl))|(apply fQ.alloc (d:=7) (Z:= .ra aZ iG) (T:= .ra aZ iG) (hv:= .tail _ (.head _));(focus infer_instance))|apply fQ.cons|exact cZ|exact c_|exact bC|exact lj qL|exact jy|kernel_rfl);(focus kernel_rfl);(focus kernel_rfl);(focus (intro v hv;simp only [List.mem_cons,List.not_mem_nil,or_false] at hv;rcases hv with rfl|rfl;exact .inl rfl;exact .inr rfl));(focus kernel_rfl);intro r;simp only[List.map,List.cons_append,List.nil_append])|(refine xL ?_)|exact aQ fun _ _ h=>⟨k - 1,by omega,i+1,by omega,h.drop.drop.keep [5,2,3]⟩|apply bZ|apply b6|apply b_|apply aw (id:=24) [(225,false),(241,false)] [] 44|apply aw (id:=29) [(277,false)] [] 28|apply aG|apply be|refine @eM.cons _ _ _ _ inferInstance ?_|refine @eI.cons _ _ _ inferInstance ?_|apply bU|apply b9|apply bO|apply b7|apply bP|apply bW|refine Ih rfl inferInstance dE qK ?_|refine Jy rfl inferInstance rfl qK ?_|refine Ji rfl inferInstance qK ?_|apply ae|apply bk|apply dt|apply dp|apply bT|refine bc rfl ?_|apply bQ|apply dq|apply dm|apply ii|apply ig|refine ik rfl ?_|apply ij|apply il|apply du|exact dE|(intro _;simp only[fR,f6,gg,List.map,List.cons_append,List.nil_append])|intro _
 ·have hc:decide ((i:Int)<((da.2.1).length:Int))=false:=decide_eq_false qO
  refine aB h ?_
  clear h
  repeat' first|kernel_rfl|apply bZ|apply b6|apply b_|apply aw (id:=24) [(225,false),(241,false)] [] 44|apply aw (id:=29) [(277,false)] [] 28|apply aG|apply be|refine @eM.cons _ _ _ _ inferInstance ?_|refine @eI.cons _ _ _ inferInstance ?_|apply bU|apply b9|apply bO|apply b7|apply bP|apply bW|refine Ih rfl inferInstance dE qK ?_|refine Jy rfl inferInstance rfl qK ?_|refine Ji rfl inferInstance qK ?_|apply ae|apply bk|apply dt|apply dp|apply bT|refine bc rfl ?_|apply bQ|apply dq|apply dm|apply ii|apply ig|refine ik rfl ?_|apply ij|apply il|apply du|exact dE|(intro _;simp only[fR,f6,gg,List.map,List.cons_append,List.nil_append])|intro _
  refine aK fun a w h=> ?_
  refine aD (fun k a u=>∃ i:Nat,i+k=(da.2.2.1).length∧TS w0 (r2::r1::X) [(r2, .ra aq da),(r1, .ra aq da)] [(8, .is (.int .i64 (i:Int))),(2, .is (.pointer (some ⟨r1,0,none⟩))),(3, .is (.pointer (some ⟨r2,0,none⟩)))] 293 a u) (da.2.2.1).length ⟨0,by omega,h.keep [8,2,3]⟩ ?_
  clear h
  rintro k a u ⟨i,hi,h⟩
  by_cases hlt:i<(da.2.2.1).length
  ·obtain ⟨x,hx⟩:∃ x,(da.2.2.1)[i]? =some x:=⟨_,List.getElem?_eq_getElem hlt⟩
   have hc:decide ((i:Int)<((da.2.2.1).length:Int))=true:=decide_eq_true qO
   have hw:IntKind.i64.wrap ((i:Int)+1)=((i+1:Nat):Int):=ak qO qO
   have hh:=hf2 x (List.mem_of_getElem? hx)
   have n0:(x.1 != x.1)=false:=bi _
   have n1:(x.2.1 != x.2.1)=false:=bi _
   have k2:=fc (da:=x.2.2) hh
   refine aB h ?_
   clear h
   repeat' first|kernel_rfl|(apply sR (id:=12) 13 [(9, .ra aY iH, .ra aY x),(10, .ra aY iH, .ra aY iH)];(focus repeat' first|exact fQ.nil|(apply fQ.alloc (d:=9) (Z:= .ra aY iH) (T:= .ra aY x) (hv:= .head _);(focus infer_instance))|(apply fQ.put (d:=9) (x:=114) (Z:= .ra aY iH) (T:= .ra aY x) (k:=6) (k0:=6) (ag:=true) (ag0:=true) (hv:= .head _) (ho:=bH.mem) (z:=inferInstance) (z0:=inferInstance) (hk:=rfl);(focus kernel_rfl))|(apply fQ.alloc (d:=10) (Z:= .ra aY iH) (T:= .ra aY iH) (hv:= .tail _ (.head _));(focus infer_instance))|apply fQ.cons|exact cZ|exact c_|exact bC|exact lj qL|exact jy|kernel_rfl);(focus kernel_rfl);(focus kernel_rfl);(focus (intro v hv;simp only [List.mem_cons,List.not_mem_nil,or_false] at hv;rcases hv with rfl|rfl;exact .inl rfl;exact .inr rfl));(focus kernel_rfl);intro r;simp only[List.map,List.cons_append,List.nil_append])|(refine xL ?_)|exact aQ fun _ _ h=>⟨k - 1,by omega,i+1,by omega,h.drop.drop.keep [8,2,3]⟩|apply bZ|apply b6|apply b_|apply aw (id:=24) [(225,false),(241,false)] [] 44|apply aw (id:=29) [(277,false)] [] 28|apply aG|apply be|refine @eM.cons _ _ _ _ inferInstance ?_|refine @eI.cons _ _ _ inferInstance ?_|apply bU|apply b9|apply bO|apply b7|apply bP|apply bW|refine Ih rfl inferInstance dE qK ?_|refine Jy rfl inferInstance rfl qK ?_|refine Ji rfl inferInstance qK ?_|apply ae|apply bk|apply dt|apply dp|apply bT|refine bc rfl ?_|apply bQ|apply dq|apply dm|apply ii|apply ig|refine ik rfl ?_|apply ij|apply il|apply du|exact dE|(intro _;simp only[fR,f6,gg,List.map,List.cons_append,List.nil_append])|intro _
  ·have hc:decide ((i:Int)<((da.2.2.1).length:Int))=false:=decide_eq_false qO
   refine aB h ?_
   clear h
   repeat' first|kernel_rfl|apply bZ|apply b6|apply b_|apply aw (id:=24) [(225,false),(241,false)] [] 44|apply aw (id:=29) [(277,false)] [] 28|apply aG|apply be|refine @eM.cons _ _ _ _ inferInstance ?_|refine @eI.cons _ _ _ inferInstance ?_|apply bU|apply b9|apply bO|apply b7|apply bP|apply bW|refine Ih rfl inferInstance dE qK ?_|refine Jy rfl inferInstance rfl qK ?_|refine Ji rfl inferInstance qK ?_|apply ae|apply bk|apply dt|apply dp|apply bT|refine bc rfl ?_|apply bQ|apply dq|apply dm|apply ii|apply ig|refine ik rfl ?_|apply ij|apply il|apply du|exact dE|(intro _;simp only[fR,f6,gg,List.map,List.cons_append,List.nil_append])|intro _
   refine aK fun a w h=> ?_
   refine aD (fun k a u=>∃ i:Nat,i+k=(da.2.2.2.1).length∧TS w0 (r2::r1::X) [(r2, .ra aq da),(r1, .ra aq da)] [(11, .is (.int .i64 (i:Int))),(2, .is (.pointer (some ⟨r1,0,none⟩))),(3, .is (.pointer (some ⟨r2,0,none⟩)))] 293 a u) (da.2.2.2.1).length ⟨0,by omega,h.keep [11,2,3]⟩ ?_
   clear h
   rintro k a u ⟨i,hi,h⟩
   by_cases hlt:i<(da.2.2.2.1).length
   ·obtain ⟨x,hx⟩:∃ x,(da.2.2.2.1)[i]? =some x:=⟨_,List.getElem?_eq_getElem hlt⟩
    have hc:decide ((i:Int)<((da.2.2.2.1).length:Int))=true:=decide_eq_true qO
    have hw:IntKind.i64.wrap ((i:Int)+1)=((i+1:Nat):Int):=ak qO qO
    have hh:=hf3 x (List.mem_of_getElem? hx)
    have n0:(x.1 != x.1)=false:=bi _
    have n1:(x.2.1 != x.2.1)=false:=bi _
    have n2:(x.2.2.1 != x.2.2.1)=false:=bi _
    have n3:(x.2.2.2.1 != x.2.2.2.1)=false:=bi _
    have n4:(x.2.2.2.2.1 != x.2.2.2.2.1)=false:=bi _
    have n5:(x.2.2.2.2.2.1 != x.2.2.2.2.2.1)=false:=bi _
    have k6:=fc (da:=x.2.2.2.2.2.2) hh
    refine aB h ?_
    clear h
    repeat' first|kernel_rfl|(apply sR (id:=18) 13 [(12, .ra aI iR, .ra aI x),(13, .ra aI iR, .ra aI iR)];(focus repeat' first|exact fQ.nil|(apply fQ.alloc (d:=12) (Z:= .ra aI iR) (T:= .ra aI x) (hv:= .head _);(focus infer_instance))|(apply fQ.put (d:=12) (x:=151) (Z:= .ra aI iR) (T:= .ra aI x) (k:=10) (k0:=10) (ag:=true) (ag0:=true) (hv:= .head _) (ho:=bH.mem) (z:=inferInstance) (z0:=inferInstance) (hk:=rfl);(focus kernel_rfl))|(apply fQ.alloc (d:=13) (Z:= .ra aI iR) (T:= .ra aI iR) (hv:= .tail _ (.head _));(focus infer_instance))|apply fQ.cons|exact cZ|exact c_|exact bC|exact lj qL|exact jy|kernel_rfl);(focus kernel_rfl);(focus kernel_rfl);(focus (intro v hv;simp only [List.mem_cons,List.not_mem_nil,or_false] at hv;rcases hv with rfl|rfl;exact .inl rfl;exact .inr rfl));(focus kernel_rfl);intro r;simp only[List.map,List.cons_append,List.nil_append])|(refine xL ?_)|exact aQ fun _ _ h=>⟨k - 1,by omega,i+1,by omega,h.drop.drop.keep [11,2,3]⟩|apply bZ|apply b6|apply b_|apply aw (id:=24) [(225,false),(241,false)] [] 44|apply aw (id:=29) [(277,false)] [] 28|apply aG|apply be|refine @eM.cons _ _ _ _ inferInstance ?_|refine @eI.cons _ _ _ inferInstance ?_|apply bU|apply b9|apply bO|apply b7|apply bP|apply bW|refine Ih rfl inferInstance (by first|exact sc trivial k6|exact dE) qK ?_|refine Jy rfl inferInstance rfl qK ?_|refine Ji rfl inferInstance qK ?_|apply ae|apply bk|apply dt|apply dp|apply bT|refine bc rfl ?_|apply bQ|apply dq|apply dm|apply ii|apply ig|refine ik rfl ?_|apply ij|apply il|apply du|exact sc trivial k6|exact dE|(intro _;simp only[fR,f6,gg,List.map,List.cons_append,List.nil_append])|intro _
   ·have hc:decide ((i:Int)<((da.2.2.2.1).length:Int))=false:=decide_eq_false qO
    refine aB h ?_
    clear h
    repeat' first|kernel_rfl|apply bZ|apply b6|apply b_|apply aw (id:=24) [(225,false),(241,false)] [] 44|apply aw (id:=29) [(277,false)] [] 28|apply aG|apply be|refine @eM.cons _ _ _ _ inferInstance ?_|refine @eI.cons _ _ _ inferInstance ?_|apply bU|apply b9|apply bO|apply b7|apply bP|apply bW|refine Ih rfl inferInstance (by first|exact sc trivial k6|exact dE) qK ?_|refine Jy rfl inferInstance rfl qK ?_|refine Ji rfl inferInstance qK ?_|apply ae|apply bk|apply dt|apply dp|apply bT|refine bc rfl ?_|apply bQ|apply dq|apply dm|apply ii|apply ig|refine ik rfl ?_|apply ij|apply il|apply du|exact sc trivial k6|exact dE|(intro _;simp only[fR,f6,gg,List.map,List.cons_append,List.nil_append])|intro _
    refine aK fun a w h=> ?_
    refine aD (fun k a u=>∃ i:Nat,i+k=(da.2.2.2.2.1).length∧TS w0 (r2::r1::X) [(r2, .ra aq da),(r1, .ra aq da)] [(14, .is (.int .i64 (i:Int))),(2, .is (.pointer (some ⟨r1,0,none⟩))),(3, .is (.pointer (some ⟨r2,0,none⟩)))] 293 a u) (da.2.2.2.2.1).length ⟨0,by omega,h.keep [14,2,3]⟩ ?_
    clear h
    rintro k a u ⟨i,hi,h⟩
    by_cases hlt:i<(da.2.2.2.2.1).length
    ·obtain ⟨x,hx⟩:∃ x,(da.2.2.2.2.1)[i]? =some x:=⟨_,List.getElem?_eq_getElem hlt⟩
     have hc:decide ((i:Int)<((da.2.2.2.2.1).length:Int))=true:=decide_eq_true qO
     have hw:IntKind.i64.wrap ((i:Int)+1)=((i+1:Nat):Int):=ak qO qO
     have hh:=hf4 x (List.mem_of_getElem? hx)
     have n0:(x.1 != x.1)=false:=bi _
     have k1:=fc (da:=x.2.1) hh.1
     have k2:=fc (da:=x.2.2) hh.2
     refine aB h ?_
     clear h
     repeat' first|kernel_rfl|exact aQ fun _ _ h=>⟨k - 1,by omega,i+1,by omega,h.keep [14,2,3]⟩|apply bZ|apply b6|apply b_|apply aw (id:=24) [(225,false),(241,false)] [] 44|apply aw (id:=29) [(277,false)] [] 28|apply aG|apply be|refine @eM.cons _ _ _ _ inferInstance ?_|refine @eI.cons _ _ _ inferInstance ?_|apply bU|apply b9|apply bO|apply b7|apply bP|apply bW|refine Ih rfl inferInstance dE qK ?_|refine Jy rfl inferInstance rfl qK ?_|refine Ji rfl inferInstance qK ?_|apply ae|apply bk|apply dt|apply dp|apply bT|refine bc rfl ?_|apply bQ|apply dq|apply dm|apply ii|apply ig|refine ik rfl ?_|apply ij|apply il|apply du|exact dE|(intro _;simp only[fR,f6,gg,List.map,List.cons_append,List.nil_append])|intro _
    ·have hc:decide ((i:Int)<((da.2.2.2.2.1).length:Int))=false:=decide_eq_false qO
     refine aB h ?_
     clear h
     repeat' first|kernel_rfl|apply bZ|apply b6|apply b_|apply aw (id:=24) [(225,false),(241,false)] [] 44|apply aw (id:=29) [(277,false)] [] 28|apply aG|apply be|refine @eM.cons _ _ _ _ inferInstance ?_|refine @eI.cons _ _ _ inferInstance ?_|apply bU|apply b9|apply bO|apply b7|apply bP|apply bW|refine Ih rfl inferInstance dE qK ?_|refine Jy rfl inferInstance rfl qK ?_|refine Ji rfl inferInstance qK ?_|apply ae|apply bk|apply dt|apply dp|apply bT|refine bc rfl ?_|apply bQ|apply dq|apply dm|apply ii|apply ig|refine ik rfl ?_|apply ij|apply il|apply du|exact dE|(intro _;simp only[fR,f6,gg,List.map,List.cons_append,List.nil_append])|intro _
     refine aK fun a w h=> ?_
     refine aD (fun k a u=>∃ i:Nat,i+k=(da.2.2.2.2.2).length∧TS w0 (r2::r1::X) [(r2, .ra aq da),(r1, .ra aq da)] [(15, .is (.int .i64 (i:Int))),(2, .is (.pointer (some ⟨r1,0,none⟩))),(3, .is (.pointer (some ⟨r2,0,none⟩)))] 293 a u) (da.2.2.2.2.2).length ⟨0,by omega,h.keep [15,2,3]⟩ ?_
     clear h
     rintro k a u ⟨i,hi,h⟩
     by_cases hlt:i<(da.2.2.2.2.2).length
     ·obtain ⟨x,hx⟩:∃ x,(da.2.2.2.2.2)[i]? =some x:=⟨_,List.getElem?_eq_getElem hlt⟩
      have hc:decide ((i:Int)<((da.2.2.2.2.2).length:Int))=true:=decide_eq_true qO
      have hw:IntKind.i64.wrap ((i:Int)+1)=((i+1:Nat):Int):=ak qO qO
      have hh:=hf5 x (List.mem_of_getElem? hx)
      have n0:(x.1 != x.1)=false:=bi _
      have k1:=fc (da:=x.2) hh
      refine aB h ?_
      clear h
      repeat' first|kernel_rfl|exact aQ fun _ _ h=>⟨k - 1,by omega,i+1,by omega,h.keep [15,2,3]⟩|apply bZ|apply b6|apply b_|apply aw (id:=24) [(225,false),(241,false)] [] 44|apply aw (id:=29) [(277,false)] [] 28|apply aG|apply be|refine @eM.cons _ _ _ _ inferInstance ?_|refine @eI.cons _ _ _ inferInstance ?_|apply bU|apply b9|apply bO|apply b7|apply bP|apply bW|refine Ih rfl inferInstance dE qK ?_|refine Jy rfl inferInstance rfl qK ?_|refine Ji rfl inferInstance qK ?_|apply ae|apply bk|apply dt|apply dp|apply bT|refine bc rfl ?_|apply bQ|apply dq|apply dm|apply ii|apply ig|refine ik rfl ?_|apply ij|apply il|apply du|exact dE|(intro _;simp only[fR,f6,gg,List.map,List.cons_append,List.nil_append])|intro _
     ·have hc:decide ((i:Int)<((da.2.2.2.2.2).length:Int))=false:=decide_eq_false qO
      refine aB h ?_
      clear h
      repeat' first|kernel_rfl|apply bZ|apply b6|apply b_|apply aw (id:=24) [(225,false),(241,false)] [] 44|apply aw (id:=29) [(277,false)] [] 28|apply aG|apply be|refine @eM.cons _ _ _ _ inferInstance ?_|refine @eI.cons _ _ _ inferInstance ?_|apply bU|apply b9|apply bO|apply b7|apply bP|apply bW|refine Ih rfl inferInstance dE qK ?_|refine Jy rfl inferInstance rfl qK ?_|refine Ji rfl inferInstance qK ?_|apply ae|apply bk|apply dt|apply dp|apply bT|refine bc rfl ?_|apply bQ|apply dq|apply dm|apply ii|apply ig|refine ik rfl ?_|apply ij|apply il|apply du|exact dE|(intro _;simp only[fR,f6,gg,List.map,List.cons_append,List.nil_append])|intro _
theorem DE {da:am} (hf:sK da) (hn:ox da):bJ Tryz.prog S1 9 [0,0] [.ra ab da, .ra ab da] (fun _=> .is (.bool true)):=by
 have hb1:=hn.br
 have hb2:=hn.cl
 have hb3:=hn.en
 have hb4:=hn.ys
 have e0:(da.1 != da.1)=false:=bi _
 have e1:(da.2.1 != da.2.1)=false:=bi _
 have hl0:(((da.2.2.1).length:Int) != ((da.2.2.1).length:Int))=false:=bi _
 have hl1:(((da.2.2.2.2.2.2.2.2.2.2.1).length:Int) != ((da.2.2.2.2.2.2.2.2.2.2.1).length:Int))=false:=bi _
 have hl2:(((da.2.2.2.2.2.2.2.2.2.2.2.1).length:Int) != ((da.2.2.2.2.2.2.2.2.2.2.2.1).length:Int))=false:=bi _
 have hl3:(((da.2.2.2.2.2.2.2.2.2.2.2.2).length:Int) != ((da.2.2.2.2.2.2.2.2.2.2.2.2).length:Int))=false:=bi _
 have q0:=fc (da:=da.2.2.2.1) hf.thr
 have q1:=fc (da:=da.2.2.2.2.1) hf.cap
 have n2:(da.2.2.2.2.2.1 != da.2.2.2.2.2.1)=false:=bi _
 have n3:(da.2.2.2.2.2.2.1 != da.2.2.2.2.2.2.1)=false:=bi _
 have q4:=fc (da:=da.2.2.2.2.2.2.2.1) hf.int
 have q5:=fc (da:=da.2.2.2.2.2.2.2.2.1) hf.flo
 have n6:(da.2.2.2.2.2.2.2.2.2.1 != da.2.2.2.2.2.2.2.2.2.1)=false:=bi _
 refine JC Tryz.func9 rfl Tryz.ntmps9 qE (fun _ _=>by kernel_rfl) fun X w0 hE=> ?_
 simp only [iq,Nat.zero_add,Nat.reduceAdd]
 repeat' first|kernel_rfl|apply bZ|apply b6|apply b_|apply aw (id:=8) [(129,false)] [] 29|apply aw (id:=13) [(165,false),(180,false)] [] 43|apply aw (id:=18) [] [] 10|apply aw (id:=23) [] [] 11|apply aG|apply be|refine @eM.cons _ _ _ _ inferInstance ?_|refine @eI.cons _ _ _ inferInstance ?_|apply bU|apply b9|apply bO|apply b7|apply bP|apply bW|refine Ih rfl inferInstance (by first|exact sc trivial q0|exact sc trivial q1|exact sc trivial q4|exact sc trivial q5|exact dE) qK ?_|refine Jy rfl inferInstance rfl qK ?_|refine Ji rfl inferInstance qK ?_|apply ae|apply bk|apply dt|apply dp|apply bT|refine bc rfl ?_|apply bQ|apply dq|apply dm|apply ii|apply ig|refine ik rfl ?_|apply ij|apply il|apply du|exact sc trivial q0|exact sc trivial q1|exact sc trivial q4|exact sc trivial q5|exact dE|(intro _;simp only[fR,f6,gg,List.map,List.cons_append,List.nil_append])|intro _
 refine aK fun a w h=> ?_
 rename_i r1 r2
 refine aD (fun k a u=>∃ i:Nat,i+k=(da.2.2.1).length∧TS w0 (r2::r1::X) [(r2, .ra ab da),(r1, .ra ab da)] [(5, .is (.int .i64 (i:Int))),(2, .is (.pointer (some ⟨r1,0,none⟩))),(3, .is (.pointer (some ⟨r2,0,none⟩)))] 233 a u) (da.2.2.1).length ⟨0,by omega,h.keep [5,2,3]⟩ ?_
 clear h
 rintro k a u ⟨i,hi,h⟩
 by_cases hlt:i<(da.2.2.1).length
 ·obtain ⟨x,hx⟩:∃ x,(da.2.2.1)[i]? =some x:=⟨_,List.getElem?_eq_getElem hlt⟩
  have hc:decide ((i:Int)<((da.2.2.1).length:Int))=true:=decide_eq_true qO
  have hw:IntKind.i64.wrap ((i:Int)+1)=((i+1:Nat):Int):=ak qO qO
  have hh:=hf.brk x (List.mem_of_getElem? hx)
  have k0:=fc (da:=x.1) hh.1
  have k1:=fc (da:=x.2) hh.2
  refine aB h ?_
  clear h
  repeat' first|kernel_rfl|exact aQ fun _ _ h=>⟨k - 1,by omega,i+1,by omega,h.keep [5,2,3]⟩|apply bZ|apply b6|apply b_|apply aw (id:=8) [(129,false)] [] 29|apply aw (id:=13) [(165,false),(180,false)] [] 43|apply aw (id:=18) [] [] 10|apply aw (id:=23) [] [] 11|apply aG|apply be|refine @eM.cons _ _ _ _ inferInstance ?_|refine @eI.cons _ _ _ inferInstance ?_|apply bU|apply b9|apply bO|apply b7|apply bP|apply bW|refine Ih rfl inferInstance dE qK ?_|refine Jy rfl inferInstance rfl qK ?_|refine Ji rfl inferInstance qK ?_|apply ae|apply bk|apply dt|apply dp|apply bT|refine bc rfl ?_|apply bQ|apply dq|apply dm|apply ii|apply ig|refine ik rfl ?_|apply ij|apply il|apply du|exact dE|(intro _;simp only[fR,f6,gg,List.map,List.cons_append,List.nil_append])|intro _
 ·have hc:decide ((i:Int)<((da.2.2.1).length:Int))=false:=decide_eq_false qO
  refine aB h ?_
  clear h
  repeat' first|kernel_rfl|apply bZ|apply b6|apply b_|apply aw (id:=8) [(129,false)] [] 29|apply aw (id:=13) [(165,false),(180,false)] [] 43|apply aw (id:=18) [] [] 10|apply aw (id:=23) [] [] 11|apply aG|apply be|refine @eM.cons _ _ _ _ inferInstance ?_|refine @eI.cons _ _ _ inferInstance ?_|apply bU|apply b9|apply bO|apply b7|apply bP|apply bW|refine Ih rfl inferInstance dE qK ?_|refine Jy rfl inferInstance rfl qK ?_|refine Ji rfl inferInstance qK ?_|apply ae|apply bk|apply dt|apply dp|apply bT|refine bc rfl ?_|apply bQ|apply dq|apply dm|apply ii|apply ig|refine ik rfl ?_|apply ij|apply il|apply du|exact dE|(intro _;simp only[fR,f6,gg,List.map,List.cons_append,List.nil_append])|intro _
  refine aK fun a w h=> ?_
  refine aD (fun k a u=>∃ i:Nat,i+k=(da.2.2.2.2.2.2.2.2.2.2.1).length∧TS w0 (r2::r1::X) [(r2, .ra ab da),(r1, .ra ab da)] [(6, .is (.int .i64 (i:Int))),(2, .is (.pointer (some ⟨r1,0,none⟩))),(3, .is (.pointer (some ⟨r2,0,none⟩)))] 233 a u) (da.2.2.2.2.2.2.2.2.2.2.1).length ⟨0,by omega,h.keep [6,2,3]⟩ ?_
  clear h
  rintro k a u ⟨i,hi,h⟩
  by_cases hlt:i<(da.2.2.2.2.2.2.2.2.2.2.1).length
  ·obtain ⟨x,hx⟩:∃ x,(da.2.2.2.2.2.2.2.2.2.2.1)[i]? =some x:=⟨_,List.getElem?_eq_getElem hlt⟩
   have hc:decide ((i:Int)<((da.2.2.2.2.2.2.2.2.2.2.1).length:Int))=true:=decide_eq_true qO
   have hw:IntKind.i64.wrap ((i:Int)+1)=((i+1:Nat):Int):=ak qO qO
   have hh:=hf.cls x (List.mem_of_getElem? hx)
   have n0:(x.1 != x.1)=false:=bi _
   have n1:(x.2.1 != x.2.1)=false:=bi _
   have k2:=fc (da:=x.2.2) hh
   refine aB h ?_
   clear h
   repeat' first|kernel_rfl|exact aQ fun _ _ h=>⟨k - 1,by omega,i+1,by omega,h.keep [6,2,3]⟩|apply bZ|apply b6|apply b_|apply aw (id:=8) [(129,false)] [] 29|apply aw (id:=13) [(165,false),(180,false)] [] 43|apply aw (id:=18) [] [] 10|apply aw (id:=23) [] [] 11|apply aG|apply be|refine @eM.cons _ _ _ _ inferInstance ?_|refine @eI.cons _ _ _ inferInstance ?_|apply bU|apply b9|apply bO|apply b7|apply bP|apply bW|refine Ih rfl inferInstance dE qK ?_|refine Jy rfl inferInstance rfl qK ?_|refine Ji rfl inferInstance qK ?_|apply ae|apply bk|apply dt|apply dp|apply bT|refine bc rfl ?_|apply bQ|apply dq|apply dm|apply ii|apply ig|refine ik rfl ?_|apply ij|apply il|apply du|exact dE|(intro _;simp only[fR,f6,gg,List.map,List.cons_append,List.nil_append])|intro _
  ·have hc:decide ((i:Int)<((da.2.2.2.2.2.2.2.2.2.2.1).length:Int))=false:=decide_eq_false qO
   refine aB h ?_
   clear h
   repeat' first|kernel_rfl|apply bZ|apply b6|apply b_|apply aw (id:=8) [(129,false)] [] 29|apply aw (id:=13) [(165,false),(180,false)] [] 43|apply aw (id:=18) [] [] 10|apply aw (id:=23) [] [] 11|apply aG|apply be|refine @eM.cons _ _ _ _ inferInstance ?_|refine @eI.cons _ _ _ inferInstance ?_|apply bU|apply b9|apply bO|apply b7|apply bP|apply bW|refine Ih rfl inferInstance dE qK ?_|refine Jy rfl inferInstance rfl qK ?_|refine Ji rfl inferInstance qK ?_|apply ae|apply bk|apply dt|apply dp|apply bT|refine bc rfl ?_|apply bQ|apply dq|apply dm|apply ii|apply ig|refine ik rfl ?_|apply ij|apply il|apply du|exact dE|(intro _;simp only[fR,f6,gg,List.map,List.cons_append,List.nil_append])|intro _
   refine aK fun a w h=> ?_
   refine aD (fun k a u=>∃ i:Nat,i+k=(da.2.2.2.2.2.2.2.2.2.2.2.1).length∧TS w0 (r2::r1::X) [(r2, .ra ab da),(r1, .ra ab da)] [(7, .is (.int .i64 (i:Int))),(2, .is (.pointer (some ⟨r1,0,none⟩))),(3, .is (.pointer (some ⟨r2,0,none⟩)))] 233 a u) (da.2.2.2.2.2.2.2.2.2.2.2.1).length ⟨0,by omega,h.keep [7,2,3]⟩ ?_
   clear h
   rintro k a u ⟨i,hi,h⟩
   by_cases hlt:i<(da.2.2.2.2.2.2.2.2.2.2.2.1).length
   ·obtain ⟨x,hx⟩:∃ x,(da.2.2.2.2.2.2.2.2.2.2.2.1)[i]? =some x:=⟨_,List.getElem?_eq_getElem hlt⟩
    have hc:decide ((i:Int)<((da.2.2.2.2.2.2.2.2.2.2.2.1).length:Int))=true:=decide_eq_true qO
    have hw:IntKind.i64.wrap ((i:Int)+1)=((i+1:Nat):Int):=ak qO qO
    have hh:=True.intro
    have n0:(x != x)=false:=bi _
    refine aB h ?_
    clear h
    repeat' first|kernel_rfl|exact aQ fun _ _ h=>⟨k - 1,by omega,i+1,by omega,h.keep [7,2,3]⟩|apply bZ|apply b6|apply b_|apply aw (id:=8) [(129,false)] [] 29|apply aw (id:=13) [(165,false),(180,false)] [] 43|apply aw (id:=18) [] [] 10|apply aw (id:=23) [] [] 11|apply aG|apply be|refine @eM.cons _ _ _ _ inferInstance ?_|refine @eI.cons _ _ _ inferInstance ?_|apply bU|apply b9|apply bO|apply b7|apply bP|apply bW|refine Ih rfl inferInstance dE qK ?_|refine Jy rfl inferInstance rfl qK ?_|refine Ji rfl inferInstance qK ?_|apply ae|apply bk|apply dt|apply dp|apply bT|refine bc rfl ?_|apply bQ|apply dq|apply dm|apply ii|apply ig|refine ik rfl ?_|apply ij|apply il|apply du|exact dE|(intro _;simp only[fR,f6,gg,List.map,List.cons_append,List.nil_append])|intro _
   ·have hc:decide ((i:Int)<((da.2.2.2.2.2.2.2.2.2.2.2.1).length:Int))=false:=decide_eq_false qO
    refine aB h ?_
    clear h
    repeat' first|kernel_rfl|apply bZ|apply b6|apply b_|apply aw (id:=8) [(129,false)] [] 29|apply aw (id:=13) [(165,false),(180,false)] [] 43|apply aw (id:=18) [] [] 10|apply aw (id:=23) [] [] 11|apply aG|apply be|refine @eM.cons _ _ _ _ inferInstance ?_|refine @eI.cons _ _ _ inferInstance ?_|apply bU|apply b9|apply bO|apply b7|apply bP|apply bW|refine Ih rfl inferInstance dE qK ?_|refine Jy rfl inferInstance rfl qK ?_|refine Ji rfl inferInstance qK ?_|apply ae|apply bk|apply dt|apply dp|apply bT|refine bc rfl ?_|apply bQ|apply dq|apply dm|apply ii|apply ig|refine ik rfl ?_|apply ij|apply il|apply du|exact dE|(intro _;simp only[fR,f6,gg,List.map,List.cons_append,List.nil_append])|intro _
    refine aK fun a w h=> ?_
    refine aD (fun k a u=>∃ i:Nat,i+k=(da.2.2.2.2.2.2.2.2.2.2.2.2).length∧TS w0 (r2::r1::X) [(r2, .ra ab da),(r1, .ra ab da)] [(8, .is (.int .i64 (i:Int))),(2, .is (.pointer (some ⟨r1,0,none⟩))),(3, .is (.pointer (some ⟨r2,0,none⟩)))] 233 a u) (da.2.2.2.2.2.2.2.2.2.2.2.2).length ⟨0,by omega,h.keep [8,2,3]⟩ ?_
    clear h
    rintro k a u ⟨i,hi,h⟩
    by_cases hlt:i<(da.2.2.2.2.2.2.2.2.2.2.2.2).length
    ·obtain ⟨x,hx⟩:∃ x,(da.2.2.2.2.2.2.2.2.2.2.2.2)[i]? =some x:=⟨_,List.getElem?_eq_getElem hlt⟩
     have hc:decide ((i:Int)<((da.2.2.2.2.2.2.2.2.2.2.2.2).length:Int))=true:=decide_eq_true qO
     have hw:IntKind.i64.wrap ((i:Int)+1)=((i+1:Nat):Int):=ak qO qO
     have hh:=hf.yrs x (List.mem_of_getElem? hx)
     have k0:=uP (da:=x) hh (hn.yr x (List.mem_of_getElem? hx))
     refine aB h ?_
     clear h
     repeat' first|kernel_rfl|exact aQ fun _ _ h=>⟨k - 1,by omega,i+1,by omega,h.keep [8,2,3]⟩|apply bZ|apply b6|apply b_|apply aw (id:=8) [(129,false)] [] 29|apply aw (id:=13) [(165,false),(180,false)] [] 43|apply aw (id:=18) [] [] 10|apply aw (id:=23) [] [] 11|apply aG|apply be|refine @eM.cons _ _ _ _ inferInstance ?_|refine @eI.cons _ _ _ inferInstance ?_|apply bU|apply b9|apply bO|apply b7|apply bP|apply bW|refine Ih rfl inferInstance dE qK ?_|refine Jy rfl inferInstance rfl qK ?_|refine Ji rfl inferInstance qK ?_|apply ae|apply bk|apply dt|apply dp|apply bT|refine bc rfl ?_|apply bQ|apply dq|apply dm|apply ii|apply ig|refine ik rfl ?_|apply ij|apply il|apply du|exact dE|(intro _;simp only[fR,f6,gg,List.map,List.cons_append,List.nil_append])|intro _
    ·have hc:decide ((i:Int)<((da.2.2.2.2.2.2.2.2.2.2.2.2).length:Int))=false:=decide_eq_false qO
     refine aB h ?_
     clear h
     repeat' first|kernel_rfl|apply bZ|apply b6|apply b_|apply aw (id:=8) [(129,false)] [] 29|apply aw (id:=13) [(165,false),(180,false)] [] 43|apply aw (id:=18) [] [] 10|apply aw (id:=23) [] [] 11|apply aG|apply be|refine @eM.cons _ _ _ _ inferInstance ?_|refine @eI.cons _ _ _ inferInstance ?_|apply bU|apply b9|apply bO|apply b7|apply bP|apply bW|refine Ih rfl inferInstance dE qK ?_|refine Jy rfl inferInstance rfl qK ?_|refine Ji rfl inferInstance qK ?_|apply ae|apply bk|apply dt|apply dp|apply bT|refine bc rfl ?_|apply bQ|apply dq|apply dm|apply ii|apply ig|refine ik rfl ?_|apply ij|apply il|apply du|exact dE|(intro _;simp only[fR,f6,gg,List.map,List.cons_append,List.nil_append])|intro _
end Go.Proofs.YtjjkikchncfekaaGreatDoor
