/- tallageref08: Same. -/
import Derived.Test.YtjjkikchncfekaaGreatDoorGU
set_option maxHeartbeats 40000000
set_option maxRecDepth 20000
set_option synthInstance.maxHeartbeats 400000
set_option synthInstance.maxSize 4000
set_option linter.unusedSimpArgs false
set_option linter.unusedVariables false
namespace Go.Proofs.YtjjkikchncfekaaGreatDoor
open Go Go.RowKit
section
variable {w00:World} {N:Nat} {L:List Loc} {E:List (Nat×aa)} {d:Nat} {t0:TypeId} {pos:String} {af:Array Edge} {gd:Option (Nat×Bool)}
theorem y_ {o0 o1:Operand} {x y:Bool} {t1:TypeId} {u:Bool} [h0:cT E o0 (.is (.bool x))] [h1:cT E o1 (.is (.bool y))] (hu:(x != y)=u):aF Tryz.prog w00 N L E ⟨some d, .binOp .neq 4 o0 o1 t1,t0,pos,af,gd⟩ (.is (.bool u)):=by
 constructor
 intro X ρ w hc _ hN hm hsl
 have e0:ρ o0= .bool x:=h0.get (X:=X) (w:=w) hc fun p hp e=>hsl p hp qS
 have e1:ρ o1= .bool y:=h1.get (X:=X) (w:=w) hc fun p hp e=>hsl p hp qS
 clear hc hsl h0 h1
 unfold Yields
 have hb:=Tryz.underlying4
 subst hu
 cases x<;>cases y<;>go_simp<;>exact ⟨rfl,Below.refl _ _⟩
end
instance {x:fk}:am (.ra Rp.num x) 0 1 false (.is (.bool x.1)):=am.cell (r':=Rp.bool) (g:=fun (x:fk)=>x.1) bk.fst ⟨rfl⟩ inferInstance
instance {x:fk}:am (.ra Rp.num x) 1 1 false (.rw (Rp.int .u32) tt x.2):=am.cell (r':=Rp.limbs) (g:=fun (x:fk)=>x.2) (bk.tail (n:=1) (k:=1) ⟨rfl⟩ bk.self rfl) ⟨rfl⟩ ⟨fun h=>zf h⟩
instance:fw Tryz.prog 38 2 true:=⟨⟨_,Tryz.underlying38,rfl⟩,by kernel_rfl⟩
instance {x:aP}:am (.ra Rp.frac x) 0 2 true (.ra Rp.num x.1):=am.agg (g:=fun (x:aP)=>x.1) bk.fst ⟨rfl⟩
instance {x:aP}:am (.ra Rp.frac x) 2 2 true (.ra Rp.num x.2):=am.agg (g:=fun (x:aP)=>x.2) (bk.tail (n:=2) (k:=2) ⟨rfl⟩ bk.self rfl) ⟨rfl⟩
theorem bQ {α:Type} [BEq α] [LawfulBEq α] [DecidableEq α] {x y:α} {b:Bool} (h:decide (x=y)=b):(x != y)= !b:=by
 subst h;exact congrArg not (bm x y)
theorem gH {α:Type} [DecidableEq α] {l m:List α} (h:((l.length:Int) != (m.length:Int))=false):l.length=m.length:=by
 have:(l.length:Int)=(m.length:Int):=by simpa using h
 omega
theorem gJ {α:Type} [DecidableEq α] {l m:List α} {i:Nat} (h:l.length=m.length) (hi:i=l.length) (ha:decide (l.drop i=m.drop i)=decide (l=m)):decide (l=m)=true:=by
 subst hi
 rw [←ha,List.drop_length,List.drop_eq_nil_of_le qO]
 exact decide_eq_true rfl
theorem b_ {p:Prop} (h:p:=by first|exact dJ (by assumption)|exact cP|exact kd|exact iO|exact k7 (by assumption)|exact ms|exact qr (by first|assumption|rfl)|exact y_ (by first|assumption|rfl)|exact mq (by first|assumption|rfl)|exact cb|exact eJ|exact ca|exact aW|exact ml|exact mj|exact f6|exact fX|exact cZ (b:=true) (u:=false) rfl|exact cZ (b:=false) (u:=true) rfl|exact cZ rfl|exact iQ (by first|assumption|rfl)|exact ee (by assumption)|exact eC|exact eI.nil|exact aM.nil|exact aL.nil|exact sc trivial k1|exact sc trivial k2|exact sc trivial k6|exact Cv.rfl'):p:=h
theorem td {da db:fk} (hb:da.2.length≤1000):cw Tryz.prog S1 100 [0,0] [.ra Rp.num da, .ra Rp.num db] (fun _=> .is (.bool (decide (da=db)))):=by
 rw [ah]
 cases h0:decide (da.1=db.1)
 ·have e0:=bQ h0
  simp only [Bool.not_false] at e0
  simp only [Bool.false_and]
  refine cr Tryz.func100 Tryz.ntmps100 fun X w hE=> ?_
  simp only [ar,Nat.zero_add,Nat.reduceAdd]
  repeat' first|kernel_rfl|apply Bt.mk|refine nx ?_|apply ab (id:=6) [] [] 10|apply au|apply aR|infer_instance|refine bi rfl b_ ?_|refine bh rfl ?_|refine bj rfl ?_|apply ae|refine aO rfl ?_|exact b_|intro _
 have e0:=bQ h0
 simp only [Bool.not_true] at e0
 simp only [Bool.true_and]
 cases hlen:((da.2.length:Int) != (db.2.length:Int))
 rotate_left
 ·rw [dR hlen]
  refine cr Tryz.func100 Tryz.ntmps100 fun X w hE=> ?_
  simp only [ar,Nat.zero_add,Nat.reduceAdd]
  repeat' first|kernel_rfl|apply Bt.mk|refine nx ?_|apply ab (id:=6) [] [] 10|apply au|apply aR|infer_instance|refine bi rfl b_ ?_|refine bh rfl ?_|refine bj rfl ?_|apply ae|refine aO rfl ?_|exact b_|intro _
 have hlm:=gH hlen
 refine cr Tryz.func100 Tryz.ntmps100 fun X w0 hE=> ?_
 simp only [ar,Nat.zero_add,Nat.reduceAdd]
 repeat' first|kernel_rfl|apply Bt.mk|refine nx ?_|apply ab (id:=6) [] [] 10|apply au|apply aR|infer_instance|refine bi rfl b_ ?_|refine bh rfl ?_|refine bj rfl ?_|apply ae|refine aO rfl ?_|exact b_|intro _
 refine bn fun a w h=> ?_
 rename_i r1 r2
 refine aY (fun k a u=>∃ i:Nat,i+k=(da.2).length∧decide ((da.2).drop i=(db.2).drop i)=decide (da.2=db.2)∧TS w0 (r2::r1::X) [(r2, .ra Rp.num db),(r1, .ra Rp.num da)] [(5, .is (.int .i64 (i:Int))),(2, .is (.pointer (some ⟨r1,0,none⟩))),(3, .is (.pointer (some ⟨r2,0,none⟩)))] 38 a u) (da.2).length ⟨0,by omega,rfl,h.keep [5,2,3]⟩ ?_
 clear h
 rintro k a u ⟨i,hi,ha,h⟩
 by_cases hlt:i<(da.2).length
 ·obtain ⟨x,hx⟩:∃ x,(da.2)[i]? =some x:=⟨_,List.getElem?_eq_getElem hlt⟩
  obtain ⟨y,hy⟩:∃ y,(db.2)[i]? =some y:=⟨_,List.getElem?_eq_getElem qO⟩
  have hc:decide ((i:Int)<((da.2).length:Int))=true:=decide_eq_true qO
  have hw:IntKind.i64.wrap ((i:Int)+1)=((i+1:Nat):Int):=az qO qO
  rw [bg hx,bg hy] at ha
  cases g0:decide (x=y)
  ·have n0:=bQ g0
   simp only [Bool.not_false] at n0
   rw [cy (show decide (x=y)=false by rw [g0]<;>rfl)] at ha
   rw [←ha]
   try simp only [Bool.false_and]
   refine aD h ?_
   clear h
   repeat' first|kernel_rfl|apply Bt.mk|refine nx ?_|apply ab (id:=6) [] [] 10|apply au|apply aR|infer_instance|refine bi rfl b_ ?_|refine bh rfl ?_|refine bj rfl ?_|apply ae|refine aO rfl ?_|exact b_|intro _
  have n0:=bQ g0
  simp only [Bool.not_true] at n0
  rw [eN (show decide (x=y)=true by rw [g0]<;>rfl)] at ha
  refine aD h ?_
  clear h
  repeat' first|kernel_rfl|exact bq fun _ _ h=>⟨k - 1,by omega,i+1,by omega,ha,h.keep [5,2,3]⟩|apply Bt.mk|refine nx ?_|apply ab (id:=6) [] [] 10|apply au|apply aR|infer_instance|refine bi rfl b_ ?_|refine bh rfl ?_|refine bj rfl ?_|apply ae|refine aO rfl ?_|exact b_|intro _
 ·have hil:i=(da.2).length:=qO
  have hc:decide ((i:Int)<((da.2).length:Int))=false:=decide_eq_false qO
  have hdn:=gJ (l:=da.2) (m:=db.2) qO hil ha
  rw [hdn]
  try simp only [Bool.true_and]
  refine aD h ?_
  clear h
  repeat' first|kernel_rfl|apply Bt.mk|refine nx ?_|apply ab (id:=6) [] [] 10|apply au|apply aR|infer_instance|refine bi rfl b_ ?_|refine bh rfl ?_|refine bj rfl ?_|apply ae|refine aO rfl ?_|exact b_|intro _
theorem fB {da db:aP} (hb:di 6 da):cw Tryz.prog S1 41 [0,0] [.ra Rp.frac da, .ra Rp.frac db] (fun _=> .is (.bool (decide (da=db)))):=by
 rw [ah]
 have k0:=td (da:=da.1) (db:=db.1) (by have:=hb.1;omega)
 have k1:=td (da:=da.2) (db:=db.2) (by have:=hb.2.1;omega)
 cases h0:decide (da.1=db.1)
 ·rw [h0] at k0
  simp only [Bool.false_and]
  refine cr Tryz.func41 Tryz.ntmps41 fun X w hE=> ?_
  simp only [ar,Nat.zero_add,Nat.reduceAdd]
  repeat' first|kernel_rfl|apply Bt.mk|refine nx ?_|refine bi rfl (by first|exact sc trivial k0|exact b_) ?_|refine bh rfl ?_|refine bj rfl ?_|apply ae|refine aO rfl ?_|exact sc trivial k0|exact b_|intro _
 rw [h0] at k0
 simp only [Bool.true_and]
 refine cr Tryz.func41 Tryz.ntmps41 fun X w hE=> ?_
 simp only [ar,Nat.zero_add,Nat.reduceAdd]
 repeat' first|kernel_rfl|apply Bt.mk|refine nx ?_|refine bi rfl (by first|exact sc trivial k0|exact b_) ?_|refine bh rfl ?_|refine bj rfl ?_|apply ae|refine aO rfl ?_|exact sc trivial k0|exact b_|intro _
instance:dq Tryz.prog 171 (.ra aH dc):=fe.al
instance:dq Tryz.prog 173 (.ra aG de):=fh.al
instance:dq Tryz.prog 175 (.ra ak bs):=fd.al
theorem tO {da db:bw} (hf:px da) (hn:da.2.1.length≤40∧da.2.2.1.length≤40∧da.2.2.2.1.length≤40∧da.2.2.2.2.1.length≤40∧da.2.2.2.2.2.length≤40):cw Tryz.prog S1 42 [0,0] [.ra aA da, .ra aA db] (fun _=> .is (.bool (decide (da=db)))):=by
 obtain ⟨hn1,hn2,hn3,hn4,hn5⟩:=hn
 unfold px at hf
 obtain ⟨hf1,hf2,hf3,hf4,hf5⟩:=hf
 rw [ah,ah (a:=da.2),ah (a:=da.2.2),ah (a:=da.2.2.2),ah (a:=da.2.2.2.2)]
 cases h0:decide (da.1=db.1)
 ·have e0:=bQ h0
  simp only [Bool.not_false] at e0
  simp only [Bool.false_and]
  refine oy Tryz.func42 rfl Tryz.ntmps42 qE (fun _ _=>by kernel_rfl) fun X w hE=> ?_
  simp only [ar,Nat.zero_add,Nat.reduceAdd]
  repeat' first|kernel_rfl|apply bI|apply bJ|apply bM|apply ab (id:=24) [(225,false),(241,false)] [] 44|apply ab (id:=29) [(277,false)] [] 28|apply au|apply aR|refine @aM.cons _ _ _ _ inferInstance ?_|refine @aL.cons _ _ _ inferInstance ?_|apply bG|apply bL|apply bB|apply bK|apply bC|apply bH|refine bO rfl inferInstance b_ qK ?_|refine cR rfl inferInstance rfl qK ?_|refine cN rfl inferInstance qK ?_|apply ae|apply bc|apply cI|apply cG|apply bF|refine aO rfl ?_|apply bE|apply cH|apply cF|apply fz|apply fy|refine fC rfl ?_|apply fA|apply fE|apply cJ|exact b_|(intro _;simp only[cu,cx,cC,List.map,List.cons_append,List.nil_append])|intro _
 have e0:=bQ h0
 simp only [Bool.not_true] at e0
 simp only [Bool.true_and]
 cases hl0:((da.2.1.length:Int) != (db.2.1.length:Int))
 rotate_left
 ·rw [dR hl0]
  simp only [Bool.and_false,Bool.false_and]
  refine oy Tryz.func42 rfl Tryz.ntmps42 qE (fun _ _=>by kernel_rfl) fun X w hE=> ?_
  simp only [ar,Nat.zero_add,Nat.reduceAdd]
  repeat' first|kernel_rfl|apply bI|apply bJ|apply bM|apply ab (id:=24) [(225,false),(241,false)] [] 44|apply ab (id:=29) [(277,false)] [] 28|apply au|apply aR|refine @aM.cons _ _ _ _ inferInstance ?_|refine @aL.cons _ _ _ inferInstance ?_|apply bG|apply bL|apply bB|apply bK|apply bC|apply bH|refine bO rfl inferInstance b_ qK ?_|refine cR rfl inferInstance rfl qK ?_|refine cN rfl inferInstance qK ?_|apply ae|apply bc|apply cI|apply cG|apply bF|refine aO rfl ?_|apply bE|apply cH|apply cF|apply fz|apply fy|refine fC rfl ?_|apply fA|apply fE|apply cJ|exact b_|(intro _;simp only[cu,cx,cC,List.map,List.cons_append,List.nil_append])|intro _
 have hm0:=gH hl0
 cases hl1:((da.2.2.1.length:Int) != (db.2.2.1.length:Int))
 rotate_left
 ·rw [dR hl1]
  simp only [Bool.and_false,Bool.false_and]
  refine oy Tryz.func42 rfl Tryz.ntmps42 qE (fun _ _=>by kernel_rfl) fun X w hE=> ?_
  simp only [ar,Nat.zero_add,Nat.reduceAdd]
  repeat' first|kernel_rfl|apply bI|apply bJ|apply bM|apply ab (id:=24) [(225,false),(241,false)] [] 44|apply ab (id:=29) [(277,false)] [] 28|apply au|apply aR|refine @aM.cons _ _ _ _ inferInstance ?_|refine @aL.cons _ _ _ inferInstance ?_|apply bG|apply bL|apply bB|apply bK|apply bC|apply bH|refine bO rfl inferInstance b_ qK ?_|refine cR rfl inferInstance rfl qK ?_|refine cN rfl inferInstance qK ?_|apply ae|apply bc|apply cI|apply cG|apply bF|refine aO rfl ?_|apply bE|apply cH|apply cF|apply fz|apply fy|refine fC rfl ?_|apply fA|apply fE|apply cJ|exact b_|(intro _;simp only[cu,cx,cC,List.map,List.cons_append,List.nil_append])|intro _
 have hm1:=gH hl1
 cases hl2:((da.2.2.2.1.length:Int) != (db.2.2.2.1.length:Int))
 rotate_left
 ·rw [dR hl2]
  simp only [Bool.and_false,Bool.false_and]
  refine oy Tryz.func42 rfl Tryz.ntmps42 qE (fun _ _=>by kernel_rfl) fun X w hE=> ?_
  simp only [ar,Nat.zero_add,Nat.reduceAdd]
  repeat' first|kernel_rfl|apply bI|apply bJ|apply bM|apply ab (id:=24) [(225,false),(241,false)] [] 44|apply ab (id:=29) [(277,false)] [] 28|apply au|apply aR|refine @aM.cons _ _ _ _ inferInstance ?_|refine @aL.cons _ _ _ inferInstance ?_|apply bG|apply bL|apply bB|apply bK|apply bC|apply bH|refine bO rfl inferInstance b_ qK ?_|refine cR rfl inferInstance rfl qK ?_|refine cN rfl inferInstance qK ?_|apply ae|apply bc|apply cI|apply cG|apply bF|refine aO rfl ?_|apply bE|apply cH|apply cF|apply fz|apply fy|refine fC rfl ?_|apply fA|apply fE|apply cJ|exact b_|(intro _;simp only[cu,cx,cC,List.map,List.cons_append,List.nil_append])|intro _
 have hm2:=gH hl2
 cases hl3:((da.2.2.2.2.1.length:Int) != (db.2.2.2.2.1.length:Int))
 rotate_left
 ·rw [dR hl3]
  simp only [Bool.and_false,Bool.false_and]
  refine oy Tryz.func42 rfl Tryz.ntmps42 qE (fun _ _=>by kernel_rfl) fun X w hE=> ?_
  simp only [ar,Nat.zero_add,Nat.reduceAdd]
  repeat' first|kernel_rfl|apply bI|apply bJ|apply bM|apply ab (id:=24) [(225,false),(241,false)] [] 44|apply ab (id:=29) [(277,false)] [] 28|apply au|apply aR|refine @aM.cons _ _ _ _ inferInstance ?_|refine @aL.cons _ _ _ inferInstance ?_|apply bG|apply bL|apply bB|apply bK|apply bC|apply bH|refine bO rfl inferInstance b_ qK ?_|refine cR rfl inferInstance rfl qK ?_|refine cN rfl inferInstance qK ?_|apply ae|apply bc|apply cI|apply cG|apply bF|refine aO rfl ?_|apply bE|apply cH|apply cF|apply fz|apply fy|refine fC rfl ?_|apply fA|apply fE|apply cJ|exact b_|(intro _;simp only[cu,cx,cC,List.map,List.cons_append,List.nil_append])|intro _
 have hm3:=gH hl3
 cases hl4:((da.2.2.2.2.2.length:Int) != (db.2.2.2.2.2.length:Int))
 rotate_left
 ·rw [dR hl4]
  simp only [Bool.and_false,Bool.false_and]
  refine oy Tryz.func42 rfl Tryz.ntmps42 qE (fun _ _=>by kernel_rfl) fun X w hE=> ?_
  simp only [ar,Nat.zero_add,Nat.reduceAdd]
  repeat' first|kernel_rfl|apply bI|apply bJ|apply bM|apply ab (id:=24) [(225,false),(241,false)] [] 44|apply ab (id:=29) [(277,false)] [] 28|apply au|apply aR|refine @aM.cons _ _ _ _ inferInstance ?_|refine @aL.cons _ _ _ inferInstance ?_|apply bG|apply bL|apply bB|apply bK|apply bC|apply bH|refine bO rfl inferInstance b_ qK ?_|refine cR rfl inferInstance rfl qK ?_|refine cN rfl inferInstance qK ?_|apply ae|apply bc|apply cI|apply cG|apply bF|refine aO rfl ?_|apply bE|apply cH|apply cF|apply fz|apply fy|refine fC rfl ?_|apply fA|apply fE|apply cJ|exact b_|(intro _;simp only[cu,cx,cC,List.map,List.cons_append,List.nil_append])|intro _
 have hm4:=gH hl4
 refine oy Tryz.func42 rfl Tryz.ntmps42 qE (fun _ _=>by kernel_rfl) fun X w0 hE=> ?_
 simp only [ar,Nat.zero_add,Nat.reduceAdd]
 repeat' first|kernel_rfl|apply bI|apply bJ|apply bM|apply ab (id:=24) [(225,false),(241,false)] [] 44|apply ab (id:=29) [(277,false)] [] 28|apply au|apply aR|refine @aM.cons _ _ _ _ inferInstance ?_|refine @aL.cons _ _ _ inferInstance ?_|apply bG|apply bL|apply bB|apply bK|apply bC|apply bH|refine bO rfl inferInstance b_ qK ?_|refine cR rfl inferInstance rfl qK ?_|refine cN rfl inferInstance qK ?_|apply ae|apply bc|apply cI|apply cG|apply bF|refine aO rfl ?_|apply bE|apply cH|apply cF|apply fz|apply fy|refine fC rfl ?_|apply fA|apply fE|apply cJ|exact b_|(intro _;simp only[cu,cx,cC,List.map,List.cons_append,List.nil_append])|intro _
 refine bn fun a w h=> ?_
 rename_i r1 r2
 refine aY (fun k a u=>∃ i:Nat,i+k=(da.2.1).length∧decide ((da.2.1).drop i=(db.2.1).drop i)=decide (da.2.1=db.2.1)∧TS w0 (r2::r1::X) [(r2, .ra aA db),(r1, .ra aA da)] [(5, .is (.int .i64 (i:Int))),(2, .is (.pointer (some ⟨r1,0,none⟩))),(3, .is (.pointer (some ⟨r2,0,none⟩)))] 293 a u) (da.2.1).length ⟨0,by omega,rfl,h.keep [5,2,3]⟩ ?_
 clear h
 rintro k a u ⟨i,hi,ha,h⟩
 by_cases hlt:i<(da.2.1).length
 ·obtain ⟨x,hx⟩:∃ x,(da.2.1)[i]? =some x:=⟨_,List.getElem?_eq_getElem hlt⟩
  obtain ⟨y,hy⟩:∃ y,(db.2.1)[i]? =some y:=⟨_,List.getElem?_eq_getElem qO⟩
  have hc:decide ((i:Int)<((da.2.1).length:Int))=true:=decide_eq_true qO
  have hw:IntKind.i64.wrap ((i:Int)+1)=((i+1:Nat):Int):=az qO qO
  rw [bg hx,bg hy] at ha
  have hh:=hf1 x (List.mem_of_getElem? hx)
  cases g0:decide (x.1=y.1)
  ·have n0:=bQ g0
   simp only [Bool.not_false] at n0
   rw [cy (show decide (x=y)=false by rw [ah,ah (a:=x.2)];rw [g0]<;>rfl)] at ha
   rw [←ha]
   try simp only [Bool.false_and]
   refine aD h ?_
   clear h
   repeat' first|kernel_rfl|(apply eM (id:=6) 13 [(6, .ra aH dc, .ra aH x),(7, .ra aH dc, .ra aH dc)];(focus repeat' first|exact bP.nil|(apply bP.alloc (d:=6) (Z:= .ra aH dc) (T:= .ra aH x) (hv:= .head _);(focus infer_instance))|(apply bP.put (d:=6) (x:=77) (Z:= .ra aH dc) (T:= .ra aH x) (k:=6) (k0:=6) (ag:=true) (ag0:=true) (hv:= .head _) (ho:=co.mem) (z:=inferInstance) (z0:=inferInstance) (hk:=rfl);(focus kernel_rfl))|(apply bP.alloc (d:=7) (Z:= .ra aH dc) (T:= .ra aH dc) (hv:= .tail _ (.head _));(focus infer_instance))|apply bP.cons|exact cb|exact ca|exact aW|exact dJ qL|exact cP|kernel_rfl);(focus kernel_rfl);(focus kernel_rfl);(focus (intro v hv;simp only [List.mem_cons,List.not_mem_nil,or_false] at hv;rcases hv with rfl|rfl;exact .inl rfl;exact .inr rfl));(focus kernel_rfl);intro r;simp only[List.map,List.cons_append,List.nil_append])|(refine gR ?_)|apply bI|apply bJ|apply bM|apply ab (id:=24) [(225,false),(241,false)] [] 44|apply ab (id:=29) [(277,false)] [] 28|apply au|apply aR|refine @aM.cons _ _ _ _ inferInstance ?_|refine @aL.cons _ _ _ inferInstance ?_|apply bG|apply bL|apply bB|apply bK|apply bC|apply bH|refine bO rfl inferInstance b_ qK ?_|refine cR rfl inferInstance rfl qK ?_|refine cN rfl inferInstance qK ?_|apply ae|apply bc|apply cI|apply cG|apply bF|refine aO rfl ?_|apply bE|apply cH|apply cF|apply fz|apply fy|refine fC rfl ?_|apply fA|apply fE|apply cJ|exact b_|(intro _;simp only[cu,cx,cC,List.map,List.cons_append,List.nil_append])|intro _
  have n0:=bQ g0
  simp only [Bool.not_true] at n0
  cases g1:decide (x.2.1=y.2.1)
  ·have n1:=bQ g1
   simp only [Bool.not_false] at n1
   rw [cy (show decide (x=y)=false by rw [ah,ah (a:=x.2)];rw [g0,g1]<;>rfl)] at ha
   rw [←ha]
   try simp only [Bool.false_and]
   refine aD h ?_
   clear h
   repeat' first|kernel_rfl|(apply eM (id:=6) 13 [(6, .ra aH dc, .ra aH x),(7, .ra aH dc, .ra aH dc)];(focus repeat' first|exact bP.nil|(apply bP.alloc (d:=6) (Z:= .ra aH dc) (T:= .ra aH x) (hv:= .head _);(focus infer_instance))|(apply bP.put (d:=6) (x:=77) (Z:= .ra aH dc) (T:= .ra aH x) (k:=6) (k0:=6) (ag:=true) (ag0:=true) (hv:= .head _) (ho:=co.mem) (z:=inferInstance) (z0:=inferInstance) (hk:=rfl);(focus kernel_rfl))|(apply bP.alloc (d:=7) (Z:= .ra aH dc) (T:= .ra aH dc) (hv:= .tail _ (.head _));(focus infer_instance))|apply bP.cons|exact cb|exact ca|exact aW|exact dJ qL|exact cP|kernel_rfl);(focus kernel_rfl);(focus kernel_rfl);(focus (intro v hv;simp only [List.mem_cons,List.not_mem_nil,or_false] at hv;rcases hv with rfl|rfl;exact .inl rfl;exact .inr rfl));(focus kernel_rfl);intro r;simp only[List.map,List.cons_append,List.nil_append])|(refine gR ?_)|apply bI|apply bJ|apply bM|apply ab (id:=24) [(225,false),(241,false)] [] 44|apply ab (id:=29) [(277,false)] [] 28|apply au|apply aR|refine @aM.cons _ _ _ _ inferInstance ?_|refine @aL.cons _ _ _ inferInstance ?_|apply bG|apply bL|apply bB|apply bK|apply bC|apply bH|refine bO rfl inferInstance b_ qK ?_|refine cR rfl inferInstance rfl qK ?_|refine cN rfl inferInstance qK ?_|apply ae|apply bc|apply cI|apply cG|apply bF|refine aO rfl ?_|apply bE|apply cH|apply cF|apply fz|apply fy|refine fC rfl ?_|apply fA|apply fE|apply cJ|exact b_|(intro _;simp only[cu,cx,cC,List.map,List.cons_append,List.nil_append])|intro _
  have n1:=bQ g1
  simp only [Bool.not_true] at n1
  have k2:=fB (da:=x.2.2) (db:=y.2.2) hh
  cases g2:decide (x.2.2=y.2.2)
  ·rw [g2] at k2
   rw [cy (show decide (x=y)=false by rw [ah,ah (a:=x.2)];rw [g0,g1,g2]<;>rfl)] at ha
   rw [←ha]
   try simp only [Bool.false_and]
   refine aD h ?_
   clear h
   repeat' first|kernel_rfl|(apply eM (id:=6) 13 [(6, .ra aH dc, .ra aH x),(7, .ra aH dc, .ra aH dc)];(focus repeat' first|exact bP.nil|(apply bP.alloc (d:=6) (Z:= .ra aH dc) (T:= .ra aH x) (hv:= .head _);(focus infer_instance))|(apply bP.put (d:=6) (x:=77) (Z:= .ra aH dc) (T:= .ra aH x) (k:=6) (k0:=6) (ag:=true) (ag0:=true) (hv:= .head _) (ho:=co.mem) (z:=inferInstance) (z0:=inferInstance) (hk:=rfl);(focus kernel_rfl))|(apply bP.alloc (d:=7) (Z:= .ra aH dc) (T:= .ra aH dc) (hv:= .tail _ (.head _));(focus infer_instance))|apply bP.cons|exact cb|exact ca|exact aW|exact dJ qL|exact cP|kernel_rfl);(focus kernel_rfl);(focus kernel_rfl);(focus (intro v hv;simp only [List.mem_cons,List.not_mem_nil,or_false] at hv;rcases hv with rfl|rfl;exact .inl rfl;exact .inr rfl));(focus kernel_rfl);intro r;simp only[List.map,List.cons_append,List.nil_append])|(refine gR ?_)|apply bI|apply bJ|apply bM|apply ab (id:=24) [(225,false),(241,false)] [] 44|apply ab (id:=29) [(277,false)] [] 28|apply au|apply aR|refine @aM.cons _ _ _ _ inferInstance ?_|refine @aL.cons _ _ _ inferInstance ?_|apply bG|apply bL|apply bB|apply bK|apply bC|apply bH|refine bO rfl inferInstance b_ qK ?_|refine cR rfl inferInstance rfl qK ?_|refine cN rfl inferInstance qK ?_|apply ae|apply bc|apply cI|apply cG|apply bF|refine aO rfl ?_|apply bE|apply cH|apply cF|apply fz|apply fy|refine fC rfl ?_|apply fA|apply fE|apply cJ|exact b_|(intro _;simp only[cu,cx,cC,List.map,List.cons_append,List.nil_append])|intro _
  rw [g2] at k2
  rw [eN (show decide (x=y)=true by rw [ah,ah (a:=x.2)];rw [g0,g1,g2]<;>rfl)] at ha
  refine aD h ?_
  clear h
  repeat' first|kernel_rfl|(apply eM (id:=6) 13 [(6, .ra aH dc, .ra aH x),(7, .ra aH dc, .ra aH dc)];(focus repeat' first|exact bP.nil|(apply bP.alloc (d:=6) (Z:= .ra aH dc) (T:= .ra aH x) (hv:= .head _);(focus infer_instance))|(apply bP.put (d:=6) (x:=77) (Z:= .ra aH dc) (T:= .ra aH x) (k:=6) (k0:=6) (ag:=true) (ag0:=true) (hv:= .head _) (ho:=co.mem) (z:=inferInstance) (z0:=inferInstance) (hk:=rfl);(focus kernel_rfl))|(apply bP.alloc (d:=7) (Z:= .ra aH dc) (T:= .ra aH dc) (hv:= .tail _ (.head _));(focus infer_instance))|apply bP.cons|exact cb|exact ca|exact aW|exact dJ qL|exact cP|kernel_rfl);(focus kernel_rfl);(focus kernel_rfl);(focus (intro v hv;simp only [List.mem_cons,List.not_mem_nil,or_false] at hv;rcases hv with rfl|rfl;exact .inl rfl;exact .inr rfl));(focus kernel_rfl);intro r;simp only[List.map,List.cons_append,List.nil_append])|(refine gR ?_)|exact bq fun _ _ h=>⟨k - 1,by omega,i+1,by omega,ha,h.drop.drop.keep [5,2,3]⟩|apply bI|apply bJ|apply bM|apply ab (id:=24) [(225,false),(241,false)] [] 44|apply ab (id:=29) [(277,false)] [] 28|apply au|apply aR|refine @aM.cons _ _ _ _ inferInstance ?_|refine @aL.cons _ _ _ inferInstance ?_|apply bG|apply bL|apply bB|apply bK|apply bC|apply bH|refine bO rfl inferInstance b_ qK ?_|refine cR rfl inferInstance rfl qK ?_|refine cN rfl inferInstance qK ?_|apply ae|apply bc|apply cI|apply cG|apply bF|refine aO rfl ?_|apply bE|apply cH|apply cF|apply fz|apply fy|refine fC rfl ?_|apply fA|apply fE|apply cJ|exact b_|(intro _;simp only[cu,cx,cC,List.map,List.cons_append,List.nil_append])|intro _
 ·have hil:i=(da.2.1).length:=qO
  have hc:decide ((i:Int)<((da.2.1).length:Int))=false:=decide_eq_false qO
  have hdn:=gJ (l:=da.2.1) (m:=db.2.1) qO hil ha
  rw [hdn]
  try simp only [Bool.true_and]
  refine aD h ?_
  clear h
  repeat' first|kernel_rfl|apply bI|apply bJ|apply bM|apply ab (id:=24) [(225,false),(241,false)] [] 44|apply ab (id:=29) [(277,false)] [] 28|apply au|apply aR|refine @aM.cons _ _ _ _ inferInstance ?_|refine @aL.cons _ _ _ inferInstance ?_|apply bG|apply bL|apply bB|apply bK|apply bC|apply bH|refine bO rfl inferInstance b_ qK ?_|refine cR rfl inferInstance rfl qK ?_|refine cN rfl inferInstance qK ?_|apply ae|apply bc|apply cI|apply cG|apply bF|refine aO rfl ?_|apply bE|apply cH|apply cF|apply fz|apply fy|refine fC rfl ?_|apply fA|apply fE|apply cJ|exact b_|(intro _;simp only[cu,cx,cC,List.map,List.cons_append,List.nil_append])|intro _
  refine bn fun a w h=> ?_
  refine aY (fun k a u=>∃ i:Nat,i+k=(da.2.2.1).length∧decide ((da.2.2.1).drop i=(db.2.2.1).drop i)=decide (da.2.2.1=db.2.2.1)∧TS w0 (r2::r1::X) [(r2, .ra aA db),(r1, .ra aA da)] [(8, .is (.int .i64 (i:Int))),(2, .is (.pointer (some ⟨r1,0,none⟩))),(3, .is (.pointer (some ⟨r2,0,none⟩)))] 293 a u) (da.2.2.1).length ⟨0,by omega,rfl,h.keep [8,2,3]⟩ ?_
  clear h
  rintro k a u ⟨i,hi,ha,h⟩
  by_cases hlt:i<(da.2.2.1).length
  ·obtain ⟨x,hx⟩:∃ x,(da.2.2.1)[i]? =some x:=⟨_,List.getElem?_eq_getElem hlt⟩
   obtain ⟨y,hy⟩:∃ y,(db.2.2.1)[i]? =some y:=⟨_,List.getElem?_eq_getElem qO⟩
   have hc:decide ((i:Int)<((da.2.2.1).length:Int))=true:=decide_eq_true qO
   have hw:IntKind.i64.wrap ((i:Int)+1)=((i+1:Nat):Int):=az qO qO
   rw [bg hx,bg hy] at ha
   have hh:=hf2 x (List.mem_of_getElem? hx)
   cases g0:decide (x.1=y.1)
   ·have n0:=bQ g0
    simp only [Bool.not_false] at n0
    rw [cy (show decide (x=y)=false by rw [ah,ah (a:=x.2)];rw [g0]<;>rfl)] at ha
    rw [←ha]
    try simp only [Bool.false_and]
    refine aD h ?_
    clear h
    repeat' first|kernel_rfl|(apply eM (id:=12) 13 [(9, .ra aG de, .ra aG x),(10, .ra aG de, .ra aG de)];(focus repeat' first|exact bP.nil|(apply bP.alloc (d:=9) (Z:= .ra aG de) (T:= .ra aG x) (hv:= .head _);(focus infer_instance))|(apply bP.put (d:=9) (x:=114) (Z:= .ra aG de) (T:= .ra aG x) (k:=6) (k0:=6) (ag:=true) (ag0:=true) (hv:= .head _) (ho:=co.mem) (z:=inferInstance) (z0:=inferInstance) (hk:=rfl);(focus kernel_rfl))|(apply bP.alloc (d:=10) (Z:= .ra aG de) (T:= .ra aG de) (hv:= .tail _ (.head _));(focus infer_instance))|apply bP.cons|exact cb|exact ca|exact aW|exact dJ qL|exact cP|kernel_rfl);(focus kernel_rfl);(focus kernel_rfl);(focus (intro v hv;simp only [List.mem_cons,List.not_mem_nil,or_false] at hv;rcases hv with rfl|rfl;exact .inl rfl;exact .inr rfl));(focus kernel_rfl);intro r;simp only[List.map,List.cons_append,List.nil_append])|(refine gR ?_)|apply bI|apply bJ|apply bM|apply ab (id:=24) [(225,false),(241,false)] [] 44|apply ab (id:=29) [(277,false)] [] 28|apply au|apply aR|refine @aM.cons _ _ _ _ inferInstance ?_|refine @aL.cons _ _ _ inferInstance ?_|apply bG|apply bL|apply bB|apply bK|apply bC|apply bH|refine bO rfl inferInstance b_ qK ?_|refine cR rfl inferInstance rfl qK ?_|refine cN rfl inferInstance qK ?_|apply ae|apply bc|apply cI|apply cG|apply bF|refine aO rfl ?_|apply bE|apply cH|apply cF|apply fz|apply fy|refine fC rfl ?_|apply fA|apply fE|apply cJ|exact b_|(intro _;simp only[cu,cx,cC,List.map,List.cons_append,List.nil_append])|intro _
   have n0:=bQ g0
   simp only [Bool.not_true] at n0
   cases g1:decide (x.2.1=y.2.1)
   ·have n1:=bQ g1
    simp only [Bool.not_false] at n1
    rw [cy (show decide (x=y)=false by rw [ah,ah (a:=x.2)];rw [g0,g1]<;>rfl)] at ha
    rw [←ha]
    try simp only [Bool.false_and]
    refine aD h ?_
    clear h
    repeat' first|kernel_rfl|(apply eM (id:=12) 13 [(9, .ra aG de, .ra aG x),(10, .ra aG de, .ra aG de)];(focus repeat' first|exact bP.nil|(apply bP.alloc (d:=9) (Z:= .ra aG de) (T:= .ra aG x) (hv:= .head _);(focus infer_instance))|(apply bP.put (d:=9) (x:=114) (Z:= .ra aG de) (T:= .ra aG x) (k:=6) (k0:=6) (ag:=true) (ag0:=true) (hv:= .head _) (ho:=co.mem) (z:=inferInstance) (z0:=inferInstance) (hk:=rfl);(focus kernel_rfl))|(apply bP.alloc (d:=10) (Z:= .ra aG de) (T:= .ra aG de) (hv:= .tail _ (.head _));(focus infer_instance))|apply bP.cons|exact cb|exact ca|exact aW|exact dJ qL|exact cP|kernel_rfl);(focus kernel_rfl);(focus kernel_rfl);(focus (intro v hv;simp only [List.mem_cons,List.not_mem_nil,or_false] at hv;rcases hv with rfl|rfl;exact .inl rfl;exact .inr rfl));(focus kernel_rfl);intro r;simp only[List.map,List.cons_append,List.nil_append])|(refine gR ?_)|apply bI|apply bJ|apply bM|apply ab (id:=24) [(225,false),(241,false)] [] 44|apply ab (id:=29) [(277,false)] [] 28|apply au|apply aR|refine @aM.cons _ _ _ _ inferInstance ?_|refine @aL.cons _ _ _ inferInstance ?_|apply bG|apply bL|apply bB|apply bK|apply bC|apply bH|refine bO rfl inferInstance b_ qK ?_|refine cR rfl inferInstance rfl qK ?_|refine cN rfl inferInstance qK ?_|apply ae|apply bc|apply cI|apply cG|apply bF|refine aO rfl ?_|apply bE|apply cH|apply cF|apply fz|apply fy|refine fC rfl ?_|apply fA|apply fE|apply cJ|exact b_|(intro _;simp only[cu,cx,cC,List.map,List.cons_append,List.nil_append])|intro _
   have n1:=bQ g1
   simp only [Bool.not_true] at n1
   have k2:=fB (da:=x.2.2) (db:=y.2.2) hh
   cases g2:decide (x.2.2=y.2.2)
   ·rw [g2] at k2
    rw [cy (show decide (x=y)=false by rw [ah,ah (a:=x.2)];rw [g0,g1,g2]<;>rfl)] at ha
    rw [←ha]
    try simp only [Bool.false_and]
    refine aD h ?_
    clear h
    repeat' first|kernel_rfl|(apply eM (id:=12) 13 [(9, .ra aG de, .ra aG x),(10, .ra aG de, .ra aG de)];(focus repeat' first|exact bP.nil|(apply bP.alloc (d:=9) (Z:= .ra aG de) (T:= .ra aG x) (hv:= .head _);(focus infer_instance))|(apply bP.put (d:=9) (x:=114) (Z:= .ra aG de) (T:= .ra aG x) (k:=6) (k0:=6) (ag:=true) (ag0:=true) (hv:= .head _) (ho:=co.mem) (z:=inferInstance) (z0:=inferInstance) (hk:=rfl);(focus kernel_rfl))|(apply bP.alloc (d:=10) (Z:= .ra aG de) (T:= .ra aG de) (hv:= .tail _ (.head _));(focus infer_instance))|apply bP.cons|exact cb|exact ca|exact aW|exact dJ qL|exact cP|kernel_rfl);(focus kernel_rfl);(focus kernel_rfl);(focus (intro v hv;simp only [List.mem_cons,List.not_mem_nil,or_false] at hv;rcases hv with rfl|rfl;exact .inl rfl;exact .inr rfl));(focus kernel_rfl);intro r;simp only[List.map,List.cons_append,List.nil_append])|(refine gR ?_)|apply bI|apply bJ|apply bM|apply ab (id:=24) [(225,false),(241,false)] [] 44|apply ab (id:=29) [(277,false)] [] 28|apply au|apply aR|refine @aM.cons _ _ _ _ inferInstance ?_|refine @aL.cons _ _ _ inferInstance ?_|apply bG|apply bL|apply bB|apply bK|apply bC|apply bH|refine bO rfl inferInstance b_ qK ?_|refine cR rfl inferInstance rfl qK ?_|refine cN rfl inferInstance qK ?_|apply ae|apply bc|apply cI|apply cG|apply bF|refine aO rfl ?_|apply bE|apply cH|apply cF|apply fz|apply fy|refine fC rfl ?_|apply fA|apply fE|apply cJ|exact b_|(intro _;simp only[cu,cx,cC,List.map,List.cons_append,List.nil_append])|intro _
   rw [g2] at k2
   rw [eN (show decide (x=y)=true by rw [ah,ah (a:=x.2)];rw [g0,g1,g2]<;>rfl)] at ha
   refine aD h ?_
   clear h
   repeat' first|kernel_rfl|(apply eM (id:=12) 13 [(9, .ra aG de, .ra aG x),(10, .ra aG de, .ra aG de)];(focus repeat' first|exact bP.nil|(apply bP.alloc (d:=9) (Z:= .ra aG de) (T:= .ra aG x) (hv:= .head _);(focus infer_instance))|(apply bP.put (d:=9) (x:=114) (Z:= .ra aG de) (T:= .ra aG x) (k:=6) (k0:=6) (ag:=true) (ag0:=true) (hv:= .head _) (ho:=co.mem) (z:=inferInstance) (z0:=inferInstance) (hk:=rfl);(focus kernel_rfl))|(apply bP.alloc (d:=10) (Z:= .ra aG de) (T:= .ra aG de) (hv:= .tail _ (.head _));(focus infer_instance))|apply bP.cons|exact cb|exact ca|exact aW|exact dJ qL|exact cP|kernel_rfl);(focus kernel_rfl);(focus kernel_rfl);(focus (intro v hv;simp only [List.mem_cons,List.not_mem_nil,or_false] at hv;rcases hv with rfl|rfl;exact .inl rfl;exact .inr rfl));(focus kernel_rfl);intro r;simp only[List.map,List.cons_append,List.nil_append])|(refine gR ?_)|exact bq fun _ _ h=>⟨k - 1,by omega,i+1,by omega,ha,h.drop.drop.keep [8,2,3]⟩|apply bI|apply bJ|apply bM|apply ab (id:=24) [(225,false),(241,false)] [] 44|apply ab (id:=29) [(277,false)] [] 28|apply au|apply aR|refine @aM.cons _ _ _ _ inferInstance ?_|refine @aL.cons _ _ _ inferInstance ?_|apply bG|apply bL|apply bB|apply bK|apply bC|apply bH|refine bO rfl inferInstance b_ qK ?_|refine cR rfl inferInstance rfl qK ?_|refine cN rfl inferInstance qK ?_|apply ae|apply bc|apply cI|apply cG|apply bF|refine aO rfl ?_|apply bE|apply cH|apply cF|apply fz|apply fy|refine fC rfl ?_|apply fA|apply fE|apply cJ|exact b_|(intro _;simp only[cu,cx,cC,List.map,List.cons_append,List.nil_append])|intro _
  ·have hil:i=(da.2.2.1).length:=qO
   have hc:decide ((i:Int)<((da.2.2.1).length:Int))=false:=decide_eq_false qO
   have hdn:=gJ (l:=da.2.2.1) (m:=db.2.2.1) qO hil ha
   rw [hdn]
   try simp only [Bool.true_and]
   refine aD h ?_
   clear h
   repeat' first|kernel_rfl|apply bI|apply bJ|apply bM|apply ab (id:=24) [(225,false),(241,false)] [] 44|apply ab (id:=29) [(277,false)] [] 28|apply au|apply aR|refine @aM.cons _ _ _ _ inferInstance ?_|refine @aL.cons _ _ _ inferInstance ?_|apply bG|apply bL|apply bB|apply bK|apply bC|apply bH|refine bO rfl inferInstance b_ qK ?_|refine cR rfl inferInstance rfl qK ?_|refine cN rfl inferInstance qK ?_|apply ae|apply bc|apply cI|apply cG|apply bF|refine aO rfl ?_|apply bE|apply cH|apply cF|apply fz|apply fy|refine fC rfl ?_|apply fA|apply fE|apply cJ|exact b_|(intro _;simp only[cu,cx,cC,List.map,List.cons_append,List.nil_append])|intro _
   refine bn fun a w h=> ?_
   refine aY (fun k a u=>∃ i:Nat,i+k=(da.2.2.2.1).length∧decide ((da.2.2.2.1).drop i=(db.2.2.2.1).drop i)=decide (da.2.2.2.1=db.2.2.2.1)∧TS w0 (r2::r1::X) [(r2, .ra aA db),(r1, .ra aA da)] [(11, .is (.int .i64 (i:Int))),(2, .is (.pointer (some ⟨r1,0,none⟩))),(3, .is (.pointer (some ⟨r2,0,none⟩)))] 293 a u) (da.2.2.2.1).length ⟨0,by omega,rfl,h.keep [11,2,3]⟩ ?_
   clear h
   rintro k a u ⟨i,hi,ha,h⟩
   by_cases hlt:i<(da.2.2.2.1).length
   ·obtain ⟨x,hx⟩:∃ x,(da.2.2.2.1)[i]? =some x:=⟨_,List.getElem?_eq_getElem hlt⟩
    obtain ⟨y,hy⟩:∃ y,(db.2.2.2.1)[i]? =some y:=⟨_,List.getElem?_eq_getElem qO⟩
    have hc:decide ((i:Int)<((da.2.2.2.1).length:Int))=true:=decide_eq_true qO
    have hw:IntKind.i64.wrap ((i:Int)+1)=((i+1:Nat):Int):=az qO qO
    rw [bg hx,bg hy] at ha
    have hh:=hf3 x (List.mem_of_getElem? hx)
    cases g0:decide (x.1=y.1)
    ·have n0:=bQ g0
     simp only [Bool.not_false] at n0
     rw [cy (show decide (x=y)=false by rw [ah,ah (a:=x.2),ah (a:=x.2.2),ah (a:=x.2.2.2),ah (a:=x.2.2.2.2),ah (a:=x.2.2.2.2.2)];rw [g0]<;>rfl)] at ha
     rw [←ha]
     try simp only [Bool.false_and]
     refine aD h ?_
     clear h
     repeat' first|kernel_rfl|(apply eM (id:=18) 13 [(12, .ra ak bs, .ra ak x),(13, .ra ak bs, .ra ak bs)];(focus repeat' first|exact bP.nil|(apply bP.alloc (d:=12) (Z:= .ra ak bs) (T:= .ra ak x) (hv:= .head _);(focus infer_instance))|(apply bP.put (d:=12) (x:=151) (Z:= .ra ak bs) (T:= .ra ak x) (k:=10) (k0:=10) (ag:=true) (ag0:=true) (hv:= .head _) (ho:=co.mem) (z:=inferInstance) (z0:=inferInstance) (hk:=rfl);(focus kernel_rfl))|(apply bP.alloc (d:=13) (Z:= .ra ak bs) (T:= .ra ak bs) (hv:= .tail _ (.head _));(focus infer_instance))|apply bP.cons|exact cb|exact ca|exact aW|exact dJ qL|exact cP|kernel_rfl);(focus kernel_rfl);(focus kernel_rfl);(focus (intro v hv;simp only [List.mem_cons,List.not_mem_nil,or_false] at hv;rcases hv with rfl|rfl;exact .inl rfl;exact .inr rfl));(focus kernel_rfl);intro r;simp only[List.map,List.cons_append,List.nil_append])|(refine gR ?_)|apply bI|apply bJ|apply bM|apply ab (id:=24) [(225,false),(241,false)] [] 44|apply ab (id:=29) [(277,false)] [] 28|apply au|apply aR|refine @aM.cons _ _ _ _ inferInstance ?_|refine @aL.cons _ _ _ inferInstance ?_|apply bG|apply bL|apply bB|apply bK|apply bC|apply bH|refine bO rfl inferInstance b_ qK ?_|refine cR rfl inferInstance rfl qK ?_|refine cN rfl inferInstance qK ?_|apply ae|apply bc|apply cI|apply cG|apply bF|refine aO rfl ?_|apply bE|apply cH|apply cF|apply fz|apply fy|refine fC rfl ?_|apply fA|apply fE|apply cJ|exact b_|(intro _;simp only[cu,cx,cC,List.map,List.cons_append,List.nil_append])|intro _
    have n0:=bQ g0
    simp only [Bool.not_true] at n0
    cases g1:decide (x.2.1=y.2.1)
    ·have n1:=bQ g1
     simp only [Bool.not_false] at n1
     rw [cy (show decide (x=y)=false by rw [ah,ah (a:=x.2),ah (a:=x.2.2),ah (a:=x.2.2.2),ah (a:=x.2.2.2.2),ah (a:=x.2.2.2.2.2)];rw [g0,g1]<;>rfl)] at ha
     rw [←ha]
     try simp only [Bool.false_and]
     refine aD h ?_
     clear h
     repeat' first|kernel_rfl|(apply eM (id:=18) 13 [(12, .ra ak bs, .ra ak x),(13, .ra ak bs, .ra ak bs)];(focus repeat' first|exact bP.nil|(apply bP.alloc (d:=12) (Z:= .ra ak bs) (T:= .ra ak x) (hv:= .head _);(focus infer_instance))|(apply bP.put (d:=12) (x:=151) (Z:= .ra ak bs) (T:= .ra ak x) (k:=10) (k0:=10) (ag:=true) (ag0:=true) (hv:= .head _) (ho:=co.mem) (z:=inferInstance) (z0:=inferInstance) (hk:=rfl);(focus kernel_rfl))|(apply bP.alloc (d:=13) (Z:= .ra ak bs) (T:= .ra ak bs) (hv:= .tail _ (.head _));(focus infer_instance))|apply bP.cons|exact cb|exact ca|exact aW|exact dJ qL|exact cP|kernel_rfl);(focus kernel_rfl);(focus kernel_rfl);(focus (intro v hv;simp only [List.mem_cons,List.not_mem_nil,or_false] at hv;rcases hv with rfl|rfl;exact .inl rfl;exact .inr rfl));(focus kernel_rfl);intro r;simp only[List.map,List.cons_append,List.nil_append])|(refine gR ?_)|apply bI|apply bJ|apply bM|apply ab (id:=24) [(225,false),(241,false)] [] 44|apply ab (id:=29) [(277,false)] [] 28|apply au|apply aR|refine @aM.cons _ _ _ _ inferInstance ?_|refine @aL.cons _ _ _ inferInstance ?_|apply bG|apply bL|apply bB|apply bK|apply bC|apply bH|refine bO rfl inferInstance b_ qK ?_|refine cR rfl inferInstance rfl qK ?_|refine cN rfl inferInstance qK ?_|apply ae|apply bc|apply cI|apply cG|apply bF|refine aO rfl ?_|apply bE|apply cH|apply cF|apply fz|apply fy|refine fC rfl ?_|apply fA|apply fE|apply cJ|exact b_|(intro _;simp only[cu,cx,cC,List.map,List.cons_append,List.nil_append])|intro _
    have n1:=bQ g1
    simp only [Bool.not_true] at n1
    cases g2:decide (x.2.2.1=y.2.2.1)
    ·have n2:=bQ g2
     simp only [Bool.not_false] at n2
     rw [cy (show decide (x=y)=false by rw [ah,ah (a:=x.2),ah (a:=x.2.2),ah (a:=x.2.2.2),ah (a:=x.2.2.2.2),ah (a:=x.2.2.2.2.2)];rw [g0,g1,g2]<;>rfl)] at ha
     rw [←ha]
     try simp only [Bool.false_and]
     refine aD h ?_
     clear h
     repeat' first|kernel_rfl|(apply eM (id:=18) 13 [(12, .ra ak bs, .ra ak x),(13, .ra ak bs, .ra ak bs)];(focus repeat' first|exact bP.nil|(apply bP.alloc (d:=12) (Z:= .ra ak bs) (T:= .ra ak x) (hv:= .head _);(focus infer_instance))|(apply bP.put (d:=12) (x:=151) (Z:= .ra ak bs) (T:= .ra ak x) (k:=10) (k0:=10) (ag:=true) (ag0:=true) (hv:= .head _) (ho:=co.mem) (z:=inferInstance) (z0:=inferInstance) (hk:=rfl);(focus kernel_rfl))|(apply bP.alloc (d:=13) (Z:= .ra ak bs) (T:= .ra ak bs) (hv:= .tail _ (.head _));(focus infer_instance))|apply bP.cons|exact cb|exact ca|exact aW|exact dJ qL|exact cP|kernel_rfl);(focus kernel_rfl);(focus kernel_rfl);(focus (intro v hv;simp only [List.mem_cons,List.not_mem_nil,or_false] at hv;rcases hv with rfl|rfl;exact .inl rfl;exact .inr rfl));(focus kernel_rfl);intro r;simp only[List.map,List.cons_append,List.nil_append])|(refine gR ?_)|apply bI|apply bJ|apply bM|apply ab (id:=24) [(225,false),(241,false)] [] 44|apply ab (id:=29) [(277,false)] [] 28|apply au|apply aR|refine @aM.cons _ _ _ _ inferInstance ?_|refine @aL.cons _ _ _ inferInstance ?_|apply bG|apply bL|apply bB|apply bK|apply bC|apply bH|refine bO rfl inferInstance b_ qK ?_|refine cR rfl inferInstance rfl qK ?_|refine cN rfl inferInstance qK ?_|apply ae|apply bc|apply cI|apply cG|apply bF|refine aO rfl ?_|apply bE|apply cH|apply cF|apply fz|apply fy|refine fC rfl ?_|apply fA|apply fE|apply cJ|exact b_|(intro _;simp only[cu,cx,cC,List.map,List.cons_append,List.nil_append])|intro _
    have n2:=bQ g2
    simp only [Bool.not_true] at n2
    cases g3:decide (x.2.2.2.1=y.2.2.2.1)
    ·have n3:=bQ g3
     simp only [Bool.not_false] at n3
     rw [cy (show decide (x=y)=false by rw [ah,ah (a:=x.2),ah (a:=x.2.2),ah (a:=x.2.2.2),ah (a:=x.2.2.2.2),ah (a:=x.2.2.2.2.2)];rw [g0,g1,g2,g3]<;>rfl)] at ha
     rw [←ha]
     try simp only [Bool.false_and]
     refine aD h ?_
     clear h
     repeat' first|kernel_rfl|(apply eM (id:=18) 13 [(12, .ra ak bs, .ra ak x),(13, .ra ak bs, .ra ak bs)];(focus repeat' first|exact bP.nil|(apply bP.alloc (d:=12) (Z:= .ra ak bs) (T:= .ra ak x) (hv:= .head _);(focus infer_instance))|(apply bP.put (d:=12) (x:=151) (Z:= .ra ak bs) (T:= .ra ak x) (k:=10) (k0:=10) (ag:=true) (ag0:=true) (hv:= .head _) (ho:=co.mem) (z:=inferInstance) (z0:=inferInstance) (hk:=rfl);(focus kernel_rfl))|(apply bP.alloc (d:=13) (Z:= .ra ak bs) (T:= .ra ak bs) (hv:= .tail _ (.head _));(focus infer_instance))|apply bP.cons|exact cb|exact ca|exact aW|exact dJ qL|exact cP|kernel_rfl);(focus kernel_rfl);(focus kernel_rfl);(focus (intro v hv;simp only [List.mem_cons,List.not_mem_nil,or_false] at hv;rcases hv with rfl|rfl;exact .inl rfl;exact .inr rfl));(focus kernel_rfl);intro r;simp only[List.map,List.cons_append,List.nil_append])|(refine gR ?_)|apply bI|apply bJ|apply bM|apply ab (id:=24) [(225,false),(241,false)] [] 44|apply ab (id:=29) [(277,false)] [] 28|apply au|apply aR|refine @aM.cons _ _ _ _ inferInstance ?_|refine @aL.cons _ _ _ inferInstance ?_|apply bG|apply bL|apply bB|apply bK|apply bC|apply bH|refine bO rfl inferInstance b_ qK ?_|refine cR rfl inferInstance rfl qK ?_|refine cN rfl inferInstance qK ?_|apply ae|apply bc|apply cI|apply cG|apply bF|refine aO rfl ?_|apply bE|apply cH|apply cF|apply fz|apply fy|refine fC rfl ?_|apply fA|apply fE|apply cJ|exact b_|(intro _;simp only[cu,cx,cC,List.map,List.cons_append,List.nil_append])|intro _
    have n3:=bQ g3
    simp only [Bool.not_true] at n3
    cases g4:decide (x.2.2.2.2.1=y.2.2.2.2.1)
    ·have n4:=bQ g4
     simp only [Bool.not_false] at n4
     rw [cy (show decide (x=y)=false by rw [ah,ah (a:=x.2),ah (a:=x.2.2),ah (a:=x.2.2.2),ah (a:=x.2.2.2.2),ah (a:=x.2.2.2.2.2)];rw [g0,g1,g2,g3,g4]<;>rfl)] at ha
     rw [←ha]
     try simp only [Bool.false_and]
     refine aD h ?_
     clear h
     repeat' first|kernel_rfl|(apply eM (id:=18) 13 [(12, .ra ak bs, .ra ak x),(13, .ra ak bs, .ra ak bs)];(focus repeat' first|exact bP.nil|(apply bP.alloc (d:=12) (Z:= .ra ak bs) (T:= .ra ak x) (hv:= .head _);(focus infer_instance))|(apply bP.put (d:=12) (x:=151) (Z:= .ra ak bs) (T:= .ra ak x) (k:=10) (k0:=10) (ag:=true) (ag0:=true) (hv:= .head _) (ho:=co.mem) (z:=inferInstance) (z0:=inferInstance) (hk:=rfl);(focus kernel_rfl))|(apply bP.alloc (d:=13) (Z:= .ra ak bs) (T:= .ra ak bs) (hv:= .tail _ (.head _));(focus infer_instance))|apply bP.cons|exact cb|exact ca|exact aW|exact dJ qL|exact cP|kernel_rfl);(focus kernel_rfl);(focus kernel_rfl);(focus (intro v hv;simp only [List.mem_cons,List.not_mem_nil,or_false] at hv;rcases hv with rfl|rfl;exact .inl rfl;exact .inr rfl));(focus kernel_rfl);intro r;simp only[List.map,List.cons_append,List.nil_append])|(refine gR ?_)|apply bI|apply bJ|apply bM|apply ab (id:=24) [(225,false),(241,false)] [] 44|apply ab (id:=29) [(277,false)] [] 28|apply au|apply aR|refine @aM.cons _ _ _ _ inferInstance ?_|refine @aL.cons _ _ _ inferInstance ?_|apply bG|apply bL|apply bB|apply bK|apply bC|apply bH|refine bO rfl inferInstance b_ qK ?_|refine cR rfl inferInstance rfl qK ?_|refine cN rfl inferInstance qK ?_|apply ae|apply bc|apply cI|apply cG|apply bF|refine aO rfl ?_|apply bE|apply cH|apply cF|apply fz|apply fy|refine fC rfl ?_|apply fA|apply fE|apply cJ|exact b_|(intro _;simp only[cu,cx,cC,List.map,List.cons_append,List.nil_append])|intro _
    have n4:=bQ g4
    simp only [Bool.not_true] at n4
    cases g5:decide (x.2.2.2.2.2.1=y.2.2.2.2.2.1)
    ·have n5:=bQ g5
     simp only [Bool.not_false] at n5
     rw [cy (show decide (x=y)=false by rw [ah,ah (a:=x.2),ah (a:=x.2.2),ah (a:=x.2.2.2),ah (a:=x.2.2.2.2),ah (a:=x.2.2.2.2.2)];rw [g0,g1,g2,g3,g4,g5]<;>rfl)] at ha
     rw [←ha]
     try simp only [Bool.false_and]
     refine aD h ?_
     clear h
     repeat' first|kernel_rfl|(apply eM (id:=18) 13 [(12, .ra ak bs, .ra ak x),(13, .ra ak bs, .ra ak bs)];(focus repeat' first|exact bP.nil|(apply bP.alloc (d:=12) (Z:= .ra ak bs) (T:= .ra ak x) (hv:= .head _);(focus infer_instance))|(apply bP.put (d:=12) (x:=151) (Z:= .ra ak bs) (T:= .ra ak x) (k:=10) (k0:=10) (ag:=true) (ag0:=true) (hv:= .head _) (ho:=co.mem) (z:=inferInstance) (z0:=inferInstance) (hk:=rfl);(focus kernel_rfl))|(apply bP.alloc (d:=13) (Z:= .ra ak bs) (T:= .ra ak bs) (hv:= .tail _ (.head _));(focus infer_instance))|apply bP.cons|exact cb|exact ca|exact aW|exact dJ qL|exact cP|kernel_rfl);(focus kernel_rfl);(focus kernel_rfl);(focus (intro v hv;simp only [List.mem_cons,List.not_mem_nil,or_false] at hv;rcases hv with rfl|rfl;exact .inl rfl;exact .inr rfl));(focus kernel_rfl);intro r;simp only[List.map,List.cons_append,List.nil_append])|(refine gR ?_)|apply bI|apply bJ|apply bM|apply ab (id:=24) [(225,false),(241,false)] [] 44|apply ab (id:=29) [(277,false)] [] 28|apply au|apply aR|refine @aM.cons _ _ _ _ inferInstance ?_|refine @aL.cons _ _ _ inferInstance ?_|apply bG|apply bL|apply bB|apply bK|apply bC|apply bH|refine bO rfl inferInstance b_ qK ?_|refine cR rfl inferInstance rfl qK ?_|refine cN rfl inferInstance qK ?_|apply ae|apply bc|apply cI|apply cG|apply bF|refine aO rfl ?_|apply bE|apply cH|apply cF|apply fz|apply fy|refine fC rfl ?_|apply fA|apply fE|apply cJ|exact b_|(intro _;simp only[cu,cx,cC,List.map,List.cons_append,List.nil_append])|intro _
    have n5:=bQ g5
    simp only [Bool.not_true] at n5
    have k6:=fB (da:=x.2.2.2.2.2.2) (db:=y.2.2.2.2.2.2) hh
    cases g6:decide (x.2.2.2.2.2.2=y.2.2.2.2.2.2)
    ·rw [g6] at k6
     rw [cy (show decide (x=y)=false by rw [ah,ah (a:=x.2),ah (a:=x.2.2),ah (a:=x.2.2.2),ah (a:=x.2.2.2.2),ah (a:=x.2.2.2.2.2)];rw [g0,g1,g2,g3,g4,g5,g6]<;>rfl)] at ha
     rw [←ha]
     try simp only [Bool.false_and]
     refine aD h ?_
     clear h
     repeat' first|kernel_rfl|(apply eM (id:=18) 13 [(12, .ra ak bs, .ra ak x),(13, .ra ak bs, .ra ak bs)];(focus repeat' first|exact bP.nil|(apply bP.alloc (d:=12) (Z:= .ra ak bs) (T:= .ra ak x) (hv:= .head _);(focus infer_instance))|(apply bP.put (d:=12) (x:=151) (Z:= .ra ak bs) (T:= .ra ak x) (k:=10) (k0:=10) (ag:=true) (ag0:=true) (hv:= .head _) (ho:=co.mem) (z:=inferInstance) (z0:=inferInstance) (hk:=rfl);(focus kernel_rfl))|(apply bP.alloc (d:=13) (Z:= .ra ak bs) (T:= .ra ak bs) (hv:= .tail _ (.head _));(focus infer_instance))|apply bP.cons|exact cb|exact ca|exact aW|exact dJ qL|exact cP|kernel_rfl);(focus kernel_rfl);(focus kernel_rfl);(focus (intro v hv;simp only [List.mem_cons,List.not_mem_nil,or_false] at hv;rcases hv with rfl|rfl;exact .inl rfl;exact .inr rfl));(focus kernel_rfl);intro r;simp only[List.map,List.cons_append,List.nil_append])|(refine gR ?_)|apply bI|apply bJ|apply bM|apply ab (id:=24) [(225,false),(241,false)] [] 44|apply ab (id:=29) [(277,false)] [] 28|apply au|apply aR|refine @aM.cons _ _ _ _ inferInstance ?_|refine @aL.cons _ _ _ inferInstance ?_|apply bG|apply bL|apply bB|apply bK|apply bC|apply bH|refine bO rfl inferInstance b_ qK ?_|refine cR rfl inferInstance rfl qK ?_|refine cN rfl inferInstance qK ?_|apply ae|apply bc|apply cI|apply cG|apply bF|refine aO rfl ?_|apply bE|apply cH|apply cF|apply fz|apply fy|refine fC rfl ?_|apply fA|apply fE|apply cJ|exact b_|(intro _;simp only[cu,cx,cC,List.map,List.cons_append,List.nil_append])|intro _
    rw [g6] at k6
    rw [eN (show decide (x=y)=true by rw [ah,ah (a:=x.2),ah (a:=x.2.2),ah (a:=x.2.2.2),ah (a:=x.2.2.2.2),ah (a:=x.2.2.2.2.2)];rw [g0,g1,g2,g3,g4,g5,g6]<;>rfl)] at ha
    refine aD h ?_
    clear h
    repeat' first|kernel_rfl|(apply eM (id:=18) 13 [(12, .ra ak bs, .ra ak x),(13, .ra ak bs, .ra ak bs)];(focus repeat' first|exact bP.nil|(apply bP.alloc (d:=12) (Z:= .ra ak bs) (T:= .ra ak x) (hv:= .head _);(focus infer_instance))|(apply bP.put (d:=12) (x:=151) (Z:= .ra ak bs) (T:= .ra ak x) (k:=10) (k0:=10) (ag:=true) (ag0:=true) (hv:= .head _) (ho:=co.mem) (z:=inferInstance) (z0:=inferInstance) (hk:=rfl);(focus kernel_rfl))|(apply bP.alloc (d:=13) (Z:= .ra ak bs) (T:= .ra ak bs) (hv:= .tail _ (.head _));(focus infer_instance))|apply bP.cons|exact cb|exact ca|exact aW|exact dJ qL|exact cP|kernel_rfl);(focus kernel_rfl);(focus kernel_rfl);(focus (intro v hv;simp only [List.mem_cons,List.not_mem_nil,or_false] at hv;rcases hv with rfl|rfl;exact .inl rfl;exact .inr rfl));(focus kernel_rfl);intro r;simp only[List.map,List.cons_append,List.nil_append])|(refine gR ?_)|exact bq fun _ _ h=>⟨k - 1,by omega,i+1,by omega,ha,h.drop.drop.keep [11,2,3]⟩|apply bI|apply bJ|apply bM|apply ab (id:=24) [(225,false),(241,false)] [] 44|apply ab (id:=29) [(277,false)] [] 28|apply au|apply aR|refine @aM.cons _ _ _ _ inferInstance ?_|refine @aL.cons _ _ _ inferInstance ?_|apply bG|apply bL|apply bB|apply bK|apply bC|apply bH|refine bO rfl inferInstance b_ qK ?_|refine cR rfl inferInstance rfl qK ?_|refine cN rfl inferInstance qK ?_|apply ae|apply bc|apply cI|apply cG|apply bF|refine aO rfl ?_|apply bE|apply cH|apply cF|apply fz|apply fy|refine fC rfl ?_|apply fA|apply fE|apply cJ|exact b_|(intro _;simp only[cu,cx,cC,List.map,List.cons_append,List.nil_append])|intro _
   ·have hil:i=(da.2.2.2.1).length:=qO
    have hc:decide ((i:Int)<((da.2.2.2.1).length:Int))=false:=decide_eq_false qO
    have hdn:=gJ (l:=da.2.2.2.1) (m:=db.2.2.2.1) qO hil ha
    rw [hdn]
    try simp only [Bool.true_and]
    refine aD h ?_
    clear h
    repeat' first|kernel_rfl|apply bI|apply bJ|apply bM|apply ab (id:=24) [(225,false),(241,false)] [] 44|apply ab (id:=29) [(277,false)] [] 28|apply au|apply aR|refine @aM.cons _ _ _ _ inferInstance ?_|refine @aL.cons _ _ _ inferInstance ?_|apply bG|apply bL|apply bB|apply bK|apply bC|apply bH|refine bO rfl inferInstance b_ qK ?_|refine cR rfl inferInstance rfl qK ?_|refine cN rfl inferInstance qK ?_|apply ae|apply bc|apply cI|apply cG|apply bF|refine aO rfl ?_|apply bE|apply cH|apply cF|apply fz|apply fy|refine fC rfl ?_|apply fA|apply fE|apply cJ|exact b_|(intro _;simp only[cu,cx,cC,List.map,List.cons_append,List.nil_append])|intro _
    refine bn fun a w h=> ?_
    refine aY (fun k a u=>∃ i:Nat,i+k=(da.2.2.2.2.1).length∧decide ((da.2.2.2.2.1).drop i=(db.2.2.2.2.1).drop i)=decide (da.2.2.2.2.1=db.2.2.2.2.1)∧TS w0 (r2::r1::X) [(r2, .ra aA db),(r1, .ra aA da)] [(14, .is (.int .i64 (i:Int))),(2, .is (.pointer (some ⟨r1,0,none⟩))),(3, .is (.pointer (some ⟨r2,0,none⟩)))] 293 a u) (da.2.2.2.2.1).length ⟨0,by omega,rfl,h.keep [14,2,3]⟩ ?_
    clear h
    rintro k a u ⟨i,hi,ha,h⟩
    by_cases hlt:i<(da.2.2.2.2.1).length
    ·obtain ⟨x,hx⟩:∃ x,(da.2.2.2.2.1)[i]? =some x:=⟨_,List.getElem?_eq_getElem hlt⟩
     obtain ⟨y,hy⟩:∃ y,(db.2.2.2.2.1)[i]? =some y:=⟨_,List.getElem?_eq_getElem qO⟩
     have hc:decide ((i:Int)<((da.2.2.2.2.1).length:Int))=true:=decide_eq_true qO
     have hw:IntKind.i64.wrap ((i:Int)+1)=((i+1:Nat):Int):=az qO qO
     rw [bg hx,bg hy] at ha
     have hh:=hf4 x (List.mem_of_getElem? hx)
     cases g0:decide (x.1=y.1)
     ·have n0:=bQ g0
      simp only [Bool.not_false] at n0
      rw [cy (show decide (x=y)=false by rw [ah,ah (a:=x.2)];rw [g0]<;>rfl)] at ha
      rw [←ha]
      try simp only [Bool.false_and]
      refine aD h ?_
      clear h
      repeat' first|kernel_rfl|apply bI|apply bJ|apply bM|apply ab (id:=24) [(225,true),(241,true)] [] 44|apply ab (id:=29) [(277,false)] [] 28|(apply u7;(focus rfl);(focus kernel_rfl))|apply au|apply aR|refine @aM.cons _ _ _ _ inferInstance ?_|refine @aL.cons _ _ _ inferInstance ?_|apply bG|apply bL|apply bB|apply bK|apply bC|apply bH|refine bO rfl inferInstance b_ qK ?_|refine cR rfl inferInstance rfl qK ?_|refine cN rfl inferInstance qK ?_|apply ae|apply bc|apply cI|apply cG|apply bF|refine aO rfl ?_|apply bE|apply cH|apply cF|apply fz|apply fy|refine fC rfl ?_|apply fA|apply fE|apply cJ|exact b_|(intro _;simp only[cu,cx,cC,List.map,List.cons_append,List.nil_append])|intro _
     have n0:=bQ g0
     simp only [Bool.not_true] at n0
     have k1:=fB (da:=x.2.1) (db:=y.2.1) hh.1
     cases g1:decide (x.2.1=y.2.1)
     ·rw [g1] at k1
      rw [cy (show decide (x=y)=false by rw [ah,ah (a:=x.2)];rw [g0,g1]<;>rfl)] at ha
      rw [←ha]
      try simp only [Bool.false_and]
      refine aD h ?_
      clear h
      repeat' first|kernel_rfl|apply bI|apply bJ|apply bM|apply ab (id:=24) [(225,false),(241,true)] [] 44|apply ab (id:=29) [(277,false)] [] 28|(apply u7;(focus rfl);(focus kernel_rfl))|apply au|apply aR|refine @aM.cons _ _ _ _ inferInstance ?_|refine @aL.cons _ _ _ inferInstance ?_|apply bG|apply bL|apply bB|apply bK|apply bC|apply bH|refine bO rfl inferInstance b_ qK ?_|refine cR rfl inferInstance rfl qK ?_|refine cN rfl inferInstance qK ?_|apply ae|apply bc|apply cI|apply cG|apply bF|refine aO rfl ?_|apply bE|apply cH|apply cF|apply fz|apply fy|refine fC rfl ?_|apply fA|apply fE|apply cJ|exact b_|(intro _;simp only[cu,cx,cC,List.map,List.cons_append,List.nil_append])|intro _
     rw [g1] at k1
     have k2:=fB (da:=x.2.2) (db:=y.2.2) hh.2
     cases g2:decide (x.2.2=y.2.2)
     ·rw [g2] at k2
      rw [cy (show decide (x=y)=false by rw [ah,ah (a:=x.2)];rw [g0,g1,g2]<;>rfl)] at ha
      rw [←ha]
      try simp only [Bool.false_and]
      refine aD h ?_
      clear h
      repeat' first|kernel_rfl|apply bI|apply bJ|apply bM|apply ab (id:=24) [(225,false),(241,false)] [] 44|apply ab (id:=29) [(277,false)] [] 28|apply au|apply aR|refine @aM.cons _ _ _ _ inferInstance ?_|refine @aL.cons _ _ _ inferInstance ?_|apply bG|apply bL|apply bB|apply bK|apply bC|apply bH|refine bO rfl inferInstance b_ qK ?_|refine cR rfl inferInstance rfl qK ?_|refine cN rfl inferInstance qK ?_|apply ae|apply bc|apply cI|apply cG|apply bF|refine aO rfl ?_|apply bE|apply cH|apply cF|apply fz|apply fy|refine fC rfl ?_|apply fA|apply fE|apply cJ|exact b_|(intro _;simp only[cu,cx,cC,List.map,List.cons_append,List.nil_append])|intro _
     rw [g2] at k2
     rw [eN (show decide (x=y)=true by rw [ah,ah (a:=x.2)];rw [g0,g1,g2]<;>rfl)] at ha
     refine aD h ?_
     clear h
     repeat' first|kernel_rfl|exact bq fun _ _ h=>⟨k - 1,by omega,i+1,by omega,ha,h.keep [14,2,3]⟩|apply bI|apply bJ|apply bM|apply ab (id:=24) [(225,false),(241,false)] [] 44|apply ab (id:=29) [(277,false)] [] 28|apply au|apply aR|refine @aM.cons _ _ _ _ inferInstance ?_|refine @aL.cons _ _ _ inferInstance ?_|apply bG|apply bL|apply bB|apply bK|apply bC|apply bH|refine bO rfl inferInstance b_ qK ?_|refine cR rfl inferInstance rfl qK ?_|refine cN rfl inferInstance qK ?_|apply ae|apply bc|apply cI|apply cG|apply bF|refine aO rfl ?_|apply bE|apply cH|apply cF|apply fz|apply fy|refine fC rfl ?_|apply fA|apply fE|apply cJ|exact b_|(intro _;simp only[cu,cx,cC,List.map,List.cons_append,List.nil_append])|intro _
    ·have hil:i=(da.2.2.2.2.1).length:=qO
     have hc:decide ((i:Int)<((da.2.2.2.2.1).length:Int))=false:=decide_eq_false qO
     have hdn:=gJ (l:=da.2.2.2.2.1) (m:=db.2.2.2.2.1) qO hil ha
     rw [hdn]
     try simp only [Bool.true_and]
     refine aD h ?_
     clear h
     repeat' first|kernel_rfl|apply bI|apply bJ|apply bM|apply ab (id:=24) [(225,false),(241,false)] [] 44|apply ab (id:=29) [(277,false)] [] 28|apply au|apply aR|refine @aM.cons _ _ _ _ inferInstance ?_|refine @aL.cons _ _ _ inferInstance ?_|apply bG|apply bL|apply bB|apply bK|apply bC|apply bH|refine bO rfl inferInstance b_ qK ?_|refine cR rfl inferInstance rfl qK ?_|refine cN rfl inferInstance qK ?_|apply ae|apply bc|apply cI|apply cG|apply bF|refine aO rfl ?_|apply bE|apply cH|apply cF|apply fz|apply fy|refine fC rfl ?_|apply fA|apply fE|apply cJ|exact b_|(intro _;simp only[cu,cx,cC,List.map,List.cons_append,List.nil_append])|intro _
     refine bn fun a w h=> ?_
     refine aY (fun k a u=>∃ i:Nat,i+k=(da.2.2.2.2.2).length∧decide ((da.2.2.2.2.2).drop i=(db.2.2.2.2.2).drop i)=decide (da.2.2.2.2.2=db.2.2.2.2.2)∧TS w0 (r2::r1::X) [(r2, .ra aA db),(r1, .ra aA da)] [(15, .is (.int .i64 (i:Int))),(2, .is (.pointer (some ⟨r1,0,none⟩))),(3, .is (.pointer (some ⟨r2,0,none⟩)))] 293 a u) (da.2.2.2.2.2).length ⟨0,by omega,rfl,h.keep [15,2,3]⟩ ?_
     clear h
     rintro k a u ⟨i,hi,ha,h⟩
     by_cases hlt:i<(da.2.2.2.2.2).length
     ·obtain ⟨x,hx⟩:∃ x,(da.2.2.2.2.2)[i]? =some x:=⟨_,List.getElem?_eq_getElem hlt⟩
      obtain ⟨y,hy⟩:∃ y,(db.2.2.2.2.2)[i]? =some y:=⟨_,List.getElem?_eq_getElem qO⟩
      have hc:decide ((i:Int)<((da.2.2.2.2.2).length:Int))=true:=decide_eq_true qO
      have hw:IntKind.i64.wrap ((i:Int)+1)=((i+1:Nat):Int):=az qO qO
      rw [bg hx,bg hy] at ha
      have hh:=hf5 x (List.mem_of_getElem? hx)
      cases g0:decide (x.1=y.1)
      ·have n0:=bQ g0
       simp only [Bool.not_false] at n0
       rw [cy (show decide (x=y)=false by rw [ah];rw [g0]<;>rfl)] at ha
       rw [←ha]
       try simp only [Bool.false_and]
       refine aD h ?_
       clear h
       repeat' first|kernel_rfl|apply bI|apply bJ|apply bM|apply ab (id:=24) [(225,false),(241,false)] [] 44|apply ab (id:=29) [(277,true)] [] 28|(apply u7;(focus rfl);(focus kernel_rfl))|apply au|apply aR|refine @aM.cons _ _ _ _ inferInstance ?_|refine @aL.cons _ _ _ inferInstance ?_|apply bG|apply bL|apply bB|apply bK|apply bC|apply bH|refine bO rfl inferInstance b_ qK ?_|refine cR rfl inferInstance rfl qK ?_|refine cN rfl inferInstance qK ?_|apply ae|apply bc|apply cI|apply cG|apply bF|refine aO rfl ?_|apply bE|apply cH|apply cF|apply fz|apply fy|refine fC rfl ?_|apply fA|apply fE|apply cJ|exact b_|(intro _;simp only[cu,cx,cC,List.map,List.cons_append,List.nil_append])|intro _
      have n0:=bQ g0
      simp only [Bool.not_true] at n0
      have k1:=fB (da:=x.2) (db:=y.2) hh
      cases g1:decide (x.2=y.2)
      ·rw [g1] at k1
       rw [cy (show decide (x=y)=false by rw [ah];rw [g0,g1]<;>rfl)] at ha
       rw [←ha]
       try simp only [Bool.false_and]
       refine aD h ?_
       clear h
       repeat' first|kernel_rfl|apply bI|apply bJ|apply bM|apply ab (id:=24) [(225,false),(241,false)] [] 44|apply ab (id:=29) [(277,false)] [] 28|apply au|apply aR|refine @aM.cons _ _ _ _ inferInstance ?_|refine @aL.cons _ _ _ inferInstance ?_|apply bG|apply bL|apply bB|apply bK|apply bC|apply bH|refine bO rfl inferInstance b_ qK ?_|refine cR rfl inferInstance rfl qK ?_|refine cN rfl inferInstance qK ?_|apply ae|apply bc|apply cI|apply cG|apply bF|refine aO rfl ?_|apply bE|apply cH|apply cF|apply fz|apply fy|refine fC rfl ?_|apply fA|apply fE|apply cJ|exact b_|(intro _;simp only[cu,cx,cC,List.map,List.cons_append,List.nil_append])|intro _
      rw [g1] at k1
      rw [eN (show decide (x=y)=true by rw [ah];rw [g0,g1]<;>rfl)] at ha
      refine aD h ?_
      clear h
      repeat' first|kernel_rfl|exact bq fun _ _ h=>⟨k - 1,by omega,i+1,by omega,ha,h.keep [15,2,3]⟩|apply bI|apply bJ|apply bM|apply ab (id:=24) [(225,false),(241,false)] [] 44|apply ab (id:=29) [(277,false)] [] 28|apply au|apply aR|refine @aM.cons _ _ _ _ inferInstance ?_|refine @aL.cons _ _ _ inferInstance ?_|apply bG|apply bL|apply bB|apply bK|apply bC|apply bH|refine bO rfl inferInstance b_ qK ?_|refine cR rfl inferInstance rfl qK ?_|refine cN rfl inferInstance qK ?_|apply ae|apply bc|apply cI|apply cG|apply bF|refine aO rfl ?_|apply bE|apply cH|apply cF|apply fz|apply fy|refine fC rfl ?_|apply fA|apply fE|apply cJ|exact b_|(intro _;simp only[cu,cx,cC,List.map,List.cons_append,List.nil_append])|intro _
     ·have hil:i=(da.2.2.2.2.2).length:=qO
      have hc:decide ((i:Int)<((da.2.2.2.2.2).length:Int))=false:=decide_eq_false qO
      have hdn:=gJ (l:=da.2.2.2.2.2) (m:=db.2.2.2.2.2) qO hil ha
      rw [hdn]
      try simp only [Bool.true_and]
      refine aD h ?_
      clear h
      repeat' first|kernel_rfl|apply bI|apply bJ|apply bM|apply ab (id:=24) [(225,false),(241,false)] [] 44|apply ab (id:=29) [(277,false)] [] 28|apply au|apply aR|refine @aM.cons _ _ _ _ inferInstance ?_|refine @aL.cons _ _ _ inferInstance ?_|apply bG|apply bL|apply bB|apply bK|apply bC|apply bH|refine bO rfl inferInstance b_ qK ?_|refine cR rfl inferInstance rfl qK ?_|refine cN rfl inferInstance qK ?_|apply ae|apply bc|apply cI|apply cG|apply bF|refine aO rfl ?_|apply bE|apply cH|apply cF|apply fz|apply fy|refine fC rfl ?_|apply fA|apply fE|apply cJ|exact b_|(intro _;simp only[cu,cx,cC,List.map,List.cons_append,List.nil_append])|intro _
end Go.Proofs.YtjjkikchncfekaaGreatDoor
