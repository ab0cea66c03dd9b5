/- tallageref08: Same, of filings. -/
import Derived.Test.YtjjkikchncfekaaGreatDoorGV
set_option maxHeartbeats 40000000
set_option maxRecDepth 20000
set_option synthInstance.maxHeartbeats 400000
set_option synthInstance.maxSize 4000
set_option linter.unusedSimpArgs false
set_option linter.unusedVariables false
namespace Go.Proofs.YtjjkikchncfekaaGreatDoor
open Go Go.RowKit
theorem dk {p:Prop} (h:p:=by first|exact dJ (by assumption)|exact cP|exact kd|exact iO|exact k7 (by assumption)|exact ms|exact qr (by first|assumption|rfl)|exact y_ (by first|assumption|rfl)|exact mq (by first|assumption|rfl)|exact cb|exact eJ|exact ca|exact aW|exact ml|exact mj|exact cZ (b:=true) (u:=false) rfl|exact cZ (b:=false) (u:=true) rfl|exact cZ rfl|exact iQ (by first|assumption|rfl)|exact ee (by assumption)|exact eC|exact eI.nil|exact aM.nil|exact aL.nil|exact sc trivial q0|exact sc trivial q1|exact sc trivial q4|exact sc trivial q5|exact sc trivial k0|exact sc trivial k1|exact sc trivial k2|exact Cv.rfl'):p:=h
theorem B_ {da db:aI} (hf:tD da) (hn:vD da):cw Tryz.prog S1 9 [0,0] [.ra ai da, .ra ai db] (fun _=> .is (.bool (decide (da=db)))):=by
 have hb1:=hn.br
 have hb2:=hn.cl
 have hb3:=hn.en
 have hb4:=hn.ys
 rw [oF]
 cases h0:decide (da.1=db.1)
 ·have e0:=bQ h0
  simp only [Bool.not_false] at e0
  simp only [Bool.false_and]
  refine oy Tryz.func9 rfl Tryz.ntmps9 qE (fun _ _=>by kernel_rfl) fun X w hE=> ?_
  simp only [ar,Nat.zero_add,Nat.reduceAdd]
  repeat' first|kernel_rfl|apply bI|apply bJ|apply bM|apply ab (id:=8) [(129,false)] [] 29|apply ab (id:=13) [(165,false),(180,false)] [] 43|apply ab (id:=18) [] [] 10|apply ab (id:=23) [] [] 11|apply au|apply aR|refine @aM.cons _ _ _ _ inferInstance ?_|refine @aL.cons _ _ _ inferInstance ?_|apply bG|apply bL|apply bB|apply bK|apply bC|apply bH|refine bO rfl inferInstance dk qK ?_|refine cR rfl inferInstance rfl qK ?_|refine cN rfl inferInstance qK ?_|apply ae|apply bc|apply cI|apply cG|apply bF|refine aO rfl ?_|apply bE|apply cH|apply cF|apply fz|apply fy|refine fC rfl ?_|apply fA|apply fE|apply cJ|exact dk|(intro _;simp only[cu,cx,cC,List.map,List.cons_append,List.nil_append])|intro _
 have e0:=bQ h0
 simp only [Bool.not_true] at e0
 simp only [Bool.true_and]
 cases h1:decide (da.2.1=db.2.1)
 ·have e1:=bQ h1
  simp only [Bool.not_false] at e1
  simp only [Bool.false_and]
  refine oy Tryz.func9 rfl Tryz.ntmps9 qE (fun _ _=>by kernel_rfl) fun X w hE=> ?_
  simp only [ar,Nat.zero_add,Nat.reduceAdd]
  repeat' first|kernel_rfl|apply bI|apply bJ|apply bM|apply ab (id:=8) [(129,false)] [] 29|apply ab (id:=13) [(165,false),(180,false)] [] 43|apply ab (id:=18) [] [] 10|apply ab (id:=23) [] [] 11|apply au|apply aR|refine @aM.cons _ _ _ _ inferInstance ?_|refine @aL.cons _ _ _ inferInstance ?_|apply bG|apply bL|apply bB|apply bK|apply bC|apply bH|refine bO rfl inferInstance dk qK ?_|refine cR rfl inferInstance rfl qK ?_|refine cN rfl inferInstance qK ?_|apply ae|apply bc|apply cI|apply cG|apply bF|refine aO rfl ?_|apply bE|apply cH|apply cF|apply fz|apply fy|refine fC rfl ?_|apply fA|apply fE|apply cJ|exact dk|(intro _;simp only[cu,cx,cC,List.map,List.cons_append,List.nil_append])|intro _
 have e1:=bQ h1
 simp only [Bool.not_true] at e1
 simp only [Bool.true_and]
 cases hl0:((da.2.2.1.length:Int) != (db.2.2.1.length:Int))
 rotate_left
 ·rw [dR hl0]
  simp only [Bool.and_false,Bool.false_and]
  refine oy Tryz.func9 rfl Tryz.ntmps9 qE (fun _ _=>by kernel_rfl) fun X w hE=> ?_
  simp only [ar,Nat.zero_add,Nat.reduceAdd]
  repeat' first|kernel_rfl|apply bI|apply bJ|apply bM|apply ab (id:=8) [(129,false)] [] 29|apply ab (id:=13) [(165,false),(180,false)] [] 43|apply ab (id:=18) [] [] 10|apply ab (id:=23) [] [] 11|apply au|apply aR|refine @aM.cons _ _ _ _ inferInstance ?_|refine @aL.cons _ _ _ inferInstance ?_|apply bG|apply bL|apply bB|apply bK|apply bC|apply bH|refine bO rfl inferInstance dk qK ?_|refine cR rfl inferInstance rfl qK ?_|refine cN rfl inferInstance qK ?_|apply ae|apply bc|apply cI|apply cG|apply bF|refine aO rfl ?_|apply bE|apply cH|apply cF|apply fz|apply fy|refine fC rfl ?_|apply fA|apply fE|apply cJ|exact dk|(intro _;simp only[cu,cx,cC,List.map,List.cons_append,List.nil_append])|intro _
 have hm0:=gH hl0
 cases hl1:((da.2.2.2.2.2.2.2.2.2.2.1.length:Int) != (db.2.2.2.2.2.2.2.2.2.2.1.length:Int))
 rotate_left
 ·rw [dR hl1]
  simp only [Bool.and_false,Bool.false_and]
  refine oy Tryz.func9 rfl Tryz.ntmps9 qE (fun _ _=>by kernel_rfl) fun X w hE=> ?_
  simp only [ar,Nat.zero_add,Nat.reduceAdd]
  repeat' first|kernel_rfl|apply bI|apply bJ|apply bM|apply ab (id:=8) [(129,false)] [] 29|apply ab (id:=13) [(165,false),(180,false)] [] 43|apply ab (id:=18) [] [] 10|apply ab (id:=23) [] [] 11|apply au|apply aR|refine @aM.cons _ _ _ _ inferInstance ?_|refine @aL.cons _ _ _ inferInstance ?_|apply bG|apply bL|apply bB|apply bK|apply bC|apply bH|refine bO rfl inferInstance dk qK ?_|refine cR rfl inferInstance rfl qK ?_|refine cN rfl inferInstance qK ?_|apply ae|apply bc|apply cI|apply cG|apply bF|refine aO rfl ?_|apply bE|apply cH|apply cF|apply fz|apply fy|refine fC rfl ?_|apply fA|apply fE|apply cJ|exact dk|(intro _;simp only[cu,cx,cC,List.map,List.cons_append,List.nil_append])|intro _
 have hm1:=gH hl1
 cases hl2:((da.2.2.2.2.2.2.2.2.2.2.2.1.length:Int) != (db.2.2.2.2.2.2.2.2.2.2.2.1.length:Int))
 rotate_left
 ·rw [dR hl2]
  simp only [Bool.and_false,Bool.false_and]
  refine oy Tryz.func9 rfl Tryz.ntmps9 qE (fun _ _=>by kernel_rfl) fun X w hE=> ?_
  simp only [ar,Nat.zero_add,Nat.reduceAdd]
  repeat' first|kernel_rfl|apply bI|apply bJ|apply bM|apply ab (id:=8) [(129,false)] [] 29|apply ab (id:=13) [(165,false),(180,false)] [] 43|apply ab (id:=18) [] [] 10|apply ab (id:=23) [] [] 11|apply au|apply aR|refine @aM.cons _ _ _ _ inferInstance ?_|refine @aL.cons _ _ _ inferInstance ?_|apply bG|apply bL|apply bB|apply bK|apply bC|apply bH|refine bO rfl inferInstance dk qK ?_|refine cR rfl inferInstance rfl qK ?_|refine cN rfl inferInstance qK ?_|apply ae|apply bc|apply cI|apply cG|apply bF|refine aO rfl ?_|apply bE|apply cH|apply cF|apply fz|apply fy|refine fC rfl ?_|apply fA|apply fE|apply cJ|exact dk|(intro _;simp only[cu,cx,cC,List.map,List.cons_append,List.nil_append])|intro _
 have hm2:=gH hl2
 cases hl3:((da.2.2.2.2.2.2.2.2.2.2.2.2.length:Int) != (db.2.2.2.2.2.2.2.2.2.2.2.2.length:Int))
 rotate_left
 ·rw [dR hl3]
  simp only [Bool.and_false,Bool.false_and]
  refine oy Tryz.func9 rfl Tryz.ntmps9 qE (fun _ _=>by kernel_rfl) fun X w hE=> ?_
  simp only [ar,Nat.zero_add,Nat.reduceAdd]
  repeat' first|kernel_rfl|apply bI|apply bJ|apply bM|apply ab (id:=8) [(129,false)] [] 29|apply ab (id:=13) [(165,false),(180,false)] [] 43|apply ab (id:=18) [] [] 10|apply ab (id:=23) [] [] 11|apply au|apply aR|refine @aM.cons _ _ _ _ inferInstance ?_|refine @aL.cons _ _ _ inferInstance ?_|apply bG|apply bL|apply bB|apply bK|apply bC|apply bH|refine bO rfl inferInstance dk qK ?_|refine cR rfl inferInstance rfl qK ?_|refine cN rfl inferInstance qK ?_|apply ae|apply bc|apply cI|apply cG|apply bF|refine aO rfl ?_|apply bE|apply cH|apply cF|apply fz|apply fy|refine fC rfl ?_|apply fA|apply fE|apply cJ|exact dk|(intro _;simp only[cu,cx,cC,List.map,List.cons_append,List.nil_append])|intro _
 have hm3:=gH hl3
 have q0:=fB (da:=da.2.2.2.1) (db:=db.2.2.2.1) hf.thr
 have q1:=fB (da:=da.2.2.2.2.1) (db:=db.2.2.2.2.1) hf.cap
 have q4:=fB (da:=da.2.2.2.2.2.2.2.1) (db:=db.2.2.2.2.2.2.2.1) hf.int
 have q5:=fB (da:=da.2.2.2.2.2.2.2.2.1) (db:=db.2.2.2.2.2.2.2.2.1) hf.flo
 cases g0:decide (da.2.2.2.1=db.2.2.2.1)
 ·rw [show eK da db=false by unfold eK;rw [g0]<;>rfl]
  simp only [Bool.and_false,Bool.false_and]
  rw [g0] at q0
  refine oy Tryz.func9 rfl Tryz.ntmps9 qE (fun _ _=>by kernel_rfl) fun X w hE=> ?_
  simp only [ar,Nat.zero_add,Nat.reduceAdd]
  repeat' first|kernel_rfl|apply bI|apply bJ|apply bM|apply ab (id:=8) [(129,false)] [] 29|apply ab (id:=13) [(165,false),(180,false)] [] 43|apply ab (id:=18) [] [] 10|apply ab (id:=23) [] [] 11|apply au|apply aR|refine @aM.cons _ _ _ _ inferInstance ?_|refine @aL.cons _ _ _ inferInstance ?_|apply bG|apply bL|apply bB|apply bK|apply bC|apply bH|refine bO rfl inferInstance dk qK ?_|refine cR rfl inferInstance rfl qK ?_|refine cN rfl inferInstance qK ?_|apply ae|apply bc|apply cI|apply cG|apply bF|refine aO rfl ?_|apply bE|apply cH|apply cF|apply fz|apply fy|refine fC rfl ?_|apply fA|apply fE|apply cJ|exact dk|(intro _;simp only[cu,cx,cC,List.map,List.cons_append,List.nil_append])|intro _
 rw [g0] at q0
 cases g1:decide (da.2.2.2.2.1=db.2.2.2.2.1)
 ·rw [show eK da db=false by unfold eK;rw [g0,g1]<;>rfl]
  simp only [Bool.and_false,Bool.false_and]
  rw [g1] at q1
  refine oy Tryz.func9 rfl Tryz.ntmps9 qE (fun _ _=>by kernel_rfl) fun X w hE=> ?_
  simp only [ar,Nat.zero_add,Nat.reduceAdd]
  repeat' first|kernel_rfl|apply bI|apply bJ|apply bM|apply ab (id:=8) [(129,false)] [] 29|apply ab (id:=13) [(165,false),(180,false)] [] 43|apply ab (id:=18) [] [] 10|apply ab (id:=23) [] [] 11|apply au|apply aR|refine @aM.cons _ _ _ _ inferInstance ?_|refine @aL.cons _ _ _ inferInstance ?_|apply bG|apply bL|apply bB|apply bK|apply bC|apply bH|refine bO rfl inferInstance dk qK ?_|refine cR rfl inferInstance rfl qK ?_|refine cN rfl inferInstance qK ?_|apply ae|apply bc|apply cI|apply cG|apply bF|refine aO rfl ?_|apply bE|apply cH|apply cF|apply fz|apply fy|refine fC rfl ?_|apply fA|apply fE|apply cJ|exact dk|(intro _;simp only[cu,cx,cC,List.map,List.cons_append,List.nil_append])|intro _
 rw [g1] at q1
 cases g2:decide (da.2.2.2.2.2.1=db.2.2.2.2.2.1)
 ·rw [show eK da db=false by unfold eK;rw [g0,g1,g2]<;>rfl]
  simp only [Bool.and_false,Bool.false_and]
  have n2:=bQ g2
  simp only [Bool.not_false] at n2
  refine oy Tryz.func9 rfl Tryz.ntmps9 qE (fun _ _=>by kernel_rfl) fun X w hE=> ?_
  simp only [ar,Nat.zero_add,Nat.reduceAdd]
  repeat' first|kernel_rfl|apply bI|apply bJ|apply bM|apply ab (id:=8) [(129,false)] [] 29|apply ab (id:=13) [(165,false),(180,false)] [] 43|apply ab (id:=18) [] [] 10|apply ab (id:=23) [] [] 11|apply au|apply aR|refine @aM.cons _ _ _ _ inferInstance ?_|refine @aL.cons _ _ _ inferInstance ?_|apply bG|apply bL|apply bB|apply bK|apply bC|apply bH|refine bO rfl inferInstance dk qK ?_|refine cR rfl inferInstance rfl qK ?_|refine cN rfl inferInstance qK ?_|apply ae|apply bc|apply cI|apply cG|apply bF|refine aO rfl ?_|apply bE|apply cH|apply cF|apply fz|apply fy|refine fC rfl ?_|apply fA|apply fE|apply cJ|exact dk|(intro _;simp only[cu,cx,cC,List.map,List.cons_append,List.nil_append])|intro _
 have n2:=bQ g2
 simp only [Bool.not_true] at n2
 cases g3:decide (da.2.2.2.2.2.2.1=db.2.2.2.2.2.2.1)
 ·rw [show eK da db=false by unfold eK;rw [g0,g1,g2,g3]<;>rfl]
  simp only [Bool.and_false,Bool.false_and]
  have n3:=bQ g3
  simp only [Bool.not_false] at n3
  refine oy Tryz.func9 rfl Tryz.ntmps9 qE (fun _ _=>by kernel_rfl) fun X w hE=> ?_
  simp only [ar,Nat.zero_add,Nat.reduceAdd]
  repeat' first|kernel_rfl|apply bI|apply bJ|apply bM|apply ab (id:=8) [(129,false)] [] 29|apply ab (id:=13) [(165,false),(180,false)] [] 43|apply ab (id:=18) [] [] 10|apply ab (id:=23) [] [] 11|apply au|apply aR|refine @aM.cons _ _ _ _ inferInstance ?_|refine @aL.cons _ _ _ inferInstance ?_|apply bG|apply bL|apply bB|apply bK|apply bC|apply bH|refine bO rfl inferInstance dk qK ?_|refine cR rfl inferInstance rfl qK ?_|refine cN rfl inferInstance qK ?_|apply ae|apply bc|apply cI|apply cG|apply bF|refine aO rfl ?_|apply bE|apply cH|apply cF|apply fz|apply fy|refine fC rfl ?_|apply fA|apply fE|apply cJ|exact dk|(intro _;simp only[cu,cx,cC,List.map,List.cons_append,List.nil_append])|intro _
 have n3:=bQ g3
 simp only [Bool.not_true] at n3
 cases g4:decide (da.2.2.2.2.2.2.2.1=db.2.2.2.2.2.2.2.1)
 ·rw [show eK da db=false by unfold eK;rw [g0,g1,g2,g3,g4]<;>rfl]
  simp only [Bool.and_false,Bool.false_and]
  rw [g4] at q4
  refine oy Tryz.func9 rfl Tryz.ntmps9 qE (fun _ _=>by kernel_rfl) fun X w hE=> ?_
  simp only [ar,Nat.zero_add,Nat.reduceAdd]
  repeat' first|kernel_rfl|apply bI|apply bJ|apply bM|apply ab (id:=8) [(129,false)] [] 29|apply ab (id:=13) [(165,false),(180,false)] [] 43|apply ab (id:=18) [] [] 10|apply ab (id:=23) [] [] 11|apply au|apply aR|refine @aM.cons _ _ _ _ inferInstance ?_|refine @aL.cons _ _ _ inferInstance ?_|apply bG|apply bL|apply bB|apply bK|apply bC|apply bH|refine bO rfl inferInstance dk qK ?_|refine cR rfl inferInstance rfl qK ?_|refine cN rfl inferInstance qK ?_|apply ae|apply bc|apply cI|apply cG|apply bF|refine aO rfl ?_|apply bE|apply cH|apply cF|apply fz|apply fy|refine fC rfl ?_|apply fA|apply fE|apply cJ|exact dk|(intro _;simp only[cu,cx,cC,List.map,List.cons_append,List.nil_append])|intro _
 rw [g4] at q4
 cases g5:decide (da.2.2.2.2.2.2.2.2.1=db.2.2.2.2.2.2.2.2.1)
 ·rw [show eK da db=false by unfold eK;rw [g0,g1,g2,g3,g4,g5]<;>rfl]
  simp only [Bool.and_false,Bool.false_and]
  rw [g5] at q5
  refine oy Tryz.func9 rfl Tryz.ntmps9 qE (fun _ _=>by kernel_rfl) fun X w hE=> ?_
  simp only [ar,Nat.zero_add,Nat.reduceAdd]
  repeat' first|kernel_rfl|apply bI|apply bJ|apply bM|apply ab (id:=8) [(129,false)] [] 29|apply ab (id:=13) [(165,false),(180,false)] [] 43|apply ab (id:=18) [] [] 10|apply ab (id:=23) [] [] 11|apply au|apply aR|refine @aM.cons _ _ _ _ inferInstance ?_|refine @aL.cons _ _ _ inferInstance ?_|apply bG|apply bL|apply bB|apply bK|apply bC|apply bH|refine bO rfl inferInstance dk qK ?_|refine cR rfl inferInstance rfl qK ?_|refine cN rfl inferInstance qK ?_|apply ae|apply bc|apply cI|apply cG|apply bF|refine aO rfl ?_|apply bE|apply cH|apply cF|apply fz|apply fy|refine fC rfl ?_|apply fA|apply fE|apply cJ|exact dk|(intro _;simp only[cu,cx,cC,List.map,List.cons_append,List.nil_append])|intro _
 rw [g5] at q5
 cases g6:decide (da.2.2.2.2.2.2.2.2.2.1=db.2.2.2.2.2.2.2.2.2.1)
 ·rw [show eK da db=false by unfold eK;rw [g0,g1,g2,g3,g4,g5,g6]<;>rfl]
  simp only [Bool.and_false,Bool.false_and]
  have n6:=bQ g6
  simp only [Bool.not_false] at n6
  refine oy Tryz.func9 rfl Tryz.ntmps9 qE (fun _ _=>by kernel_rfl) fun X w hE=> ?_
  simp only [ar,Nat.zero_add,Nat.reduceAdd]
  repeat' first|kernel_rfl|apply bI|apply bJ|apply bM|apply ab (id:=8) [(129,false)] [] 29|apply ab (id:=13) [(165,false),(180,false)] [] 43|apply ab (id:=18) [] [] 10|apply ab (id:=23) [] [] 11|apply au|apply aR|refine @aM.cons _ _ _ _ inferInstance ?_|refine @aL.cons _ _ _ inferInstance ?_|apply bG|apply bL|apply bB|apply bK|apply bC|apply bH|refine bO rfl inferInstance dk qK ?_|refine cR rfl inferInstance rfl qK ?_|refine cN rfl inferInstance qK ?_|apply ae|apply bc|apply cI|apply cG|apply bF|refine aO rfl ?_|apply bE|apply cH|apply cF|apply fz|apply fy|refine fC rfl ?_|apply fA|apply fE|apply cJ|exact dk|(intro _;simp only[cu,cx,cC,List.map,List.cons_append,List.nil_append])|intro _
 have n6:=bQ g6
 simp only [Bool.not_true] at n6
 rw [show eK da db=true by unfold eK;rw [g0,g1,g2,g3,g4,g5,g6]<;>rfl]
 simp only [Bool.true_and]
 refine oy Tryz.func9 rfl Tryz.ntmps9 qE (fun _ _=>by kernel_rfl) fun X w0 hE=> ?_
 simp only [ar,Nat.zero_add,Nat.reduceAdd]
 repeat' first|kernel_rfl|apply bI|apply bJ|apply bM|apply ab (id:=8) [(129,false)] [] 29|apply ab (id:=13) [(165,false),(180,false)] [] 43|apply ab (id:=18) [] [] 10|apply ab (id:=23) [] [] 11|apply au|apply aR|refine @aM.cons _ _ _ _ inferInstance ?_|refine @aL.cons _ _ _ inferInstance ?_|apply bG|apply bL|apply bB|apply bK|apply bC|apply bH|refine bO rfl inferInstance dk qK ?_|refine cR rfl inferInstance rfl qK ?_|refine cN rfl inferInstance qK ?_|apply ae|apply bc|apply cI|apply cG|apply bF|refine aO rfl ?_|apply bE|apply cH|apply cF|apply fz|apply fy|refine fC rfl ?_|apply fA|apply fE|apply cJ|exact dk|(intro _;simp only[cu,cx,cC,List.map,List.cons_append,List.nil_append])|intro _
 refine bn fun a w h=> ?_
 rename_i r1 r2
 clear q0 q1 q4 q5 n2 n3 n6 e0 e1 g0 g1 g2 g3 g4 g5 g6 h0 h1 hl0 hl1 hl2 hl3
 refine aY (fun k a u=>∃ i:Nat,i+k=(da.2.2.1).length∧decide ((da.2.2.1).drop i=(db.2.2.1).drop i)=decide (da.2.2.1=db.2.2.1)∧TS w0 (r2::r1::X) [(r2, .ra ai db),(r1, .ra ai da)] [(5, .is (.int .i64 (i:Int))),(2, .is (.pointer (some ⟨r1,0,none⟩))),(3, .is (.pointer (some ⟨r2,0,none⟩)))] 233 a u) (da.2.2.1).length ⟨0,by omega,rfl,h.keep [5,2,3]⟩ ?_
 clear h
 rintro k a u ⟨i,hi,ha,h⟩
 by_cases hlt:i<(da.2.2.1).length
 ·obtain ⟨x,hx⟩:∃ x,(da.2.2.1)[i]? =some x:=⟨_,List.getElem?_eq_getElem hlt⟩
  obtain ⟨y,hy⟩:∃ y,(db.2.2.1)[i]? =some y:=⟨_,List.getElem?_eq_getElem qO⟩
  have hc:decide ((i:Int)<((da.2.2.1).length:Int))=true:=decide_eq_true qO
  have hw:IntKind.i64.wrap ((i:Int)+1)=((i+1:Nat):Int):=az qO qO
  rw [bg hx,bg hy] at ha
  have hh:=hf.brk x (List.mem_of_getElem? hx)
  have k0:=fB (da:=x.1) (db:=y.1) hh.1
  cases g0:decide (x.1=y.1)
  ·rw [g0] at k0
   rw [cy (show decide (x=y)=false by rw [ah];rw [g0]<;>rfl)] at ha
   rw [←ha]
   try simp only [Bool.false_and]
   refine aD h ?_
   clear h
   repeat' first|kernel_rfl|apply bI|apply bJ|apply bM|apply ab (id:=8) [(129,true)] [] 29|apply ab (id:=13) [(165,false),(180,false)] [] 43|apply ab (id:=18) [] [] 10|apply ab (id:=23) [] [] 11|(apply u7;(focus rfl);(focus kernel_rfl))|apply au|apply aR|refine @aM.cons _ _ _ _ inferInstance ?_|refine @aL.cons _ _ _ inferInstance ?_|apply bG|apply bL|apply bB|apply bK|apply bC|apply bH|refine bO rfl inferInstance dk qK ?_|refine cR rfl inferInstance rfl qK ?_|refine cN rfl inferInstance qK ?_|apply ae|apply bc|apply cI|apply cG|apply bF|refine aO rfl ?_|apply bE|apply cH|apply cF|apply fz|apply fy|refine fC rfl ?_|apply fA|apply fE|apply cJ|exact dk|(intro _;simp only[cu,cx,cC,List.map,List.cons_append,List.nil_append])|intro _
  rw [g0] at k0
  have k1:=fB (da:=x.2) (db:=y.2) hh.2
  cases g1:decide (x.2=y.2)
  ·rw [g1] at k1
   rw [cy (show decide (x=y)=false by rw [ah];rw [g0,g1]<;>rfl)] at ha
   rw [←ha]
   try simp only [Bool.false_and]
   refine aD h ?_
   clear h
   repeat' first|kernel_rfl|apply bI|apply bJ|apply bM|apply ab (id:=8) [(129,false)] [] 29|apply ab (id:=13) [(165,false),(180,false)] [] 43|apply ab (id:=18) [] [] 10|apply ab (id:=23) [] [] 11|apply au|apply aR|refine @aM.cons _ _ _ _ inferInstance ?_|refine @aL.cons _ _ _ inferInstance ?_|apply bG|apply bL|apply bB|apply bK|apply bC|apply bH|refine bO rfl inferInstance dk qK ?_|refine cR rfl inferInstance rfl qK ?_|refine cN rfl inferInstance qK ?_|apply ae|apply bc|apply cI|apply cG|apply bF|refine aO rfl ?_|apply bE|apply cH|apply cF|apply fz|apply fy|refine fC rfl ?_|apply fA|apply fE|apply cJ|exact dk|(intro _;simp only[cu,cx,cC,List.map,List.cons_append,List.nil_append])|intro _
  rw [g1] at k1
  rw [eN (show decide (x=y)=true by rw [ah];rw [g0,g1]<;>rfl)] at ha
  refine aD h ?_
  clear h
  repeat' first|kernel_rfl|exact bq fun _ _ h=>⟨k - 1,by omega,i+1,by omega,ha,h.keep [5,2,3]⟩|apply bI|apply bJ|apply bM|apply ab (id:=8) [(129,false)] [] 29|apply ab (id:=13) [(165,false),(180,false)] [] 43|apply ab (id:=18) [] [] 10|apply ab (id:=23) [] [] 11|apply au|apply aR|refine @aM.cons _ _ _ _ inferInstance ?_|refine @aL.cons _ _ _ inferInstance ?_|apply bG|apply bL|apply bB|apply bK|apply bC|apply bH|refine bO rfl inferInstance dk qK ?_|refine cR rfl inferInstance rfl qK ?_|refine cN rfl inferInstance qK ?_|apply ae|apply bc|apply cI|apply cG|apply bF|refine aO rfl ?_|apply bE|apply cH|apply cF|apply fz|apply fy|refine fC rfl ?_|apply fA|apply fE|apply cJ|exact dk|(intro _;simp only[cu,cx,cC,List.map,List.cons_append,List.nil_append])|intro _
 ·have hil:i=(da.2.2.1).length:=qO
  have hc:decide ((i:Int)<((da.2.2.1).length:Int))=false:=decide_eq_false qO
  have hdn:=gJ (l:=da.2.2.1) (m:=db.2.2.1) qO hil ha
  rw [hdn]
  try simp only [Bool.true_and]
  refine aD h ?_
  clear h
  repeat' first|kernel_rfl|apply bI|apply bJ|apply bM|apply ab (id:=8) [(129,false)] [] 29|apply ab (id:=13) [(165,false),(180,false)] [] 43|apply ab (id:=18) [] [] 10|apply ab (id:=23) [] [] 11|apply au|apply aR|refine @aM.cons _ _ _ _ inferInstance ?_|refine @aL.cons _ _ _ inferInstance ?_|apply bG|apply bL|apply bB|apply bK|apply bC|apply bH|refine bO rfl inferInstance dk qK ?_|refine cR rfl inferInstance rfl qK ?_|refine cN rfl inferInstance qK ?_|apply ae|apply bc|apply cI|apply cG|apply bF|refine aO rfl ?_|apply bE|apply cH|apply cF|apply fz|apply fy|refine fC rfl ?_|apply fA|apply fE|apply cJ|exact dk|(intro _;simp only[cu,cx,cC,List.map,List.cons_append,List.nil_append])|intro _
  refine bn fun a w h=> ?_
  refine aY (fun k a u=>∃ i:Nat,i+k=(da.2.2.2.2.2.2.2.2.2.2.1).length∧decide ((da.2.2.2.2.2.2.2.2.2.2.1).drop i=(db.2.2.2.2.2.2.2.2.2.2.1).drop i)=decide (da.2.2.2.2.2.2.2.2.2.2.1=db.2.2.2.2.2.2.2.2.2.2.1)∧TS w0 (r2::r1::X) [(r2, .ra ai db),(r1, .ra ai da)] [(6, .is (.int .i64 (i:Int))),(2, .is (.pointer (some ⟨r1,0,none⟩))),(3, .is (.pointer (some ⟨r2,0,none⟩)))] 233 a u) (da.2.2.2.2.2.2.2.2.2.2.1).length ⟨0,by omega,rfl,h.keep [6,2,3]⟩ ?_
  clear h
  rintro k a u ⟨i,hi,ha,h⟩
  by_cases hlt:i<(da.2.2.2.2.2.2.2.2.2.2.1).length
  ·obtain ⟨x,hx⟩:∃ x,(da.2.2.2.2.2.2.2.2.2.2.1)[i]? =some x:=⟨_,List.getElem?_eq_getElem hlt⟩
   obtain ⟨y,hy⟩:∃ y,(db.2.2.2.2.2.2.2.2.2.2.1)[i]? =some y:=⟨_,List.getElem?_eq_getElem qO⟩
   have hc:decide ((i:Int)<((da.2.2.2.2.2.2.2.2.2.2.1).length:Int))=true:=decide_eq_true qO
   have hw:IntKind.i64.wrap ((i:Int)+1)=((i+1:Nat):Int):=az qO qO
   rw [bg hx,bg hy] at ha
   have hh:=hf.cls x (List.mem_of_getElem? hx)
   cases g0:decide (x.1=y.1)
   ·have n0:=bQ g0
    simp only [Bool.not_false] at n0
    rw [cy (show decide (x=y)=false by rw [ah,ah (a:=x.2)];rw [g0]<;>rfl)] at ha
    rw [←ha]
    try simp only [Bool.false_and]
    refine aD h ?_
    clear h
    repeat' first|kernel_rfl|apply bI|apply bJ|apply bM|apply ab (id:=8) [(129,false)] [] 29|apply ab (id:=13) [(165,true),(180,true)] [] 43|apply ab (id:=18) [] [] 10|apply ab (id:=23) [] [] 11|(apply u7;(focus rfl);(focus kernel_rfl))|apply au|apply aR|refine @aM.cons _ _ _ _ inferInstance ?_|refine @aL.cons _ _ _ inferInstance ?_|apply bG|apply bL|apply bB|apply bK|apply bC|apply bH|refine bO rfl inferInstance dk qK ?_|refine cR rfl inferInstance rfl qK ?_|refine cN rfl inferInstance qK ?_|apply ae|apply bc|apply cI|apply cG|apply bF|refine aO rfl ?_|apply bE|apply cH|apply cF|apply fz|apply fy|refine fC rfl ?_|apply fA|apply fE|apply cJ|exact dk|(intro _;simp only[cu,cx,cC,List.map,List.cons_append,List.nil_append])|intro _
   have n0:=bQ g0
   simp only [Bool.not_true] at n0
   cases g1:decide (x.2.1=y.2.1)
   ·have n1:=bQ g1
    simp only [Bool.not_false] at n1
    rw [cy (show decide (x=y)=false by rw [ah,ah (a:=x.2)];rw [g0,g1]<;>rfl)] at ha
    rw [←ha]
    try simp only [Bool.false_and]
    refine aD h ?_
    clear h
    repeat' first|kernel_rfl|apply bI|apply bJ|apply bM|apply ab (id:=8) [(129,false)] [] 29|apply ab (id:=13) [(165,false),(180,true)] [] 43|apply ab (id:=18) [] [] 10|apply ab (id:=23) [] [] 11|(apply u7;(focus rfl);(focus kernel_rfl))|apply au|apply aR|refine @aM.cons _ _ _ _ inferInstance ?_|refine @aL.cons _ _ _ inferInstance ?_|apply bG|apply bL|apply bB|apply bK|apply bC|apply bH|refine bO rfl inferInstance dk qK ?_|refine cR rfl inferInstance rfl qK ?_|refine cN rfl inferInstance qK ?_|apply ae|apply bc|apply cI|apply cG|apply bF|refine aO rfl ?_|apply bE|apply cH|apply cF|apply fz|apply fy|refine fC rfl ?_|apply fA|apply fE|apply cJ|exact dk|(intro _;simp only[cu,cx,cC,List.map,List.cons_append,List.nil_append])|intro _
   have n1:=bQ g1
   simp only [Bool.not_true] at n1
   have k2:=fB (da:=x.2.2) (db:=y.2.2) hh
   cases g2:decide (x.2.2=y.2.2)
   ·rw [g2] at k2
    rw [cy (show decide (x=y)=false by rw [ah,ah (a:=x.2)];rw [g0,g1,g2]<;>rfl)] at ha
    rw [←ha]
    try simp only [Bool.false_and]
    refine aD h ?_
    clear h
    repeat' first|kernel_rfl|apply bI|apply bJ|apply bM|apply ab (id:=8) [(129,false)] [] 29|apply ab (id:=13) [(165,false),(180,false)] [] 43|apply ab (id:=18) [] [] 10|apply ab (id:=23) [] [] 11|apply au|apply aR|refine @aM.cons _ _ _ _ inferInstance ?_|refine @aL.cons _ _ _ inferInstance ?_|apply bG|apply bL|apply bB|apply bK|apply bC|apply bH|refine bO rfl inferInstance dk qK ?_|refine cR rfl inferInstance rfl qK ?_|refine cN rfl inferInstance qK ?_|apply ae|apply bc|apply cI|apply cG|apply bF|refine aO rfl ?_|apply bE|apply cH|apply cF|apply fz|apply fy|refine fC rfl ?_|apply fA|apply fE|apply cJ|exact dk|(intro _;simp only[cu,cx,cC,List.map,List.cons_append,List.nil_append])|intro _
   rw [g2] at k2
   rw [eN (show decide (x=y)=true by rw [ah,ah (a:=x.2)];rw [g0,g1,g2]<;>rfl)] at ha
   refine aD h ?_
   clear h
   repeat' first|kernel_rfl|exact bq fun _ _ h=>⟨k - 1,by omega,i+1,by omega,ha,h.keep [6,2,3]⟩|apply bI|apply bJ|apply bM|apply ab (id:=8) [(129,false)] [] 29|apply ab (id:=13) [(165,false),(180,false)] [] 43|apply ab (id:=18) [] [] 10|apply ab (id:=23) [] [] 11|apply au|apply aR|refine @aM.cons _ _ _ _ inferInstance ?_|refine @aL.cons _ _ _ inferInstance ?_|apply bG|apply bL|apply bB|apply bK|apply bC|apply bH|refine bO rfl inferInstance dk qK ?_|refine cR rfl inferInstance rfl qK ?_|refine cN rfl inferInstance qK ?_|apply ae|apply bc|apply cI|apply cG|apply bF|refine aO rfl ?_|apply bE|apply cH|apply cF|apply fz|apply fy|refine fC rfl ?_|apply fA|apply fE|apply cJ|exact dk|(intro _;simp only[cu,cx,cC,List.map,List.cons_append,List.nil_append])|intro _
  ·have hil:i=(da.2.2.2.2.2.2.2.2.2.2.1).length:=qO
   have hc:decide ((i:Int)<((da.2.2.2.2.2.2.2.2.2.2.1).length:Int))=false:=decide_eq_false qO
   have hdn:=gJ (l:=da.2.2.2.2.2.2.2.2.2.2.1) (m:=db.2.2.2.2.2.2.2.2.2.2.1) qO hil ha
   rw [hdn]
   try simp only [Bool.true_and]
   refine aD h ?_
   clear h
   repeat' first|kernel_rfl|apply bI|apply bJ|apply bM|apply ab (id:=8) [(129,false)] [] 29|apply ab (id:=13) [(165,false),(180,false)] [] 43|apply ab (id:=18) [] [] 10|apply ab (id:=23) [] [] 11|apply au|apply aR|refine @aM.cons _ _ _ _ inferInstance ?_|refine @aL.cons _ _ _ inferInstance ?_|apply bG|apply bL|apply bB|apply bK|apply bC|apply bH|refine bO rfl inferInstance dk qK ?_|refine cR rfl inferInstance rfl qK ?_|refine cN rfl inferInstance qK ?_|apply ae|apply bc|apply cI|apply cG|apply bF|refine aO rfl ?_|apply bE|apply cH|apply cF|apply fz|apply fy|refine fC rfl ?_|apply fA|apply fE|apply cJ|exact dk|(intro _;simp only[cu,cx,cC,List.map,List.cons_append,List.nil_append])|intro _
   refine bn fun a w h=> ?_
   refine aY (fun k a u=>∃ i:Nat,i+k=(da.2.2.2.2.2.2.2.2.2.2.2.1).length∧decide ((da.2.2.2.2.2.2.2.2.2.2.2.1).drop i=(db.2.2.2.2.2.2.2.2.2.2.2.1).drop i)=decide (da.2.2.2.2.2.2.2.2.2.2.2.1=db.2.2.2.2.2.2.2.2.2.2.2.1)∧TS w0 (r2::r1::X) [(r2, .ra ai db),(r1, .ra ai da)] [(7, .is (.int .i64 (i:Int))),(2, .is (.pointer (some ⟨r1,0,none⟩))),(3, .is (.pointer (some ⟨r2,0,none⟩)))] 233 a u) (da.2.2.2.2.2.2.2.2.2.2.2.1).length ⟨0,by omega,rfl,h.keep [7,2,3]⟩ ?_
   clear h
   rintro k a u ⟨i,hi,ha,h⟩
   by_cases hlt:i<(da.2.2.2.2.2.2.2.2.2.2.2.1).length
   ·obtain ⟨x,hx⟩:∃ x,(da.2.2.2.2.2.2.2.2.2.2.2.1)[i]? =some x:=⟨_,List.getElem?_eq_getElem hlt⟩
    obtain ⟨y,hy⟩:∃ y,(db.2.2.2.2.2.2.2.2.2.2.2.1)[i]? =some y:=⟨_,List.getElem?_eq_getElem qO⟩
    have hc:decide ((i:Int)<((da.2.2.2.2.2.2.2.2.2.2.2.1).length:Int))=true:=decide_eq_true qO
    have hw:IntKind.i64.wrap ((i:Int)+1)=((i+1:Nat):Int):=az qO qO
    rw [bg hx,bg hy] at ha
    have hh:=True.intro
    cases g0:decide (x=y)
    ·have n0:=bQ g0
     simp only [Bool.not_false] at n0
     rw [cy (show decide (x=y)=false by rw [g0]<;>rfl)] at ha
     rw [←ha]
     try simp only [Bool.false_and]
     refine aD h ?_
     clear h
     repeat' first|kernel_rfl|apply bI|apply bJ|apply bM|apply ab (id:=8) [(129,false)] [] 29|apply ab (id:=13) [(165,false),(180,false)] [] 43|apply ab (id:=18) [] [] 10|apply ab (id:=23) [] [] 11|apply au|apply aR|refine @aM.cons _ _ _ _ inferInstance ?_|refine @aL.cons _ _ _ inferInstance ?_|apply bG|apply bL|apply bB|apply bK|apply bC|apply bH|refine bO rfl inferInstance dk qK ?_|refine cR rfl inferInstance rfl qK ?_|refine cN rfl inferInstance qK ?_|apply ae|apply bc|apply cI|apply cG|apply bF|refine aO rfl ?_|apply bE|apply cH|apply cF|apply fz|apply fy|refine fC rfl ?_|apply fA|apply fE|apply cJ|exact dk|(intro _;simp only[cu,cx,cC,List.map,List.cons_append,List.nil_append])|intro _
    have n0:=bQ g0
    simp only [Bool.not_true] at n0
    rw [eN (show decide (x=y)=true by rw [g0]<;>rfl)] at ha
    refine aD h ?_
    clear h
    repeat' first|kernel_rfl|exact bq fun _ _ h=>⟨k - 1,by omega,i+1,by omega,ha,h.keep [7,2,3]⟩|apply bI|apply bJ|apply bM|apply ab (id:=8) [(129,false)] [] 29|apply ab (id:=13) [(165,false),(180,false)] [] 43|apply ab (id:=18) [] [] 10|apply ab (id:=23) [] [] 11|apply au|apply aR|refine @aM.cons _ _ _ _ inferInstance ?_|refine @aL.cons _ _ _ inferInstance ?_|apply bG|apply bL|apply bB|apply bK|apply bC|apply bH|refine bO rfl inferInstance dk qK ?_|refine cR rfl inferInstance rfl qK ?_|refine cN rfl inferInstance qK ?_|apply ae|apply bc|apply cI|apply cG|apply bF|refine aO rfl ?_|apply bE|apply cH|apply cF|apply fz|apply fy|refine fC rfl ?_|apply fA|apply fE|apply cJ|exact dk|(intro _;simp only[cu,cx,cC,List.map,List.cons_append,List.nil_append])|intro _
   ·have hil:i=(da.2.2.2.2.2.2.2.2.2.2.2.1).length:=qO
    have hc:decide ((i:Int)<((da.2.2.2.2.2.2.2.2.2.2.2.1).length:Int))=false:=decide_eq_false qO
    have hdn:=gJ (l:=da.2.2.2.2.2.2.2.2.2.2.2.1) (m:=db.2.2.2.2.2.2.2.2.2.2.2.1) qO hil ha
    rw [hdn]
    try simp only [Bool.true_and]
    refine aD h ?_
    clear h
    repeat' first|kernel_rfl|apply bI|apply bJ|apply bM|apply ab (id:=8) [(129,false)] [] 29|apply ab (id:=13) [(165,false),(180,false)] [] 43|apply ab (id:=18) [] [] 10|apply ab (id:=23) [] [] 11|apply au|apply aR|refine @aM.cons _ _ _ _ inferInstance ?_|refine @aL.cons _ _ _ inferInstance ?_|apply bG|apply bL|apply bB|apply bK|apply bC|apply bH|refine bO rfl inferInstance dk qK ?_|refine cR rfl inferInstance rfl qK ?_|refine cN rfl inferInstance qK ?_|apply ae|apply bc|apply cI|apply cG|apply bF|refine aO rfl ?_|apply bE|apply cH|apply cF|apply fz|apply fy|refine fC rfl ?_|apply fA|apply fE|apply cJ|exact dk|(intro _;simp only[cu,cx,cC,List.map,List.cons_append,List.nil_append])|intro _
    refine bn fun a w h=> ?_
    refine aY (fun k a u=>∃ i:Nat,i+k=(da.2.2.2.2.2.2.2.2.2.2.2.2).length∧decide ((da.2.2.2.2.2.2.2.2.2.2.2.2).drop i=(db.2.2.2.2.2.2.2.2.2.2.2.2).drop i)=decide (da.2.2.2.2.2.2.2.2.2.2.2.2=db.2.2.2.2.2.2.2.2.2.2.2.2)∧TS w0 (r2::r1::X) [(r2, .ra ai db),(r1, .ra ai da)] [(8, .is (.int .i64 (i:Int))),(2, .is (.pointer (some ⟨r1,0,none⟩))),(3, .is (.pointer (some ⟨r2,0,none⟩)))] 233 a u) (da.2.2.2.2.2.2.2.2.2.2.2.2).length ⟨0,by omega,rfl,h.keep [8,2,3]⟩ ?_
    clear h
    rintro k a u ⟨i,hi,ha,h⟩
    by_cases hlt:i<(da.2.2.2.2.2.2.2.2.2.2.2.2).length
    ·obtain ⟨x,hx⟩:∃ x,(da.2.2.2.2.2.2.2.2.2.2.2.2)[i]? =some x:=⟨_,List.getElem?_eq_getElem hlt⟩
     obtain ⟨y,hy⟩:∃ y,(db.2.2.2.2.2.2.2.2.2.2.2.2)[i]? =some y:=⟨_,List.getElem?_eq_getElem qO⟩
     have hc:decide ((i:Int)<((da.2.2.2.2.2.2.2.2.2.2.2.2).length:Int))=true:=decide_eq_true qO
     have hw:IntKind.i64.wrap ((i:Int)+1)=((i+1:Nat):Int):=az qO qO
     rw [bg hx,bg hy] at ha
     have hh:=hf.yrs x (List.mem_of_getElem? hx)
     have k0:=tO (da:=x) (db:=y) hh (hn.yr x (List.mem_of_getElem? hx))
     cases g0:decide (x=y)
     ·rw [g0] at k0
      rw [cy (show decide (x=y)=false by rw [g0]<;>rfl)] at ha
      rw [←ha]
      try simp only [Bool.false_and]
      refine aD h ?_
      clear h
      repeat' first|kernel_rfl|apply bI|apply bJ|apply bM|apply ab (id:=8) [(129,false)] [] 29|apply ab (id:=13) [(165,false),(180,false)] [] 43|apply ab (id:=18) [] [] 10|apply ab (id:=23) [] [] 11|apply au|apply aR|refine @aM.cons _ _ _ _ inferInstance ?_|refine @aL.cons _ _ _ inferInstance ?_|apply bG|apply bL|apply bB|apply bK|apply bC|apply bH|refine bO rfl inferInstance dk qK ?_|refine cR rfl inferInstance rfl qK ?_|refine cN rfl inferInstance qK ?_|apply ae|apply bc|apply cI|apply cG|apply bF|refine aO rfl ?_|apply bE|apply cH|apply cF|apply fz|apply fy|refine fC rfl ?_|apply fA|apply fE|apply cJ|exact dk|(intro _;simp only[cu,cx,cC,List.map,List.cons_append,List.nil_append])|intro _
     rw [g0] at k0
     rw [eN (show decide (x=y)=true by rw [g0]<;>rfl)] at ha
     refine aD h ?_
     clear h
     repeat' first|kernel_rfl|exact bq fun _ _ h=>⟨k - 1,by omega,i+1,by omega,ha,h.keep [8,2,3]⟩|apply bI|apply bJ|apply bM|apply ab (id:=8) [(129,false)] [] 29|apply ab (id:=13) [(165,false),(180,false)] [] 43|apply ab (id:=18) [] [] 10|apply ab (id:=23) [] [] 11|apply au|apply aR|refine @aM.cons _ _ _ _ inferInstance ?_|refine @aL.cons _ _ _ inferInstance ?_|apply bG|apply bL|apply bB|apply bK|apply bC|apply bH|refine bO rfl inferInstance dk qK ?_|refine cR rfl inferInstance rfl qK ?_|refine cN rfl inferInstance qK ?_|apply ae|apply bc|apply cI|apply cG|apply bF|refine aO rfl ?_|apply bE|apply cH|apply cF|apply fz|apply fy|refine fC rfl ?_|apply fA|apply fE|apply cJ|exact dk|(intro _;simp only[cu,cx,cC,List.map,List.cons_append,List.nil_append])|intro _
    ·have hil:i=(da.2.2.2.2.2.2.2.2.2.2.2.2).length:=qO
     have hc:decide ((i:Int)<((da.2.2.2.2.2.2.2.2.2.2.2.2).length:Int))=false:=decide_eq_false qO
     have hdn:=gJ (l:=da.2.2.2.2.2.2.2.2.2.2.2.2) (m:=db.2.2.2.2.2.2.2.2.2.2.2.2) qO hil ha
     rw [hdn]
     try simp only [Bool.true_and]
     refine aD h ?_
     clear h
     repeat' first|kernel_rfl|apply bI|apply bJ|apply bM|apply ab (id:=8) [(129,false)] [] 29|apply ab (id:=13) [(165,false),(180,false)] [] 43|apply ab (id:=18) [] [] 10|apply ab (id:=23) [] [] 11|apply au|apply aR|refine @aM.cons _ _ _ _ inferInstance ?_|refine @aL.cons _ _ _ inferInstance ?_|apply bG|apply bL|apply bB|apply bK|apply bC|apply bH|refine bO rfl inferInstance dk qK ?_|refine cR rfl inferInstance rfl qK ?_|refine cN rfl inferInstance qK ?_|apply ae|apply bc|apply cI|apply cG|apply bF|refine aO rfl ?_|apply bE|apply cH|apply cF|apply fz|apply fy|refine fC rfl ?_|apply fA|apply fE|apply cJ|exact dk|(intro _;simp only[cu,cx,cC,List.map,List.cons_append,List.nil_append])|intro _
end Go.Proofs.YtjjkikchncfekaaGreatDoor
