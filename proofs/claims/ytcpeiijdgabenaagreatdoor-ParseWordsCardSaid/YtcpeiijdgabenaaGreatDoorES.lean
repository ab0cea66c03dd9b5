/- Decimals that are read: the fraction lies in new blocks. -/
import Derived.Test.YtcpeiijdgabenaaGreatDoorER
import Derived.Test.YtcpeiijdgabenaaGreatDoorEQ
set_option maxHeartbeats 4000000
set_option maxRecDepth 20000
set_option synthInstance.maxHeartbeats 400000
set_option synthInstance.maxSize 4000
set_option linter.unusedSimpArgs false
set_option linter.unusedVariables false
namespace Go.Proofs.YtcpeiijdgabenaaGreatDoor
open Go Go.RowKit
variable {w:World}
theorem ru{q:Rat} {L B:Nat} {X:List Nat} {v:Value} (h:(ai.qn q L B).holds X w v):(ai.tr (Rp.frn B Rp.frac) [128] 0 (G_ q)).holds X w v:=by
 obtain ⟨x,⟨hf,_⟩,cs,e,hr⟩:=h
 obtain rfl:=Gu hf
 exact ⟨cs,e,Rp.frac.more hr fun b ⟨h1,h2,c,h3⟩=>⟨⟨h1, .inr ⟨c,_,_,h3,List.mem_singleton.2 rfl⟩⟩,h2,c,_,h3⟩⟩
theorem lw{S S':Nat→Prop} {cs:List Value} (h:Rp.limbs.rd w S [] cs):Rp.limbs.rd w S' [] cs:=by
 obtain ⟨A,n,c,e,⟨⟨g1,g2,g3,g4,g5⟩,_⟩,d⟩:=h
 have hn:n=0:=by simpa using g1.symm
 subst hn
 exact ⟨A,0,c,e,⟨⟨g1,g2,g3,g4,fun h=>absurd h qO⟩,fun h=>absurd h qO⟩,d⟩
theorem Ip{S S':Nat→Prop} {cs:List Value} (h:Rp.frac.rd w S zz cs):Rp.frac.rd w S' zz cs:=by
 obtain ⟨c1,c2,e,⟨a1,a2,e1,h1,h2⟩,⟨a3,a4,e2,h3,h4⟩⟩:=h
 exact ⟨c1,c2,e,⟨a1,a2,e1,h1,lw h2⟩,⟨a3,a4,e2,h3,lw h4⟩⟩
theorem rj{B:Nat} {X:List Nat} {v:Value} (h:ai.q0.holds X w v):(ai.tr (Rp.frn B Rp.frac) [128] 0 zz).holds X w v:=by
 obtain ⟨x,rfl,cs,e,hr⟩:=h
 exact ⟨cs,e,Ip hr⟩
instance {q:Rat} {L:Nat}:d8 fun B=> .qn q L B:=⟨fun hB h=>mP h hB⟩
def ai.qf (q:Rat) (e:Int) (B:Nat):ai:= .tr (Rp.frn B Rp.frac) [128] 0 (si q e)
instance {q:Rat} {e:Int}:d8 fun B=> .qf q e B:=inferInstanceAs (d8 fun B=> .tr (Rp.frn B Rp.frac) [128] 0 (si q e))
theorem yr {n:Bool} {a b:List UInt8} (hd:∀ c∈a++b,fc c) (hl:a.length+b.length≤40):dB Tryz.prog vE 237 [0] [.is (.agg #[.bool n,Tx a,Tx b])] (fun B=> .qn (CU n a b) 5 B):=by
 have hs:a.length+b.length≤9223372036854775807:=qO
 have hlen:(a++b).length≤40:=by rw [List.length_append];omega
 obtain ⟨hw,hwl⟩:=mS hd
 have hD:(10:Int)^b.length≠0:=by have:(0:Int)<10^b.length:=Int.pow_pos qD;omega
 have cp:=tU hw qO
 rw [rN] at cp
 have co:∀ {E:World→Prop},dB Tryz.prog S1 270 [0] [.vs [Tx (Lib.trimLeftB (a++b) 48),Tx [48]]] (fun _=> .is (Tx (vT (a++b)))):=fun {_}=>H8 rfl rfl rfl
 have cw:=A9 (k:=b.length) qO
 unfold CU
 refine fA Tryz.func237 rfl Tryz.ntmps237 qE (fun _ _=>by kernel_rfl) fun X w hE=> ?_
 simp only [bf,Nat.zero_add,Nat.reduceAdd]
 repeat' first|kernel_rfl|apply aF|apply aG|apply aI|apply aD|apply aH|apply aM|apply aN|apply aA|apply aE|apply be|apply aq|apply a_|apply a8|apply aB|refine fm rfl ?_|apply bc|exact sc trivial qP|exact lu rfl rfl rfl|exact sc trivial (co (E:=S1))|exact sc trivial cp|exact sc trivial cw|exact xi|exact uF|exact Fm hE.tab qO hD|exact cC qL|exact aL|exact bG qL|exact aj|exact ab|exact ah|exact aa|exact aJ|exact am|exact ae|exact Cv.rfl'|intro _
theorem DJ {n:Bool} {a b:List UInt8} (hd:∀ c∈a++b,fc c) (hl:a.length+b.length≤40):dB Tryz.prog vE 197 [0] [.is (.agg #[.bool n,Tx a,Tx b])] (fun B=> .tup [.qn (CU n a b) 5 B, .is (.int .i64 0)]):=by
 have hw:IntKind.i64.wrap ((a.length:Int)+(b.length:Int))=((a.length+b.length:Nat):Int):=dh qO qO
 have hc:decide ((40:Int)<((a.length+b.length:Nat):Int))=false:=decide_eq_false qO
 have cn:=yr (n:=n) hd hl
 refine fA Tryz.func197 rfl Tryz.ntmps197 qE (fun _ _=>by kernel_rfl) fun X w hE=> ?_
 simp only [bf,Nat.zero_add,Nat.reduceAdd]
 repeat' first|kernel_rfl|apply aF|apply aG|apply aI|apply aD|apply aH|apply aM|apply aN|apply aA|apply aE|apply be|apply aq|apply a_|apply a8|apply aB|refine oI rfl ?_|apply bc|exact sc hE cn|exact dZ|exact cC qL|exact aL|exact bG qL|exact ab|exact ah|exact aa|exact ay qG|exact am|exact ae|exact Cv.rfl'|intro _
theorem yD {l:List UInt8} (hl:l.length≤1000000):dB Tryz.prog vE 165 [0] [.is (Tx l)] (fun B=> .tup [.qf (dq l) (pE 2 l) B, .is (.int .i64 (pE 2 l))]):=by
 have hlp:=nZ l
 unfold pE
 have cd:=fun u=>od (l:=l) (b:=[]) (u:=u) hl
 cases hu:(Bw l&&(r3 l==[])) with
 |false=>
  replace cd:=cd false hu
  simp only [jp,cond_false] at cd ⊢
  refine fA Tryz.func165 rfl Tryz.ntmps165 qE (fun _ _=>by kernel_rfl) fun X w hE=> ?_
  simp only [bf,Nat.zero_add,Nat.reduceAdd]
  repeat' first|kernel_rfl|apply aF|apply aG|apply aI|apply aD|apply aH|apply aM|apply aN|apply aA|apply aE|refine bw rfl inferInstance (by first|exact sc trivial cd|exact sc hE cl|exact aL|exact ah|exact aa|exact ay (by first|assumption|rfl)|exact am|exact ae) qK ?_|refine bZ rfl inferInstance rfl qK ?_|refine bW rfl inferInstance qK ?_|apply be|apply aq|apply a_|apply a8|apply aB|refine oI rfl ?_|apply bc|exact sc trivial cd|exact dZ|exact sc hE cl|exact aL|exact aj|exact ab|exact ah|exact aa|exact aJ|exact bI|exact bH|exact ak (b:=true) (u:=false) rfl|exact ak (b:=false) (u:=true) rfl|exact ak rfl|exact ay qG|exact am|exact ae|exact ⟨fun _ _=>cM (fun _ g=>ru g) fun _ h=>h⟩|exact ⟨fun _ _=>cM (fun _ g=>rj g) fun _ h=>h⟩|exact Cv.rfl'|intro _
 |true=>
  replace cd:=cd true hu
  simp only [jp,cond_true] at cd ⊢
  cases hm:decide (2<(pc l).length) with
  |true=>
   have hm':decide ((2:Int)<((pc l).length:Int))=true:=by have:=of_decide_eq_true hm;exact decide_eq_true qO
   simp only [cond_true]
   refine fA Tryz.func165 rfl Tryz.ntmps165 qE (fun _ _=>by kernel_rfl) fun X w hE=> ?_
   simp only [bf,Nat.zero_add,Nat.reduceAdd]
   repeat' first|kernel_rfl|apply aF|apply aG|apply aI|apply aD|apply aH|apply aM|apply aN|apply aA|apply aE|refine bw rfl inferInstance (by first|exact sc trivial cd|exact sc hE cl|exact aL|exact ah|exact aa|exact ay (by first|assumption|rfl)|exact am|exact ae) qK ?_|refine bZ rfl inferInstance rfl qK ?_|refine bW rfl inferInstance qK ?_|apply be|apply aq|apply a_|apply a8|apply aB|refine oI rfl ?_|apply bc|exact sc trivial cd|exact dZ|exact sc hE cl|exact aL|exact aj|exact ab|exact ah|exact aa|exact aJ|exact bI|exact bH|exact ak (b:=true) (u:=false) rfl|exact ak (b:=false) (u:=true) rfl|exact ak rfl|exact ay qG|exact am|exact ae|exact ⟨fun _ _=>cM (fun _ g=>ru g) fun _ h=>h⟩|exact ⟨fun _ _=>cM (fun _ g=>rj g) fun _ h=>h⟩|exact Cv.rfl'|intro _
  |false=>
   have hm':decide ((2:Int)<((pc l).length:Int))=false:=by have:=of_decide_eq_false hm;exact decide_eq_false qO
   simp only [cond_false]
   cases hc:decide (40<(wh l).length+(pc l).length) with
   |true=>
    have cl:=Ci (n:=ng l) (of_decide_eq_true hc) qO
    simp only [cond_true]
    refine fA Tryz.func165 rfl Tryz.ntmps165 qE (fun _ _=>by kernel_rfl) fun X w hE=> ?_
    simp only [bf,Nat.zero_add,Nat.reduceAdd]
    repeat' first|kernel_rfl|apply aF|apply aG|apply aI|apply aD|apply aH|apply aM|apply aN|apply aA|apply aE|refine bw rfl inferInstance (by first|exact sc trivial cd|exact sc hE cl|exact aL|exact ah|exact aa|exact ay (by first|assumption|rfl)|exact am|exact ae) qK ?_|refine bZ rfl inferInstance rfl qK ?_|refine bW rfl inferInstance qK ?_|apply be|apply aq|apply a_|apply a8|apply aB|refine oI rfl ?_|apply bc|exact sc trivial cd|exact dZ|exact sc hE cl|exact aL|exact aj|exact ab|exact ah|exact aa|exact aJ|exact bI|exact bH|exact ak (b:=true) (u:=false) rfl|exact ak (b:=false) (u:=true) rfl|exact ak rfl|exact ay qG|exact am|exact ae|exact ⟨fun _ _=>cM (fun _ g=>ru g) fun _ h=>h⟩|exact ⟨fun _ _=>cM (fun _ g=>rj g) fun _ h=>h⟩|exact Cv.rfl'|intro _
   |false=>
    have cl:=DJ (n:=ng l) (vJ l) (by have:=of_decide_eq_false hc;omega)
    simp only [cond_false]
    refine fA Tryz.func165 rfl Tryz.ntmps165 qE (fun _ _=>by kernel_rfl) fun X w hE=> ?_
    simp only [bf,Nat.zero_add,Nat.reduceAdd]
    repeat' first|kernel_rfl|apply aF|apply aG|apply aI|apply aD|apply aH|apply aM|apply aN|apply aA|apply aE|refine bw rfl inferInstance (by first|exact sc trivial cd|exact sc hE cl|exact aL|exact ah|exact aa|exact ay (by first|assumption|rfl)|exact am|exact ae) qK ?_|refine bZ rfl inferInstance rfl qK ?_|refine bW rfl inferInstance qK ?_|apply be|apply aq|apply a_|apply a8|apply aB|refine oI rfl ?_|apply bc|exact sc trivial cd|exact dZ|exact sc hE cl|exact aL|exact aj|exact ab|exact ah|exact aa|exact aJ|exact bI|exact bH|exact ak (b:=true) (u:=false) rfl|exact ak (b:=false) (u:=true) rfl|exact ak rfl|exact ay qG|exact am|exact ae|exact ⟨fun _ _=>cM (fun _ g=>ru g) fun _ h=>h⟩|exact ⟨fun _ _=>cM (fun _ g=>rj g) fun _ h=>h⟩|exact Cv.rfl'|intro _
theorem AB {l:List UInt8} (hl:l.length≤1000000):dB Tryz.prog vE 163 [0] [.is (Tx l)] (fun B=> .tup [.qf (dq l / tK) (zl l) B, .is (.int .i64 (zl l))]):=by
 have hlp:=nZ l
 have hl4:decide ((4:Int)<((pc l).length:Int))=decide (4<(pc l).length):=decide_eq_decide.2 qO
 unfold zl
 have cd:=fun u=>od (l:=l) (b:=[37]) (u:=u) hl
 cases hu:(Bw l&&(r3 l==[37])) with
 |false=>
  replace cd:=cd false hu
  simp only [jp,cond_false] at cd ⊢
  refine fA Tryz.func163 rfl Tryz.ntmps163 qE (fun _ _=>by kernel_rfl) fun X w hE=> ?_
  simp only [bf,Nat.zero_add,Nat.reduceAdd]
  repeat' first|kernel_rfl|apply aF|apply aG|apply aI|apply bQ|apply de|exact bT.nil|exact aZ.nil|exact aY.nil|refine @aZ.cons _ _ _ _ inferInstance ?_|refine @aY.cons _ _ _ inferInstance ?_|apply aD|apply aH|apply aM|apply aN|apply aA|apply aE|refine bw rfl inferInstance (by first|exact sc trivial cd|exact sc hE cl|exact aL|exact ah|exact aa|exact ay (by first|assumption|rfl)|exact am|exact ae) qK ?_|refine bZ rfl inferInstance rfl qK ?_|refine bW rfl inferInstance qK ?_|apply be|apply aq|apply a_|apply a8|apply aB|refine oI rfl ?_|apply bc|exact sc trivial cd|exact dZ|exact sc hE cl|exact iu hE.tab qD|exact lb hE.tab qO|exact nG hE.tab qO lp|exact aL|exact dI qG|exact aj|exact ab|exact ah|exact aa|exact aJ|exact bI|exact bH|exact ak (b:=true) (u:=false) rfl|exact ak (b:=false) (u:=true) rfl|exact ak rfl|exact bq qG|exact ay qG|exact am|exact ae|exact ⟨fun _ _=>cM (fun _ g=>ru g) fun _ h=>h⟩|exact ⟨fun _ _=>cM (fun _ g=>rj g) fun _ h=>h⟩|exact Cv.rfl'|(intro _;simp only[cP,cQ,cS,List.map,List.cons_append,List.nil_append])|intro _
 |true=>
  replace cd:=cd true hu
  simp only [jp,cond_true] at cd ⊢
  cases hn:ng l with
  |true=>
   rw [hn] at cd
   simp only [Bool.true_or,cond_true]
   refine fA Tryz.func163 rfl Tryz.ntmps163 qE (fun _ _=>by kernel_rfl) fun X w hE=> ?_
   simp only [bf,Nat.zero_add,Nat.reduceAdd]
   repeat' first|kernel_rfl|apply aF|apply aG|apply aI|apply bQ|apply de|exact bT.nil|exact aZ.nil|exact aY.nil|refine @aZ.cons _ _ _ _ inferInstance ?_|refine @aY.cons _ _ _ inferInstance ?_|apply aD|apply aH|apply aM|apply aN|apply aA|apply aE|refine bw rfl inferInstance (by first|exact sc trivial cd|exact sc hE cl|exact aL|exact ah|exact aa|exact ay (by first|assumption|rfl)|exact am|exact ae) qK ?_|refine bZ rfl inferInstance rfl qK ?_|refine bW rfl inferInstance qK ?_|apply be|apply aq|apply a_|apply a8|apply aB|refine oI rfl ?_|apply bc|exact sc trivial cd|exact dZ|exact sc hE cl|exact iu hE.tab qD|exact lb hE.tab qO|exact nG hE.tab qO lp|exact aL|exact dI qG|exact aj|exact ab|exact ah|exact aa|exact aJ|exact bI|exact bH|exact ak (b:=true) (u:=false) rfl|exact ak (b:=false) (u:=true) rfl|exact ak rfl|exact bq qG|exact ay qG|exact am|exact ae|exact ⟨fun _ _=>cM (fun _ g=>ru g) fun _ h=>h⟩|exact ⟨fun _ _=>cM (fun _ g=>rj g) fun _ h=>h⟩|exact Cv.rfl'|(intro _;simp only[cP,cQ,cS,List.map,List.cons_append,List.nil_append])|intro _
  |false=>
   rw [hn] at cd
   rw [←hl4]
   cases h4:decide ((4:Int)<((pc l).length:Int)) with
   |true=>
    simp only [Bool.or_true,Bool.true_or,cond_true]
    refine fA Tryz.func163 rfl Tryz.ntmps163 qE (fun _ _=>by kernel_rfl) fun X w hE=> ?_
    simp only [bf,Nat.zero_add,Nat.reduceAdd]
    repeat' first|kernel_rfl|apply aF|apply aG|apply aI|apply bQ|apply de|exact bT.nil|exact aZ.nil|exact aY.nil|refine @aZ.cons _ _ _ _ inferInstance ?_|refine @aY.cons _ _ _ inferInstance ?_|apply aD|apply aH|apply aM|apply aN|apply aA|apply aE|refine bw rfl inferInstance (by first|exact sc trivial cd|exact sc hE cl|exact aL|exact ah|exact aa|exact ay (by first|assumption|rfl)|exact am|exact ae) qK ?_|refine bZ rfl inferInstance rfl qK ?_|refine bW rfl inferInstance qK ?_|apply be|apply aq|apply a_|apply a8|apply aB|refine oI rfl ?_|apply bc|exact sc trivial cd|exact dZ|exact sc hE cl|exact iu hE.tab qD|exact lb hE.tab qO|exact nG hE.tab qO lp|exact aL|exact dI qG|exact aj|exact ab|exact ah|exact aa|exact aJ|exact bI|exact bH|exact ak (b:=true) (u:=false) rfl|exact ak (b:=false) (u:=true) rfl|exact ak rfl|exact bq qG|exact ay qG|exact am|exact ae|exact ⟨fun _ _=>cM (fun _ g=>ru g) fun _ h=>h⟩|exact ⟨fun _ _=>cM (fun _ g=>rj g) fun _ h=>h⟩|exact Cv.rfl'|(intro _;simp only[cP,cQ,cS,List.map,List.cons_append,List.nil_append])|intro _
   |false=>
    cases hc:decide (40<(wh l).length+(pc l).length) with
    |true=>
     have cl:=Ci (n:=false) (of_decide_eq_true hc) qO
     simp only [Bool.or_true,Bool.true_or,cond_true]
     refine fA Tryz.func163 rfl Tryz.ntmps163 qE (fun _ _=>by kernel_rfl) fun X w hE=> ?_
     simp only [bf,Nat.zero_add,Nat.reduceAdd]
     repeat' first|kernel_rfl|apply aF|apply aG|apply aI|apply b9 (id:=5) [(33,true)] [] 7|(apply FZ;(focus rfl);(focus kernel_rfl))|apply bQ|apply de|exact bT.nil|exact aZ.nil|exact aY.nil|refine @aZ.cons _ _ _ _ inferInstance ?_|refine @aY.cons _ _ _ inferInstance ?_|apply aD|apply aH|apply aM|apply aN|apply aA|apply aE|refine bw rfl inferInstance (by first|exact sc trivial cd|exact sc hE cl|exact aL|exact ah|exact aa|exact ay (by first|assumption|rfl)|exact am|exact ae) qK ?_|refine bZ rfl inferInstance rfl qK ?_|refine bW rfl inferInstance qK ?_|apply be|apply aq|apply a_|apply a8|apply aB|refine oI rfl ?_|apply bc|exact sc trivial cd|exact dZ|exact sc hE cl|exact iu hE.tab qD|exact lb hE.tab qO|exact nG hE.tab qO lp|exact aL|exact dI qG|exact aj|exact ab|exact ah|exact aa|exact aJ|exact bI|exact bH|exact ak (b:=true) (u:=false) rfl|exact ak (b:=false) (u:=true) rfl|exact ak rfl|exact bq qG|exact ay qG|exact am|exact ae|exact ⟨fun _ _=>cM (fun _ g=>ru g) fun _ h=>h⟩|exact ⟨fun _ _=>cM (fun _ g=>rj g) fun _ h=>h⟩|exact Cv.rfl'|(intro _;simp only[cP,cQ,cS,List.map,List.cons_append,List.nil_append])|intro _
    |false=>
     have cl:=Fr (n:=false) (vJ l) (by have:=of_decide_eq_false hc;omega)
     unfold dq
     rw [hn]
     cases hq:decide (0<gb (CU false (wh l) (pc l)) tK) with
     |true=>
      simp only [Bool.or_true,cond_true]
      refine fA Tryz.func163 rfl Tryz.ntmps163 qE (fun _ _=>by kernel_rfl) fun X w hE=> ?_
      simp only [bf,Nat.zero_add,Nat.reduceAdd]
      repeat' first|kernel_rfl|apply aF|apply aG|apply aI|apply b9 (id:=5) [(33,false)] [] 7|apply b9 (id:=7) [] [] 5|apply bQ|apply de|exact bT.nil|exact aZ.nil|exact aY.nil|refine @aZ.cons _ _ _ _ inferInstance ?_|refine @aY.cons _ _ _ inferInstance ?_|apply aD|apply aH|apply aM|apply aN|apply aA|apply aE|refine bw rfl inferInstance (by first|exact sc trivial cd|exact sc hE cl|exact aL|exact ah|exact aa|exact ay (by first|assumption|rfl)|exact am|exact ae) qK ?_|refine bZ rfl inferInstance rfl qK ?_|refine bW rfl inferInstance qK ?_|apply be|apply aq|apply a_|apply a8|apply aB|refine oI rfl ?_|apply bc|exact sc trivial cd|exact dZ|exact sc hE cl|exact iu hE.tab qD|exact lb hE.tab qO|exact nG hE.tab qO lp|exact aL|exact dI qG|exact aj|exact ab|exact ah|exact aa|exact aJ|exact bI|exact bH|exact ak (b:=true) (u:=false) rfl|exact ak (b:=false) (u:=true) rfl|exact ak rfl|exact bq qG|exact ay qG|exact am|exact ae|exact ⟨fun _ _=>cM (fun _ g=>ru g) fun _ h=>h⟩|exact ⟨fun _ _=>cM (fun _ g=>rj g) fun _ h=>h⟩|exact Cv.rfl'|(intro _;simp only[cP,cQ,cS,List.map,List.cons_append,List.nil_append])|intro _
     |false=>
      simp only [Bool.or_false,cond_false]
      refine fA Tryz.func163 rfl Tryz.ntmps163 qE (fun _ _=>by kernel_rfl) fun X w hE=> ?_
      simp only [bf,Nat.zero_add,Nat.reduceAdd]
      repeat' first|kernel_rfl|apply aF|apply aG|apply aI|apply b9 (id:=5) [(33,false)] [] 7|apply b9 (id:=7) [] [] 5|apply bQ|apply de|exact bT.nil|exact aZ.nil|exact aY.nil|refine @aZ.cons _ _ _ _ inferInstance ?_|refine @aY.cons _ _ _ inferInstance ?_|apply aD|apply aH|apply aM|apply aN|apply aA|apply aE|refine bw rfl inferInstance (by first|exact sc trivial cd|exact sc hE cl|exact aL|exact ah|exact aa|exact ay (by first|assumption|rfl)|exact am|exact ae) qK ?_|refine bZ rfl inferInstance rfl qK ?_|refine bW rfl inferInstance qK ?_|apply be|apply aq|apply a_|apply a8|apply aB|refine oI rfl ?_|apply bc|exact sc trivial cd|exact dZ|exact sc hE cl|exact iu hE.tab qD|exact lb hE.tab qO|exact nG hE.tab qO lp|exact aL|exact dI qG|exact aj|exact ab|exact ah|exact aa|exact aJ|exact bI|exact bH|exact ak (b:=true) (u:=false) rfl|exact ak (b:=false) (u:=true) rfl|exact ak rfl|exact bq qG|exact ay qG|exact am|exact ae|exact ⟨fun _ _=>cM (fun _ g=>ru g) fun _ h=>h⟩|exact ⟨fun _ _=>cM (fun _ g=>rj g) fun _ h=>h⟩|exact Cv.rfl'|(intro _;simp only[cP,cQ,cS,List.map,List.cons_append,List.nil_append])|intro _
end Go.Proofs.YtcpeiijdgabenaaGreatDoor
