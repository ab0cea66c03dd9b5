/- tallageref08: numbers. -/
import Derived.Test.YtpmhjieibebclaaGreatDoorCV
import Derived.Test.YtpmhjieibebclaaGreatDoorCX
import Derived.Test.YtpmhjieibebclaaGreatDoorCT
import Derived.Test.YtpmhjieibebclaaGreatDoorCU
set_option maxHeartbeats 40000000
set_option maxRecDepth 20000
set_option synthInstance.maxHeartbeats 400000
set_option synthInstance.maxSize 4000
set_option linter.unusedSimpArgs false
set_option linter.unusedVariables false
namespace Go.Proofs.YtpmhjieibebclaaGreatDoor
open Go Go.RowKit
variable {most i:Nat}
theorem yJ{b:Bool} {l:List Bool} (h:i=most):iH most i (b::l)=((i:Int),3):=ft h
theorem AF{l:List Bool} (h:i≠most):iH most i (false::l)=((i:Int),2):=fy h rfl
theorem F4{l:List Bool} (h:i≠most):iH most i (true::l)=iH most (i+1) l:=fS h rfl
def tN (d:aj):Int:=bif decide (0≤fz 0 (dR d)) then fz 0 (dR d) else 7
theorem AB:∀ {l:List Bool} {i:Nat},0≤fz i l→fz i l<((i+l.length:Nat):Int)
 |[],i,h=>by cases h
 |b::l,i,h=>by
  unfold fz at h ⊢
  cases b
  ·show (i:Int)<_
   rw [List.length_cons];omega
  ·have:=AB (l:=l) (i:=i+1) h
   rw [List.length_cons]
   show fz (i+1) l<_
   omega
instance:uR Tryz.prog 93:=⟨⟨_,Tryz.underlying93,by kernel_rfl,fun w=>⟨.int .i64 0,by go_simp⟩⟩⟩
theorem cj {p:Prop} (h:p:=by first|exact gW (by assumption)|exact fO|exact jE|exact l8 (by assumption)|exact iA|exact nP gm|exact tj rfl rfl rfl|exact yA (by assumption)|exact wi|exact AK Tryz.underlying3 Tryz.underlying5 hu8|exact dt|exact dE|exact du|exact bm|exact fi|exact eI|exact eH|exact bO (b:=true) (u:=false) rfl|exact bO (b:=false) (u:=true) rfl|exact bO rfl|exact jT (by first|assumption|rfl)|exact iE (by first|assumption|rfl)|exact mN (by first|assumption|rfl)|exact l7 (by first|assumption|rfl)|exact dh (by assumption)|exact dA|exact d8.nil|exact bG.nil|exact bE.nil|exact sc hE s3|exact sc hE s4|exact sc hE s7|exact sc hE m8|exact sc trivial k0|exact sc trivial k1|exact sc hE kn|exact sc hE km|exact sc hE qh|exact Cv.rfl'):p:=h
theorem xl {d:aj} (hf:nf d):bW Tryz.prog cK 27 [0] [.ra ab d] (fun _=> .is (.int .i64 (tN d))):=by
 have s3:=eL hf.thr
 have s4:=eL hf.cap
 have s7:=eL hf.int
 have m8:=f7 hf.flo
 have hk:dR d=_:=rfl
 conv at hk=>rhs;unfold dR gp
 cases h1:decide ((0:Int)≤d.2.2.2.2.2.1)<;>cases h2:decide ((0:Int)≤d.2.2.2.2.2.2.1)<;>cases h3:decide ((0:Int)≤d.2.2.2.2.2.2.2.2.2.1)
 focus
  rw [h1,h2,h3] at hk
  simp only [Bool.false_and,Bool.true_and] at hk
  refine Jr Tryz.func27 rfl Tryz.ntmps27 qE (fun _ _=>by kernel_rfl) fun X w0 hE=> ?_
  simp only [eK,Nat.zero_add,Nat.reduceAdd]
  repeat' first|kernel_rfl|apply cx|apply cy|apply cE|apply ar (id:=1) [(17,false),(25,false),(33,false)] [] 37|(apply m7;(focus rfl);(focus kernel_rfl))|apply az|apply aW|refine @bG.cons _ _ _ _ inferInstance ?_|refine @bE.cons _ _ _ inferInstance ?_|apply cu|apply cB|apply co|apply cA|apply cp|apply cw|refine fK rfl inferInstance cj qK ?_|refine jz rfl inferInstance rfl qK ?_|refine jh rfl inferInstance qK ?_|apply ae|apply bB|apply eB|apply eu|apply ct|refine aQ rfl ?_|apply cq|apply ew|apply ep|apply jl|apply jj|refine jt rfl ?_|apply jn|apply jw|apply eC|exact cj|(intro _;simp only[cf,ci,cm,List.map,List.cons_append,List.nil_append])|intro _
  refine aY fun a w h=> ?_
  have hv:=congrArg (List.map Value.bool) hk
  simp only [List.map] at hv
  rw [←hv] at h
 rotate_left
 focus
  rw [h1,h2,h3] at hk
  simp only [Bool.false_and,Bool.true_and] at hk
  refine Jr Tryz.func27 rfl Tryz.ntmps27 qE (fun _ _=>by kernel_rfl) fun X w0 hE=> ?_
  simp only [eK,Nat.zero_add,Nat.reduceAdd]
  repeat' first|kernel_rfl|apply cx|apply cy|apply cE|apply ar (id:=1) [(17,false),(25,false),(33,true)] [] 37|(apply m7;(focus rfl);(focus kernel_rfl))|apply az|apply aW|refine @bG.cons _ _ _ _ inferInstance ?_|refine @bE.cons _ _ _ inferInstance ?_|apply cu|apply cB|apply co|apply cA|apply cp|apply cw|refine fK rfl inferInstance cj qK ?_|refine jz rfl inferInstance rfl qK ?_|refine jh rfl inferInstance qK ?_|apply ae|apply bB|apply eB|apply eu|apply ct|refine aQ rfl ?_|apply cq|apply ew|apply ep|apply jl|apply jj|refine jt rfl ?_|apply jn|apply jw|apply eC|exact cj|(intro _;simp only[cf,ci,cm,List.map,List.cons_append,List.nil_append])|intro _
  refine aY fun a w h=> ?_
  have hv:=congrArg (List.map Value.bool) hk
  simp only [List.map] at hv
  rw [←hv] at h
 rotate_left
 focus
  rw [h1,h2,h3] at hk
  simp only [Bool.false_and,Bool.true_and] at hk
  refine Jr Tryz.func27 rfl Tryz.ntmps27 qE (fun _ _=>by kernel_rfl) fun X w0 hE=> ?_
  simp only [eK,Nat.zero_add,Nat.reduceAdd]
  repeat' first|kernel_rfl|apply cx|apply cy|apply cE|apply ar (id:=1) [(17,false),(25,true),(33,false)] [] 37|(apply m7;(focus rfl);(focus kernel_rfl))|apply az|apply aW|refine @bG.cons _ _ _ _ inferInstance ?_|refine @bE.cons _ _ _ inferInstance ?_|apply cu|apply cB|apply co|apply cA|apply cp|apply cw|refine fK rfl inferInstance cj qK ?_|refine jz rfl inferInstance rfl qK ?_|refine jh rfl inferInstance qK ?_|apply ae|apply bB|apply eB|apply eu|apply ct|refine aQ rfl ?_|apply cq|apply ew|apply ep|apply jl|apply jj|refine jt rfl ?_|apply jn|apply jw|apply eC|exact cj|(intro _;simp only[cf,ci,cm,List.map,List.cons_append,List.nil_append])|intro _
  refine aY fun a w h=> ?_
  have hv:=congrArg (List.map Value.bool) hk
  simp only [List.map] at hv
  rw [←hv] at h
 rotate_left
 focus
  rw [h1,h2,h3] at hk
  simp only [Bool.false_and,Bool.true_and] at hk
  refine Jr Tryz.func27 rfl Tryz.ntmps27 qE (fun _ _=>by kernel_rfl) fun X w0 hE=> ?_
  simp only [eK,Nat.zero_add,Nat.reduceAdd]
  repeat' first|kernel_rfl|apply cx|apply cy|apply cE|apply ar (id:=1) [(17,false),(25,true),(33,true)] [] 37|(apply m7;(focus rfl);(focus kernel_rfl))|apply az|apply aW|refine @bG.cons _ _ _ _ inferInstance ?_|refine @bE.cons _ _ _ inferInstance ?_|apply cu|apply cB|apply co|apply cA|apply cp|apply cw|refine fK rfl inferInstance cj qK ?_|refine jz rfl inferInstance rfl qK ?_|refine jh rfl inferInstance qK ?_|apply ae|apply bB|apply eB|apply eu|apply ct|refine aQ rfl ?_|apply cq|apply ew|apply ep|apply jl|apply jj|refine jt rfl ?_|apply jn|apply jw|apply eC|exact cj|(intro _;simp only[cf,ci,cm,List.map,List.cons_append,List.nil_append])|intro _
  refine aY fun a w h=> ?_
  have hv:=congrArg (List.map Value.bool) hk
  simp only [List.map] at hv
  rw [←hv] at h
 rotate_left
 focus
  rw [h1,h2,h3] at hk
  simp only [Bool.false_and,Bool.true_and] at hk
  refine Jr Tryz.func27 rfl Tryz.ntmps27 qE (fun _ _=>by kernel_rfl) fun X w0 hE=> ?_
  simp only [eK,Nat.zero_add,Nat.reduceAdd]
  repeat' first|kernel_rfl|apply cx|apply cy|apply cE|apply ar (id:=1) [(17,true),(25,false),(33,false)] [] 37|(apply m7;(focus rfl);(focus kernel_rfl))|apply az|apply aW|refine @bG.cons _ _ _ _ inferInstance ?_|refine @bE.cons _ _ _ inferInstance ?_|apply cu|apply cB|apply co|apply cA|apply cp|apply cw|refine fK rfl inferInstance cj qK ?_|refine jz rfl inferInstance rfl qK ?_|refine jh rfl inferInstance qK ?_|apply ae|apply bB|apply eB|apply eu|apply ct|refine aQ rfl ?_|apply cq|apply ew|apply ep|apply jl|apply jj|refine jt rfl ?_|apply jn|apply jw|apply eC|exact cj|(intro _;simp only[cf,ci,cm,List.map,List.cons_append,List.nil_append])|intro _
  refine aY fun a w h=> ?_
  have hv:=congrArg (List.map Value.bool) hk
  simp only [List.map] at hv
  rw [←hv] at h
 rotate_left
 focus
  rw [h1,h2,h3] at hk
  simp only [Bool.false_and,Bool.true_and] at hk
  refine Jr Tryz.func27 rfl Tryz.ntmps27 qE (fun _ _=>by kernel_rfl) fun X w0 hE=> ?_
  simp only [eK,Nat.zero_add,Nat.reduceAdd]
  repeat' first|kernel_rfl|apply cx|apply cy|apply cE|apply ar (id:=1) [(17,true),(25,false),(33,true)] [] 37|(apply m7;(focus rfl);(focus kernel_rfl))|apply az|apply aW|refine @bG.cons _ _ _ _ inferInstance ?_|refine @bE.cons _ _ _ inferInstance ?_|apply cu|apply cB|apply co|apply cA|apply cp|apply cw|refine fK rfl inferInstance cj qK ?_|refine jz rfl inferInstance rfl qK ?_|refine jh rfl inferInstance qK ?_|apply ae|apply bB|apply eB|apply eu|apply ct|refine aQ rfl ?_|apply cq|apply ew|apply ep|apply jl|apply jj|refine jt rfl ?_|apply jn|apply jw|apply eC|exact cj|(intro _;simp only[cf,ci,cm,List.map,List.cons_append,List.nil_append])|intro _
  refine aY fun a w h=> ?_
  have hv:=congrArg (List.map Value.bool) hk
  simp only [List.map] at hv
  rw [←hv] at h
 rotate_left
 focus
  rw [h1,h2,h3] at hk
  simp only [Bool.false_and,Bool.true_and] at hk
  refine Jr Tryz.func27 rfl Tryz.ntmps27 qE (fun _ _=>by kernel_rfl) fun X w0 hE=> ?_
  simp only [eK,Nat.zero_add,Nat.reduceAdd]
  repeat' first|kernel_rfl|apply cx|apply cy|apply cE|apply ar (id:=1) [(17,true),(25,true),(33,false)] [] 37|(apply m7;(focus rfl);(focus kernel_rfl))|apply az|apply aW|refine @bG.cons _ _ _ _ inferInstance ?_|refine @bE.cons _ _ _ inferInstance ?_|apply cu|apply cB|apply co|apply cA|apply cp|apply cw|refine fK rfl inferInstance cj qK ?_|refine jz rfl inferInstance rfl qK ?_|refine jh rfl inferInstance qK ?_|apply ae|apply bB|apply eB|apply eu|apply ct|refine aQ rfl ?_|apply cq|apply ew|apply ep|apply jl|apply jj|refine jt rfl ?_|apply jn|apply jw|apply eC|exact cj|(intro _;simp only[cf,ci,cm,List.map,List.cons_append,List.nil_append])|intro _
  refine aY fun a w h=> ?_
  have hv:=congrArg (List.map Value.bool) hk
  simp only [List.map] at hv
  rw [←hv] at h
 rotate_left
 focus
  rw [h1,h2,h3] at hk
  simp only [Bool.false_and,Bool.true_and] at hk
  refine Jr Tryz.func27 rfl Tryz.ntmps27 qE (fun _ _=>by kernel_rfl) fun X w0 hE=> ?_
  simp only [eK,Nat.zero_add,Nat.reduceAdd]
  repeat' first|kernel_rfl|apply cx|apply cy|apply cE|apply ar (id:=1) [(17,true),(25,true),(33,true)] [] 37|apply az|apply aW|refine @bG.cons _ _ _ _ inferInstance ?_|refine @bE.cons _ _ _ inferInstance ?_|apply cu|apply cB|apply co|apply cA|apply cp|apply cw|refine fK rfl inferInstance cj qK ?_|refine jz rfl inferInstance rfl qK ?_|refine jh rfl inferInstance qK ?_|apply ae|apply bB|apply eB|apply eu|apply ct|refine aQ rfl ?_|apply cq|apply ew|apply ep|apply jl|apply jj|refine jt rfl ?_|apply jn|apply jw|apply eC|exact cj|(intro _;simp only[cf,ci,cm,List.map,List.cons_append,List.nil_append])|intro _
  refine aY fun a w h=> ?_
  have hv:=congrArg (List.map Value.bool) hk
  simp only [List.map] at hv
  rw [←hv] at h
 rotate_left
 all_goals rename_i r1 rr
 all_goals clear s3 s4 s7 m8 hk h1 h2 h3
 all_goals
  have hk7:(dR d).length=7:=rfl
  have hml:((dR d).map Value.bool).length=7:=rfl
  refine aO (fun k a u=>∃ i:Nat,i+k=7∧fz i ((dR d).drop i)=fz 0 (dR d)∧TS w0 (r1::X) [(r1, .ra ab d)] [(4, .is (.int .i64 (i:Int))),(3, .vs ((dR d).map Value.bool))] 52 a u) 7 ⟨0,rfl,rfl,h.keep [4,3]⟩ ?_
  clear h hv
  rintro k a u ⟨i,hi,ha,h⟩
  by_cases hlt:i<7
  ·obtain ⟨x,hx⟩:∃ x,(dR d)[i]? =some x:=⟨_,List.getElem?_eq_getElem qO⟩
   have hxv:((dR d).map Value.bool)[i]? =some (.bool x):=by rw [List.getElem?_map,hx];rfl
   have hc:decide ((i:Int)<(7:Int))=true:=decide_eq_true qO
   have hw:IntKind.i64.wrap ((i:Int)+1)=((i+1:Nat):Int):=aA qO qO
   rw [ek hx] at ha
   cases x
   ·have e:tN d=(i:Int):=by
     have ha:(i:Int)=fz 0 (dR d):=ha
     unfold tN
     rw [←ha,decide_eq_true qO]
     rfl
    rw [e]
    refine aB h ?_
    clear h
    repeat' first|kernel_rfl|apply cx|apply cy|apply cE|apply az|apply aW|refine @bG.cons _ _ _ _ inferInstance ?_|refine @bE.cons _ _ _ inferInstance ?_|apply cu|apply cB|apply co|apply cA|apply cp|apply cw|refine fK rfl inferInstance cj qK ?_|refine jz rfl inferInstance rfl qK ?_|refine jh rfl inferInstance qK ?_|apply ae|apply bB|apply eB|apply eu|apply ct|refine aQ rfl ?_|apply cq|apply ew|apply ep|apply jl|apply jj|refine jt rfl ?_|apply jn|apply jw|apply eC|exact cj|(intro _;simp only[cf,ci,cm,List.map,List.cons_append,List.nil_append])|intro _
   ·have ha:fz (i+1) ((dR d).drop (i+1))=fz 0 (dR d):=ha
    refine aB h ?_
    clear h
    repeat' first|kernel_rfl|exact a8 fun _ _ h=>⟨k - 1,by omega,i+1,by omega,ha,h.keep [4,3]⟩|apply cx|apply cy|apply cE|apply az|apply aW|refine @bG.cons _ _ _ _ inferInstance ?_|refine @bE.cons _ _ _ inferInstance ?_|apply cu|apply cB|apply co|apply cA|apply cp|apply cw|refine fK rfl inferInstance cj qK ?_|refine jz rfl inferInstance rfl qK ?_|refine jh rfl inferInstance qK ?_|apply ae|apply bB|apply eB|apply eu|apply ct|refine aQ rfl ?_|apply cq|apply ew|apply ep|apply jl|apply jj|refine jt rfl ?_|apply jn|apply jw|apply eC|exact cj|(intro _;simp only[cf,ci,cm,List.map,List.cons_append,List.nil_append])|intro _
  ·obtain rfl:i=7:=qO
   have hc:decide (((7:Nat):Int)<(7:Int))=false:=rfl
   have e:tN d=7:=by
    have ha:(-1:Int)=fz 0 (dR d):=ha
    unfold tN
    rw [←ha]
    rfl
   rw [e]
   refine aB h ?_
   clear h
   repeat' first|kernel_rfl|apply cx|apply cy|apply cE|apply az|apply aW|refine @bG.cons _ _ _ _ inferInstance ?_|refine @bE.cons _ _ _ inferInstance ?_|apply cu|apply cB|apply co|apply cA|apply cp|apply cw|refine fK rfl inferInstance cj qK ?_|refine jz rfl inferInstance rfl qK ?_|refine jh rfl inferInstance qK ?_|apply ae|apply bB|apply eB|apply eu|apply ct|refine aQ rfl ?_|apply cq|apply ew|apply ep|apply jl|apply jj|refine jt rfl ?_|apply jn|apply jw|apply eC|exact cj|(intro _;simp only[cf,ci,cm,List.map,List.cons_append,List.nil_append])|intro _
theorem Ai {d:aj} (hn:qX d) (p:Nat):(fL d p).length≤1000:=by
 have h1:=hn.br
 have h2:=hn.cl
 have h3:=hn.en
 have h4:=hn.ys
 unfold fL
 split
 all_goals simp only [List.length_map,List.length_nil]
 all_goals omega
theorem Av {y:aX} (hn:y.2.1.length≤40∧y.2.2.1.length≤40∧y.2.2.2.1.length≤40∧y.2.2.2.2.1.length≤40∧y.2.2.2.2.2.length≤40) (p:Nat):(fE y p).length≤1000:=by
 obtain ⟨h1,h2,h3,h4,h5⟩:=hn
 unfold fE
 split
 all_goals simp only [List.length_map,List.length_nil]
 all_goals omega
abbrev Cu (d:aj):List Value:=[.int .i64 0, .int .i64 0, .int .i64 ((d.2.2.1).length:Int), .int .i64 0, .int .i64 ((d.2.2.2.2.2.2.2.2.2.2.1).length:Int), .int .i64 ((d.2.2.2.2.2.2.2.2.2.2.2.1).length:Int), .int .i64 ((d.2.2.2.2.2.2.2.2.2.2.2.2).length:Int)]
abbrev yg:List Value:=[.int .i64 0, .int .i64 0, .int .i64 16, .int .i64 0, .int .i64 64, .int .i64 256, .int .i64 40]
abbrev Gy (y:aX):List Value:=[.int .i64 0, .int .i64 0, .int .i64 0, .int .i64 0, .int .i64 0, .int .i64 0, .int .i64 0, .int .i64 ((y.2.1).length:Int), .int .i64 ((y.2.2.1).length:Int), .int .i64 ((y.2.2.2.1).length:Int), .int .i64 ((y.2.2.2.2.1).length:Int), .int .i64 ((y.2.2.2.2.2).length:Int)]
theorem Ia (d:aj) {p:Nat} (hp:p=2∨p=4∨p=5∨p=6):(Cu d)[p]? =some (.int .i64 ((fL d p).length:Int))∧yg[p]? =some (.int .i64 (kK p:Int)):=by
 rcases hp with rfl|rfl|rfl|rfl<;>(unfold fL;simp only [List.length_map];exact ⟨rfl,rfl⟩)
theorem Ei (y:aX) {p:Nat} (hp:7≤p∧p≤11):(Gy y)[p]? =some (.int .i64 ((fE y p).length:Int)):=by
 obtain rfl|rfl|rfl|rfl|rfl:p=7∨p=8∨p=9∨p=10∨p=11:=qO
 all_goals (unfold fE;simp only [List.length_map];rfl)
theorem AI {d:aj} (hf:nf d) (hn:qX d) (hl:DE d):bW Tryz.prog cK 9 [0] [.ra ab d] (fun _=> .tup [.ra bM (bK d).1, .is (.int .i64 (bK d).2)]):=by
 have k0:=dB hl.nm
 have k1:=dB hl.pa
 have kn:=xl hf
 have hb4:=hn.ys
 cases h0:bg d.1
 ·rw [h0] at k0
  rw [Bc h0]
  refine Jr Tryz.func9 rfl Tryz.ntmps9 qE (fun _ _=>by kernel_rfl) fun X w hE=> ?_
  simp only [eK,Nat.zero_add,Nat.reduceAdd]
  repeat' first|kernel_rfl|apply cx|apply cy|apply cE|apply cu|apply cB|apply co|apply cA|apply cp|apply cw|refine fK rfl inferInstance cj qK ?_|refine jz rfl inferInstance rfl qK ?_|refine jh rfl inferInstance qK ?_|apply ae|apply bB|apply eB|apply eu|apply ct|refine d9 rfl ?_|apply cq|apply ew|apply ep|apply jl|apply jj|refine jt rfl ?_|apply jn|apply jw|apply eC|exact cj|intro _
 rw [h0] at k0
 cases h1:bg d.2.1
 ·rw [h1] at k1
  rw [Dm h0 h1]
  refine Jr Tryz.func9 rfl Tryz.ntmps9 qE (fun _ _=>by kernel_rfl) fun X w hE=> ?_
  simp only [eK,Nat.zero_add,Nat.reduceAdd]
  repeat' first|kernel_rfl|apply cx|apply cy|apply cE|apply cu|apply cB|apply co|apply cA|apply cp|apply cw|refine fK rfl inferInstance cj qK ?_|refine jz rfl inferInstance rfl qK ?_|refine jh rfl inferInstance qK ?_|apply ae|apply bB|apply eB|apply eu|apply ct|refine d9 rfl ?_|apply cq|apply ew|apply ep|apply jl|apply jj|refine jt rfl ?_|apply jn|apply jw|apply eC|exact cj|intro _
 rw [h1] at k1
 rw [AQ h0 h1]
 refine Jr Tryz.func9 rfl Tryz.ntmps9 qE (fun _ _=>by kernel_rfl) fun X w0 hE=> ?_
 simp only [eK,Nat.zero_add,Nat.reduceAdd]
 repeat' first|kernel_rfl|apply cx|apply cy|apply cE|apply cu|apply cB|apply co|apply cA|apply cp|apply cw|refine fK rfl inferInstance cj qK ?_|refine jz rfl inferInstance rfl qK ?_|refine jh rfl inferInstance qK ?_|apply ae|apply bB|apply eB|apply eu|apply ct|refine d9 rfl ?_|apply cq|apply ew|apply ep|apply jl|apply jj|refine jt rfl ?_|apply jn|apply jw|apply eC|exact cj|intro _
 refine aY fun a w h=> ?_
 rename_i r1 r2
 refine aO (fun k a u=>∃ p:Nat,p+k=7∧2≤p∧gq d p=gq d 2∧TS w0 (r2::r1::X) [(r2, .ra bM gf),(r1, .ra ab d)] [(6, .is (.int .i64 (p:Int))),(4, .vs (Cu d)),(5, .vs yg),(1, .is (.pointer (some ⟨r1,0,none⟩))),(2, .is (.pointer (some ⟨r2,0,none⟩)))] 136 a u) 5 ⟨2,by omega,by omega,rfl,h.keep [6,4,5,1,2]⟩ ?_
 clear h
 rintro k a u ⟨p,hpk,hp2,ht,h⟩
 by_cases hp6:p≤6
 ·have hc:decide ((p:Int)≤(6:Int))=true:=decide_eq_true qO
  have hw:IntKind.i64.wrap ((p:Int)+1)=((p+1:Nat):Int):=aA qO qO
  by_cases hp3:p=3
  ·subst hp3
   have q3:(((3:Nat):Int)==(3:Int))=true:=rfl
   rw [zo] at ht
   cases hlw:decide (0≤fz 0 (dR d))
   ·have en:tN d=7:=by unfold tN;rw [hlw];rfl
    rw [en] at kn
    rw [hlw] at ht
    have ht:gq d 4=gq d 2:=ht
    have h7:decide ((7:Int)<(7:Int))=false:=rfl
    refine aB h ?_
    clear h
    repeat' first|kernel_rfl|apply cx|apply cy|apply cE|apply cu|apply cB|apply co|apply cA|apply cp|apply cw|refine fK rfl inferInstance cj qK ?_|refine jz rfl inferInstance rfl qK ?_|refine jh rfl inferInstance qK ?_|apply ae|apply bB|apply eB|apply eu|apply ct|refine d9 rfl ?_|apply cq|apply ew|apply ep|apply jl|apply jj|refine jt rfl ?_|apply jn|apply jw|apply eC|exact cj|intro _
    refine aY fun a w h=> ?_
    refine aO (fun k a u=>TS w0 (r2::r1::X) [(r2, .ra bM gf),(r1, .ra ab d)] [(7, .is (.int .i64 ((0:Nat):Int))),(6, .is (.int .i64 ((3:Nat):Int))),(4, .vs (Cu d)),(5, .vs yg),(1, .is (.pointer (some ⟨r1,0,none⟩))),(2, .is (.pointer (some ⟨r2,0,none⟩)))] 136 a u) 0 (h.keep [7,6,4,5,1,2]) ?_
    clear h
    rintro k' a u h
    have hx3:(Cu d)[3]? =some (.int .i64 0):=rfl
    have h00:decide (((0:Nat):Int)<(0:Int))=false:=rfl
    refine aB h ?_
    clear h
    repeat' first|kernel_rfl|exact a8 fun _ _ h=>⟨k - 1,by omega,4,by omega,by omega,ht,h.keep [6,4,5,1,2]⟩|apply cx|apply cy|apply cE|apply cu|apply cB|apply co|apply cA|apply cp|apply cw|refine fK rfl inferInstance cj qK ?_|refine jz rfl inferInstance rfl qK ?_|refine jh rfl inferInstance qK ?_|apply ae|apply bB|apply eB|apply eu|apply ct|refine d9 rfl ?_|apply cq|apply ew|apply ep|apply jl|apply jj|refine jt rfl ?_|apply jn|apply jw|apply eC|exact cj|intro _
   ·have h0n:=of_decide_eq_true hlw
    have hlt:fz 0 (dR d)<7:=AB h0n
    have en:tN d=fz 0 (dR d):=by unfold tN;rw [hlw];rfl
    rw [en] at kn
    rw [hlw] at ht
    have ht:((3, -1,fz 0 (dR d)),2)=gq d 2:=ht
    have h7:decide (fz 0 (dR d)<(7:Int))=true:=decide_eq_true hlt
    rw [←ht]
    refine aB h ?_
    clear h
    repeat' first|kernel_rfl|apply cx|apply cy|apply cE|apply cu|apply cB|apply co|apply cA|apply cp|apply cw|refine fK rfl inferInstance cj qK ?_|refine jz rfl inferInstance rfl qK ?_|refine jh rfl inferInstance qK ?_|apply ae|apply bB|apply eB|apply eu|apply ct|refine d9 rfl ?_|apply cq|apply ew|apply ep|apply jl|apply jj|refine jt rfl ?_|apply jn|apply jw|apply eC|exact cj|intro _
  ·have hp:p=2∨p=4∨p=5∨p=6:=qO
   have q3:((p:Int)==(3:Int))=false:=by rw [beq_eq_false_iff_ne];omega
   obtain ⟨hcn,hmo⟩:=Ia d hp
   have hrf:=Ai hn p
   have hu8:IntKind.u8.wrap (p:Int)=(p:Int):=by rw [IntKind.wrap_u8];omega
   refine aB h ?_
   clear h
   repeat' first|kernel_rfl|apply cx|apply cy|apply cE|apply cu|apply cB|apply co|apply cA|apply cp|apply cw|refine fK rfl inferInstance cj qK ?_|refine jz rfl inferInstance rfl qK ?_|refine jh rfl inferInstance qK ?_|apply ae|apply bB|apply eB|apply eu|apply ct|refine d9 rfl ?_|apply cq|apply ew|apply ep|apply jl|apply jj|refine jt rfl ?_|apply jn|apply jw|apply eC|exact cj|intro _
   refine aY fun a w h=> ?_
   refine aO (fun k a u=>∃ i:Nat,i+k=(fL d p).length∧iH (kK p) i ((fL d p).drop i)=iH (kK p) 0 (fL d p)∧TS w0 (r2::r1::X) [(r2, .ra bM gf),(r1, .ra ab d)] [(7, .is (.int .i64 (i:Int))),(6, .is (.int .i64 (p:Int))),(4, .vs (Cu d)),(5, .vs yg),(1, .is (.pointer (some ⟨r1,0,none⟩))),(2, .is (.pointer (some ⟨r2,0,none⟩)))] 136 a u) (fL d p).length ⟨0,by omega,rfl,h.keep [7,6,4,5,1,2]⟩ ?_
   clear h
   rintro k' a u ⟨i,hi,ha,h⟩
   by_cases hlt:i<(fL d p).length
   ·obtain ⟨b,hb⟩:∃ b,(fL d p)[i]? =some b:=⟨_,List.getElem?_eq_getElem hlt⟩
    have hci:decide ((i:Int)<((fL d p).length:Int))=true:=decide_eq_true qO
    have hwi:IntKind.i64.wrap ((i:Int)+1)=((i+1:Nat):Int):=aA qO qO
    have km:=GP hf hl hp hb
    rw [ek hb] at ha
    cases hm:((i:Int)==(kK p:Int))
    rotate_left
    ·rw [yJ (by have:=eq_of_beq hm;omega)] at ha
     rw [so d hp ha.symm rfl] at ht
     rw [←ht]
     refine aB h ?_
     clear h
     repeat' first|kernel_rfl|apply cx|apply cy|apply cE|apply cu|apply cB|apply co|apply cA|apply cp|apply cw|refine fK rfl inferInstance cj qK ?_|refine jz rfl inferInstance rfl qK ?_|refine jh rfl inferInstance qK ?_|apply ae|apply bB|apply eB|apply eu|apply ct|refine d9 rfl ?_|apply cq|apply ew|apply ep|apply jl|apply jj|refine jt rfl ?_|apply jn|apply jw|apply eC|exact cj|intro _
    have hmi:i≠kK p:=fun e=>by rw [e] at hm;simp at hm
    cases b
    ·rw [AF hmi] at ha
     rw [so d hp ha.symm rfl] at ht
     rw [←ht]
     refine aB h ?_
     clear h
     repeat' first|kernel_rfl|apply cx|apply cy|apply cE|apply cu|apply cB|apply co|apply cA|apply cp|apply cw|refine fK rfl inferInstance cj qK ?_|refine jz rfl inferInstance rfl qK ?_|refine jh rfl inferInstance qK ?_|apply ae|apply bB|apply eB|apply eu|apply ct|refine d9 rfl ?_|apply cq|apply ew|apply ep|apply jl|apply jj|refine jt rfl ?_|apply jn|apply jw|apply eC|exact cj|intro _
    ·rw [F4 hmi] at ha
     refine aB h ?_
     clear h
     repeat' first|kernel_rfl|exact a8 fun _ _ h=>⟨k' - 1,by omega,i+1,by omega,ha,h.keep [7,6,4,5,1,2]⟩|apply cx|apply cy|apply cE|apply cu|apply cB|apply co|apply cA|apply cp|apply cw|refine fK rfl inferInstance cj qK ?_|refine jz rfl inferInstance rfl qK ?_|refine jh rfl inferInstance qK ?_|apply ae|apply bB|apply eB|apply eu|apply ct|refine d9 rfl ?_|apply cq|apply ew|apply ep|apply jl|apply jj|refine jt rfl ?_|apply jn|apply jw|apply eC|exact cj|intro _
   ·have hil:i=(fL d p).length:=qO
    have hci:decide ((i:Int)<((fL d p).length:Int))=false:=decide_eq_false qO
    rw [hil,List.drop_length] at ha
    refine aB h ?_
    clear h
    repeat' first|kernel_rfl|exact a8 fun _ _ h=>⟨k - 1,by omega,p+1,by omega,by omega,by rw [←BE d hp (by rw [←ha];rfl)];exact ht,h.keep [6,4,5,1,2]⟩|apply cx|apply cy|apply cE|apply cu|apply cB|apply co|apply cA|apply cp|apply cw|refine fK rfl inferInstance cj qK ?_|refine jz rfl inferInstance rfl qK ?_|refine jh rfl inferInstance qK ?_|apply ae|apply bB|apply eB|apply eu|apply ct|refine d9 rfl ?_|apply cq|apply ew|apply ep|apply jl|apply jj|refine jt rfl ?_|apply jn|apply jw|apply eC|exact cj|intro _
 ·obtain rfl:p=7:=qO
  have hc:decide (((7:Nat):Int)≤(6:Int))=false:=rfl
  rw [za] at ht
  refine aB h ?_
  clear h
  repeat' first|kernel_rfl|apply cx|apply cy|apply cE|apply cu|apply cB|apply co|apply cA|apply cp|apply cw|refine fK rfl inferInstance cj qK ?_|refine jz rfl inferInstance rfl qK ?_|refine jh rfl inferInstance qK ?_|apply ae|apply bB|apply eB|apply eu|apply ct|refine d9 rfl ?_|apply cq|apply ew|apply ep|apply jl|apply jj|refine jt rfl ?_|apply jn|apply jw|apply eC|exact cj|intro _
  refine aY fun a w h=> ?_
  refine aO (fun k a u=>∃ j:Nat,j+k=(d.2.2.2.2.2.2.2.2.2.2.2.2).length∧kB j ((d.2.2.2.2.2.2.2.2.2.2.2.2).drop j)=gq d 2∧TS w0 (r2::r1::X) [(r2, .ra bM gf),(r1, .ra ab d)] [(8, .is (.int .i64 (j:Int))),(1, .is (.pointer (some ⟨r1,0,none⟩))),(2, .is (.pointer (some ⟨r2,0,none⟩)))] 136 a u) (d.2.2.2.2.2.2.2.2.2.2.2.2).length ⟨0,by omega,ht,h.keep [8,1,2]⟩ ?_
  clear h
  rintro k1 a u ⟨j,hj,hy,h⟩
  by_cases hlt:j<(d.2.2.2.2.2.2.2.2.2.2.2.2).length
  ·obtain ⟨y,hx⟩:∃ y,(d.2.2.2.2.2.2.2.2.2.2.2.2)[j]? =some y:=⟨_,List.getElem?_eq_getElem hlt⟩
   have hcj:decide ((j:Int)<((d.2.2.2.2.2.2.2.2.2.2.2.2).length:Int))=true:=decide_eq_true qO
   have hwj:IntKind.i64.wrap ((j:Int)+1)=((j+1:Nat):Int):=aA qO qO
   have hym:=List.mem_of_getElem? hx
   have hfy:=hf.yrs y hym
   have hly:=hl.yrs y hym
   have hny:=hn.yr y hym
   rw [ek hx,uX] at hy
   generalize hys:(d.2.2.2.2.2.2.2.2.2.2.2.2).drop (j+1)=ys at hy
   refine aB h ?_
   clear h
   repeat' first|kernel_rfl|apply cx|apply cy|apply cE|apply cu|apply cB|apply co|apply cA|apply cp|apply cw|refine fK rfl inferInstance cj qK ?_|refine jz rfl inferInstance rfl qK ?_|refine jh rfl inferInstance qK ?_|apply ae|apply bB|apply eB|apply eu|apply ct|refine d9 rfl ?_|apply cq|apply ew|apply ep|apply jl|apply jj|refine jt rfl ?_|apply jn|apply jw|apply eC|exact cj|intro _
   refine aY fun a w h=> ?_
   rename_i r9
   refine aO (fun k a u=>∃ p:Nat,p+k=12∧7≤p∧oV ys j y p=gq d 2∧TS w0 (r9::r2::r1::X) [(r9, .ra aw y),(r2, .ra bM gf),(r1, .ra ab d)] [(11, .is (.int .i64 (p:Int))),(10, .vs (Gy y)),(9, .is (.pointer (some ⟨r9,0,none⟩))),(8, .is (.int .i64 (j:Int))),(1, .is (.pointer (some ⟨r1,0,none⟩))),(2, .is (.pointer (some ⟨r2,0,none⟩)))] 136 a u) 5 ⟨7,by omega,by omega,hy,h.keep [11,10,9,8,1,2]⟩ ?_
   clear h hy
   rintro k2 a u ⟨p,hpk,hp7,hy,h⟩
   by_cases hp11:p≤11
   ·have hp:7≤p∧p≤11:=⟨hp7,hp11⟩
    have hc:decide ((p:Int)≤(11:Int))=true:=decide_eq_true qO
    have hw:IntKind.i64.wrap ((p:Int)+1)=((p+1:Nat):Int):=aA qO qO
    have hcn:=Ei y hp
    have hrf:=Av hny p
    have hu8:IntKind.u8.wrap (p:Int)=(p:Int):=by rw [IntKind.wrap_u8];omega
    refine aB h ?_
    clear h
    repeat' first|kernel_rfl|apply cx|apply cy|apply cE|apply cu|apply cB|apply co|apply cA|apply cp|apply cw|refine fK rfl inferInstance cj qK ?_|refine jz rfl inferInstance rfl qK ?_|refine jh rfl inferInstance qK ?_|apply ae|apply bB|apply eB|apply eu|apply ct|refine d9 rfl ?_|apply cq|apply ew|apply ep|apply jl|apply jj|refine jt rfl ?_|apply jn|apply jw|apply eC|exact cj|intro _
    refine aY fun a w h=> ?_
    refine aO (fun k a u=>∃ i:Nat,i+k=(fE y p).length∧iH 4096 i ((fE y p).drop i)=iH 4096 0 (fE y p)∧TS w0 (r9::r2::r1::X) [(r9, .ra aw y),(r2, .ra bM gf),(r1, .ra ab d)] [(12, .is (.int .i64 (i:Int))),(11, .is (.int .i64 (p:Int))),(10, .vs (Gy y)),(9, .is (.pointer (some ⟨r9,0,none⟩))),(8, .is (.int .i64 (j:Int))),(1, .is (.pointer (some ⟨r1,0,none⟩))),(2, .is (.pointer (some ⟨r2,0,none⟩)))] 136 a u) (fE y p).length ⟨0,by omega,rfl,h.keep [12,11,10,9,8,1,2]⟩ ?_
    clear h
    rintro k3 a u ⟨i,hi,ha,h⟩
    by_cases hli:i<(fE y p).length
    ·obtain ⟨b,hb⟩:∃ b,(fE y p)[i]? =some b:=⟨_,List.getElem?_eq_getElem hli⟩
     have hci:decide ((i:Int)<((fE y p).length:Int))=true:=decide_eq_true qO
     have hwi:IntKind.i64.wrap ((i:Int)+1)=((i+1:Nat):Int):=aA qO qO
     have km:=Fq hfy hly hp hb
     rw [ek hb] at ha
     cases hm:((i:Int)==(4096:Int))
     rotate_left
     ·rw [yJ (by have:=eq_of_beq hm;omega)] at ha
      rw [se ys j y hp ha.symm rfl] at hy
      rw [←hy]
      refine aB h ?_
      clear h
      repeat' first|kernel_rfl|apply cx|apply cy|apply cE|apply cu|apply cB|apply co|apply cA|apply cp|apply cw|refine fK rfl inferInstance cj qK ?_|refine jz rfl inferInstance rfl qK ?_|refine jh rfl inferInstance qK ?_|apply ae|apply bB|apply eB|apply eu|apply ct|refine d9 rfl ?_|apply cq|apply ew|apply ep|apply jl|apply jj|refine jt rfl ?_|apply jn|apply jw|apply eC|exact cj|intro _
     have hmi:i≠4096:=fun e=>by rw [e] at hm;simp at hm
     cases b
     ·rw [AF hmi] at ha
      rw [se ys j y hp ha.symm rfl] at hy
      rw [←hy]
      refine aB h ?_
      clear h
      repeat' first|kernel_rfl|apply cx|apply cy|apply cE|apply cu|apply cB|apply co|apply cA|apply cp|apply cw|refine fK rfl inferInstance cj qK ?_|refine jz rfl inferInstance rfl qK ?_|refine jh rfl inferInstance qK ?_|apply ae|apply bB|apply eB|apply eu|apply ct|refine d9 rfl ?_|apply cq|apply ew|apply ep|apply jl|apply jj|refine jt rfl ?_|apply jn|apply jw|apply eC|exact cj|intro _
     ·rw [F4 hmi] at ha
      refine aB h ?_
      clear h
      repeat' first|kernel_rfl|exact a8 fun _ _ h=>⟨k3 - 1,by omega,i+1,by omega,ha,h.keep [12,11,10,9,8,1,2]⟩|apply cx|apply cy|apply cE|apply cu|apply cB|apply co|apply cA|apply cp|apply cw|refine fK rfl inferInstance cj qK ?_|refine jz rfl inferInstance rfl qK ?_|refine jh rfl inferInstance qK ?_|apply ae|apply bB|apply eB|apply eu|apply ct|refine d9 rfl ?_|apply cq|apply ew|apply ep|apply jl|apply jj|refine jt rfl ?_|apply jn|apply jw|apply eC|exact cj|intro _
    ·have hil:i=(fE y p).length:=qO
     have hci:decide ((i:Int)<((fE y p).length:Int))=false:=decide_eq_false qO
     rw [hil,List.drop_length] at ha
     refine aB h ?_
     clear h
     repeat' first|kernel_rfl|exact a8 fun _ _ h=>⟨k2 - 1,by omega,p+1,by omega,by omega,by rw [←Bm ys j y hp (by rw [←ha];rfl)];exact hy,h.keep [11,10,9,8,1,2]⟩|apply cx|apply cy|apply cE|apply cu|apply cB|apply co|apply cA|apply cp|apply cw|refine fK rfl inferInstance cj qK ?_|refine jz rfl inferInstance rfl qK ?_|refine jh rfl inferInstance qK ?_|apply ae|apply bB|apply eB|apply eu|apply ct|refine d9 rfl ?_|apply cq|apply ew|apply ep|apply jl|apply jj|refine jt rfl ?_|apply jn|apply jw|apply eC|exact cj|intro _
   ·obtain rfl:p=12:=qO
    have hc:decide (((12:Nat):Int)≤(11:Int))=false:=rfl
    rw [zg] at hy
    refine aB h ?_
    clear h
    repeat' first|kernel_rfl|exact a8 fun _ _ h=>⟨k1 - 1,by omega,j+1,by omega,by rw [hys];exact hy,h.drop.keep [8,1,2]⟩|apply cx|apply cy|apply cE|apply cu|apply cB|apply co|apply cA|apply cp|apply cw|refine fK rfl inferInstance cj qK ?_|refine jz rfl inferInstance rfl qK ?_|refine jh rfl inferInstance qK ?_|apply ae|apply bB|apply eB|apply eu|apply ct|refine d9 rfl ?_|apply cq|apply ew|apply ep|apply jl|apply jj|refine jt rfl ?_|apply jn|apply jw|apply eC|exact cj|intro _
  ·have hjl:j=(d.2.2.2.2.2.2.2.2.2.2.2.2).length:=qO
   have hcj:decide ((j:Int)<((d.2.2.2.2.2.2.2.2.2.2.2.2).length:Int))=false:=decide_eq_false qO
   rw [hjl,List.drop_length] at hy
   have hy:((0,0,0),0)=gq d 2:=hy
   rw [←hy]
   refine aB h ?_
   clear h
   repeat' first|kernel_rfl|apply cx|apply cy|apply cE|apply cu|apply cB|apply co|apply cA|apply cp|apply cw|refine fK rfl inferInstance cj qK ?_|refine jz rfl inferInstance rfl qK ?_|refine jh rfl inferInstance qK ?_|apply ae|apply bB|apply eB|apply eu|apply ct|refine d9 rfl ?_|apply cq|apply ew|apply ep|apply jl|apply jj|refine jt rfl ?_|apply jn|apply jw|apply eC|exact cj|intro _
theorem H7 {t:List UInt8} (h:rp t=true):t.length≤1000000:=by
 unfold rp at h
 simp only [Bool.not_eq_true',decide_eq_false_iff_not] at h
 omega
theorem FI {d:aj} (h:gG d=true):DE d:=by
 unfold gG at h
 simp only [Bool.and_eq_true] at h
 have ht:=fun x hx=>H7 (List.all_eq_true.1 h.2.2.2 x hx)
 unfold nH at ht
 simp only [List.mem_append,List.mem_flatMap] at ht
 refine ⟨ht _ (.inl (.inl (.inl qE))),ht _ (.inl (.inl (.inl qE))),fun c hc=>ht _ (.inl (.inr ⟨c,hc,by simp [Ea]⟩)),fun e he=>ht _ (.inl (.inl (.inr he))),fun y hy=> ?_⟩
 have hy':=fun x hx=>ht x (.inr ⟨y,hy,hx⟩)
 unfold Br at hy'
 simp only [List.mem_append,List.mem_flatMap] at hy'
 exact ⟨fun x hx=>⟨hy' _ (.inl (.inl (.inl (.inl ⟨x,hx,by simp [Dk]⟩)))),hy' _ (.inl (.inl (.inl (.inl ⟨x,hx,by simp [Dk]⟩))))⟩,
  fun x hx=>⟨hy' _ (.inl (.inl (.inl (.inr ⟨x,hx,by simp [Bd]⟩)))),hy' _ (.inl (.inl (.inl (.inr ⟨x,hx,by simp [Bd]⟩))))⟩,
  fun x hx=>⟨hy' _ (.inl (.inl (.inr ⟨x,hx,by simp [zv]⟩))),hy' _ (.inl (.inl (.inr ⟨x,hx,by simp [zv]⟩))),hy' _ (.inl (.inl (.inr ⟨x,hx,by simp [zv]⟩))),hy' _ (.inl (.inl (.inr ⟨x,hx,by simp [zv]⟩)))⟩,
  fun x hx=>hy' _ (.inl (.inr ⟨x,hx,by simp [Dt]⟩)),fun x hx=>hy' _ (.inr ⟨x,hx,by simp [Dx]⟩)⟩
theorem J0 {d:aj} (hf:nf d) (hn:qX d) (hl:DE d):bW Tryz.prog cK 9 [0] [.tr ab [9,74,78,85,126,128,130,132,134,115] 0 d] (fun _=> .tup [.ra bM (bK d).1, .is (.int .i64 (bK d).2)]):=(AI hf hn hl).args fun h=>by
 obtain ⟨v,rfl,h⟩:=h.one
 exact ⟨pS h.1,trivial⟩
theorem J4 {d:aj} (hf:nf d) (hn:qX d):bW Tryz.prog S1 10 [0,0] [.tr ab [9,74,78,85,126,128,130,132,134,115] 0 d, .tr ab [9,74,78,85,126,128,130,132,134,115] 0 d] (fun _=> .is (.bool true)):=(Er hf hn).args fun h=>by
 obtain ⟨v,us,rfl,h1,h2⟩:=h.tail
 obtain ⟨u,us,rfl,h3,h4⟩:=h2.tail
 exact ⟨pS h1,pS h3,h4⟩
theorem Bw {d:aj}:bW Tryz.prog cK 3 [0] [.ra ab d] (fun _=> .is (.bool true)):=by
 have kF:=F0 (d:=d)
 cases hF:gG d
 ·rw [hF] at kF
  refine Jr Tryz.func3 rfl Tryz.ntmps3 qE (fun _ _=>by kernel_rfl) fun X w hE=> ?_
  simp only [eK,Nat.zero_add,Nat.reduceAdd]
  repeat' first|kernel_rfl|apply cx|apply cy|apply cE|apply az|apply aW|refine @bG.cons _ _ _ _ inferInstance ?_|refine @bE.cons _ _ _ inferInstance ?_|apply cu|apply cB|apply co|apply cA|apply cp|apply cw|refine fK rfl inferInstance cj qK ?_|refine jz rfl inferInstance rfl qK ?_|refine jh rfl inferInstance qK ?_|apply ae|apply bB|apply eB|apply eu|apply ct|refine aQ rfl ?_|apply eC|exact sc trivial kF|exact cj|(intro _;simp only[cf,ci,cm,List.map,List.cons_append,List.nil_append])|intro _
 rw [hF] at kF
 obtain ⟨hcnt,hfew⟩:=xT hF
 have hlen:=FI hF
 have kf:=Jd hfew hcnt
 have kR:=j2 hfew
 have kQ:=J0 hfew hcnt hlen
 have kS:=J4 hfew hcnt
 have q0:((bK d).1.1==(bK d).1.1)=true:=beq_self_eq_true _
 have q1:((bK d).1.2.1==(bK d).1.2.1)=true:=beq_self_eq_true _
 have q2:((bK d).1.2.2==(bK d).1.2.2)=true:=beq_self_eq_true _
 have q3:((bK d).2==(bK d).2)=true:=beq_self_eq_true _
 refine Jr Tryz.func3 rfl Tryz.ntmps3 qE (fun _ _=>by kernel_rfl) fun X w hE=> ?_
 simp only [eK,Nat.zero_add,Nat.reduceAdd]
 repeat' first|kernel_rfl|apply cx|apply cy|apply cE|apply ar (id:=6) [(29,true),(36,true),(43,true),(48,true),(54,true)] [] 33|apply az|apply aW|refine @bG.cons _ _ _ _ inferInstance ?_|refine @bE.cons _ _ _ inferInstance ?_|apply cu|apply cB|apply co|apply cA|apply cp|apply cw|refine fK rfl inferInstance cj qK ?_|refine jz rfl inferInstance rfl qK ?_|refine jh rfl inferInstance qK ?_|apply ae|apply bB|apply eB|apply eu|apply ct|refine aQ rfl ?_|apply eC|exact sc trivial kF|exact sc trivial kf|exact sc hE kR|exact sc hE kQ|exact sc trivial kS|exact cj|(intro _;simp only[cf,ci,cm,List.map,List.cons_append,List.nil_append])|intro _
theorem zm {P1:aj→Prop}:bW Tryz.prog cK 3 [0] [.ex ab P1] (fun _=> .is (.bool true)):=⟨fun _ _=>by kernel_rfl,fN.const.down,fun hG hX h=>by
 obtain ⟨u,rfl,y,_,h⟩:=h.one
 exact Bw.run hG hX ⟨h,trivial⟩⟩
end Go.Proofs.YtpmhjieibebclaaGreatDoor
