/- Package ast: the limits, part by part. -/
import Derived.Test.YtjjkikchncfekaaGreatDoorGO
set_option maxHeartbeats 4000000
set_option maxRecDepth 20000
set_option synthInstance.maxHeartbeats 400000
set_option synthInstance.maxSize 4000
set_option linter.unusedSimpArgs false
set_option linter.unusedVariables false
namespace Go.Proofs.YtjjkikchncfekaaGreatDoor
open Go Go.RowKit
variable {most i:Nat} {z yr:Int} {g:FuncId} {X:List Nat} {w:World}
theorem cw.up {P:Program} {G:World→Prop} {f:FuncId} {ks:List Nat} {As:List aa} {T:Nat→aa} (h:cw P S1 f ks As T):cw P G f ks As T:=⟨h.ent,h.down,fun _ hX ha=>h.run trivial hX ha⟩
theorem dj{α:Type} {r:Rp α} {p:α→Prop} {l:List α} {T:List aa} {vs:List Value} (h:cY X w (.rw r p l::T) vs):l.length≤9223372036854775807:=by
 obtain ⟨v,us,rfl,h,_⟩:=h.tail
 exact Ao h
theorem bg{α:Type} {l:List α} {x:α} (h:l[i]? =some x):l.drop i=x::l.drop (i+1):=by
 obtain ⟨h1,h2⟩:=List.getElem?_eq_some_iff.1 h
 rw [List.drop_eq_getElem_cons h1,h2]
theorem gj{α:Type} {p:α→Bool} {x:α} {l:List α} (h:i=most):brk p most i (x::l)=((i:Int),3):=by
 unfold brk;rw [if_pos h]
theorem ip{α:Type} {p:α→Bool} {x:α} {l:List α} (h:i≠most) (hp:p x=false):brk p most i (x::l)=((i:Int),2):=by
 unfold brk;rw [if_neg h,hp];rfl
theorem i7{α:Type} {p:α→Bool} {x:α} {l:List α} (h:i≠most) (hp:p x=true):brk p most i (x::l)=brk p most (i+1) l:=by
 rw [brk,if_neg h,hp];rfl
instance:dq Tryz.prog 9 (.is (Tx [])):=⟨⟨Tx [],fun X w=>rfl,fun o ρ w e=>by
 cases o with
 |mk dst op ty pos af gd=>
  have e':op=_:=e
  subst e'
  go_simp⟩⟩
theorem cj {p:Prop} (h:p:=by first|exact dJ (by assumption)|exact cP|exact kd|exact wn rfl rfl rfl|exact Ce|exact C1 (by assumption)|exact AR|exact rz (by first|assumption|rfl)|exact k7 (by assumption)|exact rL|exact pT lc|exact vk|exact cb|exact eJ|exact ca|exact cZ (b:=true) (u:=false) rfl|exact cZ (b:=false) (u:=true) rfl|exact cZ rfl|exact aW|exact iP|exact wW (by first|assumption|rfl)|exact mq (by first|assumption|rfl)|exact f6|exact fX|exact ka (by first|assumption|rfl)|exact iQ (by first|assumption|rfl)|exact iO|exact ee (by assumption)|exact eC|exact sc hE k0|exact eI.nil|exact aM.nil|exact aL.nil|exact Hs hE kx|exact sc trivial pD|exact sc trivial sK|exact sc hE kF|exact sc hE kY|exact Cv.rfl'):p:=h
theorem nk{l:List (List UInt8)} {p:(List UInt8)→Bool} (hz:z=(most:Int)) (hr:∀ x∈l,cw Tryz.prog dZ g [0] [.is (Tx x)] (fun _=> .is (.bool (p x)))):cw Tryz.prog dZ 187 [0,0,0] [.rw Rp.str tt l, .is (.int .i64 z), .fv g [] []] (fun _=> .tup [.is (.int .i64 (brk p most 0 l).1), .is (.int .i64 (brk p most 0 l).2)]):=by
 subst hz
 refine h_ dj (fun _ _=>by kernel_rfl) fun hb=> ?_
 refine cr Tryz.func187 Tryz.ntmps187 fun X w0 hE=> ?_
 simp only [ar,Nat.zero_add,Nat.reduceAdd]
 repeat' first|kernel_rfl|apply Bt.mk|refine nx ?_|apply ae|refine fm rfl ?_|exact cj|intro _
 refine bn fun a w h=> ?_
 refine aY (fun k a u=>∃ i:Nat,i+k=l.length∧brk p most i (l.drop i)=brk p most 0 l∧TS w0 X [] [(12, .is (.int .i64 (i:Int))),(11, .is (.int .i64 (l.length:Int))),(10, .rw Rp.str tt l),(0, .rw Rp.str tt l),(1, .is (.int .i64 (most:Int))),(2, .fv g [] [])] 29 a u) l.length ⟨0,by omega,rfl,h.keep [12,11,10,0,1,2]⟩ ?_
 clear h
 rintro k a u ⟨i,hi,ha,h⟩
 by_cases hlt:i<l.length
 ·obtain ⟨x,hx⟩:∃ x,l[i]? =some x:=⟨_,List.getElem?_eq_getElem hlt⟩
  have hc:decide ((i:Int)<(l.length:Int))=true:=decide_eq_true qO
  have hw:IntKind.i64.wrap ((i:Int)+1)=((i+1:Nat):Int):=az qO qO
  rw [bg hx] at ha
  cases hm:((i:Int)==(most:Int))
  rotate_left
  ·rw [gj (by have:=eq_of_beq hm;omega)] at ha
   rw [←ha]
   refine aD h ?_
   clear h
   repeat' first|kernel_rfl|apply Bt.mk|refine nx ?_|apply cq (s:=12)|apply ae|refine fm rfl ?_|exact cj|intro _
  have hmi:i≠most:=fun e=>by rw [e] at hm;simp at hm
  have kx:=hr x (List.mem_of_getElem? hx)
  cases hp:p x
  ·rw [ip hmi hp] at ha
   rw [hp] at kx
   rw [←ha]
   refine aD h ?_
   clear h
   repeat' first|kernel_rfl|apply Bt.mk|refine nx ?_|apply cq (s:=12)|apply ae|refine fm rfl ?_|exact cj|intro _
  ·rw [i7 hmi hp] at ha
   rw [hp] at kx
   refine aD h ?_
   clear h
   repeat' first|kernel_rfl|exact bq fun _ _ h=>⟨k - 1,by omega,i+1,by omega,ha,h.keep [12,11,10,0,1,2]⟩|apply Bt.mk|refine nx ?_|apply cq (s:=12)|apply ae|refine fm rfl ?_|exact cj|intro _
 ·obtain rfl:i=l.length:=qO
  have hc:decide ((l.length:Int)<(l.length:Int))=false:=decide_eq_false qO
  rw [List.drop_length] at ha
  have ha:(0,0)=brk p most 0 l:=ha
  rw [←ha]
  refine aD h ?_
  clear h
  repeat' first|kernel_rfl|apply Bt.mk|refine nx ?_|apply cq (s:=12)|apply ae|refine fm rfl ?_|exact cj|intro _
theorem qq{l:List (cM)} {p:cM→Bool} (hz:z=(most:Int)) (hr:∀ x∈l,cw Tryz.prog dZ g [0] [.ra a8 x] (fun _=> .is (.bool (p x)))):cw Tryz.prog dZ 188 [0,0,0] [.rw a8 tt l, .is (.int .i64 z), .fv g [] []] (fun _=> .tup [.is (.int .i64 (brk p most 0 l).1), .is (.int .i64 (brk p most 0 l).2)]):=by
 subst hz
 refine h_ dj (fun _ _=>by kernel_rfl) fun hb=> ?_
 refine cr Tryz.func188 Tryz.ntmps188 fun X w0 hE=> ?_
 simp only [ar,Nat.zero_add,Nat.reduceAdd]
 repeat' first|kernel_rfl|apply Bt.mk|refine nx ?_|apply ae|refine fm rfl ?_|exact cj|intro _
 refine bn fun a w h=> ?_
 refine aY (fun k a u=>∃ i:Nat,i+k=l.length∧brk p most i (l.drop i)=brk p most 0 l∧TS w0 X [] [(12, .is (.int .i64 (i:Int))),(11, .is (.int .i64 (l.length:Int))),(10, .rw a8 tt l),(0, .rw a8 tt l),(1, .is (.int .i64 (most:Int))),(2, .fv g [] [])] 29 a u) l.length ⟨0,by omega,rfl,h.keep [12,11,10,0,1,2]⟩ ?_
 clear h
 rintro k a u ⟨i,hi,ha,h⟩
 by_cases hlt:i<l.length
 ·obtain ⟨x,hx⟩:∃ x,l[i]? =some x:=⟨_,List.getElem?_eq_getElem hlt⟩
  have hc:decide ((i:Int)<(l.length:Int))=true:=decide_eq_true qO
  have hw:IntKind.i64.wrap ((i:Int)+1)=((i+1:Nat):Int):=az qO qO
  rw [bg hx] at ha
  cases hm:((i:Int)==(most:Int))
  rotate_left
  ·rw [gj (by have:=eq_of_beq hm;omega)] at ha
   rw [←ha]
   refine aD h ?_
   clear h
   repeat' first|kernel_rfl|apply Bt.mk|refine nx ?_|apply cq (s:=12)|apply ae|refine fm rfl ?_|exact cj|intro _
  have hmi:i≠most:=fun e=>by rw [e] at hm;simp at hm
  have kx:=hr x (List.mem_of_getElem? hx)
  cases hp:p x
  ·rw [ip hmi hp] at ha
   rw [hp] at kx
   rw [←ha]
   refine aD h ?_
   clear h
   repeat' first|kernel_rfl|apply Bt.mk|refine nx ?_|apply cq (s:=12)|apply ae|refine fm rfl ?_|exact cj|intro _
  ·rw [i7 hmi hp] at ha
   rw [hp] at kx
   refine aD h ?_
   clear h
   repeat' first|kernel_rfl|exact bq fun _ _ h=>⟨k - 1,by omega,i+1,by omega,ha,h.drop.keep [12,11,10,0,1,2]⟩|apply Bt.mk|refine nx ?_|apply cq (s:=12)|apply ae|refine fm rfl ?_|exact cj|intro _
 ·obtain rfl:i=l.length:=qO
  have hc:decide ((l.length:Int)<(l.length:Int))=false:=decide_eq_false qO
  rw [List.drop_length] at ha
  have ha:(0,0)=brk p most 0 l:=ha
  rw [←ha]
  refine aD h ?_
  clear h
  repeat' first|kernel_rfl|apply Bt.mk|refine nx ?_|apply cq (s:=12)|apply ae|refine fm rfl ?_|exact cj|intro _
theorem u_{l:List (ct)} {p:ct→Bool} (hz:z=(most:Int)) (hr:∀ x∈l,cw Tryz.prog dZ g [0] [.ra bt x] (fun _=> .is (.bool (p x)))):cw Tryz.prog dZ 192 [0,0,0] [.rw bt tt l, .is (.int .i64 z), .fv g [] []] (fun _=> .tup [.is (.int .i64 (brk p most 0 l).1), .is (.int .i64 (brk p most 0 l).2)]):=by
 subst hz
 refine h_ dj (fun _ _=>by kernel_rfl) fun hb=> ?_
 refine cr Tryz.func192 Tryz.ntmps192 fun X w0 hE=> ?_
 simp only [ar,Nat.zero_add,Nat.reduceAdd]
 repeat' first|kernel_rfl|apply Bt.mk|refine nx ?_|apply ae|refine fm rfl ?_|exact cj|intro _
 refine bn fun a w h=> ?_
 refine aY (fun k a u=>∃ i:Nat,i+k=l.length∧brk p most i (l.drop i)=brk p most 0 l∧TS w0 X [] [(12, .is (.int .i64 (i:Int))),(11, .is (.int .i64 (l.length:Int))),(10, .rw bt tt l),(0, .rw bt tt l),(1, .is (.int .i64 (most:Int))),(2, .fv g [] [])] 29 a u) l.length ⟨0,by omega,rfl,h.keep [12,11,10,0,1,2]⟩ ?_
 clear h
 rintro k a u ⟨i,hi,ha,h⟩
 by_cases hlt:i<l.length
 ·obtain ⟨x,hx⟩:∃ x,l[i]? =some x:=⟨_,List.getElem?_eq_getElem hlt⟩
  have hc:decide ((i:Int)<(l.length:Int))=true:=decide_eq_true qO
  have hw:IntKind.i64.wrap ((i:Int)+1)=((i+1:Nat):Int):=az qO qO
  rw [bg hx] at ha
  cases hm:((i:Int)==(most:Int))
  rotate_left
  ·rw [gj (by have:=eq_of_beq hm;omega)] at ha
   rw [←ha]
   refine aD h ?_
   clear h
   repeat' first|kernel_rfl|apply Bt.mk|refine nx ?_|apply cq (s:=12)|apply ae|refine fm rfl ?_|exact cj|intro _
  have hmi:i≠most:=fun e=>by rw [e] at hm;simp at hm
  have kx:=hr x (List.mem_of_getElem? hx)
  cases hp:p x
  ·rw [ip hmi hp] at ha
   rw [hp] at kx
   rw [←ha]
   refine aD h ?_
   clear h
   repeat' first|kernel_rfl|apply Bt.mk|refine nx ?_|apply cq (s:=12)|apply ae|refine fm rfl ?_|exact cj|intro _
  ·rw [i7 hmi hp] at ha
   rw [hp] at kx
   refine aD h ?_
   clear h
   repeat' first|kernel_rfl|exact bq fun _ _ h=>⟨k - 1,by omega,i+1,by omega,ha,h.drop.keep [12,11,10,0,1,2]⟩|apply Bt.mk|refine nx ?_|apply cq (s:=12)|apply ae|refine fm rfl ?_|exact cj|intro _
 ·obtain rfl:i=l.length:=qO
  have hc:decide ((l.length:Int)<(l.length:Int))=false:=decide_eq_false qO
  rw [List.drop_length] at ha
  have ha:(0,0)=brk p most 0 l:=ha
  rw [←ha]
  refine aD h ?_
  clear h
  repeat' first|kernel_rfl|apply Bt.mk|refine nx ?_|apply cq (s:=12)|apply ae|refine fm rfl ?_|exact cj|intro _
theorem yC{l:List (bw)} {p:bw→Bool} (hz:z=(most:Int)) (hr:∀ x∈l,cw Tryz.prog dZ g [0] [.ra aA x] (fun _=> .is (.bool (p x)))):cw Tryz.prog dZ 194 [0,0,0] [.rw aA tt l, .is (.int .i64 z), .fv g [] []] (fun _=> .tup [.is (.int .i64 (brk p most 0 l).1), .is (.int .i64 (brk p most 0 l).2)]):=by
 subst hz
 refine h_ dj (fun _ _=>by kernel_rfl) fun hb=> ?_
 refine cr Tryz.func194 Tryz.ntmps194 fun X w0 hE=> ?_
 simp only [ar,Nat.zero_add,Nat.reduceAdd]
 repeat' first|kernel_rfl|apply Bt.mk|refine nx ?_|apply ae|refine fm rfl ?_|exact cj|intro _
 refine bn fun a w h=> ?_
 refine aY (fun k a u=>∃ i:Nat,i+k=l.length∧brk p most i (l.drop i)=brk p most 0 l∧TS w0 X [] [(12, .is (.int .i64 (i:Int))),(11, .is (.int .i64 (l.length:Int))),(10, .rw aA tt l),(0, .rw aA tt l),(1, .is (.int .i64 (most:Int))),(2, .fv g [] [])] 29 a u) l.length ⟨0,by omega,rfl,h.keep [12,11,10,0,1,2]⟩ ?_
 clear h
 rintro k a u ⟨i,hi,ha,h⟩
 by_cases hlt:i<l.length
 ·obtain ⟨x,hx⟩:∃ x,l[i]? =some x:=⟨_,List.getElem?_eq_getElem hlt⟩
  have hc:decide ((i:Int)<(l.length:Int))=true:=decide_eq_true qO
  have hw:IntKind.i64.wrap ((i:Int)+1)=((i+1:Nat):Int):=az qO qO
  rw [bg hx] at ha
  cases hm:((i:Int)==(most:Int))
  rotate_left
  ·rw [gj (by have:=eq_of_beq hm;omega)] at ha
   rw [←ha]
   refine aD h ?_
   clear h
   repeat' first|kernel_rfl|apply Bt.mk|refine nx ?_|apply cq (s:=12)|apply ae|refine fm rfl ?_|exact cj|intro _
  have hmi:i≠most:=fun e=>by rw [e] at hm;simp at hm
  have kx:=hr x (List.mem_of_getElem? hx)
  cases hp:p x
  ·rw [ip hmi hp] at ha
   rw [hp] at kx
   rw [←ha]
   refine aD h ?_
   clear h
   repeat' first|kernel_rfl|apply Bt.mk|refine nx ?_|apply cq (s:=12)|apply ae|refine fm rfl ?_|exact cj|intro _
  ·rw [i7 hmi hp] at ha
   rw [hp] at kx
   refine aD h ?_
   clear h
   repeat' first|kernel_rfl|exact bq fun _ _ h=>⟨k - 1,by omega,i+1,by omega,ha,h.drop.keep [12,11,10,0,1,2]⟩|apply Bt.mk|refine nx ?_|apply cq (s:=12)|apply ae|refine fm rfl ?_|exact cj|intro _
 ·obtain rfl:i=l.length:=qO
  have hc:decide ((l.length:Int)<(l.length:Int))=false:=decide_eq_false qO
  rw [List.drop_length] at ha
  have ha:(0,0)=brk p most 0 l:=ha
  rw [←ha]
  refine aD h ?_
  clear h
  repeat' first|kernel_rfl|apply Bt.mk|refine nx ?_|apply cq (s:=12)|apply ae|refine fm rfl ?_|exact cj|intro _
theorem yp{l:List (ft)} {p:ft→Bool} (hz:z=(most:Int)) (hr:∀ x∈l,cw Tryz.prog dZ g [0] [.ra aH x] (fun _=> .is (.bool (p x)))):cw Tryz.prog dZ 196 [0,0,0] [.rw aH tt l, .is (.int .i64 z), .fv g [] []] (fun _=> .tup [.is (.int .i64 (brk p most 0 l).1), .is (.int .i64 (brk p most 0 l).2)]):=by
 subst hz
 refine h_ dj (fun _ _=>by kernel_rfl) fun hb=> ?_
 refine cr Tryz.func196 Tryz.ntmps196 fun X w0 hE=> ?_
 simp only [ar,Nat.zero_add,Nat.reduceAdd]
 repeat' first|kernel_rfl|apply Bt.mk|refine nx ?_|apply ae|refine fm rfl ?_|exact cj|intro _
 refine bn fun a w h=> ?_
 refine aY (fun k a u=>∃ i:Nat,i+k=l.length∧brk p most i (l.drop i)=brk p most 0 l∧TS w0 X [] [(12, .is (.int .i64 (i:Int))),(11, .is (.int .i64 (l.length:Int))),(10, .rw aH tt l),(0, .rw aH tt l),(1, .is (.int .i64 (most:Int))),(2, .fv g [] [])] 29 a u) l.length ⟨0,by omega,rfl,h.keep [12,11,10,0,1,2]⟩ ?_
 clear h
 rintro k a u ⟨i,hi,ha,h⟩
 by_cases hlt:i<l.length
 ·obtain ⟨x,hx⟩:∃ x,l[i]? =some x:=⟨_,List.getElem?_eq_getElem hlt⟩
  have hc:decide ((i:Int)<(l.length:Int))=true:=decide_eq_true qO
  have hw:IntKind.i64.wrap ((i:Int)+1)=((i+1:Nat):Int):=az qO qO
  rw [bg hx] at ha
  cases hm:((i:Int)==(most:Int))
  rotate_left
  ·rw [gj (by have:=eq_of_beq hm;omega)] at ha
   rw [←ha]
   refine aD h ?_
   clear h
   repeat' first|kernel_rfl|apply Bt.mk|refine nx ?_|apply cq (s:=12)|apply ae|refine fm rfl ?_|exact cj|intro _
  have hmi:i≠most:=fun e=>by rw [e] at hm;simp at hm
  have kx:=hr x (List.mem_of_getElem? hx)
  cases hp:p x
  ·rw [ip hmi hp] at ha
   rw [hp] at kx
   rw [←ha]
   refine aD h ?_
   clear h
   repeat' first|kernel_rfl|apply Bt.mk|refine nx ?_|apply cq (s:=12)|apply ae|refine fm rfl ?_|exact cj|intro _
  ·rw [i7 hmi hp] at ha
   rw [hp] at kx
   refine aD h ?_
   clear h
   repeat' first|kernel_rfl|exact bq fun _ _ h=>⟨k - 1,by omega,i+1,by omega,ha,h.drop.keep [12,11,10,0,1,2]⟩|apply Bt.mk|refine nx ?_|apply cq (s:=12)|apply ae|refine fm rfl ?_|exact cj|intro _
 ·obtain rfl:i=l.length:=qO
  have hc:decide ((l.length:Int)<(l.length:Int))=false:=decide_eq_false qO
  rw [List.drop_length] at ha
  have ha:(0,0)=brk p most 0 l:=ha
  rw [←ha]
  refine aD h ?_
  clear h
  repeat' first|kernel_rfl|apply Bt.mk|refine nx ?_|apply cq (s:=12)|apply ae|refine fm rfl ?_|exact cj|intro _
theorem xD{l:List (fg)} {p:fg→Bool} (hz:z=(most:Int)) (hr:∀ x∈l,cw Tryz.prog dZ g [0] [.ra aG x] (fun _=> .is (.bool (p x)))):cw Tryz.prog dZ 198 [0,0,0] [.rw aG tt l, .is (.int .i64 z), .fv g [] []] (fun _=> .tup [.is (.int .i64 (brk p most 0 l).1), .is (.int .i64 (brk p most 0 l).2)]):=by
 subst hz
 refine h_ dj (fun _ _=>by kernel_rfl) fun hb=> ?_
 refine cr Tryz.func198 Tryz.ntmps198 fun X w0 hE=> ?_
 simp only [ar,Nat.zero_add,Nat.reduceAdd]
 repeat' first|kernel_rfl|apply Bt.mk|refine nx ?_|apply ae|refine fm rfl ?_|exact cj|intro _
 refine bn fun a w h=> ?_
 refine aY (fun k a u=>∃ i:Nat,i+k=l.length∧brk p most i (l.drop i)=brk p most 0 l∧TS w0 X [] [(12, .is (.int .i64 (i:Int))),(11, .is (.int .i64 (l.length:Int))),(10, .rw aG tt l),(0, .rw aG tt l),(1, .is (.int .i64 (most:Int))),(2, .fv g [] [])] 29 a u) l.length ⟨0,by omega,rfl,h.keep [12,11,10,0,1,2]⟩ ?_
 clear h
 rintro k a u ⟨i,hi,ha,h⟩
 by_cases hlt:i<l.length
 ·obtain ⟨x,hx⟩:∃ x,l[i]? =some x:=⟨_,List.getElem?_eq_getElem hlt⟩
  have hc:decide ((i:Int)<(l.length:Int))=true:=decide_eq_true qO
  have hw:IntKind.i64.wrap ((i:Int)+1)=((i+1:Nat):Int):=az qO qO
  rw [bg hx] at ha
  cases hm:((i:Int)==(most:Int))
  rotate_left
  ·rw [gj (by have:=eq_of_beq hm;omega)] at ha
   rw [←ha]
   refine aD h ?_
   clear h
   repeat' first|kernel_rfl|apply Bt.mk|refine nx ?_|apply cq (s:=12)|apply ae|refine fm rfl ?_|exact cj|intro _
  have hmi:i≠most:=fun e=>by rw [e] at hm;simp at hm
  have kx:=hr x (List.mem_of_getElem? hx)
  cases hp:p x
  ·rw [ip hmi hp] at ha
   rw [hp] at kx
   rw [←ha]
   refine aD h ?_
   clear h
   repeat' first|kernel_rfl|apply Bt.mk|refine nx ?_|apply cq (s:=12)|apply ae|refine fm rfl ?_|exact cj|intro _
  ·rw [i7 hmi hp] at ha
   rw [hp] at kx
   refine aD h ?_
   clear h
   repeat' first|kernel_rfl|exact bq fun _ _ h=>⟨k - 1,by omega,i+1,by omega,ha,h.drop.keep [12,11,10,0,1,2]⟩|apply Bt.mk|refine nx ?_|apply cq (s:=12)|apply ae|refine fm rfl ?_|exact cj|intro _
 ·obtain rfl:i=l.length:=qO
  have hc:decide ((l.length:Int)<(l.length:Int))=false:=decide_eq_false qO
  rw [List.drop_length] at ha
  have ha:(0,0)=brk p most 0 l:=ha
  rw [←ha]
  refine aD h ?_
  clear h
  repeat' first|kernel_rfl|apply Bt.mk|refine nx ?_|apply cq (s:=12)|apply ae|refine fm rfl ?_|exact cj|intro _
theorem xE{l:List (eo)} {p:eo→Bool} (hz:z=(most:Int)) (hr:∀ x∈l,cw Tryz.prog dZ g [0] [.ra ak x] (fun _=> .is (.bool (p x)))):cw Tryz.prog dZ 200 [0,0,0] [.rw ak tt l, .is (.int .i64 z), .fv g [] []] (fun _=> .tup [.is (.int .i64 (brk p most 0 l).1), .is (.int .i64 (brk p most 0 l).2)]):=by
 subst hz
 refine h_ dj (fun _ _=>by kernel_rfl) fun hb=> ?_
 refine cr Tryz.func200 Tryz.ntmps200 fun X w0 hE=> ?_
 simp only [ar,Nat.zero_add,Nat.reduceAdd]
 repeat' first|kernel_rfl|apply Bt.mk|refine nx ?_|apply ae|refine fm rfl ?_|exact cj|intro _
 refine bn fun a w h=> ?_
 refine aY (fun k a u=>∃ i:Nat,i+k=l.length∧brk p most i (l.drop i)=brk p most 0 l∧TS w0 X [] [(12, .is (.int .i64 (i:Int))),(11, .is (.int .i64 (l.length:Int))),(10, .rw ak tt l),(0, .rw ak tt l),(1, .is (.int .i64 (most:Int))),(2, .fv g [] [])] 29 a u) l.length ⟨0,by omega,rfl,h.keep [12,11,10,0,1,2]⟩ ?_
 clear h
 rintro k a u ⟨i,hi,ha,h⟩
 by_cases hlt:i<l.length
 ·obtain ⟨x,hx⟩:∃ x,l[i]? =some x:=⟨_,List.getElem?_eq_getElem hlt⟩
  have hc:decide ((i:Int)<(l.length:Int))=true:=decide_eq_true qO
  have hw:IntKind.i64.wrap ((i:Int)+1)=((i+1:Nat):Int):=az qO qO
  rw [bg hx] at ha
  cases hm:((i:Int)==(most:Int))
  rotate_left
  ·rw [gj (by have:=eq_of_beq hm;omega)] at ha
   rw [←ha]
   refine aD h ?_
   clear h
   repeat' first|kernel_rfl|apply Bt.mk|refine nx ?_|apply cq (s:=12)|apply ae|refine fm rfl ?_|exact cj|intro _
  have hmi:i≠most:=fun e=>by rw [e] at hm;simp at hm
  have kx:=hr x (List.mem_of_getElem? hx)
  cases hp:p x
  ·rw [ip hmi hp] at ha
   rw [hp] at kx
   rw [←ha]
   refine aD h ?_
   clear h
   repeat' first|kernel_rfl|apply Bt.mk|refine nx ?_|apply cq (s:=12)|apply ae|refine fm rfl ?_|exact cj|intro _
  ·rw [i7 hmi hp] at ha
   rw [hp] at kx
   refine aD h ?_
   clear h
   repeat' first|kernel_rfl|exact bq fun _ _ h=>⟨k - 1,by omega,i+1,by omega,ha,h.drop.keep [12,11,10,0,1,2]⟩|apply Bt.mk|refine nx ?_|apply cq (s:=12)|apply ae|refine fm rfl ?_|exact cj|intro _
 ·obtain rfl:i=l.length:=qO
  have hc:decide ((l.length:Int)<(l.length:Int))=false:=decide_eq_false qO
  rw [List.drop_length] at ha
  have ha:(0,0)=brk p most 0 l:=ha
  rw [←ha]
  refine aD h ?_
  clear h
  repeat' first|kernel_rfl|apply Bt.mk|refine nx ?_|apply cq (s:=12)|apply ae|refine fm rfl ?_|exact cj|intro _
theorem vi{l:List (dI)} {p:dI→Bool} (hz:z=(most:Int)) (hr:∀ x∈l,cw Tryz.prog dZ g [0] [.ra bp x] (fun _=> .is (.bool (p x)))):cw Tryz.prog dZ 202 [0,0,0] [.rw bp tt l, .is (.int .i64 z), .fv g [] []] (fun _=> .tup [.is (.int .i64 (brk p most 0 l).1), .is (.int .i64 (brk p most 0 l).2)]):=by
 subst hz
 refine h_ dj (fun _ _=>by kernel_rfl) fun hb=> ?_
 refine cr Tryz.func202 Tryz.ntmps202 fun X w0 hE=> ?_
 simp only [ar,Nat.zero_add,Nat.reduceAdd]
 repeat' first|kernel_rfl|apply Bt.mk|refine nx ?_|apply ae|refine fm rfl ?_|exact cj|intro _
 refine bn fun a w h=> ?_
 refine aY (fun k a u=>∃ i:Nat,i+k=l.length∧brk p most i (l.drop i)=brk p most 0 l∧TS w0 X [] [(12, .is (.int .i64 (i:Int))),(11, .is (.int .i64 (l.length:Int))),(10, .rw bp tt l),(0, .rw bp tt l),(1, .is (.int .i64 (most:Int))),(2, .fv g [] [])] 29 a u) l.length ⟨0,by omega,rfl,h.keep [12,11,10,0,1,2]⟩ ?_
 clear h
 rintro k a u ⟨i,hi,ha,h⟩
 by_cases hlt:i<l.length
 ·obtain ⟨x,hx⟩:∃ x,l[i]? =some x:=⟨_,List.getElem?_eq_getElem hlt⟩
  have hc:decide ((i:Int)<(l.length:Int))=true:=decide_eq_true qO
  have hw:IntKind.i64.wrap ((i:Int)+1)=((i+1:Nat):Int):=az qO qO
  rw [bg hx] at ha
  cases hm:((i:Int)==(most:Int))
  rotate_left
  ·rw [gj (by have:=eq_of_beq hm;omega)] at ha
   rw [←ha]
   refine aD h ?_
   clear h
   repeat' first|kernel_rfl|apply Bt.mk|refine nx ?_|apply cq (s:=12)|apply ae|refine fm rfl ?_|exact cj|intro _
  have hmi:i≠most:=fun e=>by rw [e] at hm;simp at hm
  have kx:=hr x (List.mem_of_getElem? hx)
  cases hp:p x
  ·rw [ip hmi hp] at ha
   rw [hp] at kx
   rw [←ha]
   refine aD h ?_
   clear h
   repeat' first|kernel_rfl|apply Bt.mk|refine nx ?_|apply cq (s:=12)|apply ae|refine fm rfl ?_|exact cj|intro _
  ·rw [i7 hmi hp] at ha
   rw [hp] at kx
   refine aD h ?_
   clear h
   repeat' first|kernel_rfl|exact bq fun _ _ h=>⟨k - 1,by omega,i+1,by omega,ha,h.drop.keep [12,11,10,0,1,2]⟩|apply Bt.mk|refine nx ?_|apply cq (s:=12)|apply ae|refine fm rfl ?_|exact cj|intro _
 ·obtain rfl:i=l.length:=qO
  have hc:decide ((l.length:Int)<(l.length:Int))=false:=decide_eq_false qO
  rw [List.drop_length] at ha
  have ha:(0,0)=brk p most 0 l:=ha
  rw [←ha]
  refine aD h ?_
  clear h
  repeat' first|kernel_rfl|apply Bt.mk|refine nx ?_|apply cq (s:=12)|apply ae|refine fm rfl ?_|exact cj|intro _
theorem xO{l:List (eX)} {p:eX→Bool} (hz:z=(most:Int)) (hr:∀ x∈l,cw Tryz.prog dZ g [0] [.ra b7 x] (fun _=> .is (.bool (p x)))):cw Tryz.prog dZ 204 [0,0,0] [.rw b7 tt l, .is (.int .i64 z), .fv g [] []] (fun _=> .tup [.is (.int .i64 (brk p most 0 l).1), .is (.int .i64 (brk p most 0 l).2)]):=by
 subst hz
 refine h_ dj (fun _ _=>by kernel_rfl) fun hb=> ?_
 refine cr Tryz.func204 Tryz.ntmps204 fun X w0 hE=> ?_
 simp only [ar,Nat.zero_add,Nat.reduceAdd]
 repeat' first|kernel_rfl|apply Bt.mk|refine nx ?_|apply ae|refine fm rfl ?_|exact cj|intro _
 refine bn fun a w h=> ?_
 refine aY (fun k a u=>∃ i:Nat,i+k=l.length∧brk p most i (l.drop i)=brk p most 0 l∧TS w0 X [] [(12, .is (.int .i64 (i:Int))),(11, .is (.int .i64 (l.length:Int))),(10, .rw b7 tt l),(0, .rw b7 tt l),(1, .is (.int .i64 (most:Int))),(2, .fv g [] [])] 29 a u) l.length ⟨0,by omega,rfl,h.keep [12,11,10,0,1,2]⟩ ?_
 clear h
 rintro k a u ⟨i,hi,ha,h⟩
 by_cases hlt:i<l.length
 ·obtain ⟨x,hx⟩:∃ x,l[i]? =some x:=⟨_,List.getElem?_eq_getElem hlt⟩
  have hc:decide ((i:Int)<(l.length:Int))=true:=decide_eq_true qO
  have hw:IntKind.i64.wrap ((i:Int)+1)=((i+1:Nat):Int):=az qO qO
  rw [bg hx] at ha
  cases hm:((i:Int)==(most:Int))
  rotate_left
  ·rw [gj (by have:=eq_of_beq hm;omega)] at ha
   rw [←ha]
   refine aD h ?_
   clear h
   repeat' first|kernel_rfl|apply Bt.mk|refine nx ?_|apply cq (s:=12)|apply ae|refine fm rfl ?_|exact cj|intro _
  have hmi:i≠most:=fun e=>by rw [e] at hm;simp at hm
  have kx:=hr x (List.mem_of_getElem? hx)
  cases hp:p x
  ·rw [ip hmi hp] at ha
   rw [hp] at kx
   rw [←ha]
   refine aD h ?_
   clear h
   repeat' first|kernel_rfl|apply Bt.mk|refine nx ?_|apply cq (s:=12)|apply ae|refine fm rfl ?_|exact cj|intro _
  ·rw [i7 hmi hp] at ha
   rw [hp] at kx
   refine aD h ?_
   clear h
   repeat' first|kernel_rfl|exact bq fun _ _ h=>⟨k - 1,by omega,i+1,by omega,ha,h.drop.keep [12,11,10,0,1,2]⟩|apply Bt.mk|refine nx ?_|apply cq (s:=12)|apply ae|refine fm rfl ?_|exact cj|intro _
 ·obtain rfl:i=l.length:=qO
  have hc:decide ((l.length:Int)<(l.length:Int))=false:=decide_eq_false qO
  rw [List.drop_length] at ha
  have ha:(0,0)=brk p most 0 l:=ha
  rw [←ha]
  refine aD h ?_
  clear h
  repeat' first|kernel_rfl|apply Bt.mk|refine nx ?_|apply cq (s:=12)|apply ae|refine fm rfl ?_|exact cj|intro _
instance:fw Tryz.prog 29 1 false:=⟨⟨_,Tryz.underlying29,rfl⟩,by kernel_rfl⟩
instance:uW Tryz.prog 239:=⟨⟨_,Tryz.underlying239,by kernel_rfl,fun w=>⟨.bool false,by go_simp⟩⟩⟩
theorem zq{v:Value} {l:List (List UInt8)} (hl:l.length≤9223372036854775807) (h:(aa.vs (l.map Tx)).holds X w v):(aa.rw Rp.str tt l).holds X w v:=by
 obtain ⟨b,e,hb,hc⟩:=h
 rw [List.length_map] at e
 refine ⟨fun _ _=>trivial,_,l.length,l.length,by rw [e],rfl,Nat.le_refl _,hl,(fun h=>by cases h),fun _=>⟨b,0,rfl,hb,fun j a ha=>⟨[Tx a],?_,⟨_,rfl,bU a⟩⟩⟩⟩
 intro i u hu
 cases i with
 |zero=>
  have e:Tx a=u:=by simpa using hu
  subst e
  have:=hc j (Tx a) (by rw [List.getElem?_map,ha];rfl)
  simpa [show Rp.str.k=1 from rfl] using this
 |succ i=>simp at hu
theorem s9 {a:aI} (hf:∀ x∈a.2.2.1,di 6 x.1∧di 6 x.2):cw Tryz.prog dZ 142 [0] [.ra ai a] (fun _=> .tup [.is (.int .i64 (brk ib 16 0 a.2.2.1).1), .is (.int .i64 (brk ib 16 0 a.2.2.1).2)]):=by
 have k0:=qq (l:=a.2.2.1) (p:=ib) (most:=16) (z:=16) (g:=189) rfl (fun x hx=>vJ (hf x hx))
 refine cr Tryz.func142 Tryz.ntmps142 fun X w hE=> ?_
 simp only [ar,Nat.zero_add,Nat.reduceAdd]
 repeat' first|kernel_rfl|apply Bt.mk|refine nx ?_|apply ae|refine fm rfl ?_|exact cj|intro _
theorem uT {a:aI} (hf:∀ x∈a.2.2.2.2.2.2.2.2.2.2.1,di 6 x.2.2):cw Tryz.prog dZ 144 [0] [.ra ai a] (fun _=> .tup [.is (.int .i64 (brk ij 64 0 a.2.2.2.2.2.2.2.2.2.2.1).1), .is (.int .i64 (brk ij 64 0 a.2.2.2.2.2.2.2.2.2.2.1).2)]):=by
 have k0:=u_ (l:=a.2.2.2.2.2.2.2.2.2.2.1) (p:=ij) (most:=64) (z:=64) (g:=193) rfl (fun x hx=>Aq (hf x hx))
 refine cr Tryz.func144 Tryz.ntmps144 fun X w hE=> ?_
 simp only [ar,Nat.zero_add,Nat.reduceAdd]
 repeat' first|kernel_rfl|apply Bt.mk|refine nx ?_|apply ae|refine fm rfl ?_|exact cj|intro _
theorem rU {a:aI}:cw Tryz.prog dZ 145 [0] [.ra ai a] (fun _=> .tup [.is (.int .i64 (brk dF 256 0 a.2.2.2.2.2.2.2.2.2.2.2.1).1), .is (.int .i64 (brk dF 256 0 a.2.2.2.2.2.2.2.2.2.2.2.1).2)]):=by
 have k0:=nk (l:=a.2.2.2.2.2.2.2.2.2.2.2.1) (p:=dF) (most:=256) (z:=256) (g:=30) rfl (fun x hx=>eD.up)
 refine cr Tryz.func145 Tryz.ntmps145 fun X w hE=> ?_
 simp only [ar,Nat.zero_add,Nat.reduceAdd]
 repeat' first|kernel_rfl|apply Bt.mk|refine nx ?_|apply ae|refine fm rfl ?_|exact cj|intro _
theorem Am {a:aI}:cw Tryz.prog dZ 146 [0] [.ra ai a] (fun _=> .tup [.is (.int .i64 (brk pd 40 0 a.2.2.2.2.2.2.2.2.2.2.2.2).1), .is (.int .i64 (brk pd 40 0 a.2.2.2.2.2.2.2.2.2.2.2.2).2)]):=by
 have k0:=yC (l:=a.2.2.2.2.2.2.2.2.2.2.2.2) (p:=pd) (most:=40) (z:=40) (g:=195) rfl (fun x hx=>Bn)
 refine cr Tryz.func146 Tryz.ntmps146 fun X w hE=> ?_
 simp only [ar,Nat.zero_add,Nat.reduceAdd]
 repeat' first|kernel_rfl|apply Bt.mk|refine nx ?_|apply ae|refine fm rfl ?_|exact cj|intro _
theorem AI {a:bw} (hf:∀ x∈a.2.1,di 6 x.2.2):cw Tryz.prog dZ 147 [0] [.ra aA a] (fun _=> .tup [.is (.int .i64 (brk jX 4096 0 a.2.1).1), .is (.int .i64 (brk jX 4096 0 a.2.1).2)]):=by
 have k0:=yp (l:=a.2.1) (p:=jX) (most:=4096) (z:=4096) (g:=197) rfl (fun x hx=>B9 (hf x hx))
 refine cr Tryz.func147 Tryz.ntmps147 fun X w hE=> ?_
 simp only [ar,Nat.zero_add,Nat.reduceAdd]
 repeat' first|kernel_rfl|apply Bt.mk|refine nx ?_|apply ae|refine fm rfl ?_|exact cj|intro _
theorem AP {a:bw} (hf:∀ x∈a.2.2.1,di 6 x.2.2):cw Tryz.prog dZ 148 [0] [.ra aA a] (fun _=> .tup [.is (.int .i64 (brk jR 4096 0 a.2.2.1).1), .is (.int .i64 (brk jR 4096 0 a.2.2.1).2)]):=by
 have k0:=xD (l:=a.2.2.1) (p:=jR) (most:=4096) (z:=4096) (g:=199) rfl (fun x hx=>Bw (hf x hx))
 refine cr Tryz.func148 Tryz.ntmps148 fun X w hE=> ?_
 simp only [ar,Nat.zero_add,Nat.reduceAdd]
 repeat' first|kernel_rfl|apply Bt.mk|refine nx ?_|apply ae|refine fm rfl ?_|exact cj|intro _
theorem zM {a:bw} (hf:∀ x∈a.2.2.2.1,di 6 x.2.2.2.2.2.2):cw Tryz.prog dZ 149 [0] [.ra aA a] (fun _=> .tup [.is (.int .i64 (brk jU 4096 0 a.2.2.2.1).1), .is (.int .i64 (brk jU 4096 0 a.2.2.2.1).2)]):=by
 have k0:=xE (l:=a.2.2.2.1) (p:=jU) (most:=4096) (z:=4096) (g:=201) rfl (fun x hx=>Bm (hf x hx))
 refine cr Tryz.func149 Tryz.ntmps149 fun X w hE=> ?_
 simp only [ar,Nat.zero_add,Nat.reduceAdd]
 repeat' first|kernel_rfl|apply Bt.mk|refine nx ?_|apply ae|refine fm rfl ?_|exact cj|intro _
theorem xW {a:bw} (hf:∀ x∈a.2.2.2.2.1,di 6 x.2.1∧di 6 x.2.2):cw Tryz.prog dZ 150 [0] [.ra aA a] (fun _=> .tup [.is (.int .i64 (brk ie 4096 0 a.2.2.2.2.1).1), .is (.int .i64 (brk ie 4096 0 a.2.2.2.2.1).2)]):=by
 have k0:=vi (l:=a.2.2.2.2.1) (p:=ie) (most:=4096) (z:=4096) (g:=203) rfl (fun x hx=>yM (hf x hx))
 refine cr Tryz.func150 Tryz.ntmps150 fun X w hE=> ?_
 simp only [ar,Nat.zero_add,Nat.reduceAdd]
 repeat' first|kernel_rfl|apply Bt.mk|refine nx ?_|apply ae|refine fm rfl ?_|exact cj|intro _
theorem Ar {a:bw} (hf:∀ x∈a.2.2.2.2.2,di 6 x.2):cw Tryz.prog dZ 151 [0] [.ra aA a] (fun _=> .tup [.is (.int .i64 (brk jS 4096 0 a.2.2.2.2.2).1), .is (.int .i64 (brk jS 4096 0 a.2.2.2.2.2).2)]):=by
 have k0:=xO (l:=a.2.2.2.2.2) (p:=jS) (most:=4096) (z:=4096) (g:=205) rfl (fun x hx=>CX (hf x hx))
 refine cr Tryz.func151 Tryz.ntmps151 fun X w hE=> ?_
 simp only [ar,Nat.zero_add,Nat.reduceAdd]
 repeat' first|kernel_rfl|apply Bt.mk|refine nx ?_|apply ae|refine fm rfl ?_|exact cj|intro _
theorem zu {a:aI}:cw Tryz.prog dZ 141 [0] [.ra ai a] (fun _=> .tup [.is (.int .i64 (brk dF 2 0 [a.1,a.2.1]).1), .is (.int .i64 (brk dF 2 0 [a.1,a.2.1]).2)]):=by
 have k0:cw Tryz.prog dZ 187 [0,0,0] [.vs [Tx a.1,Tx a.2.1], .is (.int .i64 (([Tx a.1,Tx a.2.1]:List Value).length:Int)), .fv 30 [] []] _:=(nk (l:=[a.1,a.2.1]) (p:=dF) (most:=2) (z:=2) (g:=30) rfl (fun x hx=>eD.up)).args fun h=>by
  obtain ⟨v,us,rfl,h,h'⟩:=h.tail
  exact ⟨zq (l:=[a.1,a.2.1]) qE h,h'⟩
 refine cr Tryz.func141 Tryz.ntmps141 fun X w hE=> ?_
 simp only [ar,Nat.zero_add,Nat.reduceAdd]
 repeat' first|kernel_rfl|apply Bt.mk|refine nx ?_|apply ae|refine fm rfl ?_|exact cj|intro _
theorem xx {l:List Bool} (hb:l.length≤1000):cw Tryz.prog S1 191 [0,0] [.vs (l.map Value.bool), .is (.bool false)] (fun _=> .is (.int .i64 (nI 0 l))):=by
 refine oy Tryz.func191 rfl Tryz.ntmps191 qE (fun _ _=>by kernel_rfl) fun X w0 hE=> ?_
 simp only [ar,Nat.zero_add,Nat.reduceAdd]
 repeat' first|kernel_rfl|apply bI|apply bJ|apply bM|apply bG|apply bL|apply bB|apply bK|apply bC|apply bH|apply ae|apply bc|apply cI|apply cG|apply bF|refine aO rfl ?_|apply bE|apply cH|apply cF|apply fz|apply fy|refine fC rfl ?_|apply fA|apply fE|apply cJ|exact cj|intro _
 refine bn fun a w h=> ?_
 refine aY (fun k a u=>∃ i:Nat,i+k=l.length∧nI i (l.drop i)=nI 0 l∧TS w0 X [] [(8, .is (.int .i64 (i:Int))),(7, .is (.int .i64 ((l.map Value.bool).length:Int))),(6, .vs (l.map Value.bool)),(0, .vs (l.map Value.bool)),(1, .is (.bool false))] 19 a u) l.length ⟨0,by omega,rfl,h.keep [8,7,6,0,1]⟩ ?_
 clear h
 rintro k a u ⟨i,hi,ha,h⟩
 have hml:(l.map Value.bool).length=l.length:=List.length_map _
 by_cases hlt:i<l.length
 ·obtain ⟨x,hx⟩:∃ x,l[i]? =some x:=⟨_,List.getElem?_eq_getElem hlt⟩
  have hxv:(l.map Value.bool)[i]? =some (.bool x):=by rw [List.getElem?_map,hx];rfl
  have hc:decide ((i:Int)<((l.map Value.bool).length:Int))=true:=decide_eq_true qO
  have hw:IntKind.i64.wrap ((i:Int)+1)=((i+1:Nat):Int):=az qO qO
  rw [bg hx] at ha
  cases x
  ·rw [show nI i (false::l.drop (i+1))=(i:Int) from rfl] at ha
   rw [←ha]
   refine aD h ?_
   clear h
   repeat' first|kernel_rfl|apply bI|apply bJ|apply bM|apply cq (s:=8)|apply bG|apply bL|apply bB|apply bK|apply bC|apply bH|apply ae|apply bc|apply cI|apply cG|apply bF|refine aO rfl ?_|apply bE|apply cH|apply cF|apply fz|apply fy|refine fC rfl ?_|apply fA|apply fE|apply cJ|exact cj|intro _
  ·rw [show nI i (true::l.drop (i+1))=nI (i+1) (l.drop (i+1)) from rfl] at ha
   refine aD h ?_
   clear h
   repeat' first|kernel_rfl|exact bq fun _ _ h=>⟨k - 1,by omega,i+1,by omega,ha,h.keep [8,7,6,0,1]⟩|apply bI|apply bJ|apply bM|apply cq (s:=8)|apply bG|apply bL|apply bB|apply bK|apply bC|apply bH|apply ae|apply bc|apply cI|apply cG|apply bF|refine aO rfl ?_|apply bE|apply cH|apply cF|apply fz|apply fy|refine fC rfl ?_|apply fA|apply fE|apply cJ|exact cj|intro _
 ·obtain rfl:i=l.length:=qO
  have hc:decide ((l.length:Int)<((l.map Value.bool).length:Int))=false:=decide_eq_false qO
  rw [List.drop_length] at ha
  have ha:(-1:Int)=nI 0 l:=ha
  rw [←ha]
  refine aD h ?_
  clear h
  repeat' first|kernel_rfl|apply bI|apply bJ|apply bM|apply cq (s:=8)|apply bG|apply bL|apply bB|apply bK|apply bC|apply bH|apply ae|apply bc|apply cI|apply cG|apply bF|refine aO rfl ?_|apply bE|apply cH|apply cF|apply fz|apply fy|refine fC rfl ?_|apply fA|apply fE|apply cJ|exact cj|intro _
theorem Fi {a:aI} (h3:di 6 a.2.2.2.1) (h4:di 6 a.2.2.2.2.1) (h7:di 6 a.2.2.2.2.2.2.2.1) (h8:di 6 a.2.2.2.2.2.2.2.2.1):cw Tryz.prog dZ 143 [0] [.ra ai a] (fun _=> .tup [.is (.int .i64 (uv a).1), .is (.int .i64 (uv a).2)]):=by
 unfold uv
 have s3:=fG (x:=a.2.2.2.1) (L:=6) qD h3
 have s4:=fG (x:=a.2.2.2.2.1) (L:=6) qD h4
 have s7:=fG (x:=a.2.2.2.2.2.2.2.1) (L:=6) qD h7
 have m8:=gr (x:=a.2.2.2.2.2.2.2.2.1) (L:=6) qD h8
 have ki:cw Tryz.prog S1 191 [0,0] [.vs [.bool _, .bool _, .bool _, .bool _, .bool _, .bool _, .bool _], .is (.bool false)] _:=xx (l:=p7 a) (show (7:Nat)≤1000 by decide)
 cases h0:decide (0≤nI 0 (p7 a))
 ·simp only [cond_false]
  refine cr Tryz.func143 Tryz.ntmps143 fun X w hE=> ?_
  simp only [ar,Nat.zero_add,Nat.reduceAdd]
  repeat' first|kernel_rfl|apply Bt.mk|refine nx ?_|apply ab (id:=1) [] [] 22|apply au|apply aR|apply ae|refine fm rfl ?_|exact sc hE s3|exact sc hE s4|exact sc hE s7|exact sc hE m8|exact sc trivial jC|exact sc trivial ki|exact cj|intro _
 ·simp only [cond_true]
  refine cr Tryz.func143 Tryz.ntmps143 fun X w hE=> ?_
  simp only [ar,Nat.zero_add,Nat.reduceAdd]
  repeat' first|kernel_rfl|apply Bt.mk|refine nx ?_|apply ab (id:=1) [] [] 22|apply au|apply aR|apply ae|refine fm rfl ?_|exact sc hE s3|exact sc hE s4|exact sc hE s7|exact sc hE m8|exact sc trivial jC|exact sc trivial ki|exact cj|intro _
theorem mN{p a e:Int} {t:List (Int×Int×Int)}:fI yr ((p,a,e)::t)=bif e==0 then fI yr t else ((p,yr,a),e):=rfl
def j0 (l:List (Int×FuncId×Int×Int)):List (Int×Int×Int):=l.map fun x=>(x.1,x.2.2.1,x.2.2.2)
def j7 (l:List (Int×FuncId×Int×Int)):List (Int×FuncId):=l.map fun x=>(x.1,x.2.1)
instance:fw Tryz.prog 49 1 false:=⟨⟨_,Tryz.underlying49,rfl⟩,by kernel_rfl⟩
theorem pD:cw Tryz.prog S1 72 [] [] (fun _=> .rw iJ tt [(1,141),(2,142),(3,143),(4,144),(5,145),(6,146)]):=by
 refine cr Tryz.func72 Tryz.ntmps72 fun X w hE=> ?_
 simp only [ar,Nat.zero_add,Nat.reduceAdd]
 repeat' first|kernel_rfl|apply Bt.mk|refine nx ?_|apply ae|refine aO rfl ?_|exact vN vI rfl qD qD qD|exact cj|intro _
theorem vC{l:List (Int×FuncId×Int×Int)} {d:aI} (hr:∀ x∈l,cw Tryz.prog dZ x.2.1 [0] [.ra ai d] (fun _=> .tup [.is (.int .i64 x.2.2.1), .is (.int .i64 x.2.2.2)])):cw Tryz.prog dZ 71 [0,0,0] [.ra ai d, .is (.int .i64 yr), .rw iJ tt (j7 l)] (fun _=> .tup [.ra dK (fI yr (j0 l)).1, .is (.int .i64 (fI yr (j0 l)).2)]):=by
 have hml:(j7 l).length=l.length:=List.length_map _
 refine h_ (F:=(j7 l).length≤9223372036854775807) (fun ha=> ?_) (fun _ _=>by kernel_rfl) fun hb=> ?_
 ·obtain ⟨v,us,rfl,_,h⟩:=ha.tail
  obtain ⟨v,us,rfl,_,h⟩:=h.tail
  exact dj h
 refine cr Tryz.func71 Tryz.ntmps71 fun X w0 hE=> ?_
 simp only [ar,Nat.zero_add,Nat.reduceAdd]
 repeat' first|kernel_rfl|apply Bt.mk|refine nx ?_|apply ae|refine fm rfl ?_|exact cj|intro _
 refine bn fun a w h=> ?_
 rename_i r3 r6
 refine aY (fun k a u=>∃ i:Nat,i+k=l.length∧fI yr (j0 (l.drop i))=fI yr (j0 l)∧TS w0 (r6::r3::X) [(r6, .ra dK nU),(r3, .ra ai d)] [(14, .is (.int .i64 (i:Int))),(13, .is (.int .i64 ((j7 l).length:Int))),(12, .rw iJ tt (j7 l)),(3, .is (.pointer (some ⟨r3,0,none⟩))),(6, .is (.pointer (some ⟨r6,0,none⟩))),(1, .is (.int .i64 yr))] 35 a u) l.length ⟨0,by omega,rfl,h.keep [14,13,12,3,6,1]⟩ ?_
 clear h
 rintro k a u ⟨i,hi,ha,h⟩
 by_cases hlt:i<l.length
 ·obtain ⟨x,hx⟩:∃ x,l[i]? =some x:=⟨_,List.getElem?_eq_getElem hlt⟩
  have hxn:(j7 l)[i]? =some (x.1,x.2.1):=by unfold j7;rw [List.getElem?_map,hx];rfl
  have hc:decide ((i:Int)<((j7 l).length:Int))=true:=decide_eq_true qO
  have hw:IntKind.i64.wrap ((i:Int)+1)=((i+1:Nat):Int):=az qO qO
  rw [bg hx,show j0 (x::l.drop (i+1))=(x.1,x.2.2.1,x.2.2.2)::j0 (l.drop (i+1)) from rfl,mN] at ha
  have kx:=hr x (List.mem_of_getElem? hx)
  cases hne:(x.2.2.2 != 0)
  ·have he:(x.2.2.2==0)=true:=by simpa using hne
   rw [he] at ha
   have ha:fI yr (j0 (l.drop (i+1)))=_:=ha
   refine aD h ?_
   clear h
   repeat' first|kernel_rfl|exact bq fun _ _ h=>⟨k - 1,by omega,i+1,by omega,ha,h.drop.keep [14,13,12,3,6,1]⟩|apply Bt.mk|refine nx ?_|apply cq (s:=14)|apply ae|refine fm rfl ?_|exact cj|intro _
  ·have he:(x.2.2.2==0)=false:=by simpa using hne
   rw [he] at ha
   have ha:((x.1,yr,x.2.2.1),x.2.2.2)=_:=ha
   rw [←show _=fI yr (j0 l) from ha]
   refine aD h ?_
   clear h
   repeat' first|kernel_rfl|apply Bt.mk|refine nx ?_|apply cq (s:=14)|apply ae|refine fm rfl ?_|exact cj|intro _
 ·obtain rfl:i=l.length:=qO
  have hc:decide ((l.length:Int)<((j7 l).length:Int))=false:=decide_eq_false qO
  rw [List.drop_length] at ha
  have ha:((0,0,0),0)=fI yr (j0 l):=ha
  rw [←ha]
  refine aD h ?_
  clear h
  repeat' first|kernel_rfl|apply Bt.mk|refine nx ?_|apply cq (s:=14)|apply ae|refine fm rfl ?_|exact cj|intro _
theorem sK:cw Tryz.prog S1 74 [] [] (fun _=> .rw iJ tt [(7,147),(8,148),(9,149),(10,150),(11,151)]):=by
 refine cr Tryz.func74 Tryz.ntmps74 fun X w hE=> ?_
 simp only [ar,Nat.zero_add,Nat.reduceAdd]
 repeat' first|kernel_rfl|apply Bt.mk|refine nx ?_|apply ae|refine aO rfl ?_|exact vN zy rfl qD qD qD|exact cj|intro _
theorem yP{l:List (Int×FuncId×Int×Int)} {d:bw} (hr:∀ x∈l,cw Tryz.prog dZ x.2.1 [0] [.ra aA d] (fun _=> .tup [.is (.int .i64 x.2.2.1), .is (.int .i64 x.2.2.2)])):cw Tryz.prog dZ 73 [0,0,0] [.ra aA d, .is (.int .i64 yr), .rw iJ tt (j7 l)] (fun _=> .tup [.ra dK (fI yr (j0 l)).1, .is (.int .i64 (fI yr (j0 l)).2)]):=by
 have hml:(j7 l).length=l.length:=List.length_map _
 refine h_ (F:=(j7 l).length≤9223372036854775807) (fun ha=> ?_) (fun _ _=>by kernel_rfl) fun hb=> ?_
 ·obtain ⟨v,us,rfl,_,h⟩:=ha.tail
  obtain ⟨v,us,rfl,_,h⟩:=h.tail
  exact dj h
 refine cr Tryz.func73 Tryz.ntmps73 fun X w0 hE=> ?_
 simp only [ar,Nat.zero_add,Nat.reduceAdd]
 repeat' first|kernel_rfl|apply Bt.mk|refine nx ?_|apply ae|refine fm rfl ?_|exact cj|intro _
 refine bn fun a w h=> ?_
 rename_i r3 r6
 refine aY (fun k a u=>∃ i:Nat,i+k=l.length∧fI yr (j0 (l.drop i))=fI yr (j0 l)∧TS w0 (r6::r3::X) [(r6, .ra dK nU),(r3, .ra aA d)] [(14, .is (.int .i64 (i:Int))),(13, .is (.int .i64 ((j7 l).length:Int))),(12, .rw iJ tt (j7 l)),(3, .is (.pointer (some ⟨r3,0,none⟩))),(6, .is (.pointer (some ⟨r6,0,none⟩))),(1, .is (.int .i64 yr))] 35 a u) l.length ⟨0,by omega,rfl,h.keep [14,13,12,3,6,1]⟩ ?_
 clear h
 rintro k a u ⟨i,hi,ha,h⟩
 by_cases hlt:i<l.length
 ·obtain ⟨x,hx⟩:∃ x,l[i]? =some x:=⟨_,List.getElem?_eq_getElem hlt⟩
  have hxn:(j7 l)[i]? =some (x.1,x.2.1):=by unfold j7;rw [List.getElem?_map,hx];rfl
  have hc:decide ((i:Int)<((j7 l).length:Int))=true:=decide_eq_true qO
  have hw:IntKind.i64.wrap ((i:Int)+1)=((i+1:Nat):Int):=az qO qO
  rw [bg hx,show j0 (x::l.drop (i+1))=(x.1,x.2.2.1,x.2.2.2)::j0 (l.drop (i+1)) from rfl,mN] at ha
  have kx:=hr x (List.mem_of_getElem? hx)
  cases hne:(x.2.2.2 != 0)
  ·have he:(x.2.2.2==0)=true:=by simpa using hne
   rw [he] at ha
   have ha:fI yr (j0 (l.drop (i+1)))=_:=ha
   refine aD h ?_
   clear h
   repeat' first|kernel_rfl|exact bq fun _ _ h=>⟨k - 1,by omega,i+1,by omega,ha,h.drop.keep [14,13,12,3,6,1]⟩|apply Bt.mk|refine nx ?_|apply cq (s:=14)|apply ae|refine fm rfl ?_|exact cj|intro _
  ·have he:(x.2.2.2==0)=false:=by simpa using hne
   rw [he] at ha
   have ha:((x.1,yr,x.2.2.1),x.2.2.2)=_:=ha
   rw [←show _=fI yr (j0 l) from ha]
   refine aD h ?_
   clear h
   repeat' first|kernel_rfl|apply Bt.mk|refine nx ?_|apply cq (s:=14)|apply ae|refine fm rfl ?_|exact cj|intro _
 ·obtain rfl:i=l.length:=qO
  have hc:decide ((l.length:Int)<((j7 l).length:Int))=false:=decide_eq_false qO
  rw [List.drop_length] at ha
  have ha:((0,0,0),0)=fI yr (j0 l):=ha
  rw [←ha]
  refine aD h ?_
  clear h
  repeat' first|kernel_rfl|apply Bt.mk|refine nx ?_|apply cq (s:=14)|apply ae|refine fm rfl ?_|exact cj|intro _
theorem qi{y:bw} {t:List bw}:vK i (y::t)=bif (fI (i:Int) (ig y)).2==0 then vK (i+1) t else fI (i:Int) (ig y):=rfl
def px (y:bw):Prop:=(∀ x∈y.2.1,di 6 x.2.2)∧(∀ x∈y.2.2.1,di 6 x.2.2)∧(∀ x∈y.2.2.2.1,di 6 x.2.2.2.2.2.2)∧(∀ x∈y.2.2.2.2.1,di 6 x.2.1∧di 6 x.2.2)∧(∀ x∈y.2.2.2.2.2,di 6 x.2)
structure tD (d:aI):Prop where
 thr:di 6 d.2.2.2.1
 cap:di 6 d.2.2.2.2.1
 int:di 6 d.2.2.2.2.2.2.2.1
 flo:di 6 d.2.2.2.2.2.2.2.2.1
 brk:∀ x∈d.2.2.1,di 6 x.1∧di 6 x.2
 cls:∀ x∈d.2.2.2.2.2.2.2.2.2.2.1,di 6 x.2.2
 yrs:∀ x∈d.2.2.2.2.2.2.2.2.2.2.2.2,px x
theorem tn{d:aI} (hf:tD d):cw Tryz.prog dZ 71 [0,0,0] [.ra ai d, .is (.int .i64 yr), .rw iJ tt [(1,141),(2,142),(3,143),(4,144),(5,145),(6,146)]] (fun _=> .tup [.ra dK (fI yr (lJ d)).1, .is (.int .i64 (fI yr (lJ d)).2)]):=vC (l:=[(1,141,(brk dF 2 0 [d.1,d.2.1])),(2,142,(brk ib 16 0 d.2.2.1)),(3,143,(uv d)),(4,144,(brk ij 64 0 d.2.2.2.2.2.2.2.2.2.2.1)),(5,145,(brk dF 256 0 d.2.2.2.2.2.2.2.2.2.2.2.1)),(6,146,(brk pd 40 0 d.2.2.2.2.2.2.2.2.2.2.2.2))]) fun x hx=>by
 simp only [List.mem_cons,List.not_mem_nil,or_false] at hx
 rcases hx with rfl|rfl|rfl|rfl|rfl|rfl
 ·exact zu
 ·exact (s9 hf.brk)
 ·exact (Fi hf.thr hf.cap hf.int hf.flo)
 ·exact (uT hf.cls)
 ·exact rU
 ·exact Am
theorem w_{d:bw} (hf:px d):cw Tryz.prog dZ 73 [0,0,0] [.ra aA d, .is (.int .i64 yr), .rw iJ tt [(7,147),(8,148),(9,149),(10,150),(11,151)]] (fun _=> .tup [.ra dK (fI yr (ig d)).1, .is (.int .i64 (fI yr (ig d)).2)]):=yP (l:=[(7,147,(brk jX 4096 0 d.2.1)),(8,148,(brk jR 4096 0 d.2.2.1)),(9,149,(brk jU 4096 0 d.2.2.2.1)),(10,150,(brk ie 4096 0 d.2.2.2.2.1)),(11,151,(brk jS 4096 0 d.2.2.2.2.2))]) fun x hx=>by
 simp only [List.mem_cons,List.not_mem_nil,or_false] at hx
 rcases hx with rfl|rfl|rfl|rfl|rfl
 ·exact (AI hf.1)
 ·exact (AP hf.2.1)
 ·exact (zM hf.2.2.1)
 ·exact (xW hf.2.2.2.1)
 ·exact (Ar hf.2.2.2.2)
theorem Eb{α β:Type} {r:Rp α} {r':Rp β} {g:α→List β} {off:Nat} {v:Value} {a:α} [f:bk r off r'.row g] (h:(aa.ra r a).holds X w v):(g a).length≤9223372036854775807:=by
 obtain ⟨cs,_,hr⟩:=h
 obtain ⟨c1,c2,c3,_,_,h2⟩:=f.ok hr
 obtain ⟨A,n,c,e,h3⟩:=h2
 exact Ao (r:=r') (p:=tt) (v:= .slice A n c) ⟨fun _ _=>trivial,A,n,c,rfl,h3⟩
theorem Cj {d:aI} (hf:tD d):cw Tryz.prog dZ 28 [0] [.ra ai d] (fun _=> .tup [.ra dK (js d).1, .is (.int .i64 (js d).2)]):=by
 refine h_ (F:=(d.2.2.2.2.2.2.2.2.2.2.2.2).length≤9223372036854775807) (fun ha=> ?_) (fun _ _=>by kernel_rfl) fun hb=> ?_
 ·obtain ⟨v,rfl,h⟩:=ha.one
  exact Eb (r:=ai) (r':=aA) (off:=24) (g:=fun (d:aI)=>d.2.2.2.2.2.2.2.2.2.2.2.2) h
 have kF:=tn (yr:= -1) hf
 refine cr Tryz.func28 Tryz.ntmps28 fun X w0 hE=> ?_
 simp only [ar,Nat.zero_add,Nat.reduceAdd]
 repeat' first|kernel_rfl|apply Bt.mk|refine nx ?_|apply wm (id:=1) [] [] 7 [5]|apply DA|apply DD|apply FX|apply au|apply aR|infer_instance|refine bi rfl cj ?_|refine bh rfl ?_|refine bj rfl ?_|apply ae|refine fm rfl ?_|exact cj|(intro _;simp only[cu,cx,cC,List.map,List.cons_append,List.nil_append])|intro _
 refine bn fun a w h=> ?_
 rename_i r1 r2 rf
 replace h:=h.keep [6,5,4,1,2]
 generalize rf 4=r4 at h
 refine aY (fun k a u=>∃ (i:Nat) (q:GF),i+k=(d.2.2.2.2.2.2.2.2.2.2.2.2).length∧(bif q.2==0 then vK i ((d.2.2.2.2.2.2.2.2.2.2.2.2).drop i) else q)=js d∧(q.2=0→q=((0,0,0),0))∧TS w0 (r4::r2::r1::X) [(r4, .ra dK q.1),(r2, .ra dK nU),(r1, .ra ai d)] [(6, .is (.int .i64 (i:Int))),(5, .is (.int .i64 q.2)),(4, .is (.pointer (some ⟨r4,0,none⟩))),(1, .is (.pointer (some ⟨r1,0,none⟩))),(2, .is (.pointer (some ⟨r2,0,none⟩)))] 37 a u) (d.2.2.2.2.2.2.2.2.2.2.2.2).length ⟨0,fI (-1) (lJ d),by omega,rfl,mL,h⟩ ?_
 clear h
 rintro k a u ⟨i,q,hi,ha,hz,h⟩
 cases he:(q.2==0)
 ·rw [he] at ha
  have ha:q=js d:=ha
  rw [←ha]
  refine aD h ?_
  clear h
  repeat' first|kernel_rfl|apply Bt.mk|refine nx ?_|apply au|apply aR|infer_instance|refine bi rfl cj ?_|refine bh rfl ?_|refine bj rfl ?_|apply ae|refine fm rfl ?_|exact cj|intro _
 rw [he] at ha
 have ha:vK i ((d.2.2.2.2.2.2.2.2.2.2.2.2).drop i)=js d:=ha
 by_cases hlt:i<(d.2.2.2.2.2.2.2.2.2.2.2.2).length
 ·obtain ⟨y,hy⟩:∃ y,(d.2.2.2.2.2.2.2.2.2.2.2.2)[i]? =some y:=⟨_,List.getElem?_eq_getElem hlt⟩
  have hc:decide ((i:Int)<((d.2.2.2.2.2.2.2.2.2.2.2.2).length:Int))=true:=decide_eq_true qO
  have hw:IntKind.i64.wrap ((i:Int)+1)=((i+1:Nat):Int):=az qO qO
  rw [bg hy,qi] at ha
  have kY:=w_ (yr:=(i:Int)) (hf.yrs y (List.mem_of_getElem? hy))
  refine aD h ?_
  clear h
  repeat' first|kernel_rfl|exact bq fun _ _ h=>⟨k - 1,by omega,i+1,fI (i:Int) (ig y),by omega,ha,mL,h.keep [6,5,4,1,2]⟩|apply Bt.mk|refine nx ?_|apply wm (id:=5) [] [] 11 [10]|apply DA|apply DD|apply FX|apply au|apply aR|infer_instance|refine bi rfl cj ?_|refine bh rfl ?_|refine bj rfl ?_|apply ae|refine fm rfl ?_|exact cj|(intro _;simp only[cu,cx,cC,List.map,List.cons_append,List.nil_append])|intro _
 ·obtain hil:i=(d.2.2.2.2.2.2.2.2.2.2.2.2).length:=qO
  have hc:decide ((i:Int)<((d.2.2.2.2.2.2.2.2.2.2.2.2).length:Int))=false:=decide_eq_false qO
  rw [hil,List.drop_length] at ha
  have ha:((0,0,0),0)=js d:=ha
  rw [←hz (eq_of_beq he)] at ha
  rw [←ha]
  refine aD h ?_
  clear h
  repeat' first|kernel_rfl|apply Bt.mk|refine nx ?_|apply au|apply aR|infer_instance|refine bi rfl cj ?_|refine bh rfl ?_|refine bj rfl ?_|apply ae|refine fm rfl ?_|exact cj|intro _
end Go.Proofs.YtjjkikchncfekaaGreatDoor
