/- Package ast: the limits, part by part. -/
import Derived.Test.YtpmhjieibebclaaGreatDoorCO
set_option maxHeartbeats 4000000
set_option maxRecDepth 20000
set_option synthInstance.maxHeartbeats 400000
set_option synthInstance.maxSize 4000
set_option linter.unusedSimpArgs false
set_option linter.unusedVariables false
namespace Go.Proofs.YtpmhjieibebclaaGreatDoor
open Go Go.RowKit
variable {most i:Nat} {z yr:Int} {g:FuncId} {X:List Nat} {w:World}
theorem bW.up {P:Program} {G:World→Prop} {f:FuncId} {ks:List Nat} {As:List aa} {T:Nat→aa} (h:bW P S1 f ks As T):bW P G f ks As T:=⟨h.ent,h.down,fun _ hX ha=>h.run trivial hX ha⟩
theorem fC{α:Type} {r:Rp α} {p:α→Prop} {l:List α} {T:List aa} {vs:List Value} (h:cM X w (.rw r p l::T) vs):l.length≤9223372036854775807:=by
 obtain ⟨v,us,rfl,h,_⟩:=h.tail
 exact C0 h
theorem ek{α:Type} {l:List α} {x:α} (h:l[i]? =some x):l.drop i=x::l.drop (i+1):=by
 obtain ⟨h1,h2⟩:=List.getElem?_eq_some_iff.1 h
 rw [List.drop_eq_getElem_cons h1,h2]
theorem ft{α:Type} {p:α→Bool} {x:α} {l:List α} (h:i=most):brk p most i (x::l)=((i:Int),3):=by
 unfold brk;rw [if_pos h]
theorem fy{α:Type} {p:α→Bool} {x:α} {l:List α} (h:i≠most) (hp:p x=false):brk p most i (x::l)=((i:Int),2):=by
 unfold brk;rw [if_neg h,hp];rfl
theorem fS{α:Type} {p:α→Bool} {x:α} {l:List α} (h:i≠most) (hp:p x=true):brk p most i (x::l)=brk p most (i+1) l:=by
 rw [brk,if_neg h,hp];rfl
instance:cQ Tryz.prog 9 (.is (Tx [])):=⟨⟨Tx [],fun X w=>rfl,fun o ρ w e=>by
 cases o with
 |mk dst op ty pos af gd=>
  have e':op=_:=e
  subst e'
  go_simp⟩⟩
theorem bL {p:Prop} (h:p:=by first|exact gW (by assumption)|exact fO|exact jE|exact tj rfl rfl rfl|exact Ez|exact yA (by assumption)|exact wi|exact E8 (by first|assumption|rfl)|exact l8 (by assumption)|exact tV|exact nP mf|exact xm|exact dt|exact dE|exact du|exact bO (b:=true) (u:=false) rfl|exact bO (b:=false) (u:=true) rfl|exact bO rfl|exact bm|exact fi|exact l7 (by first|assumption|rfl)|exact nq (by first|assumption|rfl)|exact eI|exact eH|exact jT (by first|assumption|rfl)|exact iE (by first|assumption|rfl)|exact iA|exact dh (by assumption)|exact dA|exact sc hE k0|exact d8.nil|exact bG.nil|exact bE.nil|exact J3 hE kx|exact sc trivial rt|exact sc trivial uy|exact sc hE kF|exact sc hE kY|exact Cv.rfl'):p:=h
theorem oW{l:List (List UInt8)} {p:(List UInt8)→Bool} (hz:z=(most:Int)) (hr:∀ x∈l,bW Tryz.prog cK g [0] [.is (Tx x)] (fun _=> .is (.bool (p x)))):bW Tryz.prog cK 85 [0,0,0] [.rw Rp.str tt l, .is (.int .i64 z), .fv g [] []] (fun _=> .tup [.is (.int .i64 (brk p most 0 l).1), .is (.int .i64 (brk p most 0 l).2)]):=by
 subst hz
 refine lH fC (fun _ _=>by kernel_rfl) fun hb=> ?_
 refine cr Tryz.func85 Tryz.ntmps85 fun X w0 hE=> ?_
 repeat' first|kernel_rfl|apply Bt.mk|refine nx ?_|apply ae|refine d9 rfl ?_|exact bL|intro _
 refine aY fun a w h=> ?_
 refine aO (fun k a u=>∃ i:Nat,i+k=l.length∧brk p most i (l.drop i)=brk p most 0 l∧TS w0 X [] [(12, .is (.int .i64 (i:Int))),(11, .is (.int .i64 (l.length:Int))),(10, .rw Rp.str tt l),(0, .rw Rp.str tt l),(1, .is (.int .i64 (most:Int))),(2, .fv g [] [])] 29 a u) l.length ⟨0,by omega,rfl,h.keep [12,11,10,0,1,2]⟩ ?_
 clear h
 rintro k a u ⟨i,hi,ha,h⟩
 by_cases hlt:i<l.length
 ·obtain ⟨x,hx⟩:∃ x,l[i]? =some x:=⟨_,List.getElem?_eq_getElem hlt⟩
  have hc:decide ((i:Int)<(l.length:Int))=true:=decide_eq_true qO
  have hw:IntKind.i64.wrap ((i:Int)+1)=((i+1:Nat):Int):=aA qO qO
  rw [ek hx] at ha
  cases hm:((i:Int)==(most:Int))
  rotate_left
  ·rw [ft (by have:=eq_of_beq hm;omega)] at ha
   rw [←ha]
   refine aB h ?_
   clear h
   repeat' first|kernel_rfl|apply Bt.mk|refine nx ?_|apply d_ (s:=12)|apply ae|refine d9 rfl ?_|exact bL|intro _
  have hmi:i≠most:=fun e=>by rw [e] at hm;simp at hm
  have kx:=hr x (List.mem_of_getElem? hx)
  cases hp:p x
  ·rw [fy hmi hp] at ha
   rw [hp] at kx
   rw [←ha]
   refine aB h ?_
   clear h
   repeat' first|kernel_rfl|apply Bt.mk|refine nx ?_|apply d_ (s:=12)|apply ae|refine d9 rfl ?_|exact bL|intro _
  ·rw [fS hmi hp] at ha
   rw [hp] at kx
   refine aB h ?_
   clear h
   repeat' first|kernel_rfl|exact a8 fun _ _ h=>⟨k - 1,by omega,i+1,by omega,ha,h.keep [12,11,10,0,1,2]⟩|apply Bt.mk|refine nx ?_|apply d_ (s:=12)|apply ae|refine d9 rfl ?_|exact bL|intro _
 ·obtain rfl:i=l.length:=qO
  have hc:decide ((l.length:Int)<(l.length:Int))=false:=decide_eq_false qO
  rw [List.drop_length] at ha
  have ha:(0,0)=brk p most 0 l:=ha
  rw [←ha]
  refine aB h ?_
  clear h
  repeat' first|kernel_rfl|apply Bt.mk|refine nx ?_|apply d_ (s:=12)|apply ae|refine d9 rfl ?_|exact bL|intro _
theorem sR{l:List (dJ)} {p:dJ→Bool} (hz:z=(most:Int)) (hr:∀ x∈l,bW Tryz.prog cK g [0] [.ra a_ x] (fun _=> .is (.bool (p x)))):bW Tryz.prog cK 86 [0,0,0] [.rw a_ tt l, .is (.int .i64 z), .fv g [] []] (fun _=> .tup [.is (.int .i64 (brk p most 0 l).1), .is (.int .i64 (brk p most 0 l).2)]):=by
 subst hz
 refine lH fC (fun _ _=>by kernel_rfl) fun hb=> ?_
 refine cr Tryz.func86 Tryz.ntmps86 fun X w0 hE=> ?_
 repeat' first|kernel_rfl|apply Bt.mk|refine nx ?_|apply ae|refine d9 rfl ?_|exact bL|intro _
 refine aY fun a w h=> ?_
 refine aO (fun k a u=>∃ i:Nat,i+k=l.length∧brk p most i (l.drop i)=brk p most 0 l∧TS w0 X [] [(12, .is (.int .i64 (i:Int))),(11, .is (.int .i64 (l.length:Int))),(10, .rw a_ tt l),(0, .rw a_ tt l),(1, .is (.int .i64 (most:Int))),(2, .fv g [] [])] 29 a u) l.length ⟨0,by omega,rfl,h.keep [12,11,10,0,1,2]⟩ ?_
 clear h
 rintro k a u ⟨i,hi,ha,h⟩
 by_cases hlt:i<l.length
 ·obtain ⟨x,hx⟩:∃ x,l[i]? =some x:=⟨_,List.getElem?_eq_getElem hlt⟩
  have hc:decide ((i:Int)<(l.length:Int))=true:=decide_eq_true qO
  have hw:IntKind.i64.wrap ((i:Int)+1)=((i+1:Nat):Int):=aA qO qO
  rw [ek hx] at ha
  cases hm:((i:Int)==(most:Int))
  rotate_left
  ·rw [ft (by have:=eq_of_beq hm;omega)] at ha
   rw [←ha]
   refine aB h ?_
   clear h
   repeat' first|kernel_rfl|apply Bt.mk|refine nx ?_|apply d_ (s:=12)|apply ae|refine d9 rfl ?_|exact bL|intro _
  have hmi:i≠most:=fun e=>by rw [e] at hm;simp at hm
  have kx:=hr x (List.mem_of_getElem? hx)
  cases hp:p x
  ·rw [fy hmi hp] at ha
   rw [hp] at kx
   rw [←ha]
   refine aB h ?_
   clear h
   repeat' first|kernel_rfl|apply Bt.mk|refine nx ?_|apply d_ (s:=12)|apply ae|refine d9 rfl ?_|exact bL|intro _
  ·rw [fS hmi hp] at ha
   rw [hp] at kx
   refine aB h ?_
   clear h
   repeat' first|kernel_rfl|exact a8 fun _ _ h=>⟨k - 1,by omega,i+1,by omega,ha,h.drop.keep [12,11,10,0,1,2]⟩|apply Bt.mk|refine nx ?_|apply d_ (s:=12)|apply ae|refine d9 rfl ?_|exact bL|intro _
 ·obtain rfl:i=l.length:=qO
  have hc:decide ((l.length:Int)<(l.length:Int))=false:=decide_eq_false qO
  rw [List.drop_length] at ha
  have ha:(0,0)=brk p most 0 l:=ha
  rw [←ha]
  refine aB h ?_
  clear h
  repeat' first|kernel_rfl|apply Bt.mk|refine nx ?_|apply d_ (s:=12)|apply ae|refine d9 rfl ?_|exact bL|intro _
theorem xb{l:List (ej)} {p:ej→Bool} (hz:z=(most:Int)) (hr:∀ x∈l,bW Tryz.prog cK g [0] [.ra bq x] (fun _=> .is (.bool (p x)))):bW Tryz.prog cK 90 [0,0,0] [.rw bq tt l, .is (.int .i64 z), .fv g [] []] (fun _=> .tup [.is (.int .i64 (brk p most 0 l).1), .is (.int .i64 (brk p most 0 l).2)]):=by
 subst hz
 refine lH fC (fun _ _=>by kernel_rfl) fun hb=> ?_
 refine cr Tryz.func90 Tryz.ntmps90 fun X w0 hE=> ?_
 repeat' first|kernel_rfl|apply Bt.mk|refine nx ?_|apply ae|refine d9 rfl ?_|exact bL|intro _
 refine aY fun a w h=> ?_
 refine aO (fun k a u=>∃ i:Nat,i+k=l.length∧brk p most i (l.drop i)=brk p most 0 l∧TS w0 X [] [(12, .is (.int .i64 (i:Int))),(11, .is (.int .i64 (l.length:Int))),(10, .rw bq tt l),(0, .rw bq tt l),(1, .is (.int .i64 (most:Int))),(2, .fv g [] [])] 29 a u) l.length ⟨0,by omega,rfl,h.keep [12,11,10,0,1,2]⟩ ?_
 clear h
 rintro k a u ⟨i,hi,ha,h⟩
 by_cases hlt:i<l.length
 ·obtain ⟨x,hx⟩:∃ x,l[i]? =some x:=⟨_,List.getElem?_eq_getElem hlt⟩
  have hc:decide ((i:Int)<(l.length:Int))=true:=decide_eq_true qO
  have hw:IntKind.i64.wrap ((i:Int)+1)=((i+1:Nat):Int):=aA qO qO
  rw [ek hx] at ha
  cases hm:((i:Int)==(most:Int))
  rotate_left
  ·rw [ft (by have:=eq_of_beq hm;omega)] at ha
   rw [←ha]
   refine aB h ?_
   clear h
   repeat' first|kernel_rfl|apply Bt.mk|refine nx ?_|apply d_ (s:=12)|apply ae|refine d9 rfl ?_|exact bL|intro _
  have hmi:i≠most:=fun e=>by rw [e] at hm;simp at hm
  have kx:=hr x (List.mem_of_getElem? hx)
  cases hp:p x
  ·rw [fy hmi hp] at ha
   rw [hp] at kx
   rw [←ha]
   refine aB h ?_
   clear h
   repeat' first|kernel_rfl|apply Bt.mk|refine nx ?_|apply d_ (s:=12)|apply ae|refine d9 rfl ?_|exact bL|intro _
  ·rw [fS hmi hp] at ha
   rw [hp] at kx
   refine aB h ?_
   clear h
   repeat' first|kernel_rfl|exact a8 fun _ _ h=>⟨k - 1,by omega,i+1,by omega,ha,h.drop.keep [12,11,10,0,1,2]⟩|apply Bt.mk|refine nx ?_|apply d_ (s:=12)|apply ae|refine d9 rfl ?_|exact bL|intro _
 ·obtain rfl:i=l.length:=qO
  have hc:decide ((l.length:Int)<(l.length:Int))=false:=decide_eq_false qO
  rw [List.drop_length] at ha
  have ha:(0,0)=brk p most 0 l:=ha
  rw [←ha]
  refine aB h ?_
  clear h
  repeat' first|kernel_rfl|apply Bt.mk|refine nx ?_|apply d_ (s:=12)|apply ae|refine d9 rfl ?_|exact bL|intro _
theorem Ar{l:List (aX)} {p:aX→Bool} (hz:z=(most:Int)) (hr:∀ x∈l,bW Tryz.prog cK g [0] [.ra aw x] (fun _=> .is (.bool (p x)))):bW Tryz.prog cK 92 [0,0,0] [.rw aw tt l, .is (.int .i64 z), .fv g [] []] (fun _=> .tup [.is (.int .i64 (brk p most 0 l).1), .is (.int .i64 (brk p most 0 l).2)]):=by
 subst hz
 refine lH fC (fun _ _=>by kernel_rfl) fun hb=> ?_
 refine cr Tryz.func92 Tryz.ntmps92 fun X w0 hE=> ?_
 repeat' first|kernel_rfl|apply Bt.mk|refine nx ?_|apply ae|refine d9 rfl ?_|exact bL|intro _
 refine aY fun a w h=> ?_
 refine aO (fun k a u=>∃ i:Nat,i+k=l.length∧brk p most i (l.drop i)=brk p most 0 l∧TS w0 X [] [(12, .is (.int .i64 (i:Int))),(11, .is (.int .i64 (l.length:Int))),(10, .rw aw tt l),(0, .rw aw tt l),(1, .is (.int .i64 (most:Int))),(2, .fv g [] [])] 29 a u) l.length ⟨0,by omega,rfl,h.keep [12,11,10,0,1,2]⟩ ?_
 clear h
 rintro k a u ⟨i,hi,ha,h⟩
 by_cases hlt:i<l.length
 ·obtain ⟨x,hx⟩:∃ x,l[i]? =some x:=⟨_,List.getElem?_eq_getElem hlt⟩
  have hc:decide ((i:Int)<(l.length:Int))=true:=decide_eq_true qO
  have hw:IntKind.i64.wrap ((i:Int)+1)=((i+1:Nat):Int):=aA qO qO
  rw [ek hx] at ha
  cases hm:((i:Int)==(most:Int))
  rotate_left
  ·rw [ft (by have:=eq_of_beq hm;omega)] at ha
   rw [←ha]
   refine aB h ?_
   clear h
   repeat' first|kernel_rfl|apply Bt.mk|refine nx ?_|apply d_ (s:=12)|apply ae|refine d9 rfl ?_|exact bL|intro _
  have hmi:i≠most:=fun e=>by rw [e] at hm;simp at hm
  have kx:=hr x (List.mem_of_getElem? hx)
  cases hp:p x
  ·rw [fy hmi hp] at ha
   rw [hp] at kx
   rw [←ha]
   refine aB h ?_
   clear h
   repeat' first|kernel_rfl|apply Bt.mk|refine nx ?_|apply d_ (s:=12)|apply ae|refine d9 rfl ?_|exact bL|intro _
  ·rw [fS hmi hp] at ha
   rw [hp] at kx
   refine aB h ?_
   clear h
   repeat' first|kernel_rfl|exact a8 fun _ _ h=>⟨k - 1,by omega,i+1,by omega,ha,h.drop.keep [12,11,10,0,1,2]⟩|apply Bt.mk|refine nx ?_|apply d_ (s:=12)|apply ae|refine d9 rfl ?_|exact bL|intro _
 ·obtain rfl:i=l.length:=qO
  have hc:decide ((l.length:Int)<(l.length:Int))=false:=decide_eq_false qO
  rw [List.drop_length] at ha
  have ha:(0,0)=brk p most 0 l:=ha
  rw [←ha]
  refine aB h ?_
  clear h
  repeat' first|kernel_rfl|apply Bt.mk|refine nx ?_|apply d_ (s:=12)|apply ae|refine d9 rfl ?_|exact bL|intro _
theorem Ad{l:List (gk)} {p:gk→Bool} (hz:z=(most:Int)) (hr:∀ x∈l,bW Tryz.prog cK g [0] [.ra bl x] (fun _=> .is (.bool (p x)))):bW Tryz.prog cK 94 [0,0,0] [.rw bl tt l, .is (.int .i64 z), .fv g [] []] (fun _=> .tup [.is (.int .i64 (brk p most 0 l).1), .is (.int .i64 (brk p most 0 l).2)]):=by
 subst hz
 refine lH fC (fun _ _=>by kernel_rfl) fun hb=> ?_
 refine cr Tryz.func94 Tryz.ntmps94 fun X w0 hE=> ?_
 repeat' first|kernel_rfl|apply Bt.mk|refine nx ?_|apply ae|refine d9 rfl ?_|exact bL|intro _
 refine aY fun a w h=> ?_
 refine aO (fun k a u=>∃ i:Nat,i+k=l.length∧brk p most i (l.drop i)=brk p most 0 l∧TS w0 X [] [(12, .is (.int .i64 (i:Int))),(11, .is (.int .i64 (l.length:Int))),(10, .rw bl tt l),(0, .rw bl tt l),(1, .is (.int .i64 (most:Int))),(2, .fv g [] [])] 29 a u) l.length ⟨0,by omega,rfl,h.keep [12,11,10,0,1,2]⟩ ?_
 clear h
 rintro k a u ⟨i,hi,ha,h⟩
 by_cases hlt:i<l.length
 ·obtain ⟨x,hx⟩:∃ x,l[i]? =some x:=⟨_,List.getElem?_eq_getElem hlt⟩
  have hc:decide ((i:Int)<(l.length:Int))=true:=decide_eq_true qO
  have hw:IntKind.i64.wrap ((i:Int)+1)=((i+1:Nat):Int):=aA qO qO
  rw [ek hx] at ha
  cases hm:((i:Int)==(most:Int))
  rotate_left
  ·rw [ft (by have:=eq_of_beq hm;omega)] at ha
   rw [←ha]
   refine aB h ?_
   clear h
   repeat' first|kernel_rfl|apply Bt.mk|refine nx ?_|apply d_ (s:=12)|apply ae|refine d9 rfl ?_|exact bL|intro _
  have hmi:i≠most:=fun e=>by rw [e] at hm;simp at hm
  have kx:=hr x (List.mem_of_getElem? hx)
  cases hp:p x
  ·rw [fy hmi hp] at ha
   rw [hp] at kx
   rw [←ha]
   refine aB h ?_
   clear h
   repeat' first|kernel_rfl|apply Bt.mk|refine nx ?_|apply d_ (s:=12)|apply ae|refine d9 rfl ?_|exact bL|intro _
  ·rw [fS hmi hp] at ha
   rw [hp] at kx
   refine aB h ?_
   clear h
   repeat' first|kernel_rfl|exact a8 fun _ _ h=>⟨k - 1,by omega,i+1,by omega,ha,h.drop.keep [12,11,10,0,1,2]⟩|apply Bt.mk|refine nx ?_|apply d_ (s:=12)|apply ae|refine d9 rfl ?_|exact bL|intro _
 ·obtain rfl:i=l.length:=qO
  have hc:decide ((l.length:Int)<(l.length:Int))=false:=decide_eq_false qO
  rw [List.drop_length] at ha
  have ha:(0,0)=brk p most 0 l:=ha
  rw [←ha]
  refine aB h ?_
  clear h
  repeat' first|kernel_rfl|apply Bt.mk|refine nx ?_|apply d_ (s:=12)|apply ae|refine d9 rfl ?_|exact bL|intro _
theorem zr{l:List (gl)} {p:gl→Bool} (hz:z=(most:Int)) (hr:∀ x∈l,bW Tryz.prog cK g [0] [.ra bk x] (fun _=> .is (.bool (p x)))):bW Tryz.prog cK 96 [0,0,0] [.rw bk tt l, .is (.int .i64 z), .fv g [] []] (fun _=> .tup [.is (.int .i64 (brk p most 0 l).1), .is (.int .i64 (brk p most 0 l).2)]):=by
 subst hz
 refine lH fC (fun _ _=>by kernel_rfl) fun hb=> ?_
 refine cr Tryz.func96 Tryz.ntmps96 fun X w0 hE=> ?_
 repeat' first|kernel_rfl|apply Bt.mk|refine nx ?_|apply ae|refine d9 rfl ?_|exact bL|intro _
 refine aY fun a w h=> ?_
 refine aO (fun k a u=>∃ i:Nat,i+k=l.length∧brk p most i (l.drop i)=brk p most 0 l∧TS w0 X [] [(12, .is (.int .i64 (i:Int))),(11, .is (.int .i64 (l.length:Int))),(10, .rw bk tt l),(0, .rw bk tt l),(1, .is (.int .i64 (most:Int))),(2, .fv g [] [])] 29 a u) l.length ⟨0,by omega,rfl,h.keep [12,11,10,0,1,2]⟩ ?_
 clear h
 rintro k a u ⟨i,hi,ha,h⟩
 by_cases hlt:i<l.length
 ·obtain ⟨x,hx⟩:∃ x,l[i]? =some x:=⟨_,List.getElem?_eq_getElem hlt⟩
  have hc:decide ((i:Int)<(l.length:Int))=true:=decide_eq_true qO
  have hw:IntKind.i64.wrap ((i:Int)+1)=((i+1:Nat):Int):=aA qO qO
  rw [ek hx] at ha
  cases hm:((i:Int)==(most:Int))
  rotate_left
  ·rw [ft (by have:=eq_of_beq hm;omega)] at ha
   rw [←ha]
   refine aB h ?_
   clear h
   repeat' first|kernel_rfl|apply Bt.mk|refine nx ?_|apply d_ (s:=12)|apply ae|refine d9 rfl ?_|exact bL|intro _
  have hmi:i≠most:=fun e=>by rw [e] at hm;simp at hm
  have kx:=hr x (List.mem_of_getElem? hx)
  cases hp:p x
  ·rw [fy hmi hp] at ha
   rw [hp] at kx
   rw [←ha]
   refine aB h ?_
   clear h
   repeat' first|kernel_rfl|apply Bt.mk|refine nx ?_|apply d_ (s:=12)|apply ae|refine d9 rfl ?_|exact bL|intro _
  ·rw [fS hmi hp] at ha
   rw [hp] at kx
   refine aB h ?_
   clear h
   repeat' first|kernel_rfl|exact a8 fun _ _ h=>⟨k - 1,by omega,i+1,by omega,ha,h.drop.keep [12,11,10,0,1,2]⟩|apply Bt.mk|refine nx ?_|apply d_ (s:=12)|apply ae|refine d9 rfl ?_|exact bL|intro _
 ·obtain rfl:i=l.length:=qO
  have hc:decide ((l.length:Int)<(l.length:Int))=false:=decide_eq_false qO
  rw [List.drop_length] at ha
  have ha:(0,0)=brk p most 0 l:=ha
  rw [←ha]
  refine aB h ?_
  clear h
  repeat' first|kernel_rfl|apply Bt.mk|refine nx ?_|apply d_ (s:=12)|apply ae|refine d9 rfl ?_|exact bL|intro _
theorem zt{l:List (fb)} {p:fb→Bool} (hz:z=(most:Int)) (hr:∀ x∈l,bW Tryz.prog cK g [0] [.ra a7 x] (fun _=> .is (.bool (p x)))):bW Tryz.prog cK 98 [0,0,0] [.rw a7 tt l, .is (.int .i64 z), .fv g [] []] (fun _=> .tup [.is (.int .i64 (brk p most 0 l).1), .is (.int .i64 (brk p most 0 l).2)]):=by
 subst hz
 refine lH fC (fun _ _=>by kernel_rfl) fun hb=> ?_
 refine cr Tryz.func98 Tryz.ntmps98 fun X w0 hE=> ?_
 repeat' first|kernel_rfl|apply Bt.mk|refine nx ?_|apply ae|refine d9 rfl ?_|exact bL|intro _
 refine aY fun a w h=> ?_
 refine aO (fun k a u=>∃ i:Nat,i+k=l.length∧brk p most i (l.drop i)=brk p most 0 l∧TS w0 X [] [(12, .is (.int .i64 (i:Int))),(11, .is (.int .i64 (l.length:Int))),(10, .rw a7 tt l),(0, .rw a7 tt l),(1, .is (.int .i64 (most:Int))),(2, .fv g [] [])] 29 a u) l.length ⟨0,by omega,rfl,h.keep [12,11,10,0,1,2]⟩ ?_
 clear h
 rintro k a u ⟨i,hi,ha,h⟩
 by_cases hlt:i<l.length
 ·obtain ⟨x,hx⟩:∃ x,l[i]? =some x:=⟨_,List.getElem?_eq_getElem hlt⟩
  have hc:decide ((i:Int)<(l.length:Int))=true:=decide_eq_true qO
  have hw:IntKind.i64.wrap ((i:Int)+1)=((i+1:Nat):Int):=aA qO qO
  rw [ek hx] at ha
  cases hm:((i:Int)==(most:Int))
  rotate_left
  ·rw [ft (by have:=eq_of_beq hm;omega)] at ha
   rw [←ha]
   refine aB h ?_
   clear h
   repeat' first|kernel_rfl|apply Bt.mk|refine nx ?_|apply d_ (s:=12)|apply ae|refine d9 rfl ?_|exact bL|intro _
  have hmi:i≠most:=fun e=>by rw [e] at hm;simp at hm
  have kx:=hr x (List.mem_of_getElem? hx)
  cases hp:p x
  ·rw [fy hmi hp] at ha
   rw [hp] at kx
   rw [←ha]
   refine aB h ?_
   clear h
   repeat' first|kernel_rfl|apply Bt.mk|refine nx ?_|apply d_ (s:=12)|apply ae|refine d9 rfl ?_|exact bL|intro _
  ·rw [fS hmi hp] at ha
   rw [hp] at kx
   refine aB h ?_
   clear h
   repeat' first|kernel_rfl|exact a8 fun _ _ h=>⟨k - 1,by omega,i+1,by omega,ha,h.drop.keep [12,11,10,0,1,2]⟩|apply Bt.mk|refine nx ?_|apply d_ (s:=12)|apply ae|refine d9 rfl ?_|exact bL|intro _
 ·obtain rfl:i=l.length:=qO
  have hc:decide ((l.length:Int)<(l.length:Int))=false:=decide_eq_false qO
  rw [List.drop_length] at ha
  have ha:(0,0)=brk p most 0 l:=ha
  rw [←ha]
  refine aB h ?_
  clear h
  repeat' first|kernel_rfl|apply Bt.mk|refine nx ?_|apply d_ (s:=12)|apply ae|refine d9 rfl ?_|exact bL|intro _
theorem xj{l:List (eS)} {p:eS→Bool} (hz:z=(most:Int)) (hr:∀ x∈l,bW Tryz.prog cK g [0] [.ra bn x] (fun _=> .is (.bool (p x)))):bW Tryz.prog cK 100 [0,0,0] [.rw bn tt l, .is (.int .i64 z), .fv g [] []] (fun _=> .tup [.is (.int .i64 (brk p most 0 l).1), .is (.int .i64 (brk p most 0 l).2)]):=by
 subst hz
 refine lH fC (fun _ _=>by kernel_rfl) fun hb=> ?_
 refine cr Tryz.func100 Tryz.ntmps100 fun X w0 hE=> ?_
 repeat' first|kernel_rfl|apply Bt.mk|refine nx ?_|apply ae|refine d9 rfl ?_|exact bL|intro _
 refine aY fun a w h=> ?_
 refine aO (fun k a u=>∃ i:Nat,i+k=l.length∧brk p most i (l.drop i)=brk p most 0 l∧TS w0 X [] [(12, .is (.int .i64 (i:Int))),(11, .is (.int .i64 (l.length:Int))),(10, .rw bn tt l),(0, .rw bn tt l),(1, .is (.int .i64 (most:Int))),(2, .fv g [] [])] 29 a u) l.length ⟨0,by omega,rfl,h.keep [12,11,10,0,1,2]⟩ ?_
 clear h
 rintro k a u ⟨i,hi,ha,h⟩
 by_cases hlt:i<l.length
 ·obtain ⟨x,hx⟩:∃ x,l[i]? =some x:=⟨_,List.getElem?_eq_getElem hlt⟩
  have hc:decide ((i:Int)<(l.length:Int))=true:=decide_eq_true qO
  have hw:IntKind.i64.wrap ((i:Int)+1)=((i+1:Nat):Int):=aA qO qO
  rw [ek hx] at ha
  cases hm:((i:Int)==(most:Int))
  rotate_left
  ·rw [ft (by have:=eq_of_beq hm;omega)] at ha
   rw [←ha]
   refine aB h ?_
   clear h
   repeat' first|kernel_rfl|apply Bt.mk|refine nx ?_|apply d_ (s:=12)|apply ae|refine d9 rfl ?_|exact bL|intro _
  have hmi:i≠most:=fun e=>by rw [e] at hm;simp at hm
  have kx:=hr x (List.mem_of_getElem? hx)
  cases hp:p x
  ·rw [fy hmi hp] at ha
   rw [hp] at kx
   rw [←ha]
   refine aB h ?_
   clear h
   repeat' first|kernel_rfl|apply Bt.mk|refine nx ?_|apply d_ (s:=12)|apply ae|refine d9 rfl ?_|exact bL|intro _
  ·rw [fS hmi hp] at ha
   rw [hp] at kx
   refine aB h ?_
   clear h
   repeat' first|kernel_rfl|exact a8 fun _ _ h=>⟨k - 1,by omega,i+1,by omega,ha,h.drop.keep [12,11,10,0,1,2]⟩|apply Bt.mk|refine nx ?_|apply d_ (s:=12)|apply ae|refine d9 rfl ?_|exact bL|intro _
 ·obtain rfl:i=l.length:=qO
  have hc:decide ((l.length:Int)<(l.length:Int))=false:=decide_eq_false qO
  rw [List.drop_length] at ha
  have ha:(0,0)=brk p most 0 l:=ha
  rw [←ha]
  refine aB h ?_
  clear h
  repeat' first|kernel_rfl|apply Bt.mk|refine nx ?_|apply d_ (s:=12)|apply ae|refine d9 rfl ?_|exact bL|intro _
theorem zF{l:List (gK)} {p:gK→Bool} (hz:z=(most:Int)) (hr:∀ x∈l,bW Tryz.prog cK g [0] [.ra b7 x] (fun _=> .is (.bool (p x)))):bW Tryz.prog cK 102 [0,0,0] [.rw b7 tt l, .is (.int .i64 z), .fv g [] []] (fun _=> .tup [.is (.int .i64 (brk p most 0 l).1), .is (.int .i64 (brk p most 0 l).2)]):=by
 subst hz
 refine lH fC (fun _ _=>by kernel_rfl) fun hb=> ?_
 refine cr Tryz.func102 Tryz.ntmps102 fun X w0 hE=> ?_
 repeat' first|kernel_rfl|apply Bt.mk|refine nx ?_|apply ae|refine d9 rfl ?_|exact bL|intro _
 refine aY fun a w h=> ?_
 refine aO (fun k a u=>∃ i:Nat,i+k=l.length∧brk p most i (l.drop i)=brk p most 0 l∧TS w0 X [] [(12, .is (.int .i64 (i:Int))),(11, .is (.int .i64 (l.length:Int))),(10, .rw b7 tt l),(0, .rw b7 tt l),(1, .is (.int .i64 (most:Int))),(2, .fv g [] [])] 29 a u) l.length ⟨0,by omega,rfl,h.keep [12,11,10,0,1,2]⟩ ?_
 clear h
 rintro k a u ⟨i,hi,ha,h⟩
 by_cases hlt:i<l.length
 ·obtain ⟨x,hx⟩:∃ x,l[i]? =some x:=⟨_,List.getElem?_eq_getElem hlt⟩
  have hc:decide ((i:Int)<(l.length:Int))=true:=decide_eq_true qO
  have hw:IntKind.i64.wrap ((i:Int)+1)=((i+1:Nat):Int):=aA qO qO
  rw [ek hx] at ha
  cases hm:((i:Int)==(most:Int))
  rotate_left
  ·rw [ft (by have:=eq_of_beq hm;omega)] at ha
   rw [←ha]
   refine aB h ?_
   clear h
   repeat' first|kernel_rfl|apply Bt.mk|refine nx ?_|apply d_ (s:=12)|apply ae|refine d9 rfl ?_|exact bL|intro _
  have hmi:i≠most:=fun e=>by rw [e] at hm;simp at hm
  have kx:=hr x (List.mem_of_getElem? hx)
  cases hp:p x
  ·rw [fy hmi hp] at ha
   rw [hp] at kx
   rw [←ha]
   refine aB h ?_
   clear h
   repeat' first|kernel_rfl|apply Bt.mk|refine nx ?_|apply d_ (s:=12)|apply ae|refine d9 rfl ?_|exact bL|intro _
  ·rw [fS hmi hp] at ha
   rw [hp] at kx
   refine aB h ?_
   clear h
   repeat' first|kernel_rfl|exact a8 fun _ _ h=>⟨k - 1,by omega,i+1,by omega,ha,h.drop.keep [12,11,10,0,1,2]⟩|apply Bt.mk|refine nx ?_|apply d_ (s:=12)|apply ae|refine d9 rfl ?_|exact bL|intro _
 ·obtain rfl:i=l.length:=qO
  have hc:decide ((l.length:Int)<(l.length:Int))=false:=decide_eq_false qO
  rw [List.drop_length] at ha
  have ha:(0,0)=brk p most 0 l:=ha
  rw [←ha]
  refine aB h ?_
  clear h
  repeat' first|kernel_rfl|apply Bt.mk|refine nx ?_|apply d_ (s:=12)|apply ae|refine d9 rfl ?_|exact bL|intro _
instance:fw Tryz.prog 29 1 false:=⟨⟨_,Tryz.underlying29,rfl⟩,by kernel_rfl⟩
instance:uR Tryz.prog 144:=⟨⟨_,Tryz.underlying144,by kernel_rfl,fun w=>⟨.bool false,by go_simp⟩⟩⟩
theorem BQ{v:Value} {l:List (List UInt8)} (hl:l.length≤9223372036854775807) (h:(aa.vs (l.map Tx)).holds X w v):(aa.rw Rp.str tt l).holds X w v:=by
 obtain ⟨b,e,hb,hc⟩:=h
 rw [List.length_map] at e
 refine ⟨fun _ _=>trivial,_,l.length,l.length,by rw [e],rfl,Nat.le_refl _,hl,(fun h=>by cases h),fun _=>⟨b,0,rfl,hb,fun j a ha=>⟨[Tx a],?_,⟨_,rfl,bu a⟩⟩⟩⟩
 intro i u hu
 cases i with
 |zero=>
  have e:Tx a=u:=by simpa using hu
  subst e
  have:=hc j (Tx a) (by rw [List.getElem?_map,ha];rfl)
  simpa [show Rp.str.k=1 from rfl] using this
 |succ i=>simp at hu
theorem uT {a:aj} (hf:∀ x∈a.2.2.1,b6 6 x.1∧b6 6 x.2):bW Tryz.prog cK 52 [0] [.ra ab a] (fun _=> .tup [.is (.int .i64 (brk fG 16 0 a.2.2.1).1), .is (.int .i64 (brk fG 16 0 a.2.2.1).2)]):=by
 have k0:=sR (l:=a.2.2.1) (p:=fG) (most:=16) (z:=16) (g:=87) rfl (fun x hx=>xJ (hf x hx))
 refine cr Tryz.func52 Tryz.ntmps52 fun X w hE=> ?_
 repeat' first|kernel_rfl|apply Bt.mk|refine nx ?_|apply ae|refine d9 rfl ?_|exact bL|intro _
theorem wW {a:aj} (hf:∀ x∈a.2.2.2.2.2.2.2.2.2.2.1,b6 6 x.2.2):bW Tryz.prog cK 54 [0] [.ra ab a] (fun _=> .tup [.is (.int .i64 (brk fp 64 0 a.2.2.2.2.2.2.2.2.2.2.1).1), .is (.int .i64 (brk fp 64 0 a.2.2.2.2.2.2.2.2.2.2.1).2)]):=by
 have k0:=xb (l:=a.2.2.2.2.2.2.2.2.2.2.1) (p:=fp) (most:=64) (z:=64) (g:=91) rfl (fun x hx=>C2 (hf x hx))
 refine cr Tryz.func54 Tryz.ntmps54 fun X w hE=> ?_
 repeat' first|kernel_rfl|apply Bt.mk|refine nx ?_|apply ae|refine d9 rfl ?_|exact bL|intro _
theorem t_ {a:aj}:bW Tryz.prog cK 55 [0] [.ra ab a] (fun _=> .tup [.is (.int .i64 (brk bg 256 0 a.2.2.2.2.2.2.2.2.2.2.2.1).1), .is (.int .i64 (brk bg 256 0 a.2.2.2.2.2.2.2.2.2.2.2.1).2)]):=by
 have k0:=oW (l:=a.2.2.2.2.2.2.2.2.2.2.2.1) (p:=bg) (most:=256) (z:=256) (g:=16) rfl (fun x hx=>ee.up)
 refine cr Tryz.func55 Tryz.ntmps55 fun X w hE=> ?_
 repeat' first|kernel_rfl|apply Bt.mk|refine nx ?_|apply ae|refine d9 rfl ?_|exact bL|intro _
theorem CX {a:aj}:bW Tryz.prog cK 56 [0] [.ra ab a] (fun _=> .tup [.is (.int .i64 (brk ln 40 0 a.2.2.2.2.2.2.2.2.2.2.2.2).1), .is (.int .i64 (brk ln 40 0 a.2.2.2.2.2.2.2.2.2.2.2.2).2)]):=by
 have k0:=Ar (l:=a.2.2.2.2.2.2.2.2.2.2.2.2) (p:=ln) (most:=40) (z:=40) (g:=93) rfl (fun x hx=>DR)
 refine cr Tryz.func56 Tryz.ntmps56 fun X w hE=> ?_
 repeat' first|kernel_rfl|apply Bt.mk|refine nx ?_|apply ae|refine d9 rfl ?_|exact bL|intro _
theorem Di {a:aX} (hf:∀ x∈a.2.1,b6 6 x.2.2):bW Tryz.prog cK 57 [0] [.ra aw a] (fun _=> .tup [.is (.int .i64 (brk iy 4096 0 a.2.1).1), .is (.int .i64 (brk iy 4096 0 a.2.1).2)]):=by
 have k0:=Ad (l:=a.2.1) (p:=iy) (most:=4096) (z:=4096) (g:=95) rfl (fun x hx=>Et (hf x hx))
 refine cr Tryz.func57 Tryz.ntmps57 fun X w hE=> ?_
 repeat' first|kernel_rfl|apply Bt.mk|refine nx ?_|apply ae|refine d9 rfl ?_|exact bL|intro _
theorem Dq {a:aX} (hf:∀ x∈a.2.2.1,b6 6 x.2.2):bW Tryz.prog cK 58 [0] [.ra aw a] (fun _=> .tup [.is (.int .i64 (brk iq 4096 0 a.2.2.1).1), .is (.int .i64 (brk iq 4096 0 a.2.2.1).2)]):=by
 have k0:=zr (l:=a.2.2.1) (p:=iq) (most:=4096) (z:=4096) (g:=97) rfl (fun x hx=>DZ (hf x hx))
 refine cr Tryz.func58 Tryz.ntmps58 fun X w hE=> ?_
 repeat' first|kernel_rfl|apply Bt.mk|refine nx ?_|apply ae|refine d9 rfl ?_|exact bL|intro _
theorem Cr {a:aX} (hf:∀ x∈a.2.2.2.1,b6 6 x.2.2.2.2.2.2):bW Tryz.prog cK 59 [0] [.ra aw a] (fun _=> .tup [.is (.int .i64 (brk iu 4096 0 a.2.2.2.1).1), .is (.int .i64 (brk iu 4096 0 a.2.2.2.1).2)]):=by
 have k0:=zt (l:=a.2.2.2.1) (p:=iu) (most:=4096) (z:=4096) (g:=99) rfl (fun x hx=>DQ (hf x hx))
 refine cr Tryz.func59 Tryz.ntmps59 fun X w hE=> ?_
 repeat' first|kernel_rfl|apply Bt.mk|refine nx ?_|apply ae|refine d9 rfl ?_|exact bL|intro _
theorem zM {a:aX} (hf:∀ x∈a.2.2.2.2.1,b6 6 x.2.1∧b6 6 x.2.2):bW Tryz.prog cK 60 [0] [.ra aw a] (fun _=> .tup [.is (.int .i64 (brk fH 4096 0 a.2.2.2.2.1).1), .is (.int .i64 (brk fH 4096 0 a.2.2.2.2.1).2)]):=by
 have k0:=xj (l:=a.2.2.2.2.1) (p:=fH) (most:=4096) (z:=4096) (g:=101) rfl (fun x hx=>AG (hf x hx))
 refine cr Tryz.func60 Tryz.ntmps60 fun X w hE=> ?_
 repeat' first|kernel_rfl|apply Bt.mk|refine nx ?_|apply ae|refine d9 rfl ?_|exact bL|intro _
theorem C4 {a:aX} (hf:∀ x∈a.2.2.2.2.2,b6 6 x.2):bW Tryz.prog cK 61 [0] [.ra aw a] (fun _=> .tup [.is (.int .i64 (brk ir 4096 0 a.2.2.2.2.2).1), .is (.int .i64 (brk ir 4096 0 a.2.2.2.2.2).2)]):=by
 have k0:=zF (l:=a.2.2.2.2.2) (p:=ir) (most:=4096) (z:=4096) (g:=103) rfl (fun x hx=>Fh (hf x hx))
 refine cr Tryz.func61 Tryz.ntmps61 fun X w hE=> ?_
 repeat' first|kernel_rfl|apply Bt.mk|refine nx ?_|apply ae|refine d9 rfl ?_|exact bL|intro _
theorem B9 {a:aj}:bW Tryz.prog cK 51 [0] [.ra ab a] (fun _=> .tup [.is (.int .i64 (brk bg 2 0 [a.1,a.2.1]).1), .is (.int .i64 (brk bg 2 0 [a.1,a.2.1]).2)]):=by
 have k0:bW Tryz.prog cK 85 [0,0,0] [.vs [Tx a.1,Tx a.2.1], .is (.int .i64 (([Tx a.1,Tx a.2.1]:List Value).length:Int)), .fv 16 [] []] _:=(oW (l:=[a.1,a.2.1]) (p:=bg) (most:=2) (z:=2) (g:=16) rfl (fun x hx=>ee.up)).args fun h=>by
  obtain ⟨v,us,rfl,h,h'⟩:=h.tail
  exact ⟨BQ (l:=[a.1,a.2.1]) qE h,h'⟩
 refine cr Tryz.func51 Tryz.ntmps51 fun X w hE=> ?_
 repeat' first|kernel_rfl|apply Bt.mk|refine nx ?_|apply ae|refine d9 rfl ?_|exact bL|intro _
theorem zj {l:List Bool} (hb:l.length≤1000):bW Tryz.prog S1 89 [0,0] [.vs (l.map Value.bool), .is (.bool false)] (fun _=> .is (.int .i64 (fz 0 l))):=by
 refine Jr Tryz.func89 rfl Tryz.ntmps89 qE (fun _ _=>by kernel_rfl) fun X w0 hE=> ?_
 simp only [eK,Nat.zero_add,Nat.reduceAdd]
 repeat' first|kernel_rfl|apply cx|apply cy|apply cE|apply cu|apply cB|apply co|apply cA|apply cp|apply cw|apply ae|apply bB|apply eB|apply eu|apply ct|refine aQ rfl ?_|apply cq|apply ew|apply ep|apply jl|apply jj|refine jt rfl ?_|apply jn|apply jw|apply eC|exact bL|intro _
 refine aY fun a w h=> ?_
 refine aO (fun k a u=>∃ i:Nat,i+k=l.length∧fz i (l.drop i)=fz 0 l∧TS w0 X [] [(8, .is (.int .i64 (i:Int))),(7, .is (.int .i64 ((l.map Value.bool).length:Int))),(6, .vs (l.map Value.bool)),(0, .vs (l.map Value.bool)),(1, .is (.bool false))] 19 a u) l.length ⟨0,by omega,rfl,h.keep [8,7,6,0,1]⟩ ?_
 clear h
 rintro k a u ⟨i,hi,ha,h⟩
 have hml:(l.map Value.bool).length=l.length:=List.length_map _
 by_cases hlt:i<l.length
 ·obtain ⟨x,hx⟩:∃ x,l[i]? =some x:=⟨_,List.getElem?_eq_getElem hlt⟩
  have hxv:(l.map Value.bool)[i]? =some (.bool x):=by rw [List.getElem?_map,hx];rfl
  have hc:decide ((i:Int)<((l.map Value.bool).length:Int))=true:=decide_eq_true qO
  have hw:IntKind.i64.wrap ((i:Int)+1)=((i+1:Nat):Int):=aA qO qO
  rw [ek hx] at ha
  cases x
  ·rw [show fz i (false::l.drop (i+1))=(i:Int) from rfl] at ha
   rw [←ha]
   refine aB h ?_
   clear h
   repeat' first|kernel_rfl|apply cx|apply cy|apply cE|apply d_ (s:=8)|apply cu|apply cB|apply co|apply cA|apply cp|apply cw|apply ae|apply bB|apply eB|apply eu|apply ct|refine aQ rfl ?_|apply cq|apply ew|apply ep|apply jl|apply jj|refine jt rfl ?_|apply jn|apply jw|apply eC|exact bL|intro _
  ·rw [show fz i (true::l.drop (i+1))=fz (i+1) (l.drop (i+1)) from rfl] at ha
   refine aB h ?_
   clear h
   repeat' first|kernel_rfl|exact a8 fun _ _ h=>⟨k - 1,by omega,i+1,by omega,ha,h.keep [8,7,6,0,1]⟩|apply cx|apply cy|apply cE|apply d_ (s:=8)|apply cu|apply cB|apply co|apply cA|apply cp|apply cw|apply ae|apply bB|apply eB|apply eu|apply ct|refine aQ rfl ?_|apply cq|apply ew|apply ep|apply jl|apply jj|refine jt rfl ?_|apply jn|apply jw|apply eC|exact bL|intro _
 ·obtain rfl:i=l.length:=qO
  have hc:decide ((l.length:Int)<((l.map Value.bool).length:Int))=false:=decide_eq_false qO
  rw [List.drop_length] at ha
  have ha:(-1:Int)=fz 0 l:=ha
  rw [←ha]
  refine aB h ?_
  clear h
  repeat' first|kernel_rfl|apply cx|apply cy|apply cE|apply d_ (s:=8)|apply cu|apply cB|apply co|apply cA|apply cp|apply cw|apply ae|apply bB|apply eB|apply eu|apply ct|refine aQ rfl ?_|apply cq|apply ew|apply ep|apply jl|apply jj|refine jt rfl ?_|apply jn|apply jw|apply eC|exact bL|intro _
theorem Ib {a:aj} (h3:b6 6 a.2.2.2.1) (h4:b6 6 a.2.2.2.2.1) (h7:b6 6 a.2.2.2.2.2.2.2.1) (h8:b6 6 a.2.2.2.2.2.2.2.2.1):bW Tryz.prog cK 53 [0] [.ra ab a] (fun _=> .tup [.is (.int .i64 (lc a).1), .is (.int .i64 (lc a).2)]):=by
 unfold lc
 have s3:=fB (x:=a.2.2.2.1) (L:=6) qD h3
 have s4:=fB (x:=a.2.2.2.2.1) (L:=6) qD h4
 have s7:=fB (x:=a.2.2.2.2.2.2.2.1) (L:=6) qD h7
 have m8:=gB (x:=a.2.2.2.2.2.2.2.2.1) (L:=6) qD h8
 have ki:bW Tryz.prog S1 89 [0,0] [.vs [.bool _, .bool _, .bool _, .bool _, .bool _, .bool _, .bool _], .is (.bool false)] _:=zj (l:=dR a) (show (7:Nat)≤1000 by decide)
 cases h0:decide (0≤fz 0 (dR a))
 ·simp only [cond_false]
  refine cr Tryz.func53 Tryz.ntmps53 fun X w hE=> ?_
  repeat' first|kernel_rfl|apply Bt.mk|refine nx ?_|apply ar (id:=1) [] [] 22|apply az|apply aW|apply ae|refine d9 rfl ?_|exact sc hE s3|exact sc hE s4|exact sc hE s7|exact sc hE m8|exact sc trivial j7|exact sc trivial ki|exact bL|intro _
 ·simp only [cond_true]
  refine cr Tryz.func53 Tryz.ntmps53 fun X w hE=> ?_
  repeat' first|kernel_rfl|apply Bt.mk|refine nx ?_|apply ar (id:=1) [] [] 22|apply az|apply aW|apply ae|refine d9 rfl ?_|exact sc hE s3|exact sc hE s4|exact sc hE s7|exact sc hE m8|exact sc trivial j7|exact sc trivial ki|exact bL|intro _
theorem iO{p a e:Int} {t:List (Int×Int×Int)}:dw yr ((p,a,e)::t)=bif e==0 then dw yr t else ((p,yr,a),e):=rfl
def kN (l:List (Int×FuncId×Int×Int)):List (Int×Int×Int):=l.map fun x=>(x.1,x.2.2.1,x.2.2.2)
def k7 (l:List (Int×FuncId×Int×Int)):List (Int×FuncId):=l.map fun x=>(x.1,x.2.1)
instance:fw Tryz.prog 46 1 false:=⟨⟨_,Tryz.underlying46,rfl⟩,by kernel_rfl⟩
theorem rt:bW Tryz.prog S1 23 [] [] (fun _=> .rw iY tt [(1,51),(2,52),(3,53),(4,54),(5,55),(6,56)]):=by
 refine cr Tryz.func23 Tryz.ntmps23 fun X w hE=> ?_
 repeat' first|kernel_rfl|apply Bt.mk|refine nx ?_|apply ae|refine aQ rfl ?_|exact sP xI rfl qD qD qD|exact bL|intro _
theorem xD{l:List (Int×FuncId×Int×Int)} {d:aj} (hr:∀ x∈l,bW Tryz.prog cK x.2.1 [0] [.ra ab d] (fun _=> .tup [.is (.int .i64 x.2.2.1), .is (.int .i64 x.2.2.2)])):bW Tryz.prog cK 22 [0,0,0] [.ra ab d, .is (.int .i64 yr), .rw iY tt (k7 l)] (fun _=> .tup [.ra bM (dw yr (kN l)).1, .is (.int .i64 (dw yr (kN l)).2)]):=by
 have hml:(k7 l).length=l.length:=List.length_map _
 refine lH (F:=(k7 l).length≤9223372036854775807) (fun ha=> ?_) (fun _ _=>by kernel_rfl) fun hb=> ?_
 ·obtain ⟨v,us,rfl,_,h⟩:=ha.tail
  obtain ⟨v,us,rfl,_,h⟩:=h.tail
  exact fC h
 refine cr Tryz.func22 Tryz.ntmps22 fun X w0 hE=> ?_
 repeat' first|kernel_rfl|apply Bt.mk|refine nx ?_|apply ae|refine d9 rfl ?_|exact bL|intro _
 refine aY fun a w h=> ?_
 rename_i r3 r6
 refine aO (fun k a u=>∃ i:Nat,i+k=l.length∧dw yr (kN (l.drop i))=dw yr (kN l)∧TS w0 (r6::r3::X) [(r6, .ra bM gf),(r3, .ra ab d)] [(14, .is (.int .i64 (i:Int))),(13, .is (.int .i64 ((k7 l).length:Int))),(12, .rw iY tt (k7 l)),(3, .is (.pointer (some ⟨r3,0,none⟩))),(6, .is (.pointer (some ⟨r6,0,none⟩))),(1, .is (.int .i64 yr))] 35 a u) l.length ⟨0,by omega,rfl,h.keep [14,13,12,3,6,1]⟩ ?_
 clear h
 rintro k a u ⟨i,hi,ha,h⟩
 by_cases hlt:i<l.length
 ·obtain ⟨x,hx⟩:∃ x,l[i]? =some x:=⟨_,List.getElem?_eq_getElem hlt⟩
  have hxn:(k7 l)[i]? =some (x.1,x.2.1):=by unfold k7;rw [List.getElem?_map,hx];rfl
  have hc:decide ((i:Int)<((k7 l).length:Int))=true:=decide_eq_true qO
  have hw:IntKind.i64.wrap ((i:Int)+1)=((i+1:Nat):Int):=aA qO qO
  rw [ek hx,show kN (x::l.drop (i+1))=(x.1,x.2.2.1,x.2.2.2)::kN (l.drop (i+1)) from rfl,iO] at ha
  have kx:=hr x (List.mem_of_getElem? hx)
  cases hne:(x.2.2.2 != 0)
  ·have he:(x.2.2.2==0)=true:=by simpa using hne
   rw [he] at ha
   have ha:dw yr (kN (l.drop (i+1)))=_:=ha
   refine aB h ?_
   clear h
   repeat' first|kernel_rfl|exact a8 fun _ _ h=>⟨k - 1,by omega,i+1,by omega,ha,h.drop.keep [14,13,12,3,6,1]⟩|apply Bt.mk|refine nx ?_|apply d_ (s:=14)|apply ae|refine d9 rfl ?_|exact bL|intro _
  ·have he:(x.2.2.2==0)=false:=by simpa using hne
   rw [he] at ha
   have ha:((x.1,yr,x.2.2.1),x.2.2.2)=_:=ha
   rw [←show _=dw yr (kN l) from ha]
   refine aB h ?_
   clear h
   repeat' first|kernel_rfl|apply Bt.mk|refine nx ?_|apply d_ (s:=14)|apply ae|refine d9 rfl ?_|exact bL|intro _
 ·obtain rfl:i=l.length:=qO
  have hc:decide ((l.length:Int)<((k7 l).length:Int))=false:=decide_eq_false qO
  rw [List.drop_length] at ha
  have ha:((0,0,0),0)=dw yr (kN l):=ha
  rw [←ha]
  refine aB h ?_
  clear h
  repeat' first|kernel_rfl|apply Bt.mk|refine nx ?_|apply d_ (s:=14)|apply ae|refine d9 rfl ?_|exact bL|intro _
theorem uy:bW Tryz.prog S1 25 [] [] (fun _=> .rw iY tt [(7,57),(8,58),(9,59),(10,60),(11,61)]):=by
 refine cr Tryz.func25 Tryz.ntmps25 fun X w hE=> ?_
 repeat' first|kernel_rfl|apply Bt.mk|refine nx ?_|apply ae|refine aQ rfl ?_|exact sP Cd rfl qD qD qD|exact bL|intro _
theorem AN{l:List (Int×FuncId×Int×Int)} {d:aX} (hr:∀ x∈l,bW Tryz.prog cK x.2.1 [0] [.ra aw d] (fun _=> .tup [.is (.int .i64 x.2.2.1), .is (.int .i64 x.2.2.2)])):bW Tryz.prog cK 24 [0,0,0] [.ra aw d, .is (.int .i64 yr), .rw iY tt (k7 l)] (fun _=> .tup [.ra bM (dw yr (kN l)).1, .is (.int .i64 (dw yr (kN l)).2)]):=by
 have hml:(k7 l).length=l.length:=List.length_map _
 refine lH (F:=(k7 l).length≤9223372036854775807) (fun ha=> ?_) (fun _ _=>by kernel_rfl) fun hb=> ?_
 ·obtain ⟨v,us,rfl,_,h⟩:=ha.tail
  obtain ⟨v,us,rfl,_,h⟩:=h.tail
  exact fC h
 refine cr Tryz.func24 Tryz.ntmps24 fun X w0 hE=> ?_
 repeat' first|kernel_rfl|apply Bt.mk|refine nx ?_|apply ae|refine d9 rfl ?_|exact bL|intro _
 refine aY fun a w h=> ?_
 rename_i r3 r6
 refine aO (fun k a u=>∃ i:Nat,i+k=l.length∧dw yr (kN (l.drop i))=dw yr (kN l)∧TS w0 (r6::r3::X) [(r6, .ra bM gf),(r3, .ra aw d)] [(14, .is (.int .i64 (i:Int))),(13, .is (.int .i64 ((k7 l).length:Int))),(12, .rw iY tt (k7 l)),(3, .is (.pointer (some ⟨r3,0,none⟩))),(6, .is (.pointer (some ⟨r6,0,none⟩))),(1, .is (.int .i64 yr))] 35 a u) l.length ⟨0,by omega,rfl,h.keep [14,13,12,3,6,1]⟩ ?_
 clear h
 rintro k a u ⟨i,hi,ha,h⟩
 by_cases hlt:i<l.length
 ·obtain ⟨x,hx⟩:∃ x,l[i]? =some x:=⟨_,List.getElem?_eq_getElem hlt⟩
  have hxn:(k7 l)[i]? =some (x.1,x.2.1):=by unfold k7;rw [List.getElem?_map,hx];rfl
  have hc:decide ((i:Int)<((k7 l).length:Int))=true:=decide_eq_true qO
  have hw:IntKind.i64.wrap ((i:Int)+1)=((i+1:Nat):Int):=aA qO qO
  rw [ek hx,show kN (x::l.drop (i+1))=(x.1,x.2.2.1,x.2.2.2)::kN (l.drop (i+1)) from rfl,iO] at ha
  have kx:=hr x (List.mem_of_getElem? hx)
  cases hne:(x.2.2.2 != 0)
  ·have he:(x.2.2.2==0)=true:=by simpa using hne
   rw [he] at ha
   have ha:dw yr (kN (l.drop (i+1)))=_:=ha
   refine aB h ?_
   clear h
   repeat' first|kernel_rfl|exact a8 fun _ _ h=>⟨k - 1,by omega,i+1,by omega,ha,h.drop.keep [14,13,12,3,6,1]⟩|apply Bt.mk|refine nx ?_|apply d_ (s:=14)|apply ae|refine d9 rfl ?_|exact bL|intro _
  ·have he:(x.2.2.2==0)=false:=by simpa using hne
   rw [he] at ha
   have ha:((x.1,yr,x.2.2.1),x.2.2.2)=_:=ha
   rw [←show _=dw yr (kN l) from ha]
   refine aB h ?_
   clear h
   repeat' first|kernel_rfl|apply Bt.mk|refine nx ?_|apply d_ (s:=14)|apply ae|refine d9 rfl ?_|exact bL|intro _
 ·obtain rfl:i=l.length:=qO
  have hc:decide ((l.length:Int)<((k7 l).length:Int))=false:=decide_eq_false qO
  rw [List.drop_length] at ha
  have ha:((0,0,0),0)=dw yr (kN l):=ha
  rw [←ha]
  refine aB h ?_
  clear h
  repeat' first|kernel_rfl|apply Bt.mk|refine nx ?_|apply d_ (s:=14)|apply ae|refine d9 rfl ?_|exact bL|intro _
theorem jK{y:aX} {t:List aX}:kB i (y::t)=bif (dw (i:Int) (dp y)).2==0 then kB (i+1) t else dw (i:Int) (dp y):=rfl
def p9 (y:aX):Prop:=(∀ x∈y.2.1,b6 6 x.2.2)∧(∀ x∈y.2.2.1,b6 6 x.2.2)∧(∀ x∈y.2.2.2.1,b6 6 x.2.2.2.2.2.2)∧(∀ x∈y.2.2.2.2.1,b6 6 x.2.1∧b6 6 x.2.2)∧(∀ x∈y.2.2.2.2.2,b6 6 x.2)
structure nf (d:aj):Prop where
 thr:b6 6 d.2.2.2.1
 cap:b6 6 d.2.2.2.2.1
 int:b6 6 d.2.2.2.2.2.2.2.1
 flo:b6 6 d.2.2.2.2.2.2.2.2.1
 brk:∀ x∈d.2.2.1,b6 6 x.1∧b6 6 x.2
 cls:∀ x∈d.2.2.2.2.2.2.2.2.2.2.1,b6 6 x.2.2
 yrs:∀ x∈d.2.2.2.2.2.2.2.2.2.2.2.2,p9 x
theorem vf{d:aj} (hf:nf d):bW Tryz.prog cK 22 [0,0,0] [.ra ab d, .is (.int .i64 yr), .rw iY tt [(1,51),(2,52),(3,53),(4,54),(5,55),(6,56)]] (fun _=> .tup [.ra bM (dw yr (dC d)).1, .is (.int .i64 (dw yr (dC d)).2)]):=xD (l:=[(1,51,(brk bg 2 0 [d.1,d.2.1])),(2,52,(brk fG 16 0 d.2.2.1)),(3,53,(lc d)),(4,54,(brk fp 64 0 d.2.2.2.2.2.2.2.2.2.2.1)),(5,55,(brk bg 256 0 d.2.2.2.2.2.2.2.2.2.2.2.1)),(6,56,(brk ln 40 0 d.2.2.2.2.2.2.2.2.2.2.2.2))]) fun x hx=>by
 simp only [List.mem_cons,List.not_mem_nil,or_false] at hx
 rcases hx with rfl|rfl|rfl|rfl|rfl|rfl
 ·exact B9
 ·exact (uT hf.brk)
 ·exact (Ib hf.thr hf.cap hf.int hf.flo)
 ·exact (wW hf.cls)
 ·exact t_
 ·exact CX
theorem yM{d:aX} (hf:p9 d):bW Tryz.prog cK 24 [0,0,0] [.ra aw d, .is (.int .i64 yr), .rw iY tt [(7,57),(8,58),(9,59),(10,60),(11,61)]] (fun _=> .tup [.ra bM (dw yr (dp d)).1, .is (.int .i64 (dw yr (dp d)).2)]):=AN (l:=[(7,57,(brk iy 4096 0 d.2.1)),(8,58,(brk iq 4096 0 d.2.2.1)),(9,59,(brk iu 4096 0 d.2.2.2.1)),(10,60,(brk fH 4096 0 d.2.2.2.2.1)),(11,61,(brk ir 4096 0 d.2.2.2.2.2))]) fun x hx=>by
 simp only [List.mem_cons,List.not_mem_nil,or_false] at hx
 rcases hx with rfl|rfl|rfl|rfl|rfl
 ·exact (Di hf.1)
 ·exact (Dq hf.2.1)
 ·exact (Cr hf.2.2.1)
 ·exact (zM hf.2.2.2.1)
 ·exact (C4 hf.2.2.2.2)
theorem Gh{α β:Type} {r:Rp α} {r':Rp β} {g:α→List β} {off:Nat} {v:Value} {a:α} [f:aZ r off r'.row g] (h:(aa.ra r a).holds X w v):(g a).length≤9223372036854775807:=by
 obtain ⟨cs,_,hr⟩:=h
 obtain ⟨c1,c2,c3,_,_,h2⟩:=f.ok hr
 obtain ⟨A,n,c,e,h3⟩:=h2
 exact C0 (r:=r') (p:=tt) (v:= .slice A n c) ⟨fun _ _=>trivial,A,n,c,rfl,h3⟩
theorem j2 {d:aj} (hf:nf d):bW Tryz.prog cK 8 [0] [.ra ab d] (fun _=> .tup [.ra bM (bK d).1, .is (.int .i64 (bK d).2)]):=by
 refine lH (F:=(d.2.2.2.2.2.2.2.2.2.2.2.2).length≤9223372036854775807) (fun ha=> ?_) (fun _ _=>by kernel_rfl) fun hb=> ?_
 ·obtain ⟨v,rfl,h⟩:=ha.one
  exact Gh (r:=ab) (r':=aw) (off:=24) (g:=fun (d:aj)=>d.2.2.2.2.2.2.2.2.2.2.2.2) h
 have kF:=vf (yr:= -1) hf
 refine cr Tryz.func8 Tryz.ntmps8 fun X w0 hE=> ?_
 repeat' first|kernel_rfl|apply Bt.mk|refine nx ?_|apply jY (id:=1) [] [] 7 [5]|apply pU|apply pZ|apply wN|apply az|apply aW|infer_instance|refine aE rfl bL ?_|refine aD rfl ?_|refine aF rfl ?_|apply ae|refine d9 rfl ?_|exact bL|(intro _;simp only[cf,ci,cm,List.map,List.cons_append,List.nil_append])|intro _
 refine aY fun a w h=> ?_
 rename_i r1 r2 rf
 replace h:=h.keep [6,5,4,1,2]
 generalize rf 4=r4 at h
 refine aO (fun k a u=>∃ (i:Nat) (q:II),i+k=(d.2.2.2.2.2.2.2.2.2.2.2.2).length∧(bif q.2==0 then kB i ((d.2.2.2.2.2.2.2.2.2.2.2.2).drop i) else q)=bK d∧(q.2=0→q=((0,0,0),0))∧TS w0 (r4::r2::r1::X) [(r4, .ra bM q.1),(r2, .ra bM gf),(r1, .ra ab d)] [(6, .is (.int .i64 (i:Int))),(5, .is (.int .i64 q.2)),(4, .is (.pointer (some ⟨r4,0,none⟩))),(1, .is (.pointer (some ⟨r1,0,none⟩))),(2, .is (.pointer (some ⟨r2,0,none⟩)))] 37 a u) (d.2.2.2.2.2.2.2.2.2.2.2.2).length ⟨0,dw (-1) (dC d),by omega,rfl,nX,h⟩ ?_
 clear h
 rintro k a u ⟨i,q,hi,ha,hz,h⟩
 cases he:(q.2==0)
 ·rw [he] at ha
  have ha:q=bK d:=ha
  rw [←ha]
  refine aB h ?_
  clear h
  repeat' first|kernel_rfl|apply Bt.mk|refine nx ?_|apply az|apply aW|infer_instance|refine aE rfl bL ?_|refine aD rfl ?_|refine aF rfl ?_|apply ae|refine d9 rfl ?_|exact bL|intro _
 rw [he] at ha
 have ha:kB i ((d.2.2.2.2.2.2.2.2.2.2.2.2).drop i)=bK d:=ha
 by_cases hlt:i<(d.2.2.2.2.2.2.2.2.2.2.2.2).length
 ·obtain ⟨y,hy⟩:∃ y,(d.2.2.2.2.2.2.2.2.2.2.2.2)[i]? =some y:=⟨_,List.getElem?_eq_getElem hlt⟩
  have hc:decide ((i:Int)<((d.2.2.2.2.2.2.2.2.2.2.2.2).length:Int))=true:=decide_eq_true qO
  have hw:IntKind.i64.wrap ((i:Int)+1)=((i+1:Nat):Int):=aA qO qO
  rw [ek hy,jK] at ha
  have kY:=yM (yr:=(i:Int)) (hf.yrs y (List.mem_of_getElem? hy))
  refine aB h ?_
  clear h
  repeat' first|kernel_rfl|exact a8 fun _ _ h=>⟨k - 1,by omega,i+1,dw (i:Int) (dp y),by omega,ha,nX,h.keep [6,5,4,1,2]⟩|apply Bt.mk|refine nx ?_|apply jY (id:=5) [] [] 11 [10]|apply pU|apply pZ|apply wN|apply az|apply aW|infer_instance|refine aE rfl bL ?_|refine aD rfl ?_|refine aF rfl ?_|apply ae|refine d9 rfl ?_|exact bL|(intro _;simp only[cf,ci,cm,List.map,List.cons_append,List.nil_append])|intro _
 ·obtain hil:i=(d.2.2.2.2.2.2.2.2.2.2.2.2).length:=qO
  have hc:decide ((i:Int)<((d.2.2.2.2.2.2.2.2.2.2.2.2).length:Int))=false:=decide_eq_false qO
  rw [hil,List.drop_length] at ha
  have ha:((0,0,0),0)=bK d:=ha
  rw [←hz (eq_of_beq he)] at ha
  rw [←ha]
  refine aB h ?_
  clear h
  repeat' first|kernel_rfl|apply Bt.mk|refine nx ?_|apply az|apply aW|infer_instance|refine aE rfl bL ?_|refine aD rfl ?_|refine aF rfl ?_|apply ae|refine d9 rfl ?_|exact bL|intro _
end Go.Proofs.YtpmhjieibebclaaGreatDoor
