/- Package ast: the limits, part by part. -/
import Derived.Test.YtjjkikchncfekaaGreatDoorCO
set_option maxHeartbeats 4000000
set_option maxRecDepth 20000
set_option synthInstance.maxHeartbeats 400000
set_option synthInstance.maxSize 4000
set_option linter.unusedSimpArgs false
set_option linter.unusedVariables false
namespace Go.Proofs.YtjjkikchncfekaaGreatDoor
open Go Go.RowKit
variable {most i:Nat} {z yr:Int} {g:FuncId} {X:List Nat} {w:World}
theorem bJ.up {P:Program} {G:World→Prop} {f:FuncId} {ks:List Nat} {As:List aa} {T:Nat→aa} (h:bJ P S1 f ks As T):bJ P G f ks As T:=⟨h.ent,h.down,fun _ hX ha=>h.run trivial hX ha⟩
theorem fh{α:Type} {r:Rp α} {p:α→Prop} {l:List α} {T:List aa} {vs:List Value} (h:cd X w (.rw r p l::T) vs):l.length≤9223372036854775807:=by
 obtain ⟨v,us,rfl,h,_⟩:=h.tail
 exact Cd h
theorem fb{α:Type} {l:List α} {x:α} (h:l[i]? =some x):l.drop i=x::l.drop (i+1):=by
 obtain ⟨h1,h2⟩:=List.getElem?_eq_some_iff.1 h
 rw [List.drop_eq_getElem_cons h1,h2]
theorem gb{α:Type} {p:α→Bool} {x:α} {l:List α} (h:i=most):brk p most i (x::l)=((i:Int),3):=by
 unfold brk;rw [if_pos h]
theorem io{α:Type} {p:α→Bool} {x:α} {l:List α} (h:i≠most) (hp:p x=false):brk p most i (x::l)=((i:Int),2):=by
 unfold brk;rw [if_neg h,hp];rfl
theorem jf{α:Type} {p:α→Bool} {x:α} {l:List α} (h:i≠most) (hp:p x=true):brk p most i (x::l)=brk p most (i+1) l:=by
 rw [brk,if_neg h,hp];rfl
instance:cH Tryz.prog 9 (.is (Tx [])):=⟨⟨Tx [],fun X w=>rfl,fun o ρ w e=>by
 cases o with
 |mk dst op ty pos af gd=>
  have e':op=_:=e
  subst e'
  go_simp⟩⟩
theorem bI {p:Prop} (h:p:=by first|exact lj (by assumption)|exact jy|exact pn|exact xz rfl rfl rfl|exact DP|exact EL (by assumption)|exact CG|exact Ev (by first|assumption|rfl)|exact lk (by assumption)|exact td|exact qw lz|exact wt|exact cZ|exact cQ|exact c_|exact dK (b:=true) (u:=false) rfl|exact dK (b:=false) (u:=true) rfl|exact dK rfl|exact bC|exact iX|exact x7 (by first|assumption|rfl)|exact s_ (by first|assumption|rfl)|exact gB|exact gw|exact mO (by first|assumption|rfl)|exact iY (by first|assumption|rfl)|exact iW|exact dB (by assumption)|exact dc|exact sc hE k0|exact dW.nil|exact eM.nil|exact eI.nil|exact Jw hE kx|exact sc trivial p_|exact sc trivial tU|exact sc hE kF|exact sc hE kY|exact Cv.rfl'):p:=h
theorem nN{l:List (List UInt8)} {p:(List UInt8)→Bool} (hz:z=(most:Int)) (hr:∀ x∈l,bJ Tryz.prog dk g [0] [.is (Tx x)] (fun _=> .is (.bool (p x)))):bJ Tryz.prog dk 187 [0,0,0] [.rw Rp.str tt l, .is (.int .i64 z), .fv g [] []] (fun _=> .tup [.is (.int .i64 (brk p most 0 l).1), .is (.int .i64 (brk p most 0 l).2)]):=by
 subst hz
 refine kV fh (fun _ _=>by kernel_rfl) fun hb=> ?_
 refine cr Tryz.func187 Tryz.ntmps187 fun X w0 hE=> ?_
 repeat' first|kernel_rfl|apply Bt.mk|refine nx ?_|apply ae|refine eU rfl ?_|exact bI|intro _
 refine aK fun a w h=> ?_
 refine aD (fun k a u=>∃ i:Nat,i+k=l.length∧brk p most i (l.drop i)=brk p most 0 l∧TS w0 X [] [(12, .is (.int .i64 (i:Int))),(11, .is (.int .i64 (l.length:Int))),(10, .rw Rp.str tt l),(0, .rw Rp.str tt l),(1, .is (.int .i64 (most:Int))),(2, .fv g [] [])] 29 a u) l.length ⟨0,by omega,rfl,h.keep [12,11,10,0,1,2]⟩ ?_
 clear h
 rintro k a u ⟨i,hi,ha,h⟩
 by_cases hlt:i<l.length
 ·obtain ⟨x,hx⟩:∃ x,l[i]? =some x:=⟨_,List.getElem?_eq_getElem hlt⟩
  have hc:decide ((i:Int)<(l.length:Int))=true:=decide_eq_true qO
  have hw:IntKind.i64.wrap ((i:Int)+1)=((i+1:Nat):Int):=ak qO qO
  rw [fb hx] at ha
  cases hm:((i:Int)==(most:Int))
  rotate_left
  ·rw [gb (by have:=eq_of_beq hm;omega)] at ha
   rw [←ha]
   refine aB h ?_
   clear h
   repeat' first|kernel_rfl|apply Bt.mk|refine nx ?_|apply cp (s:=12)|apply ae|refine eU rfl ?_|exact bI|intro _
  have hmi:i≠most:=fun e=>by rw [e] at hm;simp at hm
  have kx:=hr x (List.mem_of_getElem? hx)
  cases hp:p x
  ·rw [io hmi hp] at ha
   rw [hp] at kx
   rw [←ha]
   refine aB h ?_
   clear h
   repeat' first|kernel_rfl|apply Bt.mk|refine nx ?_|apply cp (s:=12)|apply ae|refine eU rfl ?_|exact bI|intro _
  ·rw [jf hmi hp] at ha
   rw [hp] at kx
   refine aB h ?_
   clear h
   repeat' first|kernel_rfl|exact aQ fun _ _ h=>⟨k - 1,by omega,i+1,by omega,ha,h.keep [12,11,10,0,1,2]⟩|apply Bt.mk|refine nx ?_|apply cp (s:=12)|apply ae|refine eU rfl ?_|exact bI|intro _
 ·obtain rfl:i=l.length:=qO
  have hc:decide ((l.length:Int)<(l.length:Int))=false:=decide_eq_false qO
  rw [List.drop_length] at ha
  have ha:(0,0)=brk p most 0 l:=ha
  rw [←ha]
  refine aB h ?_
  clear h
  repeat' first|kernel_rfl|apply Bt.mk|refine nx ?_|apply cp (s:=12)|apply ae|refine eU rfl ?_|exact bI|intro _
theorem rE{l:List (cP)} {p:cP→Bool} (hz:z=(most:Int)) (hr:∀ x∈l,bJ Tryz.prog dk g [0] [.ra aA x] (fun _=> .is (.bool (p x)))):bJ Tryz.prog dk 188 [0,0,0] [.rw aA tt l, .is (.int .i64 z), .fv g [] []] (fun _=> .tup [.is (.int .i64 (brk p most 0 l).1), .is (.int .i64 (brk p most 0 l).2)]):=by
 subst hz
 refine kV fh (fun _ _=>by kernel_rfl) fun hb=> ?_
 refine cr Tryz.func188 Tryz.ntmps188 fun X w0 hE=> ?_
 repeat' first|kernel_rfl|apply Bt.mk|refine nx ?_|apply ae|refine eU rfl ?_|exact bI|intro _
 refine aK fun a w h=> ?_
 refine aD (fun k a u=>∃ i:Nat,i+k=l.length∧brk p most i (l.drop i)=brk p most 0 l∧TS w0 X [] [(12, .is (.int .i64 (i:Int))),(11, .is (.int .i64 (l.length:Int))),(10, .rw aA tt l),(0, .rw aA tt l),(1, .is (.int .i64 (most:Int))),(2, .fv g [] [])] 29 a u) l.length ⟨0,by omega,rfl,h.keep [12,11,10,0,1,2]⟩ ?_
 clear h
 rintro k a u ⟨i,hi,ha,h⟩
 by_cases hlt:i<l.length
 ·obtain ⟨x,hx⟩:∃ x,l[i]? =some x:=⟨_,List.getElem?_eq_getElem hlt⟩
  have hc:decide ((i:Int)<(l.length:Int))=true:=decide_eq_true qO
  have hw:IntKind.i64.wrap ((i:Int)+1)=((i+1:Nat):Int):=ak qO qO
  rw [fb hx] at ha
  cases hm:((i:Int)==(most:Int))
  rotate_left
  ·rw [gb (by have:=eq_of_beq hm;omega)] at ha
   rw [←ha]
   refine aB h ?_
   clear h
   repeat' first|kernel_rfl|apply Bt.mk|refine nx ?_|apply cp (s:=12)|apply ae|refine eU rfl ?_|exact bI|intro _
  have hmi:i≠most:=fun e=>by rw [e] at hm;simp at hm
  have kx:=hr x (List.mem_of_getElem? hx)
  cases hp:p x
  ·rw [io hmi hp] at ha
   rw [hp] at kx
   rw [←ha]
   refine aB h ?_
   clear h
   repeat' first|kernel_rfl|apply Bt.mk|refine nx ?_|apply cp (s:=12)|apply ae|refine eU rfl ?_|exact bI|intro _
  ·rw [jf hmi hp] at ha
   rw [hp] at kx
   refine aB h ?_
   clear h
   repeat' first|kernel_rfl|exact aQ fun _ _ h=>⟨k - 1,by omega,i+1,by omega,ha,h.drop.keep [12,11,10,0,1,2]⟩|apply Bt.mk|refine nx ?_|apply cp (s:=12)|apply ae|refine eU rfl ?_|exact bI|intro _
 ·obtain rfl:i=l.length:=qO
  have hc:decide ((l.length:Int)<(l.length:Int))=false:=decide_eq_false qO
  rw [List.drop_length] at ha
  have ha:(0,0)=brk p most 0 l:=ha
  rw [←ha]
  refine aB h ?_
  clear h
  repeat' first|kernel_rfl|apply Bt.mk|refine nx ?_|apply cp (s:=12)|apply ae|refine eU rfl ?_|exact bI|intro _
theorem wa{l:List (dJ)} {p:dJ→Bool} (hz:z=(most:Int)) (hr:∀ x∈l,bJ Tryz.prog dk g [0] [.ra aO x] (fun _=> .is (.bool (p x)))):bJ Tryz.prog dk 192 [0,0,0] [.rw aO tt l, .is (.int .i64 z), .fv g [] []] (fun _=> .tup [.is (.int .i64 (brk p most 0 l).1), .is (.int .i64 (brk p most 0 l).2)]):=by
 subst hz
 refine kV fh (fun _ _=>by kernel_rfl) fun hb=> ?_
 refine cr Tryz.func192 Tryz.ntmps192 fun X w0 hE=> ?_
 repeat' first|kernel_rfl|apply Bt.mk|refine nx ?_|apply ae|refine eU rfl ?_|exact bI|intro _
 refine aK fun a w h=> ?_
 refine aD (fun k a u=>∃ i:Nat,i+k=l.length∧brk p most i (l.drop i)=brk p most 0 l∧TS w0 X [] [(12, .is (.int .i64 (i:Int))),(11, .is (.int .i64 (l.length:Int))),(10, .rw aO tt l),(0, .rw aO tt l),(1, .is (.int .i64 (most:Int))),(2, .fv g [] [])] 29 a u) l.length ⟨0,by omega,rfl,h.keep [12,11,10,0,1,2]⟩ ?_
 clear h
 rintro k a u ⟨i,hi,ha,h⟩
 by_cases hlt:i<l.length
 ·obtain ⟨x,hx⟩:∃ x,l[i]? =some x:=⟨_,List.getElem?_eq_getElem hlt⟩
  have hc:decide ((i:Int)<(l.length:Int))=true:=decide_eq_true qO
  have hw:IntKind.i64.wrap ((i:Int)+1)=((i+1:Nat):Int):=ak qO qO
  rw [fb hx] at ha
  cases hm:((i:Int)==(most:Int))
  rotate_left
  ·rw [gb (by have:=eq_of_beq hm;omega)] at ha
   rw [←ha]
   refine aB h ?_
   clear h
   repeat' first|kernel_rfl|apply Bt.mk|refine nx ?_|apply cp (s:=12)|apply ae|refine eU rfl ?_|exact bI|intro _
  have hmi:i≠most:=fun e=>by rw [e] at hm;simp at hm
  have kx:=hr x (List.mem_of_getElem? hx)
  cases hp:p x
  ·rw [io hmi hp] at ha
   rw [hp] at kx
   rw [←ha]
   refine aB h ?_
   clear h
   repeat' first|kernel_rfl|apply Bt.mk|refine nx ?_|apply cp (s:=12)|apply ae|refine eU rfl ?_|exact bI|intro _
  ·rw [jf hmi hp] at ha
   rw [hp] at kx
   refine aB h ?_
   clear h
   repeat' first|kernel_rfl|exact aQ fun _ _ h=>⟨k - 1,by omega,i+1,by omega,ha,h.drop.keep [12,11,10,0,1,2]⟩|apply Bt.mk|refine nx ?_|apply cp (s:=12)|apply ae|refine eU rfl ?_|exact bI|intro _
 ·obtain rfl:i=l.length:=qO
  have hc:decide ((l.length:Int)<(l.length:Int))=false:=decide_eq_false qO
  rw [List.drop_length] at ha
  have ha:(0,0)=brk p most 0 l:=ha
  rw [←ha]
  refine aB h ?_
  clear h
  repeat' first|kernel_rfl|apply Bt.mk|refine nx ?_|apply cp (s:=12)|apply ae|refine eU rfl ?_|exact bI|intro _
theorem zQ{l:List (a_)} {p:a_→Bool} (hz:z=(most:Int)) (hr:∀ x∈l,bJ Tryz.prog dk g [0] [.ra aq x] (fun _=> .is (.bool (p x)))):bJ Tryz.prog dk 194 [0,0,0] [.rw aq tt l, .is (.int .i64 z), .fv g [] []] (fun _=> .tup [.is (.int .i64 (brk p most 0 l).1), .is (.int .i64 (brk p most 0 l).2)]):=by
 subst hz
 refine kV fh (fun _ _=>by kernel_rfl) fun hb=> ?_
 refine cr Tryz.func194 Tryz.ntmps194 fun X w0 hE=> ?_
 repeat' first|kernel_rfl|apply Bt.mk|refine nx ?_|apply ae|refine eU rfl ?_|exact bI|intro _
 refine aK fun a w h=> ?_
 refine aD (fun k a u=>∃ i:Nat,i+k=l.length∧brk p most i (l.drop i)=brk p most 0 l∧TS w0 X [] [(12, .is (.int .i64 (i:Int))),(11, .is (.int .i64 (l.length:Int))),(10, .rw aq tt l),(0, .rw aq tt l),(1, .is (.int .i64 (most:Int))),(2, .fv g [] [])] 29 a u) l.length ⟨0,by omega,rfl,h.keep [12,11,10,0,1,2]⟩ ?_
 clear h
 rintro k a u ⟨i,hi,ha,h⟩
 by_cases hlt:i<l.length
 ·obtain ⟨x,hx⟩:∃ x,l[i]? =some x:=⟨_,List.getElem?_eq_getElem hlt⟩
  have hc:decide ((i:Int)<(l.length:Int))=true:=decide_eq_true qO
  have hw:IntKind.i64.wrap ((i:Int)+1)=((i+1:Nat):Int):=ak qO qO
  rw [fb hx] at ha
  cases hm:((i:Int)==(most:Int))
  rotate_left
  ·rw [gb (by have:=eq_of_beq hm;omega)] at ha
   rw [←ha]
   refine aB h ?_
   clear h
   repeat' first|kernel_rfl|apply Bt.mk|refine nx ?_|apply cp (s:=12)|apply ae|refine eU rfl ?_|exact bI|intro _
  have hmi:i≠most:=fun e=>by rw [e] at hm;simp at hm
  have kx:=hr x (List.mem_of_getElem? hx)
  cases hp:p x
  ·rw [io hmi hp] at ha
   rw [hp] at kx
   rw [←ha]
   refine aB h ?_
   clear h
   repeat' first|kernel_rfl|apply Bt.mk|refine nx ?_|apply cp (s:=12)|apply ae|refine eU rfl ?_|exact bI|intro _
  ·rw [jf hmi hp] at ha
   rw [hp] at kx
   refine aB h ?_
   clear h
   repeat' first|kernel_rfl|exact aQ fun _ _ h=>⟨k - 1,by omega,i+1,by omega,ha,h.drop.keep [12,11,10,0,1,2]⟩|apply Bt.mk|refine nx ?_|apply cp (s:=12)|apply ae|refine eU rfl ?_|exact bI|intro _
 ·obtain rfl:i=l.length:=qO
  have hc:decide ((l.length:Int)<(l.length:Int))=false:=decide_eq_false qO
  rw [List.drop_length] at ha
  have ha:(0,0)=brk p most 0 l:=ha
  rw [←ha]
  refine aB h ?_
  clear h
  repeat' first|kernel_rfl|apply Bt.mk|refine nx ?_|apply cp (s:=12)|apply ae|refine eU rfl ?_|exact bI|intro _
theorem zH{l:List (fk)} {p:fk→Bool} (hz:z=(most:Int)) (hr:∀ x∈l,bJ Tryz.prog dk g [0] [.ra aZ x] (fun _=> .is (.bool (p x)))):bJ Tryz.prog dk 196 [0,0,0] [.rw aZ tt l, .is (.int .i64 z), .fv g [] []] (fun _=> .tup [.is (.int .i64 (brk p most 0 l).1), .is (.int .i64 (brk p most 0 l).2)]):=by
 subst hz
 refine kV fh (fun _ _=>by kernel_rfl) fun hb=> ?_
 refine cr Tryz.func196 Tryz.ntmps196 fun X w0 hE=> ?_
 repeat' first|kernel_rfl|apply Bt.mk|refine nx ?_|apply ae|refine eU rfl ?_|exact bI|intro _
 refine aK fun a w h=> ?_
 refine aD (fun k a u=>∃ i:Nat,i+k=l.length∧brk p most i (l.drop i)=brk p most 0 l∧TS w0 X [] [(12, .is (.int .i64 (i:Int))),(11, .is (.int .i64 (l.length:Int))),(10, .rw aZ tt l),(0, .rw aZ tt l),(1, .is (.int .i64 (most:Int))),(2, .fv g [] [])] 29 a u) l.length ⟨0,by omega,rfl,h.keep [12,11,10,0,1,2]⟩ ?_
 clear h
 rintro k a u ⟨i,hi,ha,h⟩
 by_cases hlt:i<l.length
 ·obtain ⟨x,hx⟩:∃ x,l[i]? =some x:=⟨_,List.getElem?_eq_getElem hlt⟩
  have hc:decide ((i:Int)<(l.length:Int))=true:=decide_eq_true qO
  have hw:IntKind.i64.wrap ((i:Int)+1)=((i+1:Nat):Int):=ak qO qO
  rw [fb hx] at ha
  cases hm:((i:Int)==(most:Int))
  rotate_left
  ·rw [gb (by have:=eq_of_beq hm;omega)] at ha
   rw [←ha]
   refine aB h ?_
   clear h
   repeat' first|kernel_rfl|apply Bt.mk|refine nx ?_|apply cp (s:=12)|apply ae|refine eU rfl ?_|exact bI|intro _
  have hmi:i≠most:=fun e=>by rw [e] at hm;simp at hm
  have kx:=hr x (List.mem_of_getElem? hx)
  cases hp:p x
  ·rw [io hmi hp] at ha
   rw [hp] at kx
   rw [←ha]
   refine aB h ?_
   clear h
   repeat' first|kernel_rfl|apply Bt.mk|refine nx ?_|apply cp (s:=12)|apply ae|refine eU rfl ?_|exact bI|intro _
  ·rw [jf hmi hp] at ha
   rw [hp] at kx
   refine aB h ?_
   clear h
   repeat' first|kernel_rfl|exact aQ fun _ _ h=>⟨k - 1,by omega,i+1,by omega,ha,h.drop.keep [12,11,10,0,1,2]⟩|apply Bt.mk|refine nx ?_|apply cp (s:=12)|apply ae|refine eU rfl ?_|exact bI|intro _
 ·obtain rfl:i=l.length:=qO
  have hc:decide ((l.length:Int)<(l.length:Int))=false:=decide_eq_false qO
  rw [List.drop_length] at ha
  have ha:(0,0)=brk p most 0 l:=ha
  rw [←ha]
  refine aB h ?_
  clear h
  repeat' first|kernel_rfl|apply Bt.mk|refine nx ?_|apply cp (s:=12)|apply ae|refine eU rfl ?_|exact bI|intro _
theorem yN{l:List (fl)} {p:fl→Bool} (hz:z=(most:Int)) (hr:∀ x∈l,bJ Tryz.prog dk g [0] [.ra aY x] (fun _=> .is (.bool (p x)))):bJ Tryz.prog dk 198 [0,0,0] [.rw aY tt l, .is (.int .i64 z), .fv g [] []] (fun _=> .tup [.is (.int .i64 (brk p most 0 l).1), .is (.int .i64 (brk p most 0 l).2)]):=by
 subst hz
 refine kV fh (fun _ _=>by kernel_rfl) fun hb=> ?_
 refine cr Tryz.func198 Tryz.ntmps198 fun X w0 hE=> ?_
 repeat' first|kernel_rfl|apply Bt.mk|refine nx ?_|apply ae|refine eU rfl ?_|exact bI|intro _
 refine aK fun a w h=> ?_
 refine aD (fun k a u=>∃ i:Nat,i+k=l.length∧brk p most i (l.drop i)=brk p most 0 l∧TS w0 X [] [(12, .is (.int .i64 (i:Int))),(11, .is (.int .i64 (l.length:Int))),(10, .rw aY tt l),(0, .rw aY tt l),(1, .is (.int .i64 (most:Int))),(2, .fv g [] [])] 29 a u) l.length ⟨0,by omega,rfl,h.keep [12,11,10,0,1,2]⟩ ?_
 clear h
 rintro k a u ⟨i,hi,ha,h⟩
 by_cases hlt:i<l.length
 ·obtain ⟨x,hx⟩:∃ x,l[i]? =some x:=⟨_,List.getElem?_eq_getElem hlt⟩
  have hc:decide ((i:Int)<(l.length:Int))=true:=decide_eq_true qO
  have hw:IntKind.i64.wrap ((i:Int)+1)=((i+1:Nat):Int):=ak qO qO
  rw [fb hx] at ha
  cases hm:((i:Int)==(most:Int))
  rotate_left
  ·rw [gb (by have:=eq_of_beq hm;omega)] at ha
   rw [←ha]
   refine aB h ?_
   clear h
   repeat' first|kernel_rfl|apply Bt.mk|refine nx ?_|apply cp (s:=12)|apply ae|refine eU rfl ?_|exact bI|intro _
  have hmi:i≠most:=fun e=>by rw [e] at hm;simp at hm
  have kx:=hr x (List.mem_of_getElem? hx)
  cases hp:p x
  ·rw [io hmi hp] at ha
   rw [hp] at kx
   rw [←ha]
   refine aB h ?_
   clear h
   repeat' first|kernel_rfl|apply Bt.mk|refine nx ?_|apply cp (s:=12)|apply ae|refine eU rfl ?_|exact bI|intro _
  ·rw [jf hmi hp] at ha
   rw [hp] at kx
   refine aB h ?_
   clear h
   repeat' first|kernel_rfl|exact aQ fun _ _ h=>⟨k - 1,by omega,i+1,by omega,ha,h.drop.keep [12,11,10,0,1,2]⟩|apply Bt.mk|refine nx ?_|apply cp (s:=12)|apply ae|refine eU rfl ?_|exact bI|intro _
 ·obtain rfl:i=l.length:=qO
  have hc:decide ((l.length:Int)<(l.length:Int))=false:=decide_eq_false qO
  rw [List.drop_length] at ha
  have ha:(0,0)=brk p most 0 l:=ha
  rw [←ha]
  refine aB h ?_
  clear h
  repeat' first|kernel_rfl|apply Bt.mk|refine nx ?_|apply cp (s:=12)|apply ae|refine eU rfl ?_|exact bI|intro _
theorem yP{l:List (dM)} {p:dM→Bool} (hz:z=(most:Int)) (hr:∀ x∈l,bJ Tryz.prog dk g [0] [.ra aI x] (fun _=> .is (.bool (p x)))):bJ Tryz.prog dk 200 [0,0,0] [.rw aI tt l, .is (.int .i64 z), .fv g [] []] (fun _=> .tup [.is (.int .i64 (brk p most 0 l).1), .is (.int .i64 (brk p most 0 l).2)]):=by
 subst hz
 refine kV fh (fun _ _=>by kernel_rfl) fun hb=> ?_
 refine cr Tryz.func200 Tryz.ntmps200 fun X w0 hE=> ?_
 repeat' first|kernel_rfl|apply Bt.mk|refine nx ?_|apply ae|refine eU rfl ?_|exact bI|intro _
 refine aK fun a w h=> ?_
 refine aD (fun k a u=>∃ i:Nat,i+k=l.length∧brk p most i (l.drop i)=brk p most 0 l∧TS w0 X [] [(12, .is (.int .i64 (i:Int))),(11, .is (.int .i64 (l.length:Int))),(10, .rw aI tt l),(0, .rw aI tt l),(1, .is (.int .i64 (most:Int))),(2, .fv g [] [])] 29 a u) l.length ⟨0,by omega,rfl,h.keep [12,11,10,0,1,2]⟩ ?_
 clear h
 rintro k a u ⟨i,hi,ha,h⟩
 by_cases hlt:i<l.length
 ·obtain ⟨x,hx⟩:∃ x,l[i]? =some x:=⟨_,List.getElem?_eq_getElem hlt⟩
  have hc:decide ((i:Int)<(l.length:Int))=true:=decide_eq_true qO
  have hw:IntKind.i64.wrap ((i:Int)+1)=((i+1:Nat):Int):=ak qO qO
  rw [fb hx] at ha
  cases hm:((i:Int)==(most:Int))
  rotate_left
  ·rw [gb (by have:=eq_of_beq hm;omega)] at ha
   rw [←ha]
   refine aB h ?_
   clear h
   repeat' first|kernel_rfl|apply Bt.mk|refine nx ?_|apply cp (s:=12)|apply ae|refine eU rfl ?_|exact bI|intro _
  have hmi:i≠most:=fun e=>by rw [e] at hm;simp at hm
  have kx:=hr x (List.mem_of_getElem? hx)
  cases hp:p x
  ·rw [io hmi hp] at ha
   rw [hp] at kx
   rw [←ha]
   refine aB h ?_
   clear h
   repeat' first|kernel_rfl|apply Bt.mk|refine nx ?_|apply cp (s:=12)|apply ae|refine eU rfl ?_|exact bI|intro _
  ·rw [jf hmi hp] at ha
   rw [hp] at kx
   refine aB h ?_
   clear h
   repeat' first|kernel_rfl|exact aQ fun _ _ h=>⟨k - 1,by omega,i+1,by omega,ha,h.drop.keep [12,11,10,0,1,2]⟩|apply Bt.mk|refine nx ?_|apply cp (s:=12)|apply ae|refine eU rfl ?_|exact bI|intro _
 ·obtain rfl:i=l.length:=qO
  have hc:decide ((l.length:Int)<(l.length:Int))=false:=decide_eq_false qO
  rw [List.drop_length] at ha
  have ha:(0,0)=brk p most 0 l:=ha
  rw [←ha]
  refine aB h ?_
  clear h
  repeat' first|kernel_rfl|apply Bt.mk|refine nx ?_|apply cp (s:=12)|apply ae|refine eU rfl ?_|exact bI|intro _
theorem wm{l:List (dT)} {p:dT→Bool} (hz:z=(most:Int)) (hr:∀ x∈l,bJ Tryz.prog dk g [0] [.ra aR x] (fun _=> .is (.bool (p x)))):bJ Tryz.prog dk 202 [0,0,0] [.rw aR tt l, .is (.int .i64 z), .fv g [] []] (fun _=> .tup [.is (.int .i64 (brk p most 0 l).1), .is (.int .i64 (brk p most 0 l).2)]):=by
 subst hz
 refine kV fh (fun _ _=>by kernel_rfl) fun hb=> ?_
 refine cr Tryz.func202 Tryz.ntmps202 fun X w0 hE=> ?_
 repeat' first|kernel_rfl|apply Bt.mk|refine nx ?_|apply ae|refine eU rfl ?_|exact bI|intro _
 refine aK fun a w h=> ?_
 refine aD (fun k a u=>∃ i:Nat,i+k=l.length∧brk p most i (l.drop i)=brk p most 0 l∧TS w0 X [] [(12, .is (.int .i64 (i:Int))),(11, .is (.int .i64 (l.length:Int))),(10, .rw aR tt l),(0, .rw aR tt l),(1, .is (.int .i64 (most:Int))),(2, .fv g [] [])] 29 a u) l.length ⟨0,by omega,rfl,h.keep [12,11,10,0,1,2]⟩ ?_
 clear h
 rintro k a u ⟨i,hi,ha,h⟩
 by_cases hlt:i<l.length
 ·obtain ⟨x,hx⟩:∃ x,l[i]? =some x:=⟨_,List.getElem?_eq_getElem hlt⟩
  have hc:decide ((i:Int)<(l.length:Int))=true:=decide_eq_true qO
  have hw:IntKind.i64.wrap ((i:Int)+1)=((i+1:Nat):Int):=ak qO qO
  rw [fb hx] at ha
  cases hm:((i:Int)==(most:Int))
  rotate_left
  ·rw [gb (by have:=eq_of_beq hm;omega)] at ha
   rw [←ha]
   refine aB h ?_
   clear h
   repeat' first|kernel_rfl|apply Bt.mk|refine nx ?_|apply cp (s:=12)|apply ae|refine eU rfl ?_|exact bI|intro _
  have hmi:i≠most:=fun e=>by rw [e] at hm;simp at hm
  have kx:=hr x (List.mem_of_getElem? hx)
  cases hp:p x
  ·rw [io hmi hp] at ha
   rw [hp] at kx
   rw [←ha]
   refine aB h ?_
   clear h
   repeat' first|kernel_rfl|apply Bt.mk|refine nx ?_|apply cp (s:=12)|apply ae|refine eU rfl ?_|exact bI|intro _
  ·rw [jf hmi hp] at ha
   rw [hp] at kx
   refine aB h ?_
   clear h
   repeat' first|kernel_rfl|exact aQ fun _ _ h=>⟨k - 1,by omega,i+1,by omega,ha,h.drop.keep [12,11,10,0,1,2]⟩|apply Bt.mk|refine nx ?_|apply cp (s:=12)|apply ae|refine eU rfl ?_|exact bI|intro _
 ·obtain rfl:i=l.length:=qO
  have hc:decide ((l.length:Int)<(l.length:Int))=false:=decide_eq_false qO
  rw [List.drop_length] at ha
  have ha:(0,0)=brk p most 0 l:=ha
  rw [←ha]
  refine aB h ?_
  clear h
  repeat' first|kernel_rfl|apply Bt.mk|refine nx ?_|apply cp (s:=12)|apply ae|refine eU rfl ?_|exact bI|intro _
theorem y7{l:List (fC)} {p:fC→Bool} (hz:z=(most:Int)) (hr:∀ x∈l,bJ Tryz.prog dk g [0] [.ra bg x] (fun _=> .is (.bool (p x)))):bJ Tryz.prog dk 204 [0,0,0] [.rw bg tt l, .is (.int .i64 z), .fv g [] []] (fun _=> .tup [.is (.int .i64 (brk p most 0 l).1), .is (.int .i64 (brk p most 0 l).2)]):=by
 subst hz
 refine kV fh (fun _ _=>by kernel_rfl) fun hb=> ?_
 refine cr Tryz.func204 Tryz.ntmps204 fun X w0 hE=> ?_
 repeat' first|kernel_rfl|apply Bt.mk|refine nx ?_|apply ae|refine eU rfl ?_|exact bI|intro _
 refine aK fun a w h=> ?_
 refine aD (fun k a u=>∃ i:Nat,i+k=l.length∧brk p most i (l.drop i)=brk p most 0 l∧TS w0 X [] [(12, .is (.int .i64 (i:Int))),(11, .is (.int .i64 (l.length:Int))),(10, .rw bg tt l),(0, .rw bg tt l),(1, .is (.int .i64 (most:Int))),(2, .fv g [] [])] 29 a u) l.length ⟨0,by omega,rfl,h.keep [12,11,10,0,1,2]⟩ ?_
 clear h
 rintro k a u ⟨i,hi,ha,h⟩
 by_cases hlt:i<l.length
 ·obtain ⟨x,hx⟩:∃ x,l[i]? =some x:=⟨_,List.getElem?_eq_getElem hlt⟩
  have hc:decide ((i:Int)<(l.length:Int))=true:=decide_eq_true qO
  have hw:IntKind.i64.wrap ((i:Int)+1)=((i+1:Nat):Int):=ak qO qO
  rw [fb hx] at ha
  cases hm:((i:Int)==(most:Int))
  rotate_left
  ·rw [gb (by have:=eq_of_beq hm;omega)] at ha
   rw [←ha]
   refine aB h ?_
   clear h
   repeat' first|kernel_rfl|apply Bt.mk|refine nx ?_|apply cp (s:=12)|apply ae|refine eU rfl ?_|exact bI|intro _
  have hmi:i≠most:=fun e=>by rw [e] at hm;simp at hm
  have kx:=hr x (List.mem_of_getElem? hx)
  cases hp:p x
  ·rw [io hmi hp] at ha
   rw [hp] at kx
   rw [←ha]
   refine aB h ?_
   clear h
   repeat' first|kernel_rfl|apply Bt.mk|refine nx ?_|apply cp (s:=12)|apply ae|refine eU rfl ?_|exact bI|intro _
  ·rw [jf hmi hp] at ha
   rw [hp] at kx
   refine aB h ?_
   clear h
   repeat' first|kernel_rfl|exact aQ fun _ _ h=>⟨k - 1,by omega,i+1,by omega,ha,h.drop.keep [12,11,10,0,1,2]⟩|apply Bt.mk|refine nx ?_|apply cp (s:=12)|apply ae|refine eU rfl ?_|exact bI|intro _
 ·obtain rfl:i=l.length:=qO
  have hc:decide ((l.length:Int)<(l.length:Int))=false:=decide_eq_false qO
  rw [List.drop_length] at ha
  have ha:(0,0)=brk p most 0 l:=ha
  rw [←ha]
  refine aB h ?_
  clear h
  repeat' first|kernel_rfl|apply Bt.mk|refine nx ?_|apply cp (s:=12)|apply ae|refine eU rfl ?_|exact bI|intro _
instance:eP Tryz.prog 29 1 false:=⟨⟨_,Tryz.underlying29,rfl⟩,by kernel_rfl⟩
instance:v7 Tryz.prog 239:=⟨⟨_,Tryz.underlying239,by kernel_rfl,fun w=>⟨.bool false,by go_simp⟩⟩⟩
theorem AP{v:Value} {l:List (List UInt8)} (hl:l.length≤9223372036854775807) (h:(aa.vs (l.map Tx)).holds X w v):(aa.rw Rp.str tt l).holds X w v:=by
 obtain ⟨b,e,hb,hc⟩:=h
 rw [List.length_map] at e
 refine ⟨fun _ _=>trivial,_,l.length,l.length,by rw [e],rfl,Nat.le_refl _,hl,(fun h=>by cases h),fun _=>⟨b,0,rfl,hb,fun j a ha=>⟨[Tx a],?_,⟨_,rfl,bn a⟩⟩⟩⟩
 intro i u hu
 cases i with
 |zero=>
  have e:Tx a=u:=by simpa using hu
  subst e
  have:=hc j (Tx a) (by rw [List.getElem?_map,ha];rfl)
  simpa [show Rp.str.k=1 from rfl] using this
 |succ i=>simp at hu
theorem ue {a:am} (hf:∀ x∈a.2.2.1,cD 6 x.1∧cD 6 x.2):bJ Tryz.prog dk 142 [0] [.ra ab a] (fun _=> .tup [.is (.int .i64 (brk g9 16 0 a.2.2.1).1), .is (.int .i64 (brk g9 16 0 a.2.2.1).2)]):=by
 have k0:=rE (l:=a.2.2.1) (p:=g9) (most:=16) (z:=16) (g:=189) rfl (fun x hx=>wW (hf x hx))
 refine cr Tryz.func142 Tryz.ntmps142 fun X w hE=> ?_
 repeat' first|kernel_rfl|apply Bt.mk|refine nx ?_|apply ae|refine eU rfl ?_|exact bI|intro _
theorem vV {a:am} (hf:∀ x∈a.2.2.2.2.2.2.2.2.2.2.1,cD 6 x.2.2):bJ Tryz.prog dk 144 [0] [.ra ab a] (fun _=> .tup [.is (.int .i64 (brk ib 64 0 a.2.2.2.2.2.2.2.2.2.2.1).1), .is (.int .i64 (brk ib 64 0 a.2.2.2.2.2.2.2.2.2.2.1).2)]):=by
 have k0:=wa (l:=a.2.2.2.2.2.2.2.2.2.2.1) (p:=ib) (most:=64) (z:=64) (g:=193) rfl (fun x hx=>Cf (hf x hx))
 refine cr Tryz.func144 Tryz.ntmps144 fun X w hE=> ?_
 repeat' first|kernel_rfl|apply Bt.mk|refine nx ?_|apply ae|refine eU rfl ?_|exact bI|intro _
theorem tw {a:am}:bJ Tryz.prog dk 145 [0] [.ra ab a] (fun _=> .tup [.is (.int .i64 (brk cS 256 0 a.2.2.2.2.2.2.2.2.2.2.2.1).1), .is (.int .i64 (brk cS 256 0 a.2.2.2.2.2.2.2.2.2.2.2.1).2)]):=by
 have k0:=nN (l:=a.2.2.2.2.2.2.2.2.2.2.2.1) (p:=cS) (most:=256) (z:=256) (g:=30) rfl (fun x hx=>dN.up)
 refine cr Tryz.func145 Tryz.ntmps145 fun X w hE=> ?_
 repeat' first|kernel_rfl|apply Bt.mk|refine nx ?_|apply ae|refine eU rfl ?_|exact bI|intro _
theorem Cb {a:am}:bJ Tryz.prog dk 146 [0] [.ra ab a] (fun _=> .tup [.is (.int .i64 (brk pJ 40 0 a.2.2.2.2.2.2.2.2.2.2.2.2).1), .is (.int .i64 (brk pJ 40 0 a.2.2.2.2.2.2.2.2.2.2.2.2).2)]):=by
 have k0:=zQ (l:=a.2.2.2.2.2.2.2.2.2.2.2.2) (p:=pJ) (most:=40) (z:=40) (g:=195) rfl (fun x hx=>C6)
 refine cr Tryz.func146 Tryz.ntmps146 fun X w hE=> ?_
 repeat' first|kernel_rfl|apply Bt.mk|refine nx ?_|apply ae|refine eU rfl ?_|exact bI|intro _
theorem Cu {a:a_} (hf:∀ x∈a.2.1,cD 6 x.2.2):bJ Tryz.prog dk 147 [0] [.ra aq a] (fun _=> .tup [.is (.int .i64 (brk j7 4096 0 a.2.1).1), .is (.int .i64 (brk j7 4096 0 a.2.1).2)]):=by
 have k0:=zH (l:=a.2.1) (p:=j7) (most:=4096) (z:=4096) (g:=197) rfl (fun x hx=>DH (hf x hx))
 refine cr Tryz.func147 Tryz.ntmps147 fun X w hE=> ?_
 repeat' first|kernel_rfl|apply Bt.mk|refine nx ?_|apply ae|refine eU rfl ?_|exact bI|intro _
theorem CC {a:a_} (hf:∀ x∈a.2.2.1,cD 6 x.2.2):bJ Tryz.prog dk 148 [0] [.ra aq a] (fun _=> .tup [.is (.int .i64 (brk jZ 4096 0 a.2.2.1).1), .is (.int .i64 (brk jZ 4096 0 a.2.2.1).2)]):=by
 have k0:=yN (l:=a.2.2.1) (p:=jZ) (most:=4096) (z:=4096) (g:=199) rfl (fun x hx=>Dh (hf x hx))
 refine cr Tryz.func148 Tryz.ntmps148 fun X w hE=> ?_
 repeat' first|kernel_rfl|apply Bt.mk|refine nx ?_|apply ae|refine eU rfl ?_|exact bI|intro _
theorem Bi {a:a_} (hf:∀ x∈a.2.2.2.1,cD 6 x.2.2.2.2.2.2):bJ Tryz.prog dk 149 [0] [.ra aq a] (fun _=> .tup [.is (.int .i64 (brk j3 4096 0 a.2.2.2.1).1), .is (.int .i64 (brk j3 4096 0 a.2.2.2.1).2)]):=by
 have k0:=yP (l:=a.2.2.2.1) (p:=j3) (most:=4096) (z:=4096) (g:=201) rfl (fun x hx=>C5 (hf x hx))
 refine cr Tryz.func149 Tryz.ntmps149 fun X w hE=> ?_
 repeat' first|kernel_rfl|apply Bt.mk|refine nx ?_|apply ae|refine eU rfl ?_|exact bI|intro _
theorem zf {a:a_} (hf:∀ x∈a.2.2.2.2.1,cD 6 x.2.1∧cD 6 x.2.2):bJ Tryz.prog dk 150 [0] [.ra aq a] (fun _=> .tup [.is (.int .i64 (brk g_ 4096 0 a.2.2.2.2.1).1), .is (.int .i64 (brk g_ 4096 0 a.2.2.2.2.1).2)]):=by
 have k0:=wm (l:=a.2.2.2.2.1) (p:=g_) (most:=4096) (z:=4096) (g:=203) rfl (fun x hx=>z6 (hf x hx))
 refine cr Tryz.func150 Tryz.ntmps150 fun X w hE=> ?_
 repeat' first|kernel_rfl|apply Bt.mk|refine nx ?_|apply ae|refine eU rfl ?_|exact bI|intro _
theorem Cg {a:a_} (hf:∀ x∈a.2.2.2.2.2,cD 6 x.2):bJ Tryz.prog dk 151 [0] [.ra aq a] (fun _=> .tup [.is (.int .i64 (brk j0 4096 0 a.2.2.2.2.2).1), .is (.int .i64 (brk j0 4096 0 a.2.2.2.2.2).2)]):=by
 have k0:=y7 (l:=a.2.2.2.2.2) (p:=j0) (most:=4096) (z:=4096) (g:=205) rfl (fun x hx=>EG (hf x hx))
 refine cr Tryz.func151 Tryz.ntmps151 fun X w hE=> ?_
 repeat' first|kernel_rfl|apply Bt.mk|refine nx ?_|apply ae|refine eU rfl ?_|exact bI|intro _
theorem AR {a:am}:bJ Tryz.prog dk 141 [0] [.ra ab a] (fun _=> .tup [.is (.int .i64 (brk cS 2 0 [a.1,a.2.1]).1), .is (.int .i64 (brk cS 2 0 [a.1,a.2.1]).2)]):=by
 have k0:bJ Tryz.prog dk 187 [0,0,0] [.vs [Tx a.1,Tx a.2.1], .is (.int .i64 (([Tx a.1,Tx a.2.1]:List Value).length:Int)), .fv 30 [] []] _:=(nN (l:=[a.1,a.2.1]) (p:=cS) (most:=2) (z:=2) (g:=30) rfl (fun x hx=>dN.up)).args fun h=>by
  obtain ⟨v,us,rfl,h,h'⟩:=h.tail
  exact ⟨AP (l:=[a.1,a.2.1]) qE h,h'⟩
 refine cr Tryz.func141 Tryz.ntmps141 fun X w hE=> ?_
 repeat' first|kernel_rfl|apply Bt.mk|refine nx ?_|apply ae|refine eU rfl ?_|exact bI|intro _
theorem yF {l:List Bool} (hb:l.length≤1000):bJ Tryz.prog S1 191 [0,0] [.vs (l.map Value.bool), .is (.bool false)] (fun _=> .is (.int .i64 (ob 0 l))):=by
 refine JC Tryz.func191 rfl Tryz.ntmps191 qE (fun _ _=>by kernel_rfl) fun X w0 hE=> ?_
 simp only [iq,Nat.zero_add,Nat.reduceAdd]
 repeat' first|kernel_rfl|apply bZ|apply b6|apply b_|apply bU|apply b9|apply bO|apply b7|apply bP|apply bW|apply ae|apply bk|apply dt|apply dp|apply bT|refine bc rfl ?_|apply bQ|apply dq|apply dm|apply ii|apply ig|refine ik rfl ?_|apply ij|apply il|apply du|exact bI|intro _
 refine aK fun a w h=> ?_
 refine aD (fun k a u=>∃ i:Nat,i+k=l.length∧ob i (l.drop i)=ob 0 l∧TS w0 X [] [(8, .is (.int .i64 (i:Int))),(7, .is (.int .i64 ((l.map Value.bool).length:Int))),(6, .vs (l.map Value.bool)),(0, .vs (l.map Value.bool)),(1, .is (.bool false))] 19 a u) l.length ⟨0,by omega,rfl,h.keep [8,7,6,0,1]⟩ ?_
 clear h
 rintro k a u ⟨i,hi,ha,h⟩
 have hml:(l.map Value.bool).length=l.length:=List.length_map _
 by_cases hlt:i<l.length
 ·obtain ⟨x,hx⟩:∃ x,l[i]? =some x:=⟨_,List.getElem?_eq_getElem hlt⟩
  have hxv:(l.map Value.bool)[i]? =some (.bool x):=by rw [List.getElem?_map,hx];rfl
  have hc:decide ((i:Int)<((l.map Value.bool).length:Int))=true:=decide_eq_true qO
  have hw:IntKind.i64.wrap ((i:Int)+1)=((i+1:Nat):Int):=ak qO qO
  rw [fb hx] at ha
  cases x
  ·rw [show ob i (false::l.drop (i+1))=(i:Int) from rfl] at ha
   rw [←ha]
   refine aB h ?_
   clear h
   repeat' first|kernel_rfl|apply bZ|apply b6|apply b_|apply cp (s:=8)|apply bU|apply b9|apply bO|apply b7|apply bP|apply bW|apply ae|apply bk|apply dt|apply dp|apply bT|refine bc rfl ?_|apply bQ|apply dq|apply dm|apply ii|apply ig|refine ik rfl ?_|apply ij|apply il|apply du|exact bI|intro _
  ·rw [show ob i (true::l.drop (i+1))=ob (i+1) (l.drop (i+1)) from rfl] at ha
   refine aB h ?_
   clear h
   repeat' first|kernel_rfl|exact aQ fun _ _ h=>⟨k - 1,by omega,i+1,by omega,ha,h.keep [8,7,6,0,1]⟩|apply bZ|apply b6|apply b_|apply cp (s:=8)|apply bU|apply b9|apply bO|apply b7|apply bP|apply bW|apply ae|apply bk|apply dt|apply dp|apply bT|refine bc rfl ?_|apply bQ|apply dq|apply dm|apply ii|apply ig|refine ik rfl ?_|apply ij|apply il|apply du|exact bI|intro _
 ·obtain rfl:i=l.length:=qO
  have hc:decide ((l.length:Int)<((l.map Value.bool).length:Int))=false:=decide_eq_false qO
  rw [List.drop_length] at ha
  have ha:(-1:Int)=ob 0 l:=ha
  rw [←ha]
  refine aB h ?_
  clear h
  repeat' first|kernel_rfl|apply bZ|apply b6|apply b_|apply cp (s:=8)|apply bU|apply b9|apply bO|apply b7|apply bP|apply bW|apply ae|apply bk|apply dt|apply dp|apply bT|refine bc rfl ?_|apply bQ|apply dq|apply dm|apply ii|apply ig|refine ik rfl ?_|apply ij|apply il|apply du|exact bI|intro _
theorem Hf {a:am} (h3:cD 6 a.2.2.2.1) (h4:cD 6 a.2.2.2.2.1) (h7:cD 6 a.2.2.2.2.2.2.2.1) (h8:cD 6 a.2.2.2.2.2.2.2.2.1):bJ Tryz.prog dk 143 [0] [.ra ab a] (fun _=> .tup [.is (.int .i64 (vt a).1), .is (.int .i64 (vt a).2)]):=by
 unfold vt
 have s3:=fg (x:=a.2.2.2.1) (L:=6) qD h3
 have s4:=fg (x:=a.2.2.2.2.1) (L:=6) qD h4
 have s7:=fg (x:=a.2.2.2.2.2.2.2.1) (L:=6) qD h7
 have m8:=gn (x:=a.2.2.2.2.2.2.2.2.1) (L:=6) qD h8
 have ki:bJ Tryz.prog S1 191 [0,0] [.vs [.bool _, .bool _, .bool _, .bool _, .bool _, .bool _, .bool _], .is (.bool false)] _:=yF (l:=qX a) (show (7:Nat)≤1000 by decide)
 cases h0:decide (0≤ob 0 (qX a))
 ·simp only [cond_false]
  refine cr Tryz.func143 Tryz.ntmps143 fun X w hE=> ?_
  repeat' first|kernel_rfl|apply Bt.mk|refine nx ?_|apply aw (id:=1) [] [] 22|apply aG|apply be|apply ae|refine eU rfl ?_|exact sc hE s3|exact sc hE s4|exact sc hE s7|exact sc hE m8|exact sc trivial jN|exact sc trivial ki|exact bI|intro _
 ·simp only [cond_true]
  refine cr Tryz.func143 Tryz.ntmps143 fun X w hE=> ?_
  repeat' first|kernel_rfl|apply Bt.mk|refine nx ?_|apply aw (id:=1) [] [] 22|apply aG|apply be|apply ae|refine eU rfl ?_|exact sc hE s3|exact sc hE s4|exact sc hE s7|exact sc hE m8|exact sc trivial jN|exact sc trivial ki|exact bI|intro _
theorem m6{p a e:Int} {t:List (Int×Int×Int)}:fj yr ((p,a,e)::t)=bif e==0 then fj yr t else ((p,yr,a),e):=rfl
def j_ (l:List (Int×FuncId×Int×Int)):List (Int×Int×Int):=l.map fun x=>(x.1,x.2.2.1,x.2.2.2)
def kt (l:List (Int×FuncId×Int×Int)):List (Int×FuncId):=l.map fun x=>(x.1,x.2.1)
instance:eP Tryz.prog 49 1 false:=⟨⟨_,Tryz.underlying49,rfl⟩,by kernel_rfl⟩
theorem p_:bJ Tryz.prog S1 72 [] [] (fun _=> .rw iO tt [(1,141),(2,142),(3,143),(4,144),(5,145),(6,146)]):=by
 refine cr Tryz.func72 Tryz.ntmps72 fun X w hE=> ?_
 repeat' first|kernel_rfl|apply Bt.mk|refine nx ?_|apply ae|refine bc rfl ?_|exact w_ wV rfl qD qD qD|exact bI|intro _
theorem wP{l:List (Int×FuncId×Int×Int)} {d:am} (hr:∀ x∈l,bJ Tryz.prog dk x.2.1 [0] [.ra ab d] (fun _=> .tup [.is (.int .i64 x.2.2.1), .is (.int .i64 x.2.2.2)])):bJ Tryz.prog dk 71 [0,0,0] [.ra ab d, .is (.int .i64 yr), .rw iO tt (kt l)] (fun _=> .tup [.ra cV (fj yr (j_ l)).1, .is (.int .i64 (fj yr (j_ l)).2)]):=by
 have hml:(kt l).length=l.length:=List.length_map _
 refine kV (F:=(kt l).length≤9223372036854775807) (fun ha=> ?_) (fun _ _=>by kernel_rfl) fun hb=> ?_
 ·obtain ⟨v,us,rfl,_,h⟩:=ha.tail
  obtain ⟨v,us,rfl,_,h⟩:=h.tail
  exact fh h
 refine cr Tryz.func71 Tryz.ntmps71 fun X w0 hE=> ?_
 repeat' first|kernel_rfl|apply Bt.mk|refine nx ?_|apply ae|refine eU rfl ?_|exact bI|intro _
 refine aK fun a w h=> ?_
 rename_i r3 r6
 refine aD (fun k a u=>∃ i:Nat,i+k=l.length∧fj yr (j_ (l.drop i))=fj yr (j_ l)∧TS w0 (r6::r3::X) [(r6, .ra cV oN),(r3, .ra ab d)] [(14, .is (.int .i64 (i:Int))),(13, .is (.int .i64 ((kt l).length:Int))),(12, .rw iO tt (kt l)),(3, .is (.pointer (some ⟨r3,0,none⟩))),(6, .is (.pointer (some ⟨r6,0,none⟩))),(1, .is (.int .i64 yr))] 35 a u) l.length ⟨0,by omega,rfl,h.keep [14,13,12,3,6,1]⟩ ?_
 clear h
 rintro k a u ⟨i,hi,ha,h⟩
 by_cases hlt:i<l.length
 ·obtain ⟨x,hx⟩:∃ x,l[i]? =some x:=⟨_,List.getElem?_eq_getElem hlt⟩
  have hxn:(kt l)[i]? =some (x.1,x.2.1):=by unfold kt;rw [List.getElem?_map,hx];rfl
  have hc:decide ((i:Int)<((kt l).length:Int))=true:=decide_eq_true qO
  have hw:IntKind.i64.wrap ((i:Int)+1)=((i+1:Nat):Int):=ak qO qO
  rw [fb hx,show j_ (x::l.drop (i+1))=(x.1,x.2.2.1,x.2.2.2)::j_ (l.drop (i+1)) from rfl,m6] at ha
  have kx:=hr x (List.mem_of_getElem? hx)
  cases hne:(x.2.2.2 != 0)
  ·have he:(x.2.2.2==0)=true:=by simpa using hne
   rw [he] at ha
   have ha:fj yr (j_ (l.drop (i+1)))=_:=ha
   refine aB h ?_
   clear h
   repeat' first|kernel_rfl|exact aQ fun _ _ h=>⟨k - 1,by omega,i+1,by omega,ha,h.drop.keep [14,13,12,3,6,1]⟩|apply Bt.mk|refine nx ?_|apply cp (s:=14)|apply ae|refine eU rfl ?_|exact bI|intro _
  ·have he:(x.2.2.2==0)=false:=by simpa using hne
   rw [he] at ha
   have ha:((x.1,yr,x.2.2.1),x.2.2.2)=_:=ha
   rw [←show _=fj yr (j_ l) from ha]
   refine aB h ?_
   clear h
   repeat' first|kernel_rfl|apply Bt.mk|refine nx ?_|apply cp (s:=14)|apply ae|refine eU rfl ?_|exact bI|intro _
 ·obtain rfl:i=l.length:=qO
  have hc:decide ((l.length:Int)<((kt l).length:Int))=false:=decide_eq_false qO
  rw [List.drop_length] at ha
  have ha:((0,0,0),0)=fj yr (j_ l):=ha
  rw [←ha]
  refine aB h ?_
  clear h
  repeat' first|kernel_rfl|apply Bt.mk|refine nx ?_|apply cp (s:=14)|apply ae|refine eU rfl ?_|exact bI|intro _
theorem tU:bJ Tryz.prog S1 74 [] [] (fun _=> .rw iO tt [(7,147),(8,148),(9,149),(10,150),(11,151)]):=by
 refine cr Tryz.func74 Tryz.ntmps74 fun X w hE=> ?_
 repeat' first|kernel_rfl|apply Bt.mk|refine nx ?_|apply ae|refine bc rfl ?_|exact w_ AX rfl qD qD qD|exact bI|intro _
theorem z_{l:List (Int×FuncId×Int×Int)} {d:a_} (hr:∀ x∈l,bJ Tryz.prog dk x.2.1 [0] [.ra aq d] (fun _=> .tup [.is (.int .i64 x.2.2.1), .is (.int .i64 x.2.2.2)])):bJ Tryz.prog dk 73 [0,0,0] [.ra aq d, .is (.int .i64 yr), .rw iO tt (kt l)] (fun _=> .tup [.ra cV (fj yr (j_ l)).1, .is (.int .i64 (fj yr (j_ l)).2)]):=by
 have hml:(kt l).length=l.length:=List.length_map _
 refine kV (F:=(kt l).length≤9223372036854775807) (fun ha=> ?_) (fun _ _=>by kernel_rfl) fun hb=> ?_
 ·obtain ⟨v,us,rfl,_,h⟩:=ha.tail
  obtain ⟨v,us,rfl,_,h⟩:=h.tail
  exact fh h
 refine cr Tryz.func73 Tryz.ntmps73 fun X w0 hE=> ?_
 repeat' first|kernel_rfl|apply Bt.mk|refine nx ?_|apply ae|refine eU rfl ?_|exact bI|intro _
 refine aK fun a w h=> ?_
 rename_i r3 r6
 refine aD (fun k a u=>∃ i:Nat,i+k=l.length∧fj yr (j_ (l.drop i))=fj yr (j_ l)∧TS w0 (r6::r3::X) [(r6, .ra cV oN),(r3, .ra aq d)] [(14, .is (.int .i64 (i:Int))),(13, .is (.int .i64 ((kt l).length:Int))),(12, .rw iO tt (kt l)),(3, .is (.pointer (some ⟨r3,0,none⟩))),(6, .is (.pointer (some ⟨r6,0,none⟩))),(1, .is (.int .i64 yr))] 35 a u) l.length ⟨0,by omega,rfl,h.keep [14,13,12,3,6,1]⟩ ?_
 clear h
 rintro k a u ⟨i,hi,ha,h⟩
 by_cases hlt:i<l.length
 ·obtain ⟨x,hx⟩:∃ x,l[i]? =some x:=⟨_,List.getElem?_eq_getElem hlt⟩
  have hxn:(kt l)[i]? =some (x.1,x.2.1):=by unfold kt;rw [List.getElem?_map,hx];rfl
  have hc:decide ((i:Int)<((kt l).length:Int))=true:=decide_eq_true qO
  have hw:IntKind.i64.wrap ((i:Int)+1)=((i+1:Nat):Int):=ak qO qO
  rw [fb hx,show j_ (x::l.drop (i+1))=(x.1,x.2.2.1,x.2.2.2)::j_ (l.drop (i+1)) from rfl,m6] at ha
  have kx:=hr x (List.mem_of_getElem? hx)
  cases hne:(x.2.2.2 != 0)
  ·have he:(x.2.2.2==0)=true:=by simpa using hne
   rw [he] at ha
   have ha:fj yr (j_ (l.drop (i+1)))=_:=ha
   refine aB h ?_
   clear h
   repeat' first|kernel_rfl|exact aQ fun _ _ h=>⟨k - 1,by omega,i+1,by omega,ha,h.drop.keep [14,13,12,3,6,1]⟩|apply Bt.mk|refine nx ?_|apply cp (s:=14)|apply ae|refine eU rfl ?_|exact bI|intro _
  ·have he:(x.2.2.2==0)=false:=by simpa using hne
   rw [he] at ha
   have ha:((x.1,yr,x.2.2.1),x.2.2.2)=_:=ha
   rw [←show _=fj yr (j_ l) from ha]
   refine aB h ?_
   clear h
   repeat' first|kernel_rfl|apply Bt.mk|refine nx ?_|apply cp (s:=14)|apply ae|refine eU rfl ?_|exact bI|intro _
 ·obtain rfl:i=l.length:=qO
  have hc:decide ((l.length:Int)<((kt l).length:Int))=false:=decide_eq_false qO
  rw [List.drop_length] at ha
  have ha:((0,0,0),0)=fj yr (j_ l):=ha
  rw [←ha]
  refine aB h ?_
  clear h
  repeat' first|kernel_rfl|apply Bt.mk|refine nx ?_|apply cp (s:=14)|apply ae|refine eU rfl ?_|exact bI|intro _
theorem rl{y:a_} {t:List a_}:wX i (y::t)=bif (fj (i:Int) (h_ y)).2==0 then wX (i+1) t else fj (i:Int) (h_ y):=rfl
def p5 (y:a_):Prop:=(∀ x∈y.2.1,cD 6 x.2.2)∧(∀ x∈y.2.2.1,cD 6 x.2.2)∧(∀ x∈y.2.2.2.1,cD 6 x.2.2.2.2.2.2)∧(∀ x∈y.2.2.2.2.1,cD 6 x.2.1∧cD 6 x.2.2)∧(∀ x∈y.2.2.2.2.2,cD 6 x.2)
structure sK (d:am):Prop where
 thr:cD 6 d.2.2.2.1
 cap:cD 6 d.2.2.2.2.1
 int:cD 6 d.2.2.2.2.2.2.2.1
 flo:cD 6 d.2.2.2.2.2.2.2.2.1
 brk:∀ x∈d.2.2.1,cD 6 x.1∧cD 6 x.2
 cls:∀ x∈d.2.2.2.2.2.2.2.2.2.2.1,cD 6 x.2.2
 yrs:∀ x∈d.2.2.2.2.2.2.2.2.2.2.2.2,p5 x
theorem uq{d:am} (hf:sK d):bJ Tryz.prog dk 71 [0,0,0] [.ra ab d, .is (.int .i64 yr), .rw iO tt [(1,141),(2,142),(3,143),(4,144),(5,145),(6,146)]] (fun _=> .tup [.ra cV (fj yr (lZ d)).1, .is (.int .i64 (fj yr (lZ d)).2)]):=wP (l:=[(1,141,(brk cS 2 0 [d.1,d.2.1])),(2,142,(brk g9 16 0 d.2.2.1)),(3,143,(vt d)),(4,144,(brk ib 64 0 d.2.2.2.2.2.2.2.2.2.2.1)),(5,145,(brk cS 256 0 d.2.2.2.2.2.2.2.2.2.2.2.1)),(6,146,(brk pJ 40 0 d.2.2.2.2.2.2.2.2.2.2.2.2))]) fun x hx=>by
 simp only [List.mem_cons,List.not_mem_nil,or_false] at hx
 rcases hx with rfl|rfl|rfl|rfl|rfl|rfl
 ·exact AR
 ·exact (ue hf.brk)
 ·exact (Hf hf.thr hf.cap hf.int hf.flo)
 ·exact (vV hf.cls)
 ·exact tw
 ·exact Cb
theorem yb{d:a_} (hf:p5 d):bJ Tryz.prog dk 73 [0,0,0] [.ra aq d, .is (.int .i64 yr), .rw iO tt [(7,147),(8,148),(9,149),(10,150),(11,151)]] (fun _=> .tup [.ra cV (fj yr (h_ d)).1, .is (.int .i64 (fj yr (h_ d)).2)]):=z_ (l:=[(7,147,(brk j7 4096 0 d.2.1)),(8,148,(brk jZ 4096 0 d.2.2.1)),(9,149,(brk j3 4096 0 d.2.2.2.1)),(10,150,(brk g_ 4096 0 d.2.2.2.2.1)),(11,151,(brk j0 4096 0 d.2.2.2.2.2))]) fun x hx=>by
 simp only [List.mem_cons,List.not_mem_nil,or_false] at hx
 rcases hx with rfl|rfl|rfl|rfl|rfl
 ·exact (Cu hf.1)
 ·exact (CC hf.2.1)
 ·exact (Bi hf.2.2.1)
 ·exact (zf hf.2.2.2.1)
 ·exact (Cg hf.2.2.2.2)
theorem FN{α β:Type} {r:Rp α} {r':Rp β} {g:α→List β} {off:Nat} {v:Value} {a:α} [f:a8 r off r'.row g] (h:(aa.ra r a).holds X w v):(g a).length≤9223372036854775807:=by
 obtain ⟨cs,_,hr⟩:=h
 obtain ⟨c1,c2,c3,_,_,h2⟩:=f.ok hr
 obtain ⟨A,n,c,e,h3⟩:=h2
 exact Cd (r:=r') (p:=tt) (v:= .slice A n c) ⟨fun _ _=>trivial,A,n,c,rfl,h3⟩
theorem DV {d:am} (hf:sK d):bJ Tryz.prog dk 28 [0] [.ra ab d] (fun _=> .tup [.ra cV (jF d).1, .is (.int .i64 (jF d).2)]):=by
 refine kV (F:=(d.2.2.2.2.2.2.2.2.2.2.2.2).length≤9223372036854775807) (fun ha=> ?_) (fun _ _=>by kernel_rfl) fun hb=> ?_
 ·obtain ⟨v,rfl,h⟩:=ha.one
  exact FN (r:=ab) (r':=aq) (off:=24) (g:=fun (d:am)=>d.2.2.2.2.2.2.2.2.2.2.2.2) h
 have kF:=uq (yr:= -1) hf
 refine cr Tryz.func28 Tryz.ntmps28 fun X w0 hE=> ?_
 repeat' first|kernel_rfl|apply Bt.mk|refine nx ?_|apply xy (id:=1) [] [] 7 [5]|apply Fn|apply Fq|apply Ir|apply aG|apply be|infer_instance|refine bl rfl bI ?_|refine bj rfl ?_|refine bm rfl ?_|apply ae|refine eU rfl ?_|exact bI|(intro _;simp only[fR,f6,gg,List.map,List.cons_append,List.nil_append])|intro _
 refine aK fun a w h=> ?_
 rename_i r1 r2 rf
 replace h:=h.keep [6,5,4,1,2]
 generalize rf 4=r4 at h
 refine aD (fun k a u=>∃ (i:Nat) (q:I8),i+k=(d.2.2.2.2.2.2.2.2.2.2.2.2).length∧(bif q.2==0 then wX i ((d.2.2.2.2.2.2.2.2.2.2.2.2).drop i) else q)=jF d∧(q.2=0→q=((0,0,0),0))∧TS w0 (r4::r2::r1::X) [(r4, .ra cV q.1),(r2, .ra cV oN),(r1, .ra ab d)] [(6, .is (.int .i64 (i:Int))),(5, .is (.int .i64 q.2)),(4, .is (.pointer (some ⟨r4,0,none⟩))),(1, .is (.pointer (some ⟨r1,0,none⟩))),(2, .is (.pointer (some ⟨r2,0,none⟩)))] 37 a u) (d.2.2.2.2.2.2.2.2.2.2.2.2).length ⟨0,fj (-1) (lZ d),by omega,rfl,mX,h⟩ ?_
 clear h
 rintro k a u ⟨i,q,hi,ha,hz,h⟩
 cases he:(q.2==0)
 ·rw [he] at ha
  have ha:q=jF d:=ha
  rw [←ha]
  refine aB h ?_
  clear h
  repeat' first|kernel_rfl|apply Bt.mk|refine nx ?_|apply aG|apply be|infer_instance|refine bl rfl bI ?_|refine bj rfl ?_|refine bm rfl ?_|apply ae|refine eU rfl ?_|exact bI|intro _
 rw [he] at ha
 have ha:wX i ((d.2.2.2.2.2.2.2.2.2.2.2.2).drop i)=jF d:=ha
 by_cases hlt:i<(d.2.2.2.2.2.2.2.2.2.2.2.2).length
 ·obtain ⟨y,hy⟩:∃ y,(d.2.2.2.2.2.2.2.2.2.2.2.2)[i]? =some y:=⟨_,List.getElem?_eq_getElem hlt⟩
  have hc:decide ((i:Int)<((d.2.2.2.2.2.2.2.2.2.2.2.2).length:Int))=true:=decide_eq_true qO
  have hw:IntKind.i64.wrap ((i:Int)+1)=((i+1:Nat):Int):=ak qO qO
  rw [fb hy,rl] at ha
  have kY:=yb (yr:=(i:Int)) (hf.yrs y (List.mem_of_getElem? hy))
  refine aB h ?_
  clear h
  repeat' first|kernel_rfl|exact aQ fun _ _ h=>⟨k - 1,by omega,i+1,fj (i:Int) (h_ y),by omega,ha,mX,h.keep [6,5,4,1,2]⟩|apply Bt.mk|refine nx ?_|apply xy (id:=5) [] [] 11 [10]|apply Fn|apply Fq|apply Ir|apply aG|apply be|infer_instance|refine bl rfl bI ?_|refine bj rfl ?_|refine bm rfl ?_|apply ae|refine eU rfl ?_|exact bI|(intro _;simp only[fR,f6,gg,List.map,List.cons_append,List.nil_append])|intro _
 ·obtain hil:i=(d.2.2.2.2.2.2.2.2.2.2.2.2).length:=qO
  have hc:decide ((i:Int)<((d.2.2.2.2.2.2.2.2.2.2.2.2).length:Int))=false:=decide_eq_false qO
  rw [hil,List.drop_length] at ha
  have ha:((0,0,0),0)=jF d:=ha
  rw [←hz (eq_of_beq he)] at ha
  rw [←ha]
  refine aB h ?_
  clear h
  repeat' first|kernel_rfl|apply Bt.mk|refine nx ?_|apply aG|apply be|infer_instance|refine bl rfl bI ?_|refine bj rfl ?_|refine bm rfl ?_|apply ae|refine eU rfl ?_|exact bI|intro _
end Go.Proofs.YtjjkikchncfekaaGreatDoor
