/- Package ast: the limits, part by part. -/
import Derived.Test.YtgnggldjjjkogaaGreatDoorGO
set_option maxHeartbeats 4000000
set_option maxRecDepth 20000
set_option synthInstance.maxHeartbeats 400000
set_option synthInstance.maxSize 4000
set_option linter.unusedSimpArgs false
set_option linter.unusedVariables false
namespace Go.Proofs.YtgnggldjjjkogaaGreatDoor
open Go Go.RowKit
theorem Ctr.up {P:Program} {G:World→Prop} {f:FuncId} {ks:List Nat} {As:List VTy} {T:Nat→VTy} (h:Ctr P S1 f ks As T):Ctr P G f ks As T:=⟨h.ent,h.down,fun _ hX ha=>h.run trivial hX ha⟩
theorem rw_maxA {α:Type} {r:Rp α} {p:α→Prop} {X:List Nat} {w:World} {l:List α} {T:List VTy} {vs:List Value} (h:AllH X w (.rw r p l::T) vs):l.length≤9223372036854775807:=by
 obtain ⟨v,us,rfl,h,_⟩:=h.tail
 exact rw_max h
theorem drop_hd {α:Type} {l:List α} {i:Nat} {x:α} (h:l[i]? =some x):l.drop i=x::l.drop (i+1):=by
 obtain ⟨h1,h2⟩:=List.getElem?_eq_some_iff.1 h
 rw [List.drop_eq_getElem_cons h1,h2]
theorem brk_most {α:Type} {p:α→Bool} {most i:Nat} {x:α} {l:List α} (h:i=most):brk p most i (x::l)=((i:Int),3):=by
 unfold brk;rw [if_pos h]
theorem brk_bad {α:Type} {p:α→Bool} {most i:Nat} {x:α} {l:List α} (h:i≠most) (hp:p x=false):brk p most i (x::l)=((i:Int),2):=by
 unfold brk;rw [if_neg h,hp];rfl
theorem brk_go {α:Type} {p:α→Bool} {most i:Nat} {x:α} {l:List α} (h:i≠most) (hp:p x=true):brk p most i (x::l)=brk p most (i+1) l:=by
 rw [brk,if_neg h,hp];rfl
instance:ZeroC Tryz.prog 9 (.is (Tx [])):=⟨⟨Tx [],fun X w=>rfl,fun o ρ w e=>by
 cases o with
 |mk dst op ty pos af gd=>
  have e':op=_:=e
  subst e'
  go_simp⟩⟩
theorem c_bk_string {l:List (List UInt8)} {p:(List UInt8)→Bool} {most:Nat} {z:Int} {g:FuncId} (hz:z=(most:Int)) (hr:∀ x∈l,Ctr Tryz.prog Tab g [0] [.is (Tx x)] (fun _=> .is (.bool (p x)))):Ctr Tryz.prog Tab 183 [0,0,0] [.rw Rp.str tt l, .is (.int .i64 z), .fv g [] []] (fun _=> .tup [.is (.int .i64 (brk p most 0 l).1), .is (.int .i64 (brk p most 0 l).2)]):=by
 subst hz
 refine ctrF rw_maxA (fun _ _=>by kernel_rfl) fun hb=> ?_
 refine ctr Tryz.func183 rfl Tryz.ntmps183 (by simp) (fun _ _=>by kernel_rfl) fun X w0 hE=> ?_
 simp only [argE,Nat.zero_add,Nat.reduceAdd]
 repeat' first|kernel_rfl|apply g_seq|apply g_reg|apply g_nil|apply g_box|apply g_all|apply g_stf|apply g_stw|apply g_sto|apply g_asg|apply g_st|apply g_skip|apply g_ct|apply g_cf|apply g_ret|refine r_2 rfl ?_|apply g_blk|apply g_eb|apply g_ex|apply e_t|apply e_h|refine e_o rfl ?_|apply r_t|apply r_b|apply g_cl|exact st_idxR (by assumption)|exact st_loadR|exact st_loadS|exact st_len'|exact st_add' (by assumption)|exact scv hE kx|exact st_move'|exact st_assign'|exact st_load'|exact st_not' (b:=true) (u:=false) rfl|exact st_not' (b:=false) (u:=true) rfl|exact st_not' rfl|exact st_eq' (by first|assumption|rfl)|exact st_lss' (by first|assumption|rfl)|exact st_len'|exact st_indexAddr' (by assumption)|exact st_loadE'|exact Cv.rfl'|intro _
 refine g_stop fun a w h=> ?_
 refine cw_loop (fun k a u=>∃ i:Nat,i+k=l.length∧brk p most i (l.drop i)=brk p most 0 l∧TS w0 X [] [(12, .is (.int .i64 (i:Int))),(11, .is (.int .i64 (l.length:Int))),(10, .rw Rp.str tt l),(0, .rw Rp.str tt l),(1, .is (.int .i64 (most:Int))),(2, .fv g [] [])] 29 a u) l.length ⟨0,by omega,rfl,h.keep [12,11,10,0,1,2]⟩ ?_
 clear h
 rintro k a u ⟨i,hi,ha,h⟩
 by_cases hlt:i<l.length
 ·obtain ⟨x,hx⟩:∃ x,l[i]? =some x:=⟨_,List.getElem?_eq_getElem hlt⟩
  have hc:decide ((i:Int)<(l.length:Int))=true:=decide_eq_true (by omega)
  have hw:IntKind.i64.wrap ((i:Int)+1)=((i+1:Nat):Int):=i64_small (by omega) (by omega)
  rw [drop_hd hx] at ha
  cases hm:((i:Int)==(most:Int))
  rotate_left
  ·rw [brk_most (by have:=eq_of_beq hm;omega)] at ha
   rw [←ha]
   refine g_of h ?_
   clear h
   repeat' first|kernel_rfl|apply g_seq|apply g_reg|apply g_nil|apply g_mv (s:=12)|apply g_box|apply g_all|apply g_stf|apply g_stw|apply g_sto|apply g_asg|apply g_st|apply g_skip|apply g_ct|apply g_cf|apply g_ret|refine r_2 rfl ?_|apply g_blk|apply g_eb|apply g_ex|apply e_t|apply e_h|refine e_o rfl ?_|apply r_t|apply r_b|apply g_cl|exact st_idxR (by assumption)|exact st_loadR|exact st_loadS|exact st_len'|exact st_add' (by assumption)|exact scv hE kx|exact st_move'|exact st_assign'|exact st_load'|exact st_not' (b:=true) (u:=false) rfl|exact st_not' (b:=false) (u:=true) rfl|exact st_not' rfl|exact st_eq' (by first|assumption|rfl)|exact st_lss' (by first|assumption|rfl)|exact st_len'|exact st_indexAddr' (by assumption)|exact st_loadE'|exact Cv.rfl'|intro _
  have hmi:i≠most:=fun e=>by rw [e] at hm;simp at hm
  have kx:=hr x (List.mem_of_getElem? hx)
  cases hp:p x
  ·rw [brk_bad hmi hp] at ha
   rw [hp] at kx
   rw [←ha]
   refine g_of h ?_
   clear h
   repeat' first|kernel_rfl|apply g_seq|apply g_reg|apply g_nil|apply g_mv (s:=12)|apply g_box|apply g_all|apply g_stf|apply g_stw|apply g_sto|apply g_asg|apply g_st|apply g_skip|apply g_ct|apply g_cf|apply g_ret|refine r_2 rfl ?_|apply g_blk|apply g_eb|apply g_ex|apply e_t|apply e_h|refine e_o rfl ?_|apply r_t|apply r_b|apply g_cl|exact st_idxR (by assumption)|exact st_loadR|exact st_loadS|exact st_len'|exact st_add' (by assumption)|exact scv hE kx|exact st_move'|exact st_assign'|exact st_load'|exact st_not' (b:=true) (u:=false) rfl|exact st_not' (b:=false) (u:=true) rfl|exact st_not' rfl|exact st_eq' (by first|assumption|rfl)|exact st_lss' (by first|assumption|rfl)|exact st_len'|exact st_indexAddr' (by assumption)|exact st_loadE'|exact Cv.rfl'|intro _
  ·rw [brk_go hmi hp] at ha
   rw [hp] at kx
   refine g_of h ?_
   clear h
   repeat' first|kernel_rfl|exact g_done fun _ _ h=>⟨k - 1,by omega,i+1,by omega,ha,h.keep [12,11,10,0,1,2]⟩|apply g_seq|apply g_reg|apply g_nil|apply g_mv (s:=12)|apply g_box|apply g_all|apply g_stf|apply g_stw|apply g_sto|apply g_asg|apply g_st|apply g_skip|apply g_ct|apply g_cf|apply g_ret|refine r_2 rfl ?_|apply g_blk|apply g_eb|apply g_ex|apply e_t|apply e_h|refine e_o rfl ?_|apply r_t|apply r_b|apply g_cl|exact st_idxR (by assumption)|exact st_loadR|exact st_loadS|exact st_len'|exact st_add' (by assumption)|exact scv hE kx|exact st_move'|exact st_assign'|exact st_load'|exact st_not' (b:=true) (u:=false) rfl|exact st_not' (b:=false) (u:=true) rfl|exact st_not' rfl|exact st_eq' (by first|assumption|rfl)|exact st_lss' (by first|assumption|rfl)|exact st_len'|exact st_indexAddr' (by assumption)|exact st_loadE'|exact Cv.rfl'|intro _
 ·obtain rfl:i=l.length:=by omega
  have hc:decide ((l.length:Int)<(l.length:Int))=false:=decide_eq_false (by omega)
  rw [List.drop_length] at ha
  have ha:(0,0)=brk p most 0 l:=ha
  rw [←ha]
  refine g_of h ?_
  clear h
  repeat' first|kernel_rfl|apply g_seq|apply g_reg|apply g_nil|apply g_mv (s:=12)|apply g_box|apply g_all|apply g_stf|apply g_stw|apply g_sto|apply g_asg|apply g_st|apply g_skip|apply g_ct|apply g_cf|apply g_ret|refine r_2 rfl ?_|apply g_blk|apply g_eb|apply g_ex|apply e_t|apply e_h|refine e_o rfl ?_|apply r_t|apply r_b|apply g_cl|exact st_idxR (by assumption)|exact st_loadR|exact st_loadS|exact st_len'|exact st_add' (by assumption)|exact scv hE kx|exact st_move'|exact st_assign'|exact st_load'|exact st_not' (b:=true) (u:=false) rfl|exact st_not' (b:=false) (u:=true) rfl|exact st_not' rfl|exact st_eq' (by first|assumption|rfl)|exact st_lss' (by first|assumption|rfl)|exact st_len'|exact st_indexAddr' (by assumption)|exact st_loadE'|exact Cv.rfl'|intro _
theorem c_bk_Bracket {l:List (TyBracket)} {p:TyBracket→Bool} {most:Nat} {z:Int} {g:FuncId} (hz:z=(most:Int)) (hr:∀ x∈l,Ctr Tryz.prog Tab g [0] [.ra rpBracket x] (fun _=> .is (.bool (p x)))):Ctr Tryz.prog Tab 184 [0,0,0] [.rw rpBracket tt l, .is (.int .i64 z), .fv g [] []] (fun _=> .tup [.is (.int .i64 (brk p most 0 l).1), .is (.int .i64 (brk p most 0 l).2)]):=by
 subst hz
 refine ctrF rw_maxA (fun _ _=>by kernel_rfl) fun hb=> ?_
 refine ctr Tryz.func184 rfl Tryz.ntmps184 (by simp) (fun _ _=>by kernel_rfl) fun X w0 hE=> ?_
 simp only [argE,Nat.zero_add,Nat.reduceAdd]
 repeat' first|kernel_rfl|apply g_seq|apply g_reg|apply g_nil|apply g_box|apply g_all|apply g_stf|apply g_stw|apply g_sto|apply g_asg|apply g_st|apply g_skip|apply g_ct|apply g_cf|apply g_ret|refine r_2 rfl ?_|apply g_blk|apply g_eb|apply g_ex|apply e_t|apply e_h|refine e_o rfl ?_|apply r_t|apply r_b|apply g_cl|exact st_idxR (by assumption)|exact st_loadR|exact st_loadS|exact st_len'|exact st_add' (by assumption)|exact scv hE kx|exact st_move'|exact st_assign'|exact st_load'|exact st_not' (b:=true) (u:=false) rfl|exact st_not' (b:=false) (u:=true) rfl|exact st_not' rfl|exact st_eq' (by first|assumption|rfl)|exact st_lss' (by first|assumption|rfl)|exact st_len'|exact st_indexAddr' (by assumption)|exact st_loadE'|exact Cv.rfl'|intro _
 refine g_stop fun a w h=> ?_
 refine cw_loop (fun k a u=>∃ i:Nat,i+k=l.length∧brk p most i (l.drop i)=brk p most 0 l∧TS w0 X [] [(12, .is (.int .i64 (i:Int))),(11, .is (.int .i64 (l.length:Int))),(10, .rw rpBracket tt l),(0, .rw rpBracket tt l),(1, .is (.int .i64 (most:Int))),(2, .fv g [] [])] 29 a u) l.length ⟨0,by omega,rfl,h.keep [12,11,10,0,1,2]⟩ ?_
 clear h
 rintro k a u ⟨i,hi,ha,h⟩
 by_cases hlt:i<l.length
 ·obtain ⟨x,hx⟩:∃ x,l[i]? =some x:=⟨_,List.getElem?_eq_getElem hlt⟩
  have hc:decide ((i:Int)<(l.length:Int))=true:=decide_eq_true (by omega)
  have hw:IntKind.i64.wrap ((i:Int)+1)=((i+1:Nat):Int):=i64_small (by omega) (by omega)
  rw [drop_hd hx] at ha
  cases hm:((i:Int)==(most:Int))
  rotate_left
  ·rw [brk_most (by have:=eq_of_beq hm;omega)] at ha
   rw [←ha]
   refine g_of h ?_
   clear h
   repeat' first|kernel_rfl|apply g_seq|apply g_reg|apply g_nil|apply g_mv (s:=12)|apply g_box|apply g_all|apply g_stf|apply g_stw|apply g_sto|apply g_asg|apply g_st|apply g_skip|apply g_ct|apply g_cf|apply g_ret|refine r_2 rfl ?_|apply g_blk|apply g_eb|apply g_ex|apply e_t|apply e_h|refine e_o rfl ?_|apply r_t|apply r_b|apply g_cl|exact st_idxR (by assumption)|exact st_loadR|exact st_loadS|exact st_len'|exact st_add' (by assumption)|exact scv hE kx|exact st_move'|exact st_assign'|exact st_load'|exact st_not' (b:=true) (u:=false) rfl|exact st_not' (b:=false) (u:=true) rfl|exact st_not' rfl|exact st_eq' (by first|assumption|rfl)|exact st_lss' (by first|assumption|rfl)|exact st_len'|exact st_indexAddr' (by assumption)|exact st_loadE'|exact Cv.rfl'|intro _
  have hmi:i≠most:=fun e=>by rw [e] at hm;simp at hm
  have kx:=hr x (List.mem_of_getElem? hx)
  cases hp:p x
  ·rw [brk_bad hmi hp] at ha
   rw [hp] at kx
   rw [←ha]
   refine g_of h ?_
   clear h
   repeat' first|kernel_rfl|apply g_seq|apply g_reg|apply g_nil|apply g_mv (s:=12)|apply g_box|apply g_all|apply g_stf|apply g_stw|apply g_sto|apply g_asg|apply g_st|apply g_skip|apply g_ct|apply g_cf|apply g_ret|refine r_2 rfl ?_|apply g_blk|apply g_eb|apply g_ex|apply e_t|apply e_h|refine e_o rfl ?_|apply r_t|apply r_b|apply g_cl|exact st_idxR (by assumption)|exact st_loadR|exact st_loadS|exact st_len'|exact st_add' (by assumption)|exact scv hE kx|exact st_move'|exact st_assign'|exact st_load'|exact st_not' (b:=true) (u:=false) rfl|exact st_not' (b:=false) (u:=true) rfl|exact st_not' rfl|exact st_eq' (by first|assumption|rfl)|exact st_lss' (by first|assumption|rfl)|exact st_len'|exact st_indexAddr' (by assumption)|exact st_loadE'|exact Cv.rfl'|intro _
  ·rw [brk_go hmi hp] at ha
   rw [hp] at kx
   refine g_of h ?_
   clear h
   repeat' first|kernel_rfl|exact g_done fun _ _ h=>⟨k - 1,by omega,i+1,by omega,ha,h.drop.keep [12,11,10,0,1,2]⟩|apply g_seq|apply g_reg|apply g_nil|apply g_mv (s:=12)|apply g_box|apply g_all|apply g_stf|apply g_stw|apply g_sto|apply g_asg|apply g_st|apply g_skip|apply g_ct|apply g_cf|apply g_ret|refine r_2 rfl ?_|apply g_blk|apply g_eb|apply g_ex|apply e_t|apply e_h|refine e_o rfl ?_|apply r_t|apply r_b|apply g_cl|exact st_idxR (by assumption)|exact st_loadR|exact st_loadS|exact st_len'|exact st_add' (by assumption)|exact scv hE kx|exact st_move'|exact st_assign'|exact st_load'|exact st_not' (b:=true) (u:=false) rfl|exact st_not' (b:=false) (u:=true) rfl|exact st_not' rfl|exact st_eq' (by first|assumption|rfl)|exact st_lss' (by first|assumption|rfl)|exact st_len'|exact st_indexAddr' (by assumption)|exact st_loadE'|exact Cv.rfl'|intro _
 ·obtain rfl:i=l.length:=by omega
  have hc:decide ((l.length:Int)<(l.length:Int))=false:=decide_eq_false (by omega)
  rw [List.drop_length] at ha
  have ha:(0,0)=brk p most 0 l:=ha
  rw [←ha]
  refine g_of h ?_
  clear h
  repeat' first|kernel_rfl|apply g_seq|apply g_reg|apply g_nil|apply g_mv (s:=12)|apply g_box|apply g_all|apply g_stf|apply g_stw|apply g_sto|apply g_asg|apply g_st|apply g_skip|apply g_ct|apply g_cf|apply g_ret|refine r_2 rfl ?_|apply g_blk|apply g_eb|apply g_ex|apply e_t|apply e_h|refine e_o rfl ?_|apply r_t|apply r_b|apply g_cl|exact st_idxR (by assumption)|exact st_loadR|exact st_loadS|exact st_len'|exact st_add' (by assumption)|exact scv hE kx|exact st_move'|exact st_assign'|exact st_load'|exact st_not' (b:=true) (u:=false) rfl|exact st_not' (b:=false) (u:=true) rfl|exact st_not' rfl|exact st_eq' (by first|assumption|rfl)|exact st_lss' (by first|assumption|rfl)|exact st_len'|exact st_indexAddr' (by assumption)|exact st_loadE'|exact Cv.rfl'|intro _
theorem c_bk_Class {l:List (TyClass)} {p:TyClass→Bool} {most:Nat} {z:Int} {g:FuncId} (hz:z=(most:Int)) (hr:∀ x∈l,Ctr Tryz.prog Tab g [0] [.ra rpClass x] (fun _=> .is (.bool (p x)))):Ctr Tryz.prog Tab 188 [0,0,0] [.rw rpClass tt l, .is (.int .i64 z), .fv g [] []] (fun _=> .tup [.is (.int .i64 (brk p most 0 l).1), .is (.int .i64 (brk p most 0 l).2)]):=by
 subst hz
 refine ctrF rw_maxA (fun _ _=>by kernel_rfl) fun hb=> ?_
 refine ctr Tryz.func188 rfl Tryz.ntmps188 (by simp) (fun _ _=>by kernel_rfl) fun X w0 hE=> ?_
 simp only [argE,Nat.zero_add,Nat.reduceAdd]
 repeat' first|kernel_rfl|apply g_seq|apply g_reg|apply g_nil|apply g_box|apply g_all|apply g_stf|apply g_stw|apply g_sto|apply g_asg|apply g_st|apply g_skip|apply g_ct|apply g_cf|apply g_ret|refine r_2 rfl ?_|apply g_blk|apply g_eb|apply g_ex|apply e_t|apply e_h|refine e_o rfl ?_|apply r_t|apply r_b|apply g_cl|exact st_idxR (by assumption)|exact st_loadR|exact st_loadS|exact st_len'|exact st_add' (by assumption)|exact scv hE kx|exact st_move'|exact st_assign'|exact st_load'|exact st_not' (b:=true) (u:=false) rfl|exact st_not' (b:=false) (u:=true) rfl|exact st_not' rfl|exact st_eq' (by first|assumption|rfl)|exact st_lss' (by first|assumption|rfl)|exact st_len'|exact st_indexAddr' (by assumption)|exact st_loadE'|exact Cv.rfl'|intro _
 refine g_stop fun a w h=> ?_
 refine cw_loop (fun k a u=>∃ i:Nat,i+k=l.length∧brk p most i (l.drop i)=brk p most 0 l∧TS w0 X [] [(12, .is (.int .i64 (i:Int))),(11, .is (.int .i64 (l.length:Int))),(10, .rw rpClass tt l),(0, .rw rpClass tt l),(1, .is (.int .i64 (most:Int))),(2, .fv g [] [])] 29 a u) l.length ⟨0,by omega,rfl,h.keep [12,11,10,0,1,2]⟩ ?_
 clear h
 rintro k a u ⟨i,hi,ha,h⟩
 by_cases hlt:i<l.length
 ·obtain ⟨x,hx⟩:∃ x,l[i]? =some x:=⟨_,List.getElem?_eq_getElem hlt⟩
  have hc:decide ((i:Int)<(l.length:Int))=true:=decide_eq_true (by omega)
  have hw:IntKind.i64.wrap ((i:Int)+1)=((i+1:Nat):Int):=i64_small (by omega) (by omega)
  rw [drop_hd hx] at ha
  cases hm:((i:Int)==(most:Int))
  rotate_left
  ·rw [brk_most (by have:=eq_of_beq hm;omega)] at ha
   rw [←ha]
   refine g_of h ?_
   clear h
   repeat' first|kernel_rfl|apply g_seq|apply g_reg|apply g_nil|apply g_mv (s:=12)|apply g_box|apply g_all|apply g_stf|apply g_stw|apply g_sto|apply g_asg|apply g_st|apply g_skip|apply g_ct|apply g_cf|apply g_ret|refine r_2 rfl ?_|apply g_blk|apply g_eb|apply g_ex|apply e_t|apply e_h|refine e_o rfl ?_|apply r_t|apply r_b|apply g_cl|exact st_idxR (by assumption)|exact st_loadR|exact st_loadS|exact st_len'|exact st_add' (by assumption)|exact scv hE kx|exact st_move'|exact st_assign'|exact st_load'|exact st_not' (b:=true) (u:=false) rfl|exact st_not' (b:=false) (u:=true) rfl|exact st_not' rfl|exact st_eq' (by first|assumption|rfl)|exact st_lss' (by first|assumption|rfl)|exact st_len'|exact st_indexAddr' (by assumption)|exact st_loadE'|exact Cv.rfl'|intro _
  have hmi:i≠most:=fun e=>by rw [e] at hm;simp at hm
  have kx:=hr x (List.mem_of_getElem? hx)
  cases hp:p x
  ·rw [brk_bad hmi hp] at ha
   rw [hp] at kx
   rw [←ha]
   refine g_of h ?_
   clear h
   repeat' first|kernel_rfl|apply g_seq|apply g_reg|apply g_nil|apply g_mv (s:=12)|apply g_box|apply g_all|apply g_stf|apply g_stw|apply g_sto|apply g_asg|apply g_st|apply g_skip|apply g_ct|apply g_cf|apply g_ret|refine r_2 rfl ?_|apply g_blk|apply g_eb|apply g_ex|apply e_t|apply e_h|refine e_o rfl ?_|apply r_t|apply r_b|apply g_cl|exact st_idxR (by assumption)|exact st_loadR|exact st_loadS|exact st_len'|exact st_add' (by assumption)|exact scv hE kx|exact st_move'|exact st_assign'|exact st_load'|exact st_not' (b:=true) (u:=false) rfl|exact st_not' (b:=false) (u:=true) rfl|exact st_not' rfl|exact st_eq' (by first|assumption|rfl)|exact st_lss' (by first|assumption|rfl)|exact st_len'|exact st_indexAddr' (by assumption)|exact st_loadE'|exact Cv.rfl'|intro _
  ·rw [brk_go hmi hp] at ha
   rw [hp] at kx
   refine g_of h ?_
   clear h
   repeat' first|kernel_rfl|exact g_done fun _ _ h=>⟨k - 1,by omega,i+1,by omega,ha,h.drop.keep [12,11,10,0,1,2]⟩|apply g_seq|apply g_reg|apply g_nil|apply g_mv (s:=12)|apply g_box|apply g_all|apply g_stf|apply g_stw|apply g_sto|apply g_asg|apply g_st|apply g_skip|apply g_ct|apply g_cf|apply g_ret|refine r_2 rfl ?_|apply g_blk|apply g_eb|apply g_ex|apply e_t|apply e_h|refine e_o rfl ?_|apply r_t|apply r_b|apply g_cl|exact st_idxR (by assumption)|exact st_loadR|exact st_loadS|exact st_len'|exact st_add' (by assumption)|exact scv hE kx|exact st_move'|exact st_assign'|exact st_load'|exact st_not' (b:=true) (u:=false) rfl|exact st_not' (b:=false) (u:=true) rfl|exact st_not' rfl|exact st_eq' (by first|assumption|rfl)|exact st_lss' (by first|assumption|rfl)|exact st_len'|exact st_indexAddr' (by assumption)|exact st_loadE'|exact Cv.rfl'|intro _
 ·obtain rfl:i=l.length:=by omega
  have hc:decide ((l.length:Int)<(l.length:Int))=false:=decide_eq_false (by omega)
  rw [List.drop_length] at ha
  have ha:(0,0)=brk p most 0 l:=ha
  rw [←ha]
  refine g_of h ?_
  clear h
  repeat' first|kernel_rfl|apply g_seq|apply g_reg|apply g_nil|apply g_mv (s:=12)|apply g_box|apply g_all|apply g_stf|apply g_stw|apply g_sto|apply g_asg|apply g_st|apply g_skip|apply g_ct|apply g_cf|apply g_ret|refine r_2 rfl ?_|apply g_blk|apply g_eb|apply g_ex|apply e_t|apply e_h|refine e_o rfl ?_|apply r_t|apply r_b|apply g_cl|exact st_idxR (by assumption)|exact st_loadR|exact st_loadS|exact st_len'|exact st_add' (by assumption)|exact scv hE kx|exact st_move'|exact st_assign'|exact st_load'|exact st_not' (b:=true) (u:=false) rfl|exact st_not' (b:=false) (u:=true) rfl|exact st_not' rfl|exact st_eq' (by first|assumption|rfl)|exact st_lss' (by first|assumption|rfl)|exact st_len'|exact st_indexAddr' (by assumption)|exact st_loadE'|exact Cv.rfl'|intro _
theorem c_bk_Year {l:List (TyYear)} {p:TyYear→Bool} {most:Nat} {z:Int} {g:FuncId} (hz:z=(most:Int)) (hr:∀ x∈l,Ctr Tryz.prog Tab g [0] [.ra rpYear x] (fun _=> .is (.bool (p x)))):Ctr Tryz.prog Tab 190 [0,0,0] [.rw rpYear tt l, .is (.int .i64 z), .fv g [] []] (fun _=> .tup [.is (.int .i64 (brk p most 0 l).1), .is (.int .i64 (brk p most 0 l).2)]):=by
 subst hz
 refine ctrF rw_maxA (fun _ _=>by kernel_rfl) fun hb=> ?_
 refine ctr Tryz.func190 rfl Tryz.ntmps190 (by simp) (fun _ _=>by kernel_rfl) fun X w0 hE=> ?_
 simp only [argE,Nat.zero_add,Nat.reduceAdd]
 repeat' first|kernel_rfl|apply g_seq|apply g_reg|apply g_nil|apply g_box|apply g_all|apply g_stf|apply g_stw|apply g_sto|apply g_asg|apply g_st|apply g_skip|apply g_ct|apply g_cf|apply g_ret|refine r_2 rfl ?_|apply g_blk|apply g_eb|apply g_ex|apply e_t|apply e_h|refine e_o rfl ?_|apply r_t|apply r_b|apply g_cl|exact st_idxR (by assumption)|exact st_loadR|exact st_loadS|exact st_len'|exact st_add' (by assumption)|exact scv hE kx|exact st_move'|exact st_assign'|exact st_load'|exact st_not' (b:=true) (u:=false) rfl|exact st_not' (b:=false) (u:=true) rfl|exact st_not' rfl|exact st_eq' (by first|assumption|rfl)|exact st_lss' (by first|assumption|rfl)|exact st_len'|exact st_indexAddr' (by assumption)|exact st_loadE'|exact Cv.rfl'|intro _
 refine g_stop fun a w h=> ?_
 refine cw_loop (fun k a u=>∃ i:Nat,i+k=l.length∧brk p most i (l.drop i)=brk p most 0 l∧TS w0 X [] [(12, .is (.int .i64 (i:Int))),(11, .is (.int .i64 (l.length:Int))),(10, .rw rpYear tt l),(0, .rw rpYear tt l),(1, .is (.int .i64 (most:Int))),(2, .fv g [] [])] 29 a u) l.length ⟨0,by omega,rfl,h.keep [12,11,10,0,1,2]⟩ ?_
 clear h
 rintro k a u ⟨i,hi,ha,h⟩
 by_cases hlt:i<l.length
 ·obtain ⟨x,hx⟩:∃ x,l[i]? =some x:=⟨_,List.getElem?_eq_getElem hlt⟩
  have hc:decide ((i:Int)<(l.length:Int))=true:=decide_eq_true (by omega)
  have hw:IntKind.i64.wrap ((i:Int)+1)=((i+1:Nat):Int):=i64_small (by omega) (by omega)
  rw [drop_hd hx] at ha
  cases hm:((i:Int)==(most:Int))
  rotate_left
  ·rw [brk_most (by have:=eq_of_beq hm;omega)] at ha
   rw [←ha]
   refine g_of h ?_
   clear h
   repeat' first|kernel_rfl|apply g_seq|apply g_reg|apply g_nil|apply g_mv (s:=12)|apply g_box|apply g_all|apply g_stf|apply g_stw|apply g_sto|apply g_asg|apply g_st|apply g_skip|apply g_ct|apply g_cf|apply g_ret|refine r_2 rfl ?_|apply g_blk|apply g_eb|apply g_ex|apply e_t|apply e_h|refine e_o rfl ?_|apply r_t|apply r_b|apply g_cl|exact st_idxR (by assumption)|exact st_loadR|exact st_loadS|exact st_len'|exact st_add' (by assumption)|exact scv hE kx|exact st_move'|exact st_assign'|exact st_load'|exact st_not' (b:=true) (u:=false) rfl|exact st_not' (b:=false) (u:=true) rfl|exact st_not' rfl|exact st_eq' (by first|assumption|rfl)|exact st_lss' (by first|assumption|rfl)|exact st_len'|exact st_indexAddr' (by assumption)|exact st_loadE'|exact Cv.rfl'|intro _
  have hmi:i≠most:=fun e=>by rw [e] at hm;simp at hm
  have kx:=hr x (List.mem_of_getElem? hx)
  cases hp:p x
  ·rw [brk_bad hmi hp] at ha
   rw [hp] at kx
   rw [←ha]
   refine g_of h ?_
   clear h
   repeat' first|kernel_rfl|apply g_seq|apply g_reg|apply g_nil|apply g_mv (s:=12)|apply g_box|apply g_all|apply g_stf|apply g_stw|apply g_sto|apply g_asg|apply g_st|apply g_skip|apply g_ct|apply g_cf|apply g_ret|refine r_2 rfl ?_|apply g_blk|apply g_eb|apply g_ex|apply e_t|apply e_h|refine e_o rfl ?_|apply r_t|apply r_b|apply g_cl|exact st_idxR (by assumption)|exact st_loadR|exact st_loadS|exact st_len'|exact st_add' (by assumption)|exact scv hE kx|exact st_move'|exact st_assign'|exact st_load'|exact st_not' (b:=true) (u:=false) rfl|exact st_not' (b:=false) (u:=true) rfl|exact st_not' rfl|exact st_eq' (by first|assumption|rfl)|exact st_lss' (by first|assumption|rfl)|exact st_len'|exact st_indexAddr' (by assumption)|exact st_loadE'|exact Cv.rfl'|intro _
  ·rw [brk_go hmi hp] at ha
   rw [hp] at kx
   refine g_of h ?_
   clear h
   repeat' first|kernel_rfl|exact g_done fun _ _ h=>⟨k - 1,by omega,i+1,by omega,ha,h.drop.keep [12,11,10,0,1,2]⟩|apply g_seq|apply g_reg|apply g_nil|apply g_mv (s:=12)|apply g_box|apply g_all|apply g_stf|apply g_stw|apply g_sto|apply g_asg|apply g_st|apply g_skip|apply g_ct|apply g_cf|apply g_ret|refine r_2 rfl ?_|apply g_blk|apply g_eb|apply g_ex|apply e_t|apply e_h|refine e_o rfl ?_|apply r_t|apply r_b|apply g_cl|exact st_idxR (by assumption)|exact st_loadR|exact st_loadS|exact st_len'|exact st_add' (by assumption)|exact scv hE kx|exact st_move'|exact st_assign'|exact st_load'|exact st_not' (b:=true) (u:=false) rfl|exact st_not' (b:=false) (u:=true) rfl|exact st_not' rfl|exact st_eq' (by first|assumption|rfl)|exact st_lss' (by first|assumption|rfl)|exact st_len'|exact st_indexAddr' (by assumption)|exact st_loadE'|exact Cv.rfl'|intro _
 ·obtain rfl:i=l.length:=by omega
  have hc:decide ((l.length:Int)<(l.length:Int))=false:=decide_eq_false (by omega)
  rw [List.drop_length] at ha
  have ha:(0,0)=brk p most 0 l:=ha
  rw [←ha]
  refine g_of h ?_
  clear h
  repeat' first|kernel_rfl|apply g_seq|apply g_reg|apply g_nil|apply g_mv (s:=12)|apply g_box|apply g_all|apply g_stf|apply g_stw|apply g_sto|apply g_asg|apply g_st|apply g_skip|apply g_ct|apply g_cf|apply g_ret|refine r_2 rfl ?_|apply g_blk|apply g_eb|apply g_ex|apply e_t|apply e_h|refine e_o rfl ?_|apply r_t|apply r_b|apply g_cl|exact st_idxR (by assumption)|exact st_loadR|exact st_loadS|exact st_len'|exact st_add' (by assumption)|exact scv hE kx|exact st_move'|exact st_assign'|exact st_load'|exact st_not' (b:=true) (u:=false) rfl|exact st_not' (b:=false) (u:=true) rfl|exact st_not' rfl|exact st_eq' (by first|assumption|rfl)|exact st_lss' (by first|assumption|rfl)|exact st_len'|exact st_indexAddr' (by assumption)|exact st_loadE'|exact Cv.rfl'|intro _
theorem c_bk_Hold {l:List (TyHold)} {p:TyHold→Bool} {most:Nat} {z:Int} {g:FuncId} (hz:z=(most:Int)) (hr:∀ x∈l,Ctr Tryz.prog Tab g [0] [.ra rpHold x] (fun _=> .is (.bool (p x)))):Ctr Tryz.prog Tab 192 [0,0,0] [.rw rpHold tt l, .is (.int .i64 z), .fv g [] []] (fun _=> .tup [.is (.int .i64 (brk p most 0 l).1), .is (.int .i64 (brk p most 0 l).2)]):=by
 subst hz
 refine ctrF rw_maxA (fun _ _=>by kernel_rfl) fun hb=> ?_
 refine ctr Tryz.func192 rfl Tryz.ntmps192 (by simp) (fun _ _=>by kernel_rfl) fun X w0 hE=> ?_
 simp only [argE,Nat.zero_add,Nat.reduceAdd]
 repeat' first|kernel_rfl|apply g_seq|apply g_reg|apply g_nil|apply g_box|apply g_all|apply g_stf|apply g_stw|apply g_sto|apply g_asg|apply g_st|apply g_skip|apply g_ct|apply g_cf|apply g_ret|refine r_2 rfl ?_|apply g_blk|apply g_eb|apply g_ex|apply e_t|apply e_h|refine e_o rfl ?_|apply r_t|apply r_b|apply g_cl|exact st_idxR (by assumption)|exact st_loadR|exact st_loadS|exact st_len'|exact st_add' (by assumption)|exact scv hE kx|exact st_move'|exact st_assign'|exact st_load'|exact st_not' (b:=true) (u:=false) rfl|exact st_not' (b:=false) (u:=true) rfl|exact st_not' rfl|exact st_eq' (by first|assumption|rfl)|exact st_lss' (by first|assumption|rfl)|exact st_len'|exact st_indexAddr' (by assumption)|exact st_loadE'|exact Cv.rfl'|intro _
 refine g_stop fun a w h=> ?_
 refine cw_loop (fun k a u=>∃ i:Nat,i+k=l.length∧brk p most i (l.drop i)=brk p most 0 l∧TS w0 X [] [(12, .is (.int .i64 (i:Int))),(11, .is (.int .i64 (l.length:Int))),(10, .rw rpHold tt l),(0, .rw rpHold tt l),(1, .is (.int .i64 (most:Int))),(2, .fv g [] [])] 29 a u) l.length ⟨0,by omega,rfl,h.keep [12,11,10,0,1,2]⟩ ?_
 clear h
 rintro k a u ⟨i,hi,ha,h⟩
 by_cases hlt:i<l.length
 ·obtain ⟨x,hx⟩:∃ x,l[i]? =some x:=⟨_,List.getElem?_eq_getElem hlt⟩
  have hc:decide ((i:Int)<(l.length:Int))=true:=decide_eq_true (by omega)
  have hw:IntKind.i64.wrap ((i:Int)+1)=((i+1:Nat):Int):=i64_small (by omega) (by omega)
  rw [drop_hd hx] at ha
  cases hm:((i:Int)==(most:Int))
  rotate_left
  ·rw [brk_most (by have:=eq_of_beq hm;omega)] at ha
   rw [←ha]
   refine g_of h ?_
   clear h
   repeat' first|kernel_rfl|apply g_seq|apply g_reg|apply g_nil|apply g_mv (s:=12)|apply g_box|apply g_all|apply g_stf|apply g_stw|apply g_sto|apply g_asg|apply g_st|apply g_skip|apply g_ct|apply g_cf|apply g_ret|refine r_2 rfl ?_|apply g_blk|apply g_eb|apply g_ex|apply e_t|apply e_h|refine e_o rfl ?_|apply r_t|apply r_b|apply g_cl|exact st_idxR (by assumption)|exact st_loadR|exact st_loadS|exact st_len'|exact st_add' (by assumption)|exact scv hE kx|exact st_move'|exact st_assign'|exact st_load'|exact st_not' (b:=true) (u:=false) rfl|exact st_not' (b:=false) (u:=true) rfl|exact st_not' rfl|exact st_eq' (by first|assumption|rfl)|exact st_lss' (by first|assumption|rfl)|exact st_len'|exact st_indexAddr' (by assumption)|exact st_loadE'|exact Cv.rfl'|intro _
  have hmi:i≠most:=fun e=>by rw [e] at hm;simp at hm
  have kx:=hr x (List.mem_of_getElem? hx)
  cases hp:p x
  ·rw [brk_bad hmi hp] at ha
   rw [hp] at kx
   rw [←ha]
   refine g_of h ?_
   clear h
   repeat' first|kernel_rfl|apply g_seq|apply g_reg|apply g_nil|apply g_mv (s:=12)|apply g_box|apply g_all|apply g_stf|apply g_stw|apply g_sto|apply g_asg|apply g_st|apply g_skip|apply g_ct|apply g_cf|apply g_ret|refine r_2 rfl ?_|apply g_blk|apply g_eb|apply g_ex|apply e_t|apply e_h|refine e_o rfl ?_|apply r_t|apply r_b|apply g_cl|exact st_idxR (by assumption)|exact st_loadR|exact st_loadS|exact st_len'|exact st_add' (by assumption)|exact scv hE kx|exact st_move'|exact st_assign'|exact st_load'|exact st_not' (b:=true) (u:=false) rfl|exact st_not' (b:=false) (u:=true) rfl|exact st_not' rfl|exact st_eq' (by first|assumption|rfl)|exact st_lss' (by first|assumption|rfl)|exact st_len'|exact st_indexAddr' (by assumption)|exact st_loadE'|exact Cv.rfl'|intro _
  ·rw [brk_go hmi hp] at ha
   rw [hp] at kx
   refine g_of h ?_
   clear h
   repeat' first|kernel_rfl|exact g_done fun _ _ h=>⟨k - 1,by omega,i+1,by omega,ha,h.drop.keep [12,11,10,0,1,2]⟩|apply g_seq|apply g_reg|apply g_nil|apply g_mv (s:=12)|apply g_box|apply g_all|apply g_stf|apply g_stw|apply g_sto|apply g_asg|apply g_st|apply g_skip|apply g_ct|apply g_cf|apply g_ret|refine r_2 rfl ?_|apply g_blk|apply g_eb|apply g_ex|apply e_t|apply e_h|refine e_o rfl ?_|apply r_t|apply r_b|apply g_cl|exact st_idxR (by assumption)|exact st_loadR|exact st_loadS|exact st_len'|exact st_add' (by assumption)|exact scv hE kx|exact st_move'|exact st_assign'|exact st_load'|exact st_not' (b:=true) (u:=false) rfl|exact st_not' (b:=false) (u:=true) rfl|exact st_not' rfl|exact st_eq' (by first|assumption|rfl)|exact st_lss' (by first|assumption|rfl)|exact st_len'|exact st_indexAddr' (by assumption)|exact st_loadE'|exact Cv.rfl'|intro _
 ·obtain rfl:i=l.length:=by omega
  have hc:decide ((l.length:Int)<(l.length:Int))=false:=decide_eq_false (by omega)
  rw [List.drop_length] at ha
  have ha:(0,0)=brk p most 0 l:=ha
  rw [←ha]
  refine g_of h ?_
  clear h
  repeat' first|kernel_rfl|apply g_seq|apply g_reg|apply g_nil|apply g_mv (s:=12)|apply g_box|apply g_all|apply g_stf|apply g_stw|apply g_sto|apply g_asg|apply g_st|apply g_skip|apply g_ct|apply g_cf|apply g_ret|refine r_2 rfl ?_|apply g_blk|apply g_eb|apply g_ex|apply e_t|apply e_h|refine e_o rfl ?_|apply r_t|apply r_b|apply g_cl|exact st_idxR (by assumption)|exact st_loadR|exact st_loadS|exact st_len'|exact st_add' (by assumption)|exact scv hE kx|exact st_move'|exact st_assign'|exact st_load'|exact st_not' (b:=true) (u:=false) rfl|exact st_not' (b:=false) (u:=true) rfl|exact st_not' rfl|exact st_eq' (by first|assumption|rfl)|exact st_lss' (by first|assumption|rfl)|exact st_len'|exact st_indexAddr' (by assumption)|exact st_loadE'|exact Cv.rfl'|intro _
theorem c_bk_Book {l:List (TyBook)} {p:TyBook→Bool} {most:Nat} {z:Int} {g:FuncId} (hz:z=(most:Int)) (hr:∀ x∈l,Ctr Tryz.prog Tab g [0] [.ra rpBook x] (fun _=> .is (.bool (p x)))):Ctr Tryz.prog Tab 194 [0,0,0] [.rw rpBook tt l, .is (.int .i64 z), .fv g [] []] (fun _=> .tup [.is (.int .i64 (brk p most 0 l).1), .is (.int .i64 (brk p most 0 l).2)]):=by
 subst hz
 refine ctrF rw_maxA (fun _ _=>by kernel_rfl) fun hb=> ?_
 refine ctr Tryz.func194 rfl Tryz.ntmps194 (by simp) (fun _ _=>by kernel_rfl) fun X w0 hE=> ?_
 simp only [argE,Nat.zero_add,Nat.reduceAdd]
 repeat' first|kernel_rfl|apply g_seq|apply g_reg|apply g_nil|apply g_box|apply g_all|apply g_stf|apply g_stw|apply g_sto|apply g_asg|apply g_st|apply g_skip|apply g_ct|apply g_cf|apply g_ret|refine r_2 rfl ?_|apply g_blk|apply g_eb|apply g_ex|apply e_t|apply e_h|refine e_o rfl ?_|apply r_t|apply r_b|apply g_cl|exact st_idxR (by assumption)|exact st_loadR|exact st_loadS|exact st_len'|exact st_add' (by assumption)|exact scv hE kx|exact st_move'|exact st_assign'|exact st_load'|exact st_not' (b:=true) (u:=false) rfl|exact st_not' (b:=false) (u:=true) rfl|exact st_not' rfl|exact st_eq' (by first|assumption|rfl)|exact st_lss' (by first|assumption|rfl)|exact st_len'|exact st_indexAddr' (by assumption)|exact st_loadE'|exact Cv.rfl'|intro _
 refine g_stop fun a w h=> ?_
 refine cw_loop (fun k a u=>∃ i:Nat,i+k=l.length∧brk p most i (l.drop i)=brk p most 0 l∧TS w0 X [] [(12, .is (.int .i64 (i:Int))),(11, .is (.int .i64 (l.length:Int))),(10, .rw rpBook tt l),(0, .rw rpBook tt l),(1, .is (.int .i64 (most:Int))),(2, .fv g [] [])] 29 a u) l.length ⟨0,by omega,rfl,h.keep [12,11,10,0,1,2]⟩ ?_
 clear h
 rintro k a u ⟨i,hi,ha,h⟩
 by_cases hlt:i<l.length
 ·obtain ⟨x,hx⟩:∃ x,l[i]? =some x:=⟨_,List.getElem?_eq_getElem hlt⟩
  have hc:decide ((i:Int)<(l.length:Int))=true:=decide_eq_true (by omega)
  have hw:IntKind.i64.wrap ((i:Int)+1)=((i+1:Nat):Int):=i64_small (by omega) (by omega)
  rw [drop_hd hx] at ha
  cases hm:((i:Int)==(most:Int))
  rotate_left
  ·rw [brk_most (by have:=eq_of_beq hm;omega)] at ha
   rw [←ha]
   refine g_of h ?_
   clear h
   repeat' first|kernel_rfl|apply g_seq|apply g_reg|apply g_nil|apply g_mv (s:=12)|apply g_box|apply g_all|apply g_stf|apply g_stw|apply g_sto|apply g_asg|apply g_st|apply g_skip|apply g_ct|apply g_cf|apply g_ret|refine r_2 rfl ?_|apply g_blk|apply g_eb|apply g_ex|apply e_t|apply e_h|refine e_o rfl ?_|apply r_t|apply r_b|apply g_cl|exact st_idxR (by assumption)|exact st_loadR|exact st_loadS|exact st_len'|exact st_add' (by assumption)|exact scv hE kx|exact st_move'|exact st_assign'|exact st_load'|exact st_not' (b:=true) (u:=false) rfl|exact st_not' (b:=false) (u:=true) rfl|exact st_not' rfl|exact st_eq' (by first|assumption|rfl)|exact st_lss' (by first|assumption|rfl)|exact st_len'|exact st_indexAddr' (by assumption)|exact st_loadE'|exact Cv.rfl'|intro _
  have hmi:i≠most:=fun e=>by rw [e] at hm;simp at hm
  have kx:=hr x (List.mem_of_getElem? hx)
  cases hp:p x
  ·rw [brk_bad hmi hp] at ha
   rw [hp] at kx
   rw [←ha]
   refine g_of h ?_
   clear h
   repeat' first|kernel_rfl|apply g_seq|apply g_reg|apply g_nil|apply g_mv (s:=12)|apply g_box|apply g_all|apply g_stf|apply g_stw|apply g_sto|apply g_asg|apply g_st|apply g_skip|apply g_ct|apply g_cf|apply g_ret|refine r_2 rfl ?_|apply g_blk|apply g_eb|apply g_ex|apply e_t|apply e_h|refine e_o rfl ?_|apply r_t|apply r_b|apply g_cl|exact st_idxR (by assumption)|exact st_loadR|exact st_loadS|exact st_len'|exact st_add' (by assumption)|exact scv hE kx|exact st_move'|exact st_assign'|exact st_load'|exact st_not' (b:=true) (u:=false) rfl|exact st_not' (b:=false) (u:=true) rfl|exact st_not' rfl|exact st_eq' (by first|assumption|rfl)|exact st_lss' (by first|assumption|rfl)|exact st_len'|exact st_indexAddr' (by assumption)|exact st_loadE'|exact Cv.rfl'|intro _
  ·rw [brk_go hmi hp] at ha
   rw [hp] at kx
   refine g_of h ?_
   clear h
   repeat' first|kernel_rfl|exact g_done fun _ _ h=>⟨k - 1,by omega,i+1,by omega,ha,h.drop.keep [12,11,10,0,1,2]⟩|apply g_seq|apply g_reg|apply g_nil|apply g_mv (s:=12)|apply g_box|apply g_all|apply g_stf|apply g_stw|apply g_sto|apply g_asg|apply g_st|apply g_skip|apply g_ct|apply g_cf|apply g_ret|refine r_2 rfl ?_|apply g_blk|apply g_eb|apply g_ex|apply e_t|apply e_h|refine e_o rfl ?_|apply r_t|apply r_b|apply g_cl|exact st_idxR (by assumption)|exact st_loadR|exact st_loadS|exact st_len'|exact st_add' (by assumption)|exact scv hE kx|exact st_move'|exact st_assign'|exact st_load'|exact st_not' (b:=true) (u:=false) rfl|exact st_not' (b:=false) (u:=true) rfl|exact st_not' rfl|exact st_eq' (by first|assumption|rfl)|exact st_lss' (by first|assumption|rfl)|exact st_len'|exact st_indexAddr' (by assumption)|exact st_loadE'|exact Cv.rfl'|intro _
 ·obtain rfl:i=l.length:=by omega
  have hc:decide ((l.length:Int)<(l.length:Int))=false:=decide_eq_false (by omega)
  rw [List.drop_length] at ha
  have ha:(0,0)=brk p most 0 l:=ha
  rw [←ha]
  refine g_of h ?_
  clear h
  repeat' first|kernel_rfl|apply g_seq|apply g_reg|apply g_nil|apply g_mv (s:=12)|apply g_box|apply g_all|apply g_stf|apply g_stw|apply g_sto|apply g_asg|apply g_st|apply g_skip|apply g_ct|apply g_cf|apply g_ret|refine r_2 rfl ?_|apply g_blk|apply g_eb|apply g_ex|apply e_t|apply e_h|refine e_o rfl ?_|apply r_t|apply r_b|apply g_cl|exact st_idxR (by assumption)|exact st_loadR|exact st_loadS|exact st_len'|exact st_add' (by assumption)|exact scv hE kx|exact st_move'|exact st_assign'|exact st_load'|exact st_not' (b:=true) (u:=false) rfl|exact st_not' (b:=false) (u:=true) rfl|exact st_not' rfl|exact st_eq' (by first|assumption|rfl)|exact st_lss' (by first|assumption|rfl)|exact st_len'|exact st_indexAddr' (by assumption)|exact st_loadE'|exact Cv.rfl'|intro _
theorem c_bk_Deal {l:List (TyDeal)} {p:TyDeal→Bool} {most:Nat} {z:Int} {g:FuncId} (hz:z=(most:Int)) (hr:∀ x∈l,Ctr Tryz.prog Tab g [0] [.ra rpDeal x] (fun _=> .is (.bool (p x)))):Ctr Tryz.prog Tab 196 [0,0,0] [.rw rpDeal tt l, .is (.int .i64 z), .fv g [] []] (fun _=> .tup [.is (.int .i64 (brk p most 0 l).1), .is (.int .i64 (brk p most 0 l).2)]):=by
 subst hz
 refine ctrF rw_maxA (fun _ _=>by kernel_rfl) fun hb=> ?_
 refine ctr Tryz.func196 rfl Tryz.ntmps196 (by simp) (fun _ _=>by kernel_rfl) fun X w0 hE=> ?_
 simp only [argE,Nat.zero_add,Nat.reduceAdd]
 repeat' first|kernel_rfl|apply g_seq|apply g_reg|apply g_nil|apply g_box|apply g_all|apply g_stf|apply g_stw|apply g_sto|apply g_asg|apply g_st|apply g_skip|apply g_ct|apply g_cf|apply g_ret|refine r_2 rfl ?_|apply g_blk|apply g_eb|apply g_ex|apply e_t|apply e_h|refine e_o rfl ?_|apply r_t|apply r_b|apply g_cl|exact st_idxR (by assumption)|exact st_loadR|exact st_loadS|exact st_len'|exact st_add' (by assumption)|exact scv hE kx|exact st_move'|exact st_assign'|exact st_load'|exact st_not' (b:=true) (u:=false) rfl|exact st_not' (b:=false) (u:=true) rfl|exact st_not' rfl|exact st_eq' (by first|assumption|rfl)|exact st_lss' (by first|assumption|rfl)|exact st_len'|exact st_indexAddr' (by assumption)|exact st_loadE'|exact Cv.rfl'|intro _
 refine g_stop fun a w h=> ?_
 refine cw_loop (fun k a u=>∃ i:Nat,i+k=l.length∧brk p most i (l.drop i)=brk p most 0 l∧TS w0 X [] [(12, .is (.int .i64 (i:Int))),(11, .is (.int .i64 (l.length:Int))),(10, .rw rpDeal tt l),(0, .rw rpDeal tt l),(1, .is (.int .i64 (most:Int))),(2, .fv g [] [])] 29 a u) l.length ⟨0,by omega,rfl,h.keep [12,11,10,0,1,2]⟩ ?_
 clear h
 rintro k a u ⟨i,hi,ha,h⟩
 by_cases hlt:i<l.length
 ·obtain ⟨x,hx⟩:∃ x,l[i]? =some x:=⟨_,List.getElem?_eq_getElem hlt⟩
  have hc:decide ((i:Int)<(l.length:Int))=true:=decide_eq_true (by omega)
  have hw:IntKind.i64.wrap ((i:Int)+1)=((i+1:Nat):Int):=i64_small (by omega) (by omega)
  rw [drop_hd hx] at ha
  cases hm:((i:Int)==(most:Int))
  rotate_left
  ·rw [brk_most (by have:=eq_of_beq hm;omega)] at ha
   rw [←ha]
   refine g_of h ?_
   clear h
   repeat' first|kernel_rfl|apply g_seq|apply g_reg|apply g_nil|apply g_mv (s:=12)|apply g_box|apply g_all|apply g_stf|apply g_stw|apply g_sto|apply g_asg|apply g_st|apply g_skip|apply g_ct|apply g_cf|apply g_ret|refine r_2 rfl ?_|apply g_blk|apply g_eb|apply g_ex|apply e_t|apply e_h|refine e_o rfl ?_|apply r_t|apply r_b|apply g_cl|exact st_idxR (by assumption)|exact st_loadR|exact st_loadS|exact st_len'|exact st_add' (by assumption)|exact scv hE kx|exact st_move'|exact st_assign'|exact st_load'|exact st_not' (b:=true) (u:=false) rfl|exact st_not' (b:=false) (u:=true) rfl|exact st_not' rfl|exact st_eq' (by first|assumption|rfl)|exact st_lss' (by first|assumption|rfl)|exact st_len'|exact st_indexAddr' (by assumption)|exact st_loadE'|exact Cv.rfl'|intro _
  have hmi:i≠most:=fun e=>by rw [e] at hm;simp at hm
  have kx:=hr x (List.mem_of_getElem? hx)
  cases hp:p x
  ·rw [brk_bad hmi hp] at ha
   rw [hp] at kx
   rw [←ha]
   refine g_of h ?_
   clear h
   repeat' first|kernel_rfl|apply g_seq|apply g_reg|apply g_nil|apply g_mv (s:=12)|apply g_box|apply g_all|apply g_stf|apply g_stw|apply g_sto|apply g_asg|apply g_st|apply g_skip|apply g_ct|apply g_cf|apply g_ret|refine r_2 rfl ?_|apply g_blk|apply g_eb|apply g_ex|apply e_t|apply e_h|refine e_o rfl ?_|apply r_t|apply r_b|apply g_cl|exact st_idxR (by assumption)|exact st_loadR|exact st_loadS|exact st_len'|exact st_add' (by assumption)|exact scv hE kx|exact st_move'|exact st_assign'|exact st_load'|exact st_not' (b:=true) (u:=false) rfl|exact st_not' (b:=false) (u:=true) rfl|exact st_not' rfl|exact st_eq' (by first|assumption|rfl)|exact st_lss' (by first|assumption|rfl)|exact st_len'|exact st_indexAddr' (by assumption)|exact st_loadE'|exact Cv.rfl'|intro _
  ·rw [brk_go hmi hp] at ha
   rw [hp] at kx
   refine g_of h ?_
   clear h
   repeat' first|kernel_rfl|exact g_done fun _ _ h=>⟨k - 1,by omega,i+1,by omega,ha,h.drop.keep [12,11,10,0,1,2]⟩|apply g_seq|apply g_reg|apply g_nil|apply g_mv (s:=12)|apply g_box|apply g_all|apply g_stf|apply g_stw|apply g_sto|apply g_asg|apply g_st|apply g_skip|apply g_ct|apply g_cf|apply g_ret|refine r_2 rfl ?_|apply g_blk|apply g_eb|apply g_ex|apply e_t|apply e_h|refine e_o rfl ?_|apply r_t|apply r_b|apply g_cl|exact st_idxR (by assumption)|exact st_loadR|exact st_loadS|exact st_len'|exact st_add' (by assumption)|exact scv hE kx|exact st_move'|exact st_assign'|exact st_load'|exact st_not' (b:=true) (u:=false) rfl|exact st_not' (b:=false) (u:=true) rfl|exact st_not' rfl|exact st_eq' (by first|assumption|rfl)|exact st_lss' (by first|assumption|rfl)|exact st_len'|exact st_indexAddr' (by assumption)|exact st_loadE'|exact Cv.rfl'|intro _
 ·obtain rfl:i=l.length:=by omega
  have hc:decide ((l.length:Int)<(l.length:Int))=false:=decide_eq_false (by omega)
  rw [List.drop_length] at ha
  have ha:(0,0)=brk p most 0 l:=ha
  rw [←ha]
  refine g_of h ?_
  clear h
  repeat' first|kernel_rfl|apply g_seq|apply g_reg|apply g_nil|apply g_mv (s:=12)|apply g_box|apply g_all|apply g_stf|apply g_stw|apply g_sto|apply g_asg|apply g_st|apply g_skip|apply g_ct|apply g_cf|apply g_ret|refine r_2 rfl ?_|apply g_blk|apply g_eb|apply g_ex|apply e_t|apply e_h|refine e_o rfl ?_|apply r_t|apply r_b|apply g_cl|exact st_idxR (by assumption)|exact st_loadR|exact st_loadS|exact st_len'|exact st_add' (by assumption)|exact scv hE kx|exact st_move'|exact st_assign'|exact st_load'|exact st_not' (b:=true) (u:=false) rfl|exact st_not' (b:=false) (u:=true) rfl|exact st_not' rfl|exact st_eq' (by first|assumption|rfl)|exact st_lss' (by first|assumption|rfl)|exact st_len'|exact st_indexAddr' (by assumption)|exact st_loadE'|exact Cv.rfl'|intro _
theorem c_bk_Stock {l:List (TyStock)} {p:TyStock→Bool} {most:Nat} {z:Int} {g:FuncId} (hz:z=(most:Int)) (hr:∀ x∈l,Ctr Tryz.prog Tab g [0] [.ra rpStock x] (fun _=> .is (.bool (p x)))):Ctr Tryz.prog Tab 198 [0,0,0] [.rw rpStock tt l, .is (.int .i64 z), .fv g [] []] (fun _=> .tup [.is (.int .i64 (brk p most 0 l).1), .is (.int .i64 (brk p most 0 l).2)]):=by
 subst hz
 refine ctrF rw_maxA (fun _ _=>by kernel_rfl) fun hb=> ?_
 refine ctr Tryz.func198 rfl Tryz.ntmps198 (by simp) (fun _ _=>by kernel_rfl) fun X w0 hE=> ?_
 simp only [argE,Nat.zero_add,Nat.reduceAdd]
 repeat' first|kernel_rfl|apply g_seq|apply g_reg|apply g_nil|apply g_box|apply g_all|apply g_stf|apply g_stw|apply g_sto|apply g_asg|apply g_st|apply g_skip|apply g_ct|apply g_cf|apply g_ret|refine r_2 rfl ?_|apply g_blk|apply g_eb|apply g_ex|apply e_t|apply e_h|refine e_o rfl ?_|apply r_t|apply r_b|apply g_cl|exact st_idxR (by assumption)|exact st_loadR|exact st_loadS|exact st_len'|exact st_add' (by assumption)|exact scv hE kx|exact st_move'|exact st_assign'|exact st_load'|exact st_not' (b:=true) (u:=false) rfl|exact st_not' (b:=false) (u:=true) rfl|exact st_not' rfl|exact st_eq' (by first|assumption|rfl)|exact st_lss' (by first|assumption|rfl)|exact st_len'|exact st_indexAddr' (by assumption)|exact st_loadE'|exact Cv.rfl'|intro _
 refine g_stop fun a w h=> ?_
 refine cw_loop (fun k a u=>∃ i:Nat,i+k=l.length∧brk p most i (l.drop i)=brk p most 0 l∧TS w0 X [] [(12, .is (.int .i64 (i:Int))),(11, .is (.int .i64 (l.length:Int))),(10, .rw rpStock tt l),(0, .rw rpStock tt l),(1, .is (.int .i64 (most:Int))),(2, .fv g [] [])] 29 a u) l.length ⟨0,by omega,rfl,h.keep [12,11,10,0,1,2]⟩ ?_
 clear h
 rintro k a u ⟨i,hi,ha,h⟩
 by_cases hlt:i<l.length
 ·obtain ⟨x,hx⟩:∃ x,l[i]? =some x:=⟨_,List.getElem?_eq_getElem hlt⟩
  have hc:decide ((i:Int)<(l.length:Int))=true:=decide_eq_true (by omega)
  have hw:IntKind.i64.wrap ((i:Int)+1)=((i+1:Nat):Int):=i64_small (by omega) (by omega)
  rw [drop_hd hx] at ha
  cases hm:((i:Int)==(most:Int))
  rotate_left
  ·rw [brk_most (by have:=eq_of_beq hm;omega)] at ha
   rw [←ha]
   refine g_of h ?_
   clear h
   repeat' first|kernel_rfl|apply g_seq|apply g_reg|apply g_nil|apply g_mv (s:=12)|apply g_box|apply g_all|apply g_stf|apply g_stw|apply g_sto|apply g_asg|apply g_st|apply g_skip|apply g_ct|apply g_cf|apply g_ret|refine r_2 rfl ?_|apply g_blk|apply g_eb|apply g_ex|apply e_t|apply e_h|refine e_o rfl ?_|apply r_t|apply r_b|apply g_cl|exact st_idxR (by assumption)|exact st_loadR|exact st_loadS|exact st_len'|exact st_add' (by assumption)|exact scv hE kx|exact st_move'|exact st_assign'|exact st_load'|exact st_not' (b:=true) (u:=false) rfl|exact st_not' (b:=false) (u:=true) rfl|exact st_not' rfl|exact st_eq' (by first|assumption|rfl)|exact st_lss' (by first|assumption|rfl)|exact st_len'|exact st_indexAddr' (by assumption)|exact st_loadE'|exact Cv.rfl'|intro _
  have hmi:i≠most:=fun e=>by rw [e] at hm;simp at hm
  have kx:=hr x (List.mem_of_getElem? hx)
  cases hp:p x
  ·rw [brk_bad hmi hp] at ha
   rw [hp] at kx
   rw [←ha]
   refine g_of h ?_
   clear h
   repeat' first|kernel_rfl|apply g_seq|apply g_reg|apply g_nil|apply g_mv (s:=12)|apply g_box|apply g_all|apply g_stf|apply g_stw|apply g_sto|apply g_asg|apply g_st|apply g_skip|apply g_ct|apply g_cf|apply g_ret|refine r_2 rfl ?_|apply g_blk|apply g_eb|apply g_ex|apply e_t|apply e_h|refine e_o rfl ?_|apply r_t|apply r_b|apply g_cl|exact st_idxR (by assumption)|exact st_loadR|exact st_loadS|exact st_len'|exact st_add' (by assumption)|exact scv hE kx|exact st_move'|exact st_assign'|exact st_load'|exact st_not' (b:=true) (u:=false) rfl|exact st_not' (b:=false) (u:=true) rfl|exact st_not' rfl|exact st_eq' (by first|assumption|rfl)|exact st_lss' (by first|assumption|rfl)|exact st_len'|exact st_indexAddr' (by assumption)|exact st_loadE'|exact Cv.rfl'|intro _
  ·rw [brk_go hmi hp] at ha
   rw [hp] at kx
   refine g_of h ?_
   clear h
   repeat' first|kernel_rfl|exact g_done fun _ _ h=>⟨k - 1,by omega,i+1,by omega,ha,h.drop.keep [12,11,10,0,1,2]⟩|apply g_seq|apply g_reg|apply g_nil|apply g_mv (s:=12)|apply g_box|apply g_all|apply g_stf|apply g_stw|apply g_sto|apply g_asg|apply g_st|apply g_skip|apply g_ct|apply g_cf|apply g_ret|refine r_2 rfl ?_|apply g_blk|apply g_eb|apply g_ex|apply e_t|apply e_h|refine e_o rfl ?_|apply r_t|apply r_b|apply g_cl|exact st_idxR (by assumption)|exact st_loadR|exact st_loadS|exact st_len'|exact st_add' (by assumption)|exact scv hE kx|exact st_move'|exact st_assign'|exact st_load'|exact st_not' (b:=true) (u:=false) rfl|exact st_not' (b:=false) (u:=true) rfl|exact st_not' rfl|exact st_eq' (by first|assumption|rfl)|exact st_lss' (by first|assumption|rfl)|exact st_len'|exact st_indexAddr' (by assumption)|exact st_loadE'|exact Cv.rfl'|intro _
 ·obtain rfl:i=l.length:=by omega
  have hc:decide ((l.length:Int)<(l.length:Int))=false:=decide_eq_false (by omega)
  rw [List.drop_length] at ha
  have ha:(0,0)=brk p most 0 l:=ha
  rw [←ha]
  refine g_of h ?_
  clear h
  repeat' first|kernel_rfl|apply g_seq|apply g_reg|apply g_nil|apply g_mv (s:=12)|apply g_box|apply g_all|apply g_stf|apply g_stw|apply g_sto|apply g_asg|apply g_st|apply g_skip|apply g_ct|apply g_cf|apply g_ret|refine r_2 rfl ?_|apply g_blk|apply g_eb|apply g_ex|apply e_t|apply e_h|refine e_o rfl ?_|apply r_t|apply r_b|apply g_cl|exact st_idxR (by assumption)|exact st_loadR|exact st_loadS|exact st_len'|exact st_add' (by assumption)|exact scv hE kx|exact st_move'|exact st_assign'|exact st_load'|exact st_not' (b:=true) (u:=false) rfl|exact st_not' (b:=false) (u:=true) rfl|exact st_not' rfl|exact st_eq' (by first|assumption|rfl)|exact st_lss' (by first|assumption|rfl)|exact st_len'|exact st_indexAddr' (by assumption)|exact st_loadE'|exact Cv.rfl'|intro _
theorem c_bk_Sold {l:List (TySold)} {p:TySold→Bool} {most:Nat} {z:Int} {g:FuncId} (hz:z=(most:Int)) (hr:∀ x∈l,Ctr Tryz.prog Tab g [0] [.ra rpSold x] (fun _=> .is (.bool (p x)))):Ctr Tryz.prog Tab 200 [0,0,0] [.rw rpSold tt l, .is (.int .i64 z), .fv g [] []] (fun _=> .tup [.is (.int .i64 (brk p most 0 l).1), .is (.int .i64 (brk p most 0 l).2)]):=by
 subst hz
 refine ctrF rw_maxA (fun _ _=>by kernel_rfl) fun hb=> ?_
 refine ctr Tryz.func200 rfl Tryz.ntmps200 (by simp) (fun _ _=>by kernel_rfl) fun X w0 hE=> ?_
 simp only [argE,Nat.zero_add,Nat.reduceAdd]
 repeat' first|kernel_rfl|apply g_seq|apply g_reg|apply g_nil|apply g_box|apply g_all|apply g_stf|apply g_stw|apply g_sto|apply g_asg|apply g_st|apply g_skip|apply g_ct|apply g_cf|apply g_ret|refine r_2 rfl ?_|apply g_blk|apply g_eb|apply g_ex|apply e_t|apply e_h|refine e_o rfl ?_|apply r_t|apply r_b|apply g_cl|exact st_idxR (by assumption)|exact st_loadR|exact st_loadS|exact st_len'|exact st_add' (by assumption)|exact scv hE kx|exact st_move'|exact st_assign'|exact st_load'|exact st_not' (b:=true) (u:=false) rfl|exact st_not' (b:=false) (u:=true) rfl|exact st_not' rfl|exact st_eq' (by first|assumption|rfl)|exact st_lss' (by first|assumption|rfl)|exact st_len'|exact st_indexAddr' (by assumption)|exact st_loadE'|exact Cv.rfl'|intro _
 refine g_stop fun a w h=> ?_
 refine cw_loop (fun k a u=>∃ i:Nat,i+k=l.length∧brk p most i (l.drop i)=brk p most 0 l∧TS w0 X [] [(12, .is (.int .i64 (i:Int))),(11, .is (.int .i64 (l.length:Int))),(10, .rw rpSold tt l),(0, .rw rpSold tt l),(1, .is (.int .i64 (most:Int))),(2, .fv g [] [])] 29 a u) l.length ⟨0,by omega,rfl,h.keep [12,11,10,0,1,2]⟩ ?_
 clear h
 rintro k a u ⟨i,hi,ha,h⟩
 by_cases hlt:i<l.length
 ·obtain ⟨x,hx⟩:∃ x,l[i]? =some x:=⟨_,List.getElem?_eq_getElem hlt⟩
  have hc:decide ((i:Int)<(l.length:Int))=true:=decide_eq_true (by omega)
  have hw:IntKind.i64.wrap ((i:Int)+1)=((i+1:Nat):Int):=i64_small (by omega) (by omega)
  rw [drop_hd hx] at ha
  cases hm:((i:Int)==(most:Int))
  rotate_left
  ·rw [brk_most (by have:=eq_of_beq hm;omega)] at ha
   rw [←ha]
   refine g_of h ?_
   clear h
   repeat' first|kernel_rfl|apply g_seq|apply g_reg|apply g_nil|apply g_mv (s:=12)|apply g_box|apply g_all|apply g_stf|apply g_stw|apply g_sto|apply g_asg|apply g_st|apply g_skip|apply g_ct|apply g_cf|apply g_ret|refine r_2 rfl ?_|apply g_blk|apply g_eb|apply g_ex|apply e_t|apply e_h|refine e_o rfl ?_|apply r_t|apply r_b|apply g_cl|exact st_idxR (by assumption)|exact st_loadR|exact st_loadS|exact st_len'|exact st_add' (by assumption)|exact scv hE kx|exact st_move'|exact st_assign'|exact st_load'|exact st_not' (b:=true) (u:=false) rfl|exact st_not' (b:=false) (u:=true) rfl|exact st_not' rfl|exact st_eq' (by first|assumption|rfl)|exact st_lss' (by first|assumption|rfl)|exact st_len'|exact st_indexAddr' (by assumption)|exact st_loadE'|exact Cv.rfl'|intro _
  have hmi:i≠most:=fun e=>by rw [e] at hm;simp at hm
  have kx:=hr x (List.mem_of_getElem? hx)
  cases hp:p x
  ·rw [brk_bad hmi hp] at ha
   rw [hp] at kx
   rw [←ha]
   refine g_of h ?_
   clear h
   repeat' first|kernel_rfl|apply g_seq|apply g_reg|apply g_nil|apply g_mv (s:=12)|apply g_box|apply g_all|apply g_stf|apply g_stw|apply g_sto|apply g_asg|apply g_st|apply g_skip|apply g_ct|apply g_cf|apply g_ret|refine r_2 rfl ?_|apply g_blk|apply g_eb|apply g_ex|apply e_t|apply e_h|refine e_o rfl ?_|apply r_t|apply r_b|apply g_cl|exact st_idxR (by assumption)|exact st_loadR|exact st_loadS|exact st_len'|exact st_add' (by assumption)|exact scv hE kx|exact st_move'|exact st_assign'|exact st_load'|exact st_not' (b:=true) (u:=false) rfl|exact st_not' (b:=false) (u:=true) rfl|exact st_not' rfl|exact st_eq' (by first|assumption|rfl)|exact st_lss' (by first|assumption|rfl)|exact st_len'|exact st_indexAddr' (by assumption)|exact st_loadE'|exact Cv.rfl'|intro _
  ·rw [brk_go hmi hp] at ha
   rw [hp] at kx
   refine g_of h ?_
   clear h
   repeat' first|kernel_rfl|exact g_done fun _ _ h=>⟨k - 1,by omega,i+1,by omega,ha,h.drop.keep [12,11,10,0,1,2]⟩|apply g_seq|apply g_reg|apply g_nil|apply g_mv (s:=12)|apply g_box|apply g_all|apply g_stf|apply g_stw|apply g_sto|apply g_asg|apply g_st|apply g_skip|apply g_ct|apply g_cf|apply g_ret|refine r_2 rfl ?_|apply g_blk|apply g_eb|apply g_ex|apply e_t|apply e_h|refine e_o rfl ?_|apply r_t|apply r_b|apply g_cl|exact st_idxR (by assumption)|exact st_loadR|exact st_loadS|exact st_len'|exact st_add' (by assumption)|exact scv hE kx|exact st_move'|exact st_assign'|exact st_load'|exact st_not' (b:=true) (u:=false) rfl|exact st_not' (b:=false) (u:=true) rfl|exact st_not' rfl|exact st_eq' (by first|assumption|rfl)|exact st_lss' (by first|assumption|rfl)|exact st_len'|exact st_indexAddr' (by assumption)|exact st_loadE'|exact Cv.rfl'|intro _
 ·obtain rfl:i=l.length:=by omega
  have hc:decide ((l.length:Int)<(l.length:Int))=false:=decide_eq_false (by omega)
  rw [List.drop_length] at ha
  have ha:(0,0)=brk p most 0 l:=ha
  rw [←ha]
  refine g_of h ?_
  clear h
  repeat' first|kernel_rfl|apply g_seq|apply g_reg|apply g_nil|apply g_mv (s:=12)|apply g_box|apply g_all|apply g_stf|apply g_stw|apply g_sto|apply g_asg|apply g_st|apply g_skip|apply g_ct|apply g_cf|apply g_ret|refine r_2 rfl ?_|apply g_blk|apply g_eb|apply g_ex|apply e_t|apply e_h|refine e_o rfl ?_|apply r_t|apply r_b|apply g_cl|exact st_idxR (by assumption)|exact st_loadR|exact st_loadS|exact st_len'|exact st_add' (by assumption)|exact scv hE kx|exact st_move'|exact st_assign'|exact st_load'|exact st_not' (b:=true) (u:=false) rfl|exact st_not' (b:=false) (u:=true) rfl|exact st_not' rfl|exact st_eq' (by first|assumption|rfl)|exact st_lss' (by first|assumption|rfl)|exact st_len'|exact st_indexAddr' (by assumption)|exact st_loadE'|exact Cv.rfl'|intro _
instance:TyC Tryz.prog 38 1 false:=⟨⟨_,Tryz.underlying38,rfl⟩,by kernel_rfl⟩
instance:RowC Tryz.prog 192:=⟨⟨_,Tryz.underlying192,by kernel_rfl,fun w=>⟨.bool false,by go_simp⟩⟩⟩
theorem vs_rwS {X:List Nat} {w:World} {v:Value} {l:List (List UInt8)} (hl:l.length≤9223372036854775807) (h:(VTy.vs (l.map Tx)).holds X w v):(VTy.rw Rp.str tt l).holds X w v:=by
 obtain ⟨b,e,hb,hc⟩:=h
 rw [List.length_map] at e
 refine ⟨fun _ _=>trivial,_,l.length,l.length,by rw [e],rfl,Nat.le_refl _,hl,(fun h=>by cases h),fun _=>⟨b,0,rfl,hb,fun j a ha=>⟨[Tx a],?_,⟨_,rfl,data_mk a⟩⟩⟩⟩
 intro i u hu
 cases i with
 |zero=>
  have e:Tx a=u:=by simpa using hu
  subst e
  have:=hc j (Tx a) (by rw [List.getElem?_map,ha];rfl)
  simpa [show Rp.str.k=1 from rfl] using this
 |succ i=>simp at hu
theorem c_Fbrackets {a:TyFiling} (hf:∀ x∈a.2.2.1,fewQ 6 x.1∧fewQ 6 x.2):Ctr Tryz.prog Tab 116 [0] [.ra rpFiling a] (fun _=> .tup [.is (.int .i64 (brk brackB 16 0 a.2.2.1).1), .is (.int .i64 (brk brackB 16 0 a.2.2.1).2)]):=by
 have k0:=c_bk_Bracket (l:=a.2.2.1) (p:=brackB) (most:=16) (z:=16) (g:=185) rfl (fun x hx=>c_rBracket (hf x hx))
 refine ctr Tryz.func116 rfl Tryz.ntmps116 (by simp) (fun _ _=>by kernel_rfl) fun X w hE=> ?_
 simp only [argE,Nat.zero_add,Nat.reduceAdd]
 repeat' first|kernel_rfl|apply g_seq|apply g_reg|apply g_nil|apply g_box|apply g_all|apply g_stf|apply g_stw|apply g_sto|apply g_asg|apply g_st|apply g_skip|apply g_ct|apply g_cf|apply g_ret|refine r_2 rfl ?_|apply g_cl|exact sc hE k0|exact st_assign'|exact st_load'|exact st_fieldAddr'|exact st_extract'|exact st_loadE'|exact Cv.rfl'|intro _
theorem c_Fclasses {a:TyFiling} (hf:∀ x∈a.2.2.2.2.2.2.2.2.2.2.1,fewQ 6 x.2.2):Ctr Tryz.prog Tab 118 [0] [.ra rpFiling a] (fun _=> .tup [.is (.int .i64 (brk classB 64 0 a.2.2.2.2.2.2.2.2.2.2.1).1), .is (.int .i64 (brk classB 64 0 a.2.2.2.2.2.2.2.2.2.2.1).2)]):=by
 have k0:=c_bk_Class (l:=a.2.2.2.2.2.2.2.2.2.2.1) (p:=classB) (most:=64) (z:=64) (g:=189) rfl (fun x hx=>c_rClass (hf x hx))
 refine ctr Tryz.func118 rfl Tryz.ntmps118 (by simp) (fun _ _=>by kernel_rfl) fun X w hE=> ?_
 simp only [argE,Nat.zero_add,Nat.reduceAdd]
 repeat' first|kernel_rfl|apply g_seq|apply g_reg|apply g_nil|apply g_box|apply g_all|apply g_stf|apply g_stw|apply g_sto|apply g_asg|apply g_st|apply g_skip|apply g_ct|apply g_cf|apply g_ret|refine r_2 rfl ?_|apply g_cl|exact sc hE k0|exact st_assign'|exact st_load'|exact st_fieldAddr'|exact st_extract'|exact st_loadE'|exact Cv.rfl'|intro _
theorem c_Fentities {a:TyFiling}:Ctr Tryz.prog Tab 119 [0] [.ra rpFiling a] (fun _=> .tup [.is (.int .i64 (brk nameB 256 0 a.2.2.2.2.2.2.2.2.2.2.2.1).1), .is (.int .i64 (brk nameB 256 0 a.2.2.2.2.2.2.2.2.2.2.2.1).2)]):=by
 have k0:=c_bk_string (l:=a.2.2.2.2.2.2.2.2.2.2.2.1) (p:=nameB) (most:=256) (z:=256) (g:=11) rfl (fun x hx=>c_isname.up)
 refine ctr Tryz.func119 rfl Tryz.ntmps119 (by simp) (fun _ _=>by kernel_rfl) fun X w hE=> ?_
 simp only [argE,Nat.zero_add,Nat.reduceAdd]
 repeat' first|kernel_rfl|apply g_seq|apply g_reg|apply g_nil|apply g_box|apply g_all|apply g_stf|apply g_stw|apply g_sto|apply g_asg|apply g_st|apply g_skip|apply g_ct|apply g_cf|apply g_ret|refine r_2 rfl ?_|apply g_cl|exact sc hE k0|exact st_assign'|exact st_load'|exact st_fieldAddr'|exact st_extract'|exact st_loadE'|exact Cv.rfl'|intro _
theorem c_Fyears {a:TyFiling}:Ctr Tryz.prog Tab 120 [0] [.ra rpFiling a] (fun _=> .tup [.is (.int .i64 (brk yearB 40 0 a.2.2.2.2.2.2.2.2.2.2.2.2).1), .is (.int .i64 (brk yearB 40 0 a.2.2.2.2.2.2.2.2.2.2.2.2).2)]):=by
 have k0:=c_bk_Year (l:=a.2.2.2.2.2.2.2.2.2.2.2.2) (p:=yearB) (most:=40) (z:=40) (g:=191) rfl (fun x hx=>c_rYear)
 refine ctr Tryz.func120 rfl Tryz.ntmps120 (by simp) (fun _ _=>by kernel_rfl) fun X w hE=> ?_
 simp only [argE,Nat.zero_add,Nat.reduceAdd]
 repeat' first|kernel_rfl|apply g_seq|apply g_reg|apply g_nil|apply g_box|apply g_all|apply g_stf|apply g_stw|apply g_sto|apply g_asg|apply g_st|apply g_skip|apply g_ct|apply g_cf|apply g_ret|refine r_2 rfl ?_|apply g_cl|exact sc hE k0|exact st_assign'|exact st_load'|exact st_fieldAddr'|exact st_extract'|exact st_loadE'|exact Cv.rfl'|intro _
theorem c_Yholds {a:TyYear} (hf:∀ x∈a.2.1,fewQ 6 x.2.2):Ctr Tryz.prog Tab 121 [0] [.ra rpYear a] (fun _=> .tup [.is (.int .i64 (brk holdB 4096 0 a.2.1).1), .is (.int .i64 (brk holdB 4096 0 a.2.1).2)]):=by
 have k0:=c_bk_Hold (l:=a.2.1) (p:=holdB) (most:=4096) (z:=4096) (g:=193) rfl (fun x hx=>c_rHold (hf x hx))
 refine ctr Tryz.func121 rfl Tryz.ntmps121 (by simp) (fun _ _=>by kernel_rfl) fun X w hE=> ?_
 simp only [argE,Nat.zero_add,Nat.reduceAdd]
 repeat' first|kernel_rfl|apply g_seq|apply g_reg|apply g_nil|apply g_box|apply g_all|apply g_stf|apply g_stw|apply g_sto|apply g_asg|apply g_st|apply g_skip|apply g_ct|apply g_cf|apply g_ret|refine r_2 rfl ?_|apply g_cl|exact sc hE k0|exact st_assign'|exact st_load'|exact st_fieldAddr'|exact st_extract'|exact st_loadE'|exact Cv.rfl'|intro _
theorem c_Ybooks {a:TyYear} (hf:∀ x∈a.2.2.1,fewQ 6 x.2.2):Ctr Tryz.prog Tab 122 [0] [.ra rpYear a] (fun _=> .tup [.is (.int .i64 (brk bookB 4096 0 a.2.2.1).1), .is (.int .i64 (brk bookB 4096 0 a.2.2.1).2)]):=by
 have k0:=c_bk_Book (l:=a.2.2.1) (p:=bookB) (most:=4096) (z:=4096) (g:=195) rfl (fun x hx=>c_rBook (hf x hx))
 refine ctr Tryz.func122 rfl Tryz.ntmps122 (by simp) (fun _ _=>by kernel_rfl) fun X w hE=> ?_
 simp only [argE,Nat.zero_add,Nat.reduceAdd]
 repeat' first|kernel_rfl|apply g_seq|apply g_reg|apply g_nil|apply g_box|apply g_all|apply g_stf|apply g_stw|apply g_sto|apply g_asg|apply g_st|apply g_skip|apply g_ct|apply g_cf|apply g_ret|refine r_2 rfl ?_|apply g_cl|exact sc hE k0|exact st_assign'|exact st_load'|exact st_fieldAddr'|exact st_extract'|exact st_loadE'|exact Cv.rfl'|intro _
theorem c_Ydeals {a:TyYear} (hf:∀ x∈a.2.2.2.1,fewQ 6 x.2.2.2.2.2.2):Ctr Tryz.prog Tab 123 [0] [.ra rpYear a] (fun _=> .tup [.is (.int .i64 (brk dealB 4096 0 a.2.2.2.1).1), .is (.int .i64 (brk dealB 4096 0 a.2.2.2.1).2)]):=by
 have k0:=c_bk_Deal (l:=a.2.2.2.1) (p:=dealB) (most:=4096) (z:=4096) (g:=197) rfl (fun x hx=>c_rDeal (hf x hx))
 refine ctr Tryz.func123 rfl Tryz.ntmps123 (by simp) (fun _ _=>by kernel_rfl) fun X w hE=> ?_
 simp only [argE,Nat.zero_add,Nat.reduceAdd]
 repeat' first|kernel_rfl|apply g_seq|apply g_reg|apply g_nil|apply g_box|apply g_all|apply g_stf|apply g_stw|apply g_sto|apply g_asg|apply g_st|apply g_skip|apply g_ct|apply g_cf|apply g_ret|refine r_2 rfl ?_|apply g_cl|exact sc hE k0|exact st_assign'|exact st_load'|exact st_fieldAddr'|exact st_extract'|exact st_loadE'|exact Cv.rfl'|intro _
theorem c_Ystocks {a:TyYear} (hf:∀ x∈a.2.2.2.2.1,fewQ 6 x.2.1∧fewQ 6 x.2.2):Ctr Tryz.prog Tab 124 [0] [.ra rpYear a] (fun _=> .tup [.is (.int .i64 (brk stockB 4096 0 a.2.2.2.2.1).1), .is (.int .i64 (brk stockB 4096 0 a.2.2.2.2.1).2)]):=by
 have k0:=c_bk_Stock (l:=a.2.2.2.2.1) (p:=stockB) (most:=4096) (z:=4096) (g:=199) rfl (fun x hx=>c_rStock (hf x hx))
 refine ctr Tryz.func124 rfl Tryz.ntmps124 (by simp) (fun _ _=>by kernel_rfl) fun X w hE=> ?_
 simp only [argE,Nat.zero_add,Nat.reduceAdd]
 repeat' first|kernel_rfl|apply g_seq|apply g_reg|apply g_nil|apply g_box|apply g_all|apply g_stf|apply g_stw|apply g_sto|apply g_asg|apply g_st|apply g_skip|apply g_ct|apply g_cf|apply g_ret|refine r_2 rfl ?_|apply g_cl|exact sc hE k0|exact st_assign'|exact st_load'|exact st_fieldAddr'|exact st_extract'|exact st_loadE'|exact Cv.rfl'|intro _
theorem c_Ysolds {a:TyYear} (hf:∀ x∈a.2.2.2.2.2,fewQ 6 x.2):Ctr Tryz.prog Tab 125 [0] [.ra rpYear a] (fun _=> .tup [.is (.int .i64 (brk soldB 4096 0 a.2.2.2.2.2).1), .is (.int .i64 (brk soldB 4096 0 a.2.2.2.2.2).2)]):=by
 have k0:=c_bk_Sold (l:=a.2.2.2.2.2) (p:=soldB) (most:=4096) (z:=4096) (g:=201) rfl (fun x hx=>c_rSold (hf x hx))
 refine ctr Tryz.func125 rfl Tryz.ntmps125 (by simp) (fun _ _=>by kernel_rfl) fun X w hE=> ?_
 simp only [argE,Nat.zero_add,Nat.reduceAdd]
 repeat' first|kernel_rfl|apply g_seq|apply g_reg|apply g_nil|apply g_box|apply g_all|apply g_stf|apply g_stw|apply g_sto|apply g_asg|apply g_st|apply g_skip|apply g_ct|apply g_cf|apply g_ret|refine r_2 rfl ?_|apply g_cl|exact sc hE k0|exact st_assign'|exact st_load'|exact st_fieldAddr'|exact st_extract'|exact st_loadE'|exact Cv.rfl'|intro _
theorem c_Fnames {a:TyFiling}:Ctr Tryz.prog Tab 115 [0] [.ra rpFiling a] (fun _=> .tup [.is (.int .i64 (brk nameB 2 0 [a.1,a.2.1]).1), .is (.int .i64 (brk nameB 2 0 [a.1,a.2.1]).2)]):=by
 have k0:Ctr Tryz.prog Tab 183 [0,0,0] [.vs [Tx a.1,Tx a.2.1], .is (.int .i64 (([Tx a.1,Tx a.2.1]:List Value).length:Int)), .fv 11 [] []] _:=(c_bk_string (l:=[a.1,a.2.1]) (p:=nameB) (most:=2) (z:=2) (g:=11) rfl (fun x hx=>c_isname.up)).args fun h=>by
  obtain ⟨v,us,rfl,h,h'⟩:=h.tail
  exact ⟨vs_rwS (l:=[a.1,a.2.1]) (by simp) h,h'⟩
 refine ctr Tryz.func115 rfl Tryz.ntmps115 (by simp) (fun _ _=>by kernel_rfl) fun X w hE=> ?_
 simp only [argE,Nat.zero_add,Nat.reduceAdd]
 repeat' first|kernel_rfl|apply g_seq|apply g_reg|apply g_nil|apply g_box|apply g_all|apply g_stf|apply g_stw|apply g_sto|apply g_asg|apply g_st|apply g_skip|apply g_ct|apply g_cf|apply g_ret|refine r_2 rfl ?_|apply g_cl|exact sc hE k0|exact st_rowV rfl rfl rfl|exact st_lenV|exact st_move'|exact st_assign'|exact st_load'|exact st_fieldAddr'|exact st_extract'|exact st_len'|exact st_loadE'|exact Cv.rfl'|intro _
theorem c_idxbool {l:List Bool} (hb:l.length≤1000):Ctr Tryz.prog S1 187 [0,0] [.vs (l.map Value.bool), .is (.bool false)] (fun _=> .is (.int .i64 (idxF 0 l))):=by
 refine ctr Tryz.func187 rfl Tryz.ntmps187 (by simp) (fun _ _=>by kernel_rfl) fun X w0 hE=> ?_
 simp only [argE,Nat.zero_add,Nat.reduceAdd]
 repeat' first|kernel_rfl|apply g_seq|apply g_reg|apply g_nil|apply g_box|apply g_all|apply g_stf|apply g_stw|apply g_sto|apply g_asg|apply g_st|apply g_skip|apply g_ct|apply g_cf|apply g_ret|refine r_1 rfl ?_|apply g_blk|apply g_eb|apply g_ex|apply e_t|apply e_h|refine e_o rfl ?_|apply r_t|apply r_b|apply g_cl|exact st_lenV|exact st_idxV (by assumption)|exact st_loadV|exact st_eqB' (by first|assumption|rfl)|exact st_add' (by assumption)|exact st_move'|exact st_assign'|exact st_load'|exact st_eq' (by first|assumption|rfl)|exact st_lss' (by first|assumption|rfl)|exact st_len'|exact st_indexAddr' (by assumption)|exact st_loadE'|exact Cv.rfl'|intro _
 refine g_stop fun a w h=> ?_
 refine cw_loop (fun k a u=>∃ i:Nat,i+k=l.length∧idxF i (l.drop i)=idxF 0 l∧TS w0 X [] [(8, .is (.int .i64 (i:Int))),(7, .is (.int .i64 ((l.map Value.bool).length:Int))),(6, .vs (l.map Value.bool)),(0, .vs (l.map Value.bool)),(1, .is (.bool false))] 19 a u) l.length ⟨0,by omega,rfl,h.keep [8,7,6,0,1]⟩ ?_
 clear h
 rintro k a u ⟨i,hi,ha,h⟩
 have hml:(l.map Value.bool).length=l.length:=List.length_map _
 by_cases hlt:i<l.length
 ·obtain ⟨x,hx⟩:∃ x,l[i]? =some x:=⟨_,List.getElem?_eq_getElem hlt⟩
  have hxv:(l.map Value.bool)[i]? =some (.bool x):=by rw [List.getElem?_map,hx];rfl
  have hc:decide ((i:Int)<((l.map Value.bool).length:Int))=true:=decide_eq_true (by omega)
  have hw:IntKind.i64.wrap ((i:Int)+1)=((i+1:Nat):Int):=i64_small (by omega) (by omega)
  rw [drop_hd hx] at ha
  cases x
  ·rw [show idxF i (false::l.drop (i+1))=(i:Int) from rfl] at ha
   rw [←ha]
   refine g_of h ?_
   clear h
   repeat' first|kernel_rfl|apply g_seq|apply g_reg|apply g_nil|apply g_mv (s:=8)|apply g_box|apply g_all|apply g_stf|apply g_stw|apply g_sto|apply g_asg|apply g_st|apply g_skip|apply g_ct|apply g_cf|apply g_ret|refine r_1 rfl ?_|apply g_blk|apply g_eb|apply g_ex|apply e_t|apply e_h|refine e_o rfl ?_|apply r_t|apply r_b|apply g_cl|exact st_lenV|exact st_idxV (by assumption)|exact st_loadV|exact st_eqB' (by first|assumption|rfl)|exact st_add' (by assumption)|exact st_move'|exact st_assign'|exact st_load'|exact st_eq' (by first|assumption|rfl)|exact st_lss' (by first|assumption|rfl)|exact st_len'|exact st_indexAddr' (by assumption)|exact st_loadE'|exact Cv.rfl'|intro _
  ·rw [show idxF i (true::l.drop (i+1))=idxF (i+1) (l.drop (i+1)) from rfl] at ha
   refine g_of h ?_
   clear h
   repeat' first|kernel_rfl|exact g_done fun _ _ h=>⟨k - 1,by omega,i+1,by omega,ha,h.keep [8,7,6,0,1]⟩|apply g_seq|apply g_reg|apply g_nil|apply g_mv (s:=8)|apply g_box|apply g_all|apply g_stf|apply g_stw|apply g_sto|apply g_asg|apply g_st|apply g_skip|apply g_ct|apply g_cf|apply g_ret|refine r_1 rfl ?_|apply g_blk|apply g_eb|apply g_ex|apply e_t|apply e_h|refine e_o rfl ?_|apply r_t|apply r_b|apply g_cl|exact st_lenV|exact st_idxV (by assumption)|exact st_loadV|exact st_eqB' (by first|assumption|rfl)|exact st_add' (by assumption)|exact st_move'|exact st_assign'|exact st_load'|exact st_eq' (by first|assumption|rfl)|exact st_lss' (by first|assumption|rfl)|exact st_len'|exact st_indexAddr' (by assumption)|exact st_loadE'|exact Cv.rfl'|intro _
 ·obtain rfl:i=l.length:=by omega
  have hc:decide ((l.length:Int)<((l.map Value.bool).length:Int))=false:=decide_eq_false (by omega)
  rw [List.drop_length] at ha
  have ha:(-1:Int)=idxF 0 l:=ha
  rw [←ha]
  refine g_of h ?_
  clear h
  repeat' first|kernel_rfl|apply g_seq|apply g_reg|apply g_nil|apply g_mv (s:=8)|apply g_box|apply g_all|apply g_stf|apply g_stw|apply g_sto|apply g_asg|apply g_st|apply g_skip|apply g_ct|apply g_cf|apply g_ret|refine r_1 rfl ?_|apply g_blk|apply g_eb|apply g_ex|apply e_t|apply e_h|refine e_o rfl ?_|apply r_t|apply r_b|apply g_cl|exact st_lenV|exact st_idxV (by assumption)|exact st_loadV|exact st_eqB' (by first|assumption|rfl)|exact st_add' (by assumption)|exact st_move'|exact st_assign'|exact st_load'|exact st_eq' (by first|assumption|rfl)|exact st_lss' (by first|assumption|rfl)|exact st_len'|exact st_indexAddr' (by assumption)|exact st_loadE'|exact Cv.rfl'|intro _
theorem c_Flaw {a:TyFiling} (h3:fewQ 6 a.2.2.2.1) (h4:fewQ 6 a.2.2.2.2.1) (h7:fewQ 6 a.2.2.2.2.2.2.2.1) (h8:fewQ 6 a.2.2.2.2.2.2.2.2.1):Ctr Tryz.prog Tab 117 [0] [.ra rpFiling a] (fun _=> .tup [.is (.int .i64 (lawB a).1), .is (.int .i64 (lawB a).2)]):=by
 unfold lawB
 have s3:=c_isshare (x:=a.2.2.2.1) (L:=6) (by decide) h3
 have s4:=c_isshare (x:=a.2.2.2.2.1) (L:=6) (by decide) h4
 have s7:=c_isshare (x:=a.2.2.2.2.2.2.2.1) (L:=6) (by decide) h7
 have m8:=c_ismoney (x:=a.2.2.2.2.2.2.2.2.1) (L:=6) (by decide) h8
 have ki:Ctr Tryz.prog S1 187 [0,0] [.vs [.bool _, .bool _, .bool _, .bool _, .bool _, .bool _, .bool _], .is (.bool false)] _:=c_idxbool (l:=keptL a) (show (7:Nat)≤1000 by decide)
 cases h0:decide (0≤idxF 0 (keptL a))
 ·simp only [cond_false]
  refine ctr Tryz.func117 rfl Tryz.ntmps117 (by simp) (fun _ _=>by kernel_rfl) fun X w hE=> ?_
  simp only [argE,Nat.zero_add,Nat.reduceAdd]
  repeat' first|kernel_rfl|apply g_seq|apply g_reg|apply g_nil|apply g_draw (id:=1) [] [] 22|apply o_all|apply o_go|exact OpsT.nil|exact GuardC.nil|exact UndefC.nil|apply g_box|apply g_all|apply g_stf|apply g_stw|apply g_sto|apply g_asg|apply g_st|apply g_skip|apply g_ct|apply g_cf|apply g_ret|refine r_2 rfl ?_|apply g_cl|exact sc hE s3|exact sc hE s4|exact sc hE s7|exact sc hE m8|exact sc trivial c_within_i64|exact sc trivial ki|exact st_rowV rfl rfl rfl|exact st_move'|exact st_assign'|exact st_load'|exact st_fieldAddr'|exact st_geq' (by first|assumption|rfl)|exact st_loadE'|exact Cv.rfl'|(intro _;simp only[newX,newL,ptrs,List.map,List.cons_append,List.nil_append])|intro _
 ·simp only [cond_true]
  refine ctr Tryz.func117 rfl Tryz.ntmps117 (by simp) (fun _ _=>by kernel_rfl) fun X w hE=> ?_
  simp only [argE,Nat.zero_add,Nat.reduceAdd]
  repeat' first|kernel_rfl|apply g_seq|apply g_reg|apply g_nil|apply g_draw (id:=1) [] [] 22|apply o_all|apply o_go|exact OpsT.nil|exact GuardC.nil|exact UndefC.nil|apply g_box|apply g_all|apply g_stf|apply g_stw|apply g_sto|apply g_asg|apply g_st|apply g_skip|apply g_ct|apply g_cf|apply g_ret|refine r_2 rfl ?_|apply g_cl|exact sc hE s3|exact sc hE s4|exact sc hE s7|exact sc hE m8|exact sc trivial c_within_i64|exact sc trivial ki|exact st_rowV rfl rfl rfl|exact st_move'|exact st_assign'|exact st_load'|exact st_fieldAddr'|exact st_geq' (by first|assumption|rfl)|exact st_loadE'|exact Cv.rfl'|(intro _;simp only[newX,newL,ptrs,List.map,List.cons_append,List.nil_append])|intro _
theorem fstB_cons {yr p a e:Int} {t:List (Int×Int×Int)}:fstB yr ((p,a,e)::t)=bif e==0 then fstB yr t else ((p,yr,a),e):=rfl
def ansL (l:List (Int×FuncId×Int×Int)):List (Int×Int×Int):=l.map fun x=>(x.1,x.2.2.1,x.2.2.2)
def numL (l:List (Int×FuncId×Int×Int)):List (Int×FuncId):=l.map fun x=>(x.1,x.2.1)
instance:TyC Tryz.prog 51 1 false:=⟨⟨_,Tryz.underlying51,rfl⟩,by kernel_rfl⟩
theorem c_partsFiling:Ctr Tryz.prog S1 54 [] [] (fun _=> .rw rpNum tt [(1,115),(2,116),(3,117),(4,118),(5,119),(6,120)]):=by
 refine ctr Tryz.func54 rfl Tryz.ntmps54 (by simp) (fun _ _=>by kernel_rfl) fun X w hE=> ?_
 simp only [argE,Nat.zero_add,Nat.reduceAdd]
 repeat' first|kernel_rfl|apply g_seq|apply g_reg|apply g_nil|apply g_box|apply g_all|apply g_stf|apply g_stw|apply g_sto|apply g_asg|apply g_st|apply g_skip|apply g_ct|apply g_cf|apply g_ret|refine r_1 rfl ?_|apply g_cl|exact st_numFiling|exact st_rowS elsnFiling rfl (by decide) (by decide) (by decide)|exact st_assign'|exact Cv.rfl'|intro _
theorem c_fbFiling {l:List (Int×FuncId×Int×Int)} {d:TyFiling} {yr:Int} (hr:∀ x∈l,Ctr Tryz.prog Tab x.2.1 [0] [.ra rpFiling d] (fun _=> .tup [.is (.int .i64 x.2.2.1), .is (.int .i64 x.2.2.2)])):Ctr Tryz.prog Tab 53 [0,0,0] [.ra rpFiling d, .is (.int .i64 yr), .rw rpNum tt (numL l)] (fun _=> .tup [.ra rpPlace (fstB yr (ansL l)).1, .is (.int .i64 (fstB yr (ansL l)).2)]):=by
 have hml:(numL l).length=l.length:=List.length_map _
 refine ctrF (F:=(numL l).length≤9223372036854775807) (fun ha=> ?_) (fun _ _=>by kernel_rfl) fun hb=> ?_
 ·obtain ⟨v,us,rfl,_,h⟩:=ha.tail
  obtain ⟨v,us,rfl,_,h⟩:=h.tail
  exact rw_maxA h
 refine ctr Tryz.func53 rfl Tryz.ntmps53 (by simp) (fun _ _=>by kernel_rfl) fun X w0 hE=> ?_
 simp only [argE,Nat.zero_add,Nat.reduceAdd]
 repeat' first|kernel_rfl|apply g_seq|apply g_reg|apply g_nil|apply g_box|apply g_all|apply g_stf|apply g_stw|apply g_sto|apply g_asg|apply g_st|apply g_skip|apply g_ct|apply g_cf|apply g_ret|refine r_2 rfl ?_|apply g_blk|apply g_eb|apply g_ex|apply e_t|apply e_h|refine e_o rfl ?_|apply r_t|apply r_b|apply g_cl|exact st_idxR (by assumption)|exact st_loadR|exact st_loadS|exact st_len'|exact st_add' (by assumption)|exact scv hE kx|exact st_buildS zero_astPlace|exact st_move'|exact st_assign'|exact st_load'|exact st_fieldAddr'|exact st_extract'|exact st_neq' (by first|assumption|rfl)|exact st_lss' (by first|assumption|rfl)|exact st_len'|exact st_indexAddr' (by assumption)|exact st_loadE'|exact Cv.rfl'|intro _
 refine g_stop fun a w h=> ?_
 rename_i r3 r6
 refine cw_loop (fun k a u=>∃ i:Nat,i+k=l.length∧fstB yr (ansL (l.drop i))=fstB yr (ansL l)∧TS w0 (r6::r3::X) [(r6, .ra rpPlace z0Place),(r3, .ra rpFiling d)] [(14, .is (.int .i64 (i:Int))),(13, .is (.int .i64 ((numL l).length:Int))),(12, .rw rpNum tt (numL l)),(3, .is (.pointer (some ⟨r3,0,none⟩))),(6, .is (.pointer (some ⟨r6,0,none⟩))),(1, .is (.int .i64 yr))] 35 a u) l.length ⟨0,by omega,rfl,h.keep [14,13,12,3,6,1]⟩ ?_
 clear h
 rintro k a u ⟨i,hi,ha,h⟩
 by_cases hlt:i<l.length
 ·obtain ⟨x,hx⟩:∃ x,l[i]? =some x:=⟨_,List.getElem?_eq_getElem hlt⟩
  have hxn:(numL l)[i]? =some (x.1,x.2.1):=by unfold numL;rw [List.getElem?_map,hx];rfl
  have hc:decide ((i:Int)<((numL l).length:Int))=true:=decide_eq_true (by omega)
  have hw:IntKind.i64.wrap ((i:Int)+1)=((i+1:Nat):Int):=i64_small (by omega) (by omega)
  rw [drop_hd hx,show ansL (x::l.drop (i+1))=(x.1,x.2.2.1,x.2.2.2)::ansL (l.drop (i+1)) from rfl,fstB_cons] at ha
  have kx:=hr x (List.mem_of_getElem? hx)
  cases hne:(x.2.2.2 != 0)
  ·have he:(x.2.2.2==0)=true:=by simpa using hne
   rw [he] at ha
   have ha:fstB yr (ansL (l.drop (i+1)))=_:=ha
   refine g_of h ?_
   clear h
   repeat' first|kernel_rfl|exact g_done fun _ _ h=>⟨k - 1,by omega,i+1,by omega,ha,h.drop.keep [14,13,12,3,6,1]⟩|apply g_seq|apply g_reg|apply g_nil|apply g_mv (s:=14)|apply g_box|apply g_all|apply g_stf|apply g_stw|apply g_sto|apply g_asg|apply g_st|apply g_skip|apply g_ct|apply g_cf|apply g_ret|refine r_2 rfl ?_|apply g_blk|apply g_eb|apply g_ex|apply e_t|apply e_h|refine e_o rfl ?_|apply r_t|apply r_b|apply g_cl|exact st_idxR (by assumption)|exact st_loadR|exact st_loadS|exact st_len'|exact st_add' (by assumption)|exact scv hE kx|exact st_buildS zero_astPlace|exact st_move'|exact st_assign'|exact st_load'|exact st_fieldAddr'|exact st_extract'|exact st_neq' (by first|assumption|rfl)|exact st_lss' (by first|assumption|rfl)|exact st_len'|exact st_indexAddr' (by assumption)|exact st_loadE'|exact Cv.rfl'|intro _
  ·have he:(x.2.2.2==0)=false:=by simpa using hne
   rw [he] at ha
   have ha:((x.1,yr,x.2.2.1),x.2.2.2)=_:=ha
   rw [←show _=fstB yr (ansL l) from ha]
   refine g_of h ?_
   clear h
   repeat' first|kernel_rfl|apply g_seq|apply g_reg|apply g_nil|apply g_mv (s:=14)|apply g_box|apply g_all|apply g_stf|apply g_stw|apply g_sto|apply g_asg|apply g_st|apply g_skip|apply g_ct|apply g_cf|apply g_ret|refine r_2 rfl ?_|apply g_blk|apply g_eb|apply g_ex|apply e_t|apply e_h|refine e_o rfl ?_|apply r_t|apply r_b|apply g_cl|exact st_idxR (by assumption)|exact st_loadR|exact st_loadS|exact st_len'|exact st_add' (by assumption)|exact scv hE kx|exact st_buildS zero_astPlace|exact st_move'|exact st_assign'|exact st_load'|exact st_fieldAddr'|exact st_extract'|exact st_neq' (by first|assumption|rfl)|exact st_lss' (by first|assumption|rfl)|exact st_len'|exact st_indexAddr' (by assumption)|exact st_loadE'|exact Cv.rfl'|intro _
 ·obtain rfl:i=l.length:=by omega
  have hc:decide ((l.length:Int)<((numL l).length:Int))=false:=decide_eq_false (by omega)
  rw [List.drop_length] at ha
  have ha:((0,0,0),0)=fstB yr (ansL l):=ha
  rw [←ha]
  refine g_of h ?_
  clear h
  repeat' first|kernel_rfl|apply g_seq|apply g_reg|apply g_nil|apply g_mv (s:=14)|apply g_box|apply g_all|apply g_stf|apply g_stw|apply g_sto|apply g_asg|apply g_st|apply g_skip|apply g_ct|apply g_cf|apply g_ret|refine r_2 rfl ?_|apply g_blk|apply g_eb|apply g_ex|apply e_t|apply e_h|refine e_o rfl ?_|apply r_t|apply r_b|apply g_cl|exact st_idxR (by assumption)|exact st_loadR|exact st_loadS|exact st_len'|exact st_add' (by assumption)|exact scv hE kx|exact st_buildS zero_astPlace|exact st_move'|exact st_assign'|exact st_load'|exact st_fieldAddr'|exact st_extract'|exact st_neq' (by first|assumption|rfl)|exact st_lss' (by first|assumption|rfl)|exact st_len'|exact st_indexAddr' (by assumption)|exact st_loadE'|exact Cv.rfl'|intro _
theorem c_partsYear:Ctr Tryz.prog S1 56 [] [] (fun _=> .rw rpNum tt [(7,121),(8,122),(9,123),(10,124),(11,125)]):=by
 refine ctr Tryz.func56 rfl Tryz.ntmps56 (by simp) (fun _ _=>by kernel_rfl) fun X w hE=> ?_
 simp only [argE,Nat.zero_add,Nat.reduceAdd]
 repeat' first|kernel_rfl|apply g_seq|apply g_reg|apply g_nil|apply g_box|apply g_all|apply g_stf|apply g_stw|apply g_sto|apply g_asg|apply g_st|apply g_skip|apply g_ct|apply g_cf|apply g_ret|refine r_1 rfl ?_|apply g_cl|exact st_numYear|exact st_rowS elsnYear rfl (by decide) (by decide) (by decide)|exact st_assign'|exact Cv.rfl'|intro _
theorem c_fbYear {l:List (Int×FuncId×Int×Int)} {d:TyYear} {yr:Int} (hr:∀ x∈l,Ctr Tryz.prog Tab x.2.1 [0] [.ra rpYear d] (fun _=> .tup [.is (.int .i64 x.2.2.1), .is (.int .i64 x.2.2.2)])):Ctr Tryz.prog Tab 55 [0,0,0] [.ra rpYear d, .is (.int .i64 yr), .rw rpNum tt (numL l)] (fun _=> .tup [.ra rpPlace (fstB yr (ansL l)).1, .is (.int .i64 (fstB yr (ansL l)).2)]):=by
 have hml:(numL l).length=l.length:=List.length_map _
 refine ctrF (F:=(numL l).length≤9223372036854775807) (fun ha=> ?_) (fun _ _=>by kernel_rfl) fun hb=> ?_
 ·obtain ⟨v,us,rfl,_,h⟩:=ha.tail
  obtain ⟨v,us,rfl,_,h⟩:=h.tail
  exact rw_maxA h
 refine ctr Tryz.func55 rfl Tryz.ntmps55 (by simp) (fun _ _=>by kernel_rfl) fun X w0 hE=> ?_
 simp only [argE,Nat.zero_add,Nat.reduceAdd]
 repeat' first|kernel_rfl|apply g_seq|apply g_reg|apply g_nil|apply g_box|apply g_all|apply g_stf|apply g_stw|apply g_sto|apply g_asg|apply g_st|apply g_skip|apply g_ct|apply g_cf|apply g_ret|refine r_2 rfl ?_|apply g_blk|apply g_eb|apply g_ex|apply e_t|apply e_h|refine e_o rfl ?_|apply r_t|apply r_b|apply g_cl|exact st_idxR (by assumption)|exact st_loadR|exact st_loadS|exact st_len'|exact st_add' (by assumption)|exact scv hE kx|exact st_buildS zero_astPlace|exact st_move'|exact st_assign'|exact st_load'|exact st_fieldAddr'|exact st_extract'|exact st_neq' (by first|assumption|rfl)|exact st_lss' (by first|assumption|rfl)|exact st_len'|exact st_indexAddr' (by assumption)|exact st_loadE'|exact Cv.rfl'|intro _
 refine g_stop fun a w h=> ?_
 rename_i r3 r6
 refine cw_loop (fun k a u=>∃ i:Nat,i+k=l.length∧fstB yr (ansL (l.drop i))=fstB yr (ansL l)∧TS w0 (r6::r3::X) [(r6, .ra rpPlace z0Place),(r3, .ra rpYear d)] [(14, .is (.int .i64 (i:Int))),(13, .is (.int .i64 ((numL l).length:Int))),(12, .rw rpNum tt (numL l)),(3, .is (.pointer (some ⟨r3,0,none⟩))),(6, .is (.pointer (some ⟨r6,0,none⟩))),(1, .is (.int .i64 yr))] 35 a u) l.length ⟨0,by omega,rfl,h.keep [14,13,12,3,6,1]⟩ ?_
 clear h
 rintro k a u ⟨i,hi,ha,h⟩
 by_cases hlt:i<l.length
 ·obtain ⟨x,hx⟩:∃ x,l[i]? =some x:=⟨_,List.getElem?_eq_getElem hlt⟩
  have hxn:(numL l)[i]? =some (x.1,x.2.1):=by unfold numL;rw [List.getElem?_map,hx];rfl
  have hc:decide ((i:Int)<((numL l).length:Int))=true:=decide_eq_true (by omega)
  have hw:IntKind.i64.wrap ((i:Int)+1)=((i+1:Nat):Int):=i64_small (by omega) (by omega)
  rw [drop_hd hx,show ansL (x::l.drop (i+1))=(x.1,x.2.2.1,x.2.2.2)::ansL (l.drop (i+1)) from rfl,fstB_cons] at ha
  have kx:=hr x (List.mem_of_getElem? hx)
  cases hne:(x.2.2.2 != 0)
  ·have he:(x.2.2.2==0)=true:=by simpa using hne
   rw [he] at ha
   have ha:fstB yr (ansL (l.drop (i+1)))=_:=ha
   refine g_of h ?_
   clear h
   repeat' first|kernel_rfl|exact g_done fun _ _ h=>⟨k - 1,by omega,i+1,by omega,ha,h.drop.keep [14,13,12,3,6,1]⟩|apply g_seq|apply g_reg|apply g_nil|apply g_mv (s:=14)|apply g_box|apply g_all|apply g_stf|apply g_stw|apply g_sto|apply g_asg|apply g_st|apply g_skip|apply g_ct|apply g_cf|apply g_ret|refine r_2 rfl ?_|apply g_blk|apply g_eb|apply g_ex|apply e_t|apply e_h|refine e_o rfl ?_|apply r_t|apply r_b|apply g_cl|exact st_idxR (by assumption)|exact st_loadR|exact st_loadS|exact st_len'|exact st_add' (by assumption)|exact scv hE kx|exact st_buildS zero_astPlace|exact st_move'|exact st_assign'|exact st_load'|exact st_fieldAddr'|exact st_extract'|exact st_neq' (by first|assumption|rfl)|exact st_lss' (by first|assumption|rfl)|exact st_len'|exact st_indexAddr' (by assumption)|exact st_loadE'|exact Cv.rfl'|intro _
  ·have he:(x.2.2.2==0)=false:=by simpa using hne
   rw [he] at ha
   have ha:((x.1,yr,x.2.2.1),x.2.2.2)=_:=ha
   rw [←show _=fstB yr (ansL l) from ha]
   refine g_of h ?_
   clear h
   repeat' first|kernel_rfl|apply g_seq|apply g_reg|apply g_nil|apply g_mv (s:=14)|apply g_box|apply g_all|apply g_stf|apply g_stw|apply g_sto|apply g_asg|apply g_st|apply g_skip|apply g_ct|apply g_cf|apply g_ret|refine r_2 rfl ?_|apply g_blk|apply g_eb|apply g_ex|apply e_t|apply e_h|refine e_o rfl ?_|apply r_t|apply r_b|apply g_cl|exact st_idxR (by assumption)|exact st_loadR|exact st_loadS|exact st_len'|exact st_add' (by assumption)|exact scv hE kx|exact st_buildS zero_astPlace|exact st_move'|exact st_assign'|exact st_load'|exact st_fieldAddr'|exact st_extract'|exact st_neq' (by first|assumption|rfl)|exact st_lss' (by first|assumption|rfl)|exact st_len'|exact st_indexAddr' (by assumption)|exact st_loadE'|exact Cv.rfl'|intro _
 ·obtain rfl:i=l.length:=by omega
  have hc:decide ((l.length:Int)<((numL l).length:Int))=false:=decide_eq_false (by omega)
  rw [List.drop_length] at ha
  have ha:((0,0,0),0)=fstB yr (ansL l):=ha
  rw [←ha]
  refine g_of h ?_
  clear h
  repeat' first|kernel_rfl|apply g_seq|apply g_reg|apply g_nil|apply g_mv (s:=14)|apply g_box|apply g_all|apply g_stf|apply g_stw|apply g_sto|apply g_asg|apply g_st|apply g_skip|apply g_ct|apply g_cf|apply g_ret|refine r_2 rfl ?_|apply g_blk|apply g_eb|apply g_ex|apply e_t|apply e_h|refine e_o rfl ?_|apply r_t|apply r_b|apply g_cl|exact st_idxR (by assumption)|exact st_loadR|exact st_loadS|exact st_len'|exact st_add' (by assumption)|exact scv hE kx|exact st_buildS zero_astPlace|exact st_move'|exact st_assign'|exact st_load'|exact st_fieldAddr'|exact st_extract'|exact st_neq' (by first|assumption|rfl)|exact st_lss' (by first|assumption|rfl)|exact st_len'|exact st_indexAddr' (by assumption)|exact st_loadE'|exact Cv.rfl'|intro _
theorem yrsB_cons {i:Nat} {y:TyYear} {t:List TyYear}:yrsB i (y::t)=bif (fstB (i:Int) (partsY y)).2==0 then yrsB (i+1) t else fstB (i:Int) (partsY y):=rfl
def fewY (y:TyYear):Prop:=(∀ x∈y.2.1,fewQ 6 x.2.2)∧(∀ x∈y.2.2.1,fewQ 6 x.2.2)∧(∀ x∈y.2.2.2.1,fewQ 6 x.2.2.2.2.2.2)∧(∀ x∈y.2.2.2.2.1,fewQ 6 x.2.1∧fewQ 6 x.2.2)∧(∀ x∈y.2.2.2.2.2,fewQ 6 x.2)
structure FewF (d:TyFiling):Prop where
 thr:fewQ 6 d.2.2.2.1
 cap:fewQ 6 d.2.2.2.2.1
 int:fewQ 6 d.2.2.2.2.2.2.2.1
 flo:fewQ 6 d.2.2.2.2.2.2.2.2.1
 brk:∀ x∈d.2.2.1,fewQ 6 x.1∧fewQ 6 x.2
 cls:∀ x∈d.2.2.2.2.2.2.2.2.2.2.1,fewQ 6 x.2.2
 yrs:∀ x∈d.2.2.2.2.2.2.2.2.2.2.2.2,fewY x
theorem c_fstFiling {d:TyFiling} {yr:Int} (hf:FewF d):Ctr Tryz.prog Tab 53 [0,0,0] [.ra rpFiling d, .is (.int .i64 yr), .rw rpNum tt [(1,115),(2,116),(3,117),(4,118),(5,119),(6,120)]] (fun _=> .tup [.ra rpPlace (fstB yr (partsF d)).1, .is (.int .i64 (fstB yr (partsF d)).2)]):=c_fbFiling (l:=[(1,115,(brk nameB 2 0 [d.1,d.2.1])),(2,116,(brk brackB 16 0 d.2.2.1)),(3,117,(lawB d)),(4,118,(brk classB 64 0 d.2.2.2.2.2.2.2.2.2.2.1)),(5,119,(brk nameB 256 0 d.2.2.2.2.2.2.2.2.2.2.2.1)),(6,120,(brk yearB 40 0 d.2.2.2.2.2.2.2.2.2.2.2.2))]) fun x hx=>by
 simp only [List.mem_cons,List.not_mem_nil,or_false] at hx
 rcases hx with rfl|rfl|rfl|rfl|rfl|rfl
 ·exact c_Fnames
 ·exact (c_Fbrackets hf.brk)
 ·exact (c_Flaw hf.thr hf.cap hf.int hf.flo)
 ·exact (c_Fclasses hf.cls)
 ·exact c_Fentities
 ·exact c_Fyears
theorem c_fstYear {d:TyYear} {yr:Int} (hf:fewY d):Ctr Tryz.prog Tab 55 [0,0,0] [.ra rpYear d, .is (.int .i64 yr), .rw rpNum tt [(7,121),(8,122),(9,123),(10,124),(11,125)]] (fun _=> .tup [.ra rpPlace (fstB yr (partsY d)).1, .is (.int .i64 (fstB yr (partsY d)).2)]):=c_fbYear (l:=[(7,121,(brk holdB 4096 0 d.2.1)),(8,122,(brk bookB 4096 0 d.2.2.1)),(9,123,(brk dealB 4096 0 d.2.2.2.1)),(10,124,(brk stockB 4096 0 d.2.2.2.2.1)),(11,125,(brk soldB 4096 0 d.2.2.2.2.2))]) fun x hx=>by
 simp only [List.mem_cons,List.not_mem_nil,or_false] at hx
 rcases hx with rfl|rfl|rfl|rfl|rfl
 ·exact (c_Yholds hf.1)
 ·exact (c_Ybooks hf.2.1)
 ·exact (c_Ydeals hf.2.2.1)
 ·exact (c_Ystocks hf.2.2.2.1)
 ·exact (c_Ysolds hf.2.2.2.2)
theorem ra_max {α β:Type} {r:Rp α} {r':Rp β} {g:α→List β} {off:Nat} {X:List Nat} {w:World} {v:Value} {a:α} [f:FaC r off r'.row g] (h:(VTy.ra r a).holds X w v):(g a).length≤9223372036854775807:=by
 obtain ⟨cs,_,hr⟩:=h
 obtain ⟨c1,c2,c3,_,_,h2⟩:=f.ok hr
 obtain ⟨A,n,c,e,h3⟩:=h2
 exact rw_max (r:=r') (p:=tt) (v:= .slice A n c) ⟨fun _ _=>trivial,A,n,c,rfl,h3⟩
theorem c_Right {d:TyFiling} (hf:FewF d):Ctr Tryz.prog Tab 19 [0] [.ra rpFiling d] (fun _=> .tup [.ra rpPlace (rightB d).1, .is (.int .i64 (rightB d).2)]):=by
 refine ctrF (F:=(d.2.2.2.2.2.2.2.2.2.2.2.2).length≤9223372036854775807) (fun ha=> ?_) (fun _ _=>by kernel_rfl) fun hb=> ?_
 ·obtain ⟨v,rfl,h⟩:=ha.one
  exact ra_max (r:=rpFiling) (r':=rpYear) (off:=24) (g:=fun (d:TyFiling)=>d.2.2.2.2.2.2.2.2.2.2.2.2) h
 have kF:=c_fstFiling (yr:= -1) hf
 refine ctr Tryz.func19 rfl Tryz.ntmps19 (by simp) (fun _ _=>by kernel_rfl) fun X w0 hE=> ?_
 simp only [argE,Nat.zero_add,Nat.reduceAdd]
 repeat' first|kernel_rfl|apply g_seq|apply g_reg|apply g_nil|apply g_drawE (id:=1) [] [] 7 [5]|apply z_sto|apply z_asg|apply z_cl|apply o_all|apply o_go|exact OpsT.nil|exact GuardC.nil|exact UndefC.nil|refine @GuardC.cons _ _ _ _ inferInstance ?_|refine @UndefC.cons _ _ _ inferInstance ?_|apply g_box|apply g_all|apply g_stf|apply g_stw|apply g_sto|apply g_asg|refine g_run rfl inferInstance (by first|exact st_loadR|exact st_loadS|exact st_len'|exact sc trivial c_partsFiling|exact sc trivial c_partsYear|exact sc hE kF|exact sc hE kY|exact st_move'|exact st_load'|exact st_fieldAddr'|exact st_lss' (by first|assumption|rfl)|exact st_len'|exact st_loadE') (by kernel_rfl) ?_|refine g_sk rfl inferInstance rfl (by kernel_rfl) ?_|refine g_un rfl inferInstance (by kernel_rfl) ?_|apply g_st|apply g_skip|apply g_ct|apply g_cf|apply g_ret|refine r_2 rfl ?_|apply g_blk|apply g_eb|apply g_ex|apply e_t|apply e_h|refine e_o rfl ?_|apply r_t|apply r_b|apply g_cl|exact st_idxR (by assumption)|exact st_loadR|exact st_loadS|exact st_len'|exact st_add' (by assumption)|exact sc trivial c_partsFiling|exact sc trivial c_partsYear|exact sc hE kF|exact sc hE kY|exact st_move'|exact st_assign'|exact st_load'|exact st_fieldAddr'|exact st_extract'|exact st_and_t'|exact st_and_f'|exact st_eq' (by first|assumption|rfl)|exact st_lss' (by first|assumption|rfl)|exact st_len'|exact st_indexAddr' (by assumption)|exact st_loadE'|exact Cv.rfl'|(intro _;simp only[newX,newL,ptrs,List.map,List.cons_append,List.nil_append])|intro _
 refine g_stop fun a w h=> ?_
 rename_i r1 r2 rf
 replace h:=h.keep [6,5,4,1,2]
 generalize rf 4=r4 at h
 refine cw_loop (fun k a u=>∃ (i:Nat) (q:PlE),i+k=(d.2.2.2.2.2.2.2.2.2.2.2.2).length∧(bif q.2==0 then yrsB i ((d.2.2.2.2.2.2.2.2.2.2.2.2).drop i) else q)=rightB d∧(q.2=0→q=((0,0,0),0))∧TS w0 (r4::r2::r1::X) [(r4, .ra rpPlace q.1),(r2, .ra rpPlace z0Place),(r1, .ra rpFiling d)] [(6, .is (.int .i64 (i:Int))),(5, .is (.int .i64 q.2)),(4, .is (.pointer (some ⟨r4,0,none⟩))),(1, .is (.pointer (some ⟨r1,0,none⟩))),(2, .is (.pointer (some ⟨r2,0,none⟩)))] 37 a u) (d.2.2.2.2.2.2.2.2.2.2.2.2).length ⟨0,fstB (-1) (partsF d),by omega,rfl,fstB_zero,h⟩ ?_
 clear h
 rintro k a u ⟨i,q,hi,ha,hz,h⟩
 cases he:(q.2==0)
 ·rw [he] at ha
  have ha:q=rightB d:=ha
  rw [←ha]
  refine g_of h ?_
  clear h
  repeat' first|kernel_rfl|apply g_seq|apply g_reg|apply g_nil|apply o_all|apply o_go|exact OpsT.nil|exact GuardC.nil|exact UndefC.nil|refine @GuardC.cons _ _ _ _ inferInstance ?_|refine @UndefC.cons _ _ _ inferInstance ?_|apply g_box|apply g_all|apply g_stf|apply g_stw|apply g_sto|apply g_asg|refine g_run rfl inferInstance (by first|exact st_loadR|exact st_loadS|exact st_len'|exact sc trivial c_partsFiling|exact sc trivial c_partsYear|exact sc hE kF|exact sc hE kY|exact st_move'|exact st_load'|exact st_fieldAddr'|exact st_lss' (by first|assumption|rfl)|exact st_len'|exact st_loadE') (by kernel_rfl) ?_|refine g_sk rfl inferInstance rfl (by kernel_rfl) ?_|refine g_un rfl inferInstance (by kernel_rfl) ?_|apply g_st|apply g_skip|apply g_ct|apply g_cf|apply g_ret|refine r_2 rfl ?_|apply g_blk|apply g_eb|apply g_ex|apply e_t|apply e_h|refine e_o rfl ?_|apply r_t|apply r_b|apply g_cl|exact st_idxR (by assumption)|exact st_loadR|exact st_loadS|exact st_len'|exact st_add' (by assumption)|exact sc trivial c_partsFiling|exact sc trivial c_partsYear|exact sc hE kF|exact sc hE kY|exact st_move'|exact st_assign'|exact st_load'|exact st_fieldAddr'|exact st_extract'|exact st_and_t'|exact st_and_f'|exact st_eq' (by first|assumption|rfl)|exact st_lss' (by first|assumption|rfl)|exact st_len'|exact st_indexAddr' (by assumption)|exact st_loadE'|exact Cv.rfl'|(intro _;simp only[newX,newL,ptrs,List.map,List.cons_append,List.nil_append])|intro _
 rw [he] at ha
 have ha:yrsB i ((d.2.2.2.2.2.2.2.2.2.2.2.2).drop i)=rightB d:=ha
 by_cases hlt:i<(d.2.2.2.2.2.2.2.2.2.2.2.2).length
 ·obtain ⟨y,hy⟩:∃ y,(d.2.2.2.2.2.2.2.2.2.2.2.2)[i]? =some y:=⟨_,List.getElem?_eq_getElem hlt⟩
  have hc:decide ((i:Int)<((d.2.2.2.2.2.2.2.2.2.2.2.2).length:Int))=true:=decide_eq_true (by omega)
  have hw:IntKind.i64.wrap ((i:Int)+1)=((i+1:Nat):Int):=i64_small (by omega) (by omega)
  rw [drop_hd hy,yrsB_cons] at ha
  have kY:=c_fstYear (yr:=(i:Int)) (hf.yrs y (List.mem_of_getElem? hy))
  refine g_of h ?_
  clear h
  repeat' first|kernel_rfl|exact g_done fun _ _ h=>⟨k - 1,by omega,i+1,fstB (i:Int) (partsY y),by omega,ha,fstB_zero,h.keep [6,5,4,1,2]⟩|apply g_seq|apply g_reg|apply g_nil|apply g_drawE (id:=5) [] [] 11 [10]|apply z_sto|apply z_asg|apply z_cl|apply o_all|apply o_go|exact OpsT.nil|exact GuardC.nil|exact UndefC.nil|refine @GuardC.cons _ _ _ _ inferInstance ?_|refine @UndefC.cons _ _ _ inferInstance ?_|apply g_box|apply g_all|apply g_stf|apply g_stw|apply g_sto|apply g_asg|refine g_run rfl inferInstance (by first|exact st_loadR|exact st_loadS|exact st_len'|exact sc trivial c_partsFiling|exact sc trivial c_partsYear|exact sc hE kF|exact sc hE kY|exact st_move'|exact st_load'|exact st_fieldAddr'|exact st_lss' (by first|assumption|rfl)|exact st_len'|exact st_loadE') (by kernel_rfl) ?_|refine g_sk rfl inferInstance rfl (by kernel_rfl) ?_|refine g_un rfl inferInstance (by kernel_rfl) ?_|apply g_st|apply g_skip|apply g_ct|apply g_cf|apply g_ret|refine r_2 rfl ?_|apply g_blk|apply g_eb|apply g_ex|apply e_t|apply e_h|refine e_o rfl ?_|apply r_t|apply r_b|apply g_cl|exact st_idxR (by assumption)|exact st_loadR|exact st_loadS|exact st_len'|exact st_add' (by assumption)|exact sc trivial c_partsFiling|exact sc trivial c_partsYear|exact sc hE kF|exact sc hE kY|exact st_move'|exact st_assign'|exact st_load'|exact st_fieldAddr'|exact st_extract'|exact st_and_t'|exact st_and_f'|exact st_eq' (by first|assumption|rfl)|exact st_lss' (by first|assumption|rfl)|exact st_len'|exact st_indexAddr' (by assumption)|exact st_loadE'|exact Cv.rfl'|(intro _;simp only[newX,newL,ptrs,List.map,List.cons_append,List.nil_append])|intro _
 ·obtain hil:i=(d.2.2.2.2.2.2.2.2.2.2.2.2).length:=by omega
  have hc:decide ((i:Int)<((d.2.2.2.2.2.2.2.2.2.2.2.2).length:Int))=false:=decide_eq_false (by omega)
  rw [hil,List.drop_length] at ha
  have ha:((0,0,0),0)=rightB d:=ha
  rw [←hz (eq_of_beq he)] at ha
  rw [←ha]
  refine g_of h ?_
  clear h
  repeat' first|kernel_rfl|apply g_seq|apply g_reg|apply g_nil|apply o_all|apply o_go|exact OpsT.nil|exact GuardC.nil|exact UndefC.nil|refine @GuardC.cons _ _ _ _ inferInstance ?_|refine @UndefC.cons _ _ _ inferInstance ?_|apply g_box|apply g_all|apply g_stf|apply g_stw|apply g_sto|apply g_asg|refine g_run rfl inferInstance (by first|exact st_loadR|exact st_loadS|exact st_len'|exact sc trivial c_partsFiling|exact sc trivial c_partsYear|exact sc hE kF|exact sc hE kY|exact st_move'|exact st_load'|exact st_fieldAddr'|exact st_lss' (by first|assumption|rfl)|exact st_len'|exact st_loadE') (by kernel_rfl) ?_|refine g_sk rfl inferInstance rfl (by kernel_rfl) ?_|refine g_un rfl inferInstance (by kernel_rfl) ?_|apply g_st|apply g_skip|apply g_ct|apply g_cf|apply g_ret|refine r_2 rfl ?_|apply g_blk|apply g_eb|apply g_ex|apply e_t|apply e_h|refine e_o rfl ?_|apply r_t|apply r_b|apply g_cl|exact st_idxR (by assumption)|exact st_loadR|exact st_loadS|exact st_len'|exact st_add' (by assumption)|exact sc trivial c_partsFiling|exact sc trivial c_partsYear|exact sc hE kF|exact sc hE kY|exact st_move'|exact st_assign'|exact st_load'|exact st_fieldAddr'|exact st_extract'|exact st_and_t'|exact st_and_f'|exact st_eq' (by first|assumption|rfl)|exact st_lss' (by first|assumption|rfl)|exact st_len'|exact st_indexAddr' (by assumption)|exact st_loadE'|exact Cv.rfl'|(intro _;simp only[newX,newL,ptrs,List.map,List.cons_append,List.nil_append])|intro _
end Go.Proofs.YtgnggldjjjkogaaGreatDoor
