/- tallageref08: names, money, shares; AstWords. -/
import Derived.Test.YtgnggldjjjkogaaGreatDoorGQ
import Derived.Test.YtgnggldjjjkogaaGreatDoorGL
set_option maxHeartbeats 4000000
set_option maxRecDepth 20000
set_option synthInstance.maxHeartbeats 400000
set_option synthInstance.maxSize 4000
set_option linter.unusedSimpArgs false
set_option linter.unusedVariables false
namespace Go.Proofs.YtgnggldjjjkogaaGreatDoor
open Go Go.RowKit
theorem name_bad0 {l:List UInt8} {c:UInt8} (h:l[0]? =some c) (hc:letB c=false):nameB l=false:=by
 cases l with
 |nil=>cases h
 |cons a l=>
  have e:a=c:=by simpa using h
  subst e
  unfold nameB
  simp only [hc,Bool.false_and]
theorem name_bad {l:List UInt8} {c:UInt8} {i:Nat} (h:l[i]? =some c) (hc:inB c=false):nameB l=false:=by
 unfold nameB
 rw [show l.all inB=false from by
  rw [Bool.eq_false_iff]
  intro ha
  have:=List.all_eq_true.1 ha c (List.mem_of_getElem? h)
  rw [this] at hc;cases hc]
 simp only [Bool.and_false,Bool.false_and]
theorem name_end {l:List UInt8} (ha:l.all inB=true) (h0:0<l.length→∃ c,l[0]? =some c∧letB c=true):(decide ((0:Int)<(l.length:Int))=false∧nameB l=false)∨(decide ((0:Int)<(l.length:Int))=true∧nameB l=decide ((l.length:Int)≤32)):=by
 cases l with
 |nil=>exact .inl ⟨rfl,rfl⟩
 |cons a l=>
  obtain ⟨c,e,hl⟩:=h0 (Nat.succ_pos _)
  have e:a=c:=by simpa using e
  subst e
  refine .inr ⟨decide_eq_true (by rw [List.length_cons];omega),?_⟩
  unfold nameB
  dsimp only
  rw [ha,hl,Bool.eq_iff_iff]
  simp only [Bool.true_and,decide_eq_true_eq]
  omega
theorem take_all {l:List UInt8} {c:UInt8} {i:Nat} (h:l[i]? =some c) (hc:inB c=true) (ha:(l.take i).all inB=true):(l.take (i+1)).all inB=true:=by
 rw [tk_snoc h,List.all_append,ha]
 simp [hc]
theorem c8_isname {l:List UInt8} (hb:l.length≤1000000):Ctr Tryz.prog S1 12 [0] [.is (Tx l)] (fun _=> .is (.bool (nameB l))):=by
 refine ctr Tryz.func12 rfl Tryz.ntmps12 (by simp) (fun _ _=>by kernel_rfl) fun X w0 hE=> ?_
 simp only [argE,Nat.zero_add,Nat.reduceAdd]
 repeat' first|kernel_rfl|apply g_seq|apply g_reg|apply g_nil|apply g_box|apply g_all|apply g_stf|apply g_stw|apply g_sto|apply g_asg|refine g_run rfl inferInstance (by first|exact st_slen|exact st_move'|exact st_and_t'|exact st_and_f'|exact st_or_f'|exact st_or_t'|exact st_not' (b:=true) (u:=false) rfl|exact st_not' (b:=false) (u:=true) rfl|exact st_not' rfl|exact st_eq' (by first|assumption|rfl)|exact st_neq' (by first|assumption|rfl)|exact st_leq' (by first|assumption|rfl)|exact st_geq' (by first|assumption|rfl)|exact st_len') (by kernel_rfl) ?_|refine g_sk rfl inferInstance rfl (by kernel_rfl) ?_|refine g_un rfl inferInstance (by kernel_rfl) ?_|apply g_st|apply g_skip|apply g_ct|apply g_cf|apply g_ret|refine r_1 rfl ?_|apply g_blk|apply g_eb|apply g_ex|apply e_t|apply e_h|refine e_o rfl ?_|apply r_t|apply r_b|apply g_cl|exact st_sidx hix|exact st_slen|exact st_add' (by assumption)|exact st_move'|exact st_assign'|exact st_and_t'|exact st_and_f'|exact st_or_f'|exact st_or_t'|exact st_not' (b:=true) (u:=false) rfl|exact st_not' (b:=false) (u:=true) rfl|exact st_not' rfl|exact st_eq' (by first|assumption|rfl)|exact st_neq' (by first|assumption|rfl)|exact st_lss' (by first|assumption|rfl)|exact st_leq' (by first|assumption|rfl)|exact st_gtr' (by first|assumption|rfl)|exact st_geq' (by first|assumption|rfl)|exact st_len'|exact Cv.rfl'|intro _
 refine g_stop fun a w h=> ?_
 refine cw_loop (fun k a u=>∃ i:Nat,i+k=l.length∧(l.take i).all inB=true∧(0<i→∃ c,l[0]? =some c∧letB c=true)∧TS w0 X [] [(3, .is (.int .i64 (i:Int))),(0, .is (Tx l))] 60 a u) l.length ⟨0,by omega,rfl,(fun h=>by omega),h.keep [3,0]⟩ ?_
 clear h
 rintro k a u ⟨i,hi,ha,h0,h⟩
 by_cases hlt:i<l.length
 ·obtain ⟨c,hx⟩:∃ c,l[i]? =some c:=⟨_,List.getElem?_eq_getElem hlt⟩
  have hix:0≤(i:Int)∧l[(i:Int).toNat]? =some c:=⟨by omega,hx⟩
  have hc:decide ((i:Int)<(l.length:Int))=true:=decide_eq_true (by omega)
  have hw:IntKind.i64.wrap ((i:Int)+1)=((i+1:Nat):Int):=i64_small (by omega) (by omega)
  have hcr:c.toNat<256:=UInt8.toNat_lt c
  have hcs:(97≤c.toNat∧c.toNat≤122)∨(65≤c.toNat∧c.toNat≤90)∨(0≤c.toNat∧c.toNat≤47∧c.toNat≠45)∨(45≤c.toNat∧c.toNat≤45)∨(48≤c.toNat∧c.toNat≤57)∨(58≤c.toNat∧c.toNat≤64)∨(91≤c.toNat∧c.toNat≤96∧c.toNat≠95)∨(95≤c.toNat∧c.toNat≤95)∨(123≤c.toNat∧c.toNat≤255):=by omega
  rcases hcs with hr|hr|hr|hr|hr|hr|hr|hr|hr
  ·have e97:decide ((97:Int)≤(c.toNat:Int))=true:=decide_eq_true (by omega)
   have e122:decide ((c.toNat:Int)≤122)=true:=decide_eq_true (by omega)
   have e65:decide ((65:Int)≤(c.toNat:Int))=true:=decide_eq_true (by omega)
   have e90:decide ((c.toNat:Int)≤90)=false:=decide_eq_false (by omega)
   have e48:decide ((48:Int)≤(c.toNat:Int))=true:=decide_eq_true (by omega)
   have e57:decide ((c.toNat:Int)≤57)=false:=decide_eq_false (by omega)
   have n95:((c.toNat:Int) != 95)=true:=bne_iff_ne.2 (by omega)
   have n45:((c.toNat:Int) != 45)=true:=bne_iff_ne.2 (by omega)
   have hl:letB c=true:=by
    unfold letB
    simp only [Bool.or_eq_true,Bool.and_eq_true,decide_eq_true_eq];omega
   have hn:inB c=true:=by
    unfold inB
    rw [hl]
    rfl
   have h0':0<i+1→∃ c,l[0]? =some c∧letB c=true:=fun _=>by
    rcases Nat.eq_zero_or_pos i with e|e
    ·subst e;exact ⟨c,hx,hl⟩
    ·exact h0 e
   refine g_of h ?_
   clear h
   repeat' first|kernel_rfl|exact g_done fun _ _ h=>⟨k - 1,by omega,i+1,by omega,take_all hx hn ha,h0',h.keep [3,0]⟩|apply g_seq|apply g_reg|apply g_nil|apply g_box|apply g_all|apply g_stf|apply g_stw|apply g_sto|apply g_asg|refine g_run rfl inferInstance (by first|exact st_slen|exact st_move'|exact st_and_t'|exact st_and_f'|exact st_or_f'|exact st_or_t'|exact st_not' (b:=true) (u:=false) rfl|exact st_not' (b:=false) (u:=true) rfl|exact st_not' rfl|exact st_eq' (by first|assumption|rfl)|exact st_neq' (by first|assumption|rfl)|exact st_leq' (by first|assumption|rfl)|exact st_geq' (by first|assumption|rfl)|exact st_len') (by kernel_rfl) ?_|refine g_sk rfl inferInstance rfl (by kernel_rfl) ?_|refine g_un rfl inferInstance (by kernel_rfl) ?_|apply g_st|apply g_skip|apply g_ct|apply g_cf|apply g_ret|refine r_1 rfl ?_|apply g_blk|apply g_eb|apply g_ex|apply e_t|apply e_h|refine e_o rfl ?_|apply r_t|apply r_b|apply g_cl|exact st_sidx hix|exact st_slen|exact st_add' (by assumption)|exact st_move'|exact st_assign'|exact st_and_t'|exact st_and_f'|exact st_or_f'|exact st_or_t'|exact st_not' (b:=true) (u:=false) rfl|exact st_not' (b:=false) (u:=true) rfl|exact st_not' rfl|exact st_eq' (by first|assumption|rfl)|exact st_neq' (by first|assumption|rfl)|exact st_lss' (by first|assumption|rfl)|exact st_leq' (by first|assumption|rfl)|exact st_gtr' (by first|assumption|rfl)|exact st_geq' (by first|assumption|rfl)|exact st_len'|exact Cv.rfl'|intro _
  ·have e97:decide ((97:Int)≤(c.toNat:Int))=false:=decide_eq_false (by omega)
   have e122:decide ((c.toNat:Int)≤122)=true:=decide_eq_true (by omega)
   have e65:decide ((65:Int)≤(c.toNat:Int))=true:=decide_eq_true (by omega)
   have e90:decide ((c.toNat:Int)≤90)=true:=decide_eq_true (by omega)
   have e48:decide ((48:Int)≤(c.toNat:Int))=true:=decide_eq_true (by omega)
   have e57:decide ((c.toNat:Int)≤57)=false:=decide_eq_false (by omega)
   have n95:((c.toNat:Int) != 95)=true:=bne_iff_ne.2 (by omega)
   have n45:((c.toNat:Int) != 45)=true:=bne_iff_ne.2 (by omega)
   have hl:letB c=true:=by
    unfold letB
    simp only [Bool.or_eq_true,Bool.and_eq_true,decide_eq_true_eq];omega
   have hn:inB c=true:=by
    unfold inB
    rw [hl]
    rfl
   have h0':0<i+1→∃ c,l[0]? =some c∧letB c=true:=fun _=>by
    rcases Nat.eq_zero_or_pos i with e|e
    ·subst e;exact ⟨c,hx,hl⟩
    ·exact h0 e
   refine g_of h ?_
   clear h
   repeat' first|kernel_rfl|exact g_done fun _ _ h=>⟨k - 1,by omega,i+1,by omega,take_all hx hn ha,h0',h.keep [3,0]⟩|apply g_seq|apply g_reg|apply g_nil|apply g_box|apply g_all|apply g_stf|apply g_stw|apply g_sto|apply g_asg|refine g_run rfl inferInstance (by first|exact st_slen|exact st_move'|exact st_and_t'|exact st_and_f'|exact st_or_f'|exact st_or_t'|exact st_not' (b:=true) (u:=false) rfl|exact st_not' (b:=false) (u:=true) rfl|exact st_not' rfl|exact st_eq' (by first|assumption|rfl)|exact st_neq' (by first|assumption|rfl)|exact st_leq' (by first|assumption|rfl)|exact st_geq' (by first|assumption|rfl)|exact st_len') (by kernel_rfl) ?_|refine g_sk rfl inferInstance rfl (by kernel_rfl) ?_|refine g_un rfl inferInstance (by kernel_rfl) ?_|apply g_st|apply g_skip|apply g_ct|apply g_cf|apply g_ret|refine r_1 rfl ?_|apply g_blk|apply g_eb|apply g_ex|apply e_t|apply e_h|refine e_o rfl ?_|apply r_t|apply r_b|apply g_cl|exact st_sidx hix|exact st_slen|exact st_add' (by assumption)|exact st_move'|exact st_assign'|exact st_and_t'|exact st_and_f'|exact st_or_f'|exact st_or_t'|exact st_not' (b:=true) (u:=false) rfl|exact st_not' (b:=false) (u:=true) rfl|exact st_not' rfl|exact st_eq' (by first|assumption|rfl)|exact st_neq' (by first|assumption|rfl)|exact st_lss' (by first|assumption|rfl)|exact st_leq' (by first|assumption|rfl)|exact st_gtr' (by first|assumption|rfl)|exact st_geq' (by first|assumption|rfl)|exact st_len'|exact Cv.rfl'|intro _
  ·have e97:decide ((97:Int)≤(c.toNat:Int))=false:=decide_eq_false (by omega)
   have e122:decide ((c.toNat:Int)≤122)=true:=decide_eq_true (by omega)
   have e65:decide ((65:Int)≤(c.toNat:Int))=false:=decide_eq_false (by omega)
   have e90:decide ((c.toNat:Int)≤90)=true:=decide_eq_true (by omega)
   have e48:decide ((48:Int)≤(c.toNat:Int))=false:=decide_eq_false (by omega)
   have e57:decide ((c.toNat:Int)≤57)=true:=decide_eq_true (by omega)
   have n95:((c.toNat:Int) != 95)=true:=bne_iff_ne.2 (by omega)
   have n45:((c.toNat:Int) != 45)=true:=bne_iff_ne.2 (by omega)
   have hl:letB c=false:=by
    unfold letB
    rw [Bool.eq_false_iff];simp only [ne_eq,Bool.or_eq_true,Bool.and_eq_true,decide_eq_true_eq];omega
   have hn:inB c=false:=by
    unfold inB
    rw [hl]
    rw [Bool.eq_false_iff];simp only [ne_eq,Bool.or_eq_true,Bool.and_eq_true,decide_eq_true_eq,beq_iff_eq,Bool.false_or];omega
   cases hz:((i:Int)==0)
   ·rw [name_bad hx hn]
    refine g_of h ?_
    clear h
    repeat' first|kernel_rfl|apply g_seq|apply g_reg|apply g_nil|apply g_box|apply g_all|apply g_stf|apply g_stw|apply g_sto|apply g_asg|refine g_run rfl inferInstance (by first|exact st_slen|exact st_move'|exact st_and_t'|exact st_and_f'|exact st_or_f'|exact st_or_t'|exact st_not' (b:=true) (u:=false) rfl|exact st_not' (b:=false) (u:=true) rfl|exact st_not' rfl|exact st_eq' (by first|assumption|rfl)|exact st_neq' (by first|assumption|rfl)|exact st_leq' (by first|assumption|rfl)|exact st_geq' (by first|assumption|rfl)|exact st_len') (by kernel_rfl) ?_|refine g_sk rfl inferInstance rfl (by kernel_rfl) ?_|refine g_un rfl inferInstance (by kernel_rfl) ?_|apply g_st|apply g_skip|apply g_ct|apply g_cf|apply g_ret|refine r_1 rfl ?_|apply g_blk|apply g_eb|apply g_ex|apply e_t|apply e_h|refine e_o rfl ?_|apply r_t|apply r_b|apply g_cl|exact st_sidx hix|exact st_slen|exact st_add' (by assumption)|exact st_move'|exact st_assign'|exact st_and_t'|exact st_and_f'|exact st_or_f'|exact st_or_t'|exact st_not' (b:=true) (u:=false) rfl|exact st_not' (b:=false) (u:=true) rfl|exact st_not' rfl|exact st_eq' (by first|assumption|rfl)|exact st_neq' (by first|assumption|rfl)|exact st_lss' (by first|assumption|rfl)|exact st_leq' (by first|assumption|rfl)|exact st_gtr' (by first|assumption|rfl)|exact st_geq' (by first|assumption|rfl)|exact st_len'|exact Cv.rfl'|intro _
   ·have hi0:i=0:=by have:=eq_of_beq hz;omega
    rw [name_bad0 (by rw [←hi0];exact hx) hl]
    refine g_of h ?_
    clear h
    repeat' first|kernel_rfl|apply g_seq|apply g_reg|apply g_nil|apply g_box|apply g_all|apply g_stf|apply g_stw|apply g_sto|apply g_asg|refine g_run rfl inferInstance (by first|exact st_slen|exact st_move'|exact st_and_t'|exact st_and_f'|exact st_or_f'|exact st_or_t'|exact st_not' (b:=true) (u:=false) rfl|exact st_not' (b:=false) (u:=true) rfl|exact st_not' rfl|exact st_eq' (by first|assumption|rfl)|exact st_neq' (by first|assumption|rfl)|exact st_leq' (by first|assumption|rfl)|exact st_geq' (by first|assumption|rfl)|exact st_len') (by kernel_rfl) ?_|refine g_sk rfl inferInstance rfl (by kernel_rfl) ?_|refine g_un rfl inferInstance (by kernel_rfl) ?_|apply g_st|apply g_skip|apply g_ct|apply g_cf|apply g_ret|refine r_1 rfl ?_|apply g_blk|apply g_eb|apply g_ex|apply e_t|apply e_h|refine e_o rfl ?_|apply r_t|apply r_b|apply g_cl|exact st_sidx hix|exact st_slen|exact st_add' (by assumption)|exact st_move'|exact st_assign'|exact st_and_t'|exact st_and_f'|exact st_or_f'|exact st_or_t'|exact st_not' (b:=true) (u:=false) rfl|exact st_not' (b:=false) (u:=true) rfl|exact st_not' rfl|exact st_eq' (by first|assumption|rfl)|exact st_neq' (by first|assumption|rfl)|exact st_lss' (by first|assumption|rfl)|exact st_leq' (by first|assumption|rfl)|exact st_gtr' (by first|assumption|rfl)|exact st_geq' (by first|assumption|rfl)|exact st_len'|exact Cv.rfl'|intro _
  ·have e97:decide ((97:Int)≤(c.toNat:Int))=false:=decide_eq_false (by omega)
   have e122:decide ((c.toNat:Int)≤122)=true:=decide_eq_true (by omega)
   have e65:decide ((65:Int)≤(c.toNat:Int))=false:=decide_eq_false (by omega)
   have e90:decide ((c.toNat:Int)≤90)=true:=decide_eq_true (by omega)
   have e48:decide ((48:Int)≤(c.toNat:Int))=false:=decide_eq_false (by omega)
   have e57:decide ((c.toNat:Int)≤57)=true:=decide_eq_true (by omega)
   have n95:((c.toNat:Int) != 95)=true:=bne_iff_ne.2 (by omega)
   have n45:((c.toNat:Int) != 45)=false:=by rw [show (c.toNat:Int)=45 by omega];rfl
   have hl:letB c=false:=by
    unfold letB
    rw [Bool.eq_false_iff];simp only [ne_eq,Bool.or_eq_true,Bool.and_eq_true,decide_eq_true_eq];omega
   have hn:inB c=true:=by
    unfold inB
    rw [hl]
    simp only [Bool.true_or,Bool.or_eq_true,decide_eq_true_eq,Bool.and_eq_true,beq_iff_eq,Bool.false_or];omega
   cases hz:((i:Int)==0)
   ·have hi1:(i:Int)≠0:=fun e=>by rw [e] at hz;cases hz
    have h0':0<i+1→∃ c,l[0]? =some c∧letB c=true:=fun _=>h0 (by omega)
    refine g_of h ?_
    clear h
    repeat' first|kernel_rfl|exact g_done fun _ _ h=>⟨k - 1,by omega,i+1,by omega,take_all hx hn ha,h0',h.keep [3,0]⟩|apply g_seq|apply g_reg|apply g_nil|apply g_box|apply g_all|apply g_stf|apply g_stw|apply g_sto|apply g_asg|refine g_run rfl inferInstance (by first|exact st_slen|exact st_move'|exact st_and_t'|exact st_and_f'|exact st_or_f'|exact st_or_t'|exact st_not' (b:=true) (u:=false) rfl|exact st_not' (b:=false) (u:=true) rfl|exact st_not' rfl|exact st_eq' (by first|assumption|rfl)|exact st_neq' (by first|assumption|rfl)|exact st_leq' (by first|assumption|rfl)|exact st_geq' (by first|assumption|rfl)|exact st_len') (by kernel_rfl) ?_|refine g_sk rfl inferInstance rfl (by kernel_rfl) ?_|refine g_un rfl inferInstance (by kernel_rfl) ?_|apply g_st|apply g_skip|apply g_ct|apply g_cf|apply g_ret|refine r_1 rfl ?_|apply g_blk|apply g_eb|apply g_ex|apply e_t|apply e_h|refine e_o rfl ?_|apply r_t|apply r_b|apply g_cl|exact st_sidx hix|exact st_slen|exact st_add' (by assumption)|exact st_move'|exact st_assign'|exact st_and_t'|exact st_and_f'|exact st_or_f'|exact st_or_t'|exact st_not' (b:=true) (u:=false) rfl|exact st_not' (b:=false) (u:=true) rfl|exact st_not' rfl|exact st_eq' (by first|assumption|rfl)|exact st_neq' (by first|assumption|rfl)|exact st_lss' (by first|assumption|rfl)|exact st_leq' (by first|assumption|rfl)|exact st_gtr' (by first|assumption|rfl)|exact st_geq' (by first|assumption|rfl)|exact st_len'|exact Cv.rfl'|intro _
   ·have hi0:i=0:=by have:=eq_of_beq hz;omega
    rw [name_bad0 (by rw [←hi0];exact hx) hl]
    refine g_of h ?_
    clear h
    repeat' first|kernel_rfl|apply g_seq|apply g_reg|apply g_nil|apply g_box|apply g_all|apply g_stf|apply g_stw|apply g_sto|apply g_asg|refine g_run rfl inferInstance (by first|exact st_slen|exact st_move'|exact st_and_t'|exact st_and_f'|exact st_or_f'|exact st_or_t'|exact st_not' (b:=true) (u:=false) rfl|exact st_not' (b:=false) (u:=true) rfl|exact st_not' rfl|exact st_eq' (by first|assumption|rfl)|exact st_neq' (by first|assumption|rfl)|exact st_leq' (by first|assumption|rfl)|exact st_geq' (by first|assumption|rfl)|exact st_len') (by kernel_rfl) ?_|refine g_sk rfl inferInstance rfl (by kernel_rfl) ?_|refine g_un rfl inferInstance (by kernel_rfl) ?_|apply g_st|apply g_skip|apply g_ct|apply g_cf|apply g_ret|refine r_1 rfl ?_|apply g_blk|apply g_eb|apply g_ex|apply e_t|apply e_h|refine e_o rfl ?_|apply r_t|apply r_b|apply g_cl|exact st_sidx hix|exact st_slen|exact st_add' (by assumption)|exact st_move'|exact st_assign'|exact st_and_t'|exact st_and_f'|exact st_or_f'|exact st_or_t'|exact st_not' (b:=true) (u:=false) rfl|exact st_not' (b:=false) (u:=true) rfl|exact st_not' rfl|exact st_eq' (by first|assumption|rfl)|exact st_neq' (by first|assumption|rfl)|exact st_lss' (by first|assumption|rfl)|exact st_leq' (by first|assumption|rfl)|exact st_gtr' (by first|assumption|rfl)|exact st_geq' (by first|assumption|rfl)|exact st_len'|exact Cv.rfl'|intro _
  ·have e97:decide ((97:Int)≤(c.toNat:Int))=false:=decide_eq_false (by omega)
   have e122:decide ((c.toNat:Int)≤122)=true:=decide_eq_true (by omega)
   have e65:decide ((65:Int)≤(c.toNat:Int))=false:=decide_eq_false (by omega)
   have e90:decide ((c.toNat:Int)≤90)=true:=decide_eq_true (by omega)
   have e48:decide ((48:Int)≤(c.toNat:Int))=true:=decide_eq_true (by omega)
   have e57:decide ((c.toNat:Int)≤57)=true:=decide_eq_true (by omega)
   have n95:((c.toNat:Int) != 95)=true:=bne_iff_ne.2 (by omega)
   have n45:((c.toNat:Int) != 45)=true:=bne_iff_ne.2 (by omega)
   have hl:letB c=false:=by
    unfold letB
    rw [Bool.eq_false_iff];simp only [ne_eq,Bool.or_eq_true,Bool.and_eq_true,decide_eq_true_eq];omega
   have hn:inB c=true:=by
    unfold inB
    rw [hl]
    simp only [Bool.true_or,Bool.or_eq_true,decide_eq_true_eq,Bool.and_eq_true,beq_iff_eq,Bool.false_or];omega
   cases hz:((i:Int)==0)
   ·have hi1:(i:Int)≠0:=fun e=>by rw [e] at hz;cases hz
    have h0':0<i+1→∃ c,l[0]? =some c∧letB c=true:=fun _=>h0 (by omega)
    refine g_of h ?_
    clear h
    repeat' first|kernel_rfl|exact g_done fun _ _ h=>⟨k - 1,by omega,i+1,by omega,take_all hx hn ha,h0',h.keep [3,0]⟩|apply g_seq|apply g_reg|apply g_nil|apply g_box|apply g_all|apply g_stf|apply g_stw|apply g_sto|apply g_asg|refine g_run rfl inferInstance (by first|exact st_slen|exact st_move'|exact st_and_t'|exact st_and_f'|exact st_or_f'|exact st_or_t'|exact st_not' (b:=true) (u:=false) rfl|exact st_not' (b:=false) (u:=true) rfl|exact st_not' rfl|exact st_eq' (by first|assumption|rfl)|exact st_neq' (by first|assumption|rfl)|exact st_leq' (by first|assumption|rfl)|exact st_geq' (by first|assumption|rfl)|exact st_len') (by kernel_rfl) ?_|refine g_sk rfl inferInstance rfl (by kernel_rfl) ?_|refine g_un rfl inferInstance (by kernel_rfl) ?_|apply g_st|apply g_skip|apply g_ct|apply g_cf|apply g_ret|refine r_1 rfl ?_|apply g_blk|apply g_eb|apply g_ex|apply e_t|apply e_h|refine e_o rfl ?_|apply r_t|apply r_b|apply g_cl|exact st_sidx hix|exact st_slen|exact st_add' (by assumption)|exact st_move'|exact st_assign'|exact st_and_t'|exact st_and_f'|exact st_or_f'|exact st_or_t'|exact st_not' (b:=true) (u:=false) rfl|exact st_not' (b:=false) (u:=true) rfl|exact st_not' rfl|exact st_eq' (by first|assumption|rfl)|exact st_neq' (by first|assumption|rfl)|exact st_lss' (by first|assumption|rfl)|exact st_leq' (by first|assumption|rfl)|exact st_gtr' (by first|assumption|rfl)|exact st_geq' (by first|assumption|rfl)|exact st_len'|exact Cv.rfl'|intro _
   ·have hi0:i=0:=by have:=eq_of_beq hz;omega
    rw [name_bad0 (by rw [←hi0];exact hx) hl]
    refine g_of h ?_
    clear h
    repeat' first|kernel_rfl|apply g_seq|apply g_reg|apply g_nil|apply g_box|apply g_all|apply g_stf|apply g_stw|apply g_sto|apply g_asg|refine g_run rfl inferInstance (by first|exact st_slen|exact st_move'|exact st_and_t'|exact st_and_f'|exact st_or_f'|exact st_or_t'|exact st_not' (b:=true) (u:=false) rfl|exact st_not' (b:=false) (u:=true) rfl|exact st_not' rfl|exact st_eq' (by first|assumption|rfl)|exact st_neq' (by first|assumption|rfl)|exact st_leq' (by first|assumption|rfl)|exact st_geq' (by first|assumption|rfl)|exact st_len') (by kernel_rfl) ?_|refine g_sk rfl inferInstance rfl (by kernel_rfl) ?_|refine g_un rfl inferInstance (by kernel_rfl) ?_|apply g_st|apply g_skip|apply g_ct|apply g_cf|apply g_ret|refine r_1 rfl ?_|apply g_blk|apply g_eb|apply g_ex|apply e_t|apply e_h|refine e_o rfl ?_|apply r_t|apply r_b|apply g_cl|exact st_sidx hix|exact st_slen|exact st_add' (by assumption)|exact st_move'|exact st_assign'|exact st_and_t'|exact st_and_f'|exact st_or_f'|exact st_or_t'|exact st_not' (b:=true) (u:=false) rfl|exact st_not' (b:=false) (u:=true) rfl|exact st_not' rfl|exact st_eq' (by first|assumption|rfl)|exact st_neq' (by first|assumption|rfl)|exact st_lss' (by first|assumption|rfl)|exact st_leq' (by first|assumption|rfl)|exact st_gtr' (by first|assumption|rfl)|exact st_geq' (by first|assumption|rfl)|exact st_len'|exact Cv.rfl'|intro _
  ·have e97:decide ((97:Int)≤(c.toNat:Int))=false:=decide_eq_false (by omega)
   have e122:decide ((c.toNat:Int)≤122)=true:=decide_eq_true (by omega)
   have e65:decide ((65:Int)≤(c.toNat:Int))=false:=decide_eq_false (by omega)
   have e90:decide ((c.toNat:Int)≤90)=true:=decide_eq_true (by omega)
   have e48:decide ((48:Int)≤(c.toNat:Int))=true:=decide_eq_true (by omega)
   have e57:decide ((c.toNat:Int)≤57)=false:=decide_eq_false (by omega)
   have n95:((c.toNat:Int) != 95)=true:=bne_iff_ne.2 (by omega)
   have n45:((c.toNat:Int) != 45)=true:=bne_iff_ne.2 (by omega)
   have hl:letB c=false:=by
    unfold letB
    rw [Bool.eq_false_iff];simp only [ne_eq,Bool.or_eq_true,Bool.and_eq_true,decide_eq_true_eq];omega
   have hn:inB c=false:=by
    unfold inB
    rw [hl]
    rw [Bool.eq_false_iff];simp only [ne_eq,Bool.or_eq_true,Bool.and_eq_true,decide_eq_true_eq,beq_iff_eq,Bool.false_or];omega
   cases hz:((i:Int)==0)
   ·rw [name_bad hx hn]
    refine g_of h ?_
    clear h
    repeat' first|kernel_rfl|apply g_seq|apply g_reg|apply g_nil|apply g_box|apply g_all|apply g_stf|apply g_stw|apply g_sto|apply g_asg|refine g_run rfl inferInstance (by first|exact st_slen|exact st_move'|exact st_and_t'|exact st_and_f'|exact st_or_f'|exact st_or_t'|exact st_not' (b:=true) (u:=false) rfl|exact st_not' (b:=false) (u:=true) rfl|exact st_not' rfl|exact st_eq' (by first|assumption|rfl)|exact st_neq' (by first|assumption|rfl)|exact st_leq' (by first|assumption|rfl)|exact st_geq' (by first|assumption|rfl)|exact st_len') (by kernel_rfl) ?_|refine g_sk rfl inferInstance rfl (by kernel_rfl) ?_|refine g_un rfl inferInstance (by kernel_rfl) ?_|apply g_st|apply g_skip|apply g_ct|apply g_cf|apply g_ret|refine r_1 rfl ?_|apply g_blk|apply g_eb|apply g_ex|apply e_t|apply e_h|refine e_o rfl ?_|apply r_t|apply r_b|apply g_cl|exact st_sidx hix|exact st_slen|exact st_add' (by assumption)|exact st_move'|exact st_assign'|exact st_and_t'|exact st_and_f'|exact st_or_f'|exact st_or_t'|exact st_not' (b:=true) (u:=false) rfl|exact st_not' (b:=false) (u:=true) rfl|exact st_not' rfl|exact st_eq' (by first|assumption|rfl)|exact st_neq' (by first|assumption|rfl)|exact st_lss' (by first|assumption|rfl)|exact st_leq' (by first|assumption|rfl)|exact st_gtr' (by first|assumption|rfl)|exact st_geq' (by first|assumption|rfl)|exact st_len'|exact Cv.rfl'|intro _
   ·have hi0:i=0:=by have:=eq_of_beq hz;omega
    rw [name_bad0 (by rw [←hi0];exact hx) hl]
    refine g_of h ?_
    clear h
    repeat' first|kernel_rfl|apply g_seq|apply g_reg|apply g_nil|apply g_box|apply g_all|apply g_stf|apply g_stw|apply g_sto|apply g_asg|refine g_run rfl inferInstance (by first|exact st_slen|exact st_move'|exact st_and_t'|exact st_and_f'|exact st_or_f'|exact st_or_t'|exact st_not' (b:=true) (u:=false) rfl|exact st_not' (b:=false) (u:=true) rfl|exact st_not' rfl|exact st_eq' (by first|assumption|rfl)|exact st_neq' (by first|assumption|rfl)|exact st_leq' (by first|assumption|rfl)|exact st_geq' (by first|assumption|rfl)|exact st_len') (by kernel_rfl) ?_|refine g_sk rfl inferInstance rfl (by kernel_rfl) ?_|refine g_un rfl inferInstance (by kernel_rfl) ?_|apply g_st|apply g_skip|apply g_ct|apply g_cf|apply g_ret|refine r_1 rfl ?_|apply g_blk|apply g_eb|apply g_ex|apply e_t|apply e_h|refine e_o rfl ?_|apply r_t|apply r_b|apply g_cl|exact st_sidx hix|exact st_slen|exact st_add' (by assumption)|exact st_move'|exact st_assign'|exact st_and_t'|exact st_and_f'|exact st_or_f'|exact st_or_t'|exact st_not' (b:=true) (u:=false) rfl|exact st_not' (b:=false) (u:=true) rfl|exact st_not' rfl|exact st_eq' (by first|assumption|rfl)|exact st_neq' (by first|assumption|rfl)|exact st_lss' (by first|assumption|rfl)|exact st_leq' (by first|assumption|rfl)|exact st_gtr' (by first|assumption|rfl)|exact st_geq' (by first|assumption|rfl)|exact st_len'|exact Cv.rfl'|intro _
  ·have e97:decide ((97:Int)≤(c.toNat:Int))=false:=decide_eq_false (by omega)
   have e122:decide ((c.toNat:Int)≤122)=true:=decide_eq_true (by omega)
   have e65:decide ((65:Int)≤(c.toNat:Int))=true:=decide_eq_true (by omega)
   have e90:decide ((c.toNat:Int)≤90)=false:=decide_eq_false (by omega)
   have e48:decide ((48:Int)≤(c.toNat:Int))=true:=decide_eq_true (by omega)
   have e57:decide ((c.toNat:Int)≤57)=false:=decide_eq_false (by omega)
   have n95:((c.toNat:Int) != 95)=true:=bne_iff_ne.2 (by omega)
   have n45:((c.toNat:Int) != 45)=true:=bne_iff_ne.2 (by omega)
   have hl:letB c=false:=by
    unfold letB
    rw [Bool.eq_false_iff];simp only [ne_eq,Bool.or_eq_true,Bool.and_eq_true,decide_eq_true_eq];omega
   have hn:inB c=false:=by
    unfold inB
    rw [hl]
    rw [Bool.eq_false_iff];simp only [ne_eq,Bool.or_eq_true,Bool.and_eq_true,decide_eq_true_eq,beq_iff_eq,Bool.false_or];omega
   cases hz:((i:Int)==0)
   ·rw [name_bad hx hn]
    refine g_of h ?_
    clear h
    repeat' first|kernel_rfl|apply g_seq|apply g_reg|apply g_nil|apply g_box|apply g_all|apply g_stf|apply g_stw|apply g_sto|apply g_asg|refine g_run rfl inferInstance (by first|exact st_slen|exact st_move'|exact st_and_t'|exact st_and_f'|exact st_or_f'|exact st_or_t'|exact st_not' (b:=true) (u:=false) rfl|exact st_not' (b:=false) (u:=true) rfl|exact st_not' rfl|exact st_eq' (by first|assumption|rfl)|exact st_neq' (by first|assumption|rfl)|exact st_leq' (by first|assumption|rfl)|exact st_geq' (by first|assumption|rfl)|exact st_len') (by kernel_rfl) ?_|refine g_sk rfl inferInstance rfl (by kernel_rfl) ?_|refine g_un rfl inferInstance (by kernel_rfl) ?_|apply g_st|apply g_skip|apply g_ct|apply g_cf|apply g_ret|refine r_1 rfl ?_|apply g_blk|apply g_eb|apply g_ex|apply e_t|apply e_h|refine e_o rfl ?_|apply r_t|apply r_b|apply g_cl|exact st_sidx hix|exact st_slen|exact st_add' (by assumption)|exact st_move'|exact st_assign'|exact st_and_t'|exact st_and_f'|exact st_or_f'|exact st_or_t'|exact st_not' (b:=true) (u:=false) rfl|exact st_not' (b:=false) (u:=true) rfl|exact st_not' rfl|exact st_eq' (by first|assumption|rfl)|exact st_neq' (by first|assumption|rfl)|exact st_lss' (by first|assumption|rfl)|exact st_leq' (by first|assumption|rfl)|exact st_gtr' (by first|assumption|rfl)|exact st_geq' (by first|assumption|rfl)|exact st_len'|exact Cv.rfl'|intro _
   ·have hi0:i=0:=by have:=eq_of_beq hz;omega
    rw [name_bad0 (by rw [←hi0];exact hx) hl]
    refine g_of h ?_
    clear h
    repeat' first|kernel_rfl|apply g_seq|apply g_reg|apply g_nil|apply g_box|apply g_all|apply g_stf|apply g_stw|apply g_sto|apply g_asg|refine g_run rfl inferInstance (by first|exact st_slen|exact st_move'|exact st_and_t'|exact st_and_f'|exact st_or_f'|exact st_or_t'|exact st_not' (b:=true) (u:=false) rfl|exact st_not' (b:=false) (u:=true) rfl|exact st_not' rfl|exact st_eq' (by first|assumption|rfl)|exact st_neq' (by first|assumption|rfl)|exact st_leq' (by first|assumption|rfl)|exact st_geq' (by first|assumption|rfl)|exact st_len') (by kernel_rfl) ?_|refine g_sk rfl inferInstance rfl (by kernel_rfl) ?_|refine g_un rfl inferInstance (by kernel_rfl) ?_|apply g_st|apply g_skip|apply g_ct|apply g_cf|apply g_ret|refine r_1 rfl ?_|apply g_blk|apply g_eb|apply g_ex|apply e_t|apply e_h|refine e_o rfl ?_|apply r_t|apply r_b|apply g_cl|exact st_sidx hix|exact st_slen|exact st_add' (by assumption)|exact st_move'|exact st_assign'|exact st_and_t'|exact st_and_f'|exact st_or_f'|exact st_or_t'|exact st_not' (b:=true) (u:=false) rfl|exact st_not' (b:=false) (u:=true) rfl|exact st_not' rfl|exact st_eq' (by first|assumption|rfl)|exact st_neq' (by first|assumption|rfl)|exact st_lss' (by first|assumption|rfl)|exact st_leq' (by first|assumption|rfl)|exact st_gtr' (by first|assumption|rfl)|exact st_geq' (by first|assumption|rfl)|exact st_len'|exact Cv.rfl'|intro _
  ·have e97:decide ((97:Int)≤(c.toNat:Int))=false:=decide_eq_false (by omega)
   have e122:decide ((c.toNat:Int)≤122)=true:=decide_eq_true (by omega)
   have e65:decide ((65:Int)≤(c.toNat:Int))=true:=decide_eq_true (by omega)
   have e90:decide ((c.toNat:Int)≤90)=false:=decide_eq_false (by omega)
   have e48:decide ((48:Int)≤(c.toNat:Int))=true:=decide_eq_true (by omega)
   have e57:decide ((c.toNat:Int)≤57)=false:=decide_eq_false (by omega)
   have n95:((c.toNat:Int) != 95)=false:=by rw [show (c.toNat:Int)=95 by omega];rfl
   have n45:((c.toNat:Int) != 45)=true:=bne_iff_ne.2 (by omega)
   have hl:letB c=false:=by
    unfold letB
    rw [Bool.eq_false_iff];simp only [ne_eq,Bool.or_eq_true,Bool.and_eq_true,decide_eq_true_eq];omega
   have hn:inB c=true:=by
    unfold inB
    rw [hl]
    simp only [Bool.true_or,Bool.or_eq_true,decide_eq_true_eq,Bool.and_eq_true,beq_iff_eq,Bool.false_or];omega
   cases hz:((i:Int)==0)
   ·have hi1:(i:Int)≠0:=fun e=>by rw [e] at hz;cases hz
    have h0':0<i+1→∃ c,l[0]? =some c∧letB c=true:=fun _=>h0 (by omega)
    refine g_of h ?_
    clear h
    repeat' first|kernel_rfl|exact g_done fun _ _ h=>⟨k - 1,by omega,i+1,by omega,take_all hx hn ha,h0',h.keep [3,0]⟩|apply g_seq|apply g_reg|apply g_nil|apply g_box|apply g_all|apply g_stf|apply g_stw|apply g_sto|apply g_asg|refine g_run rfl inferInstance (by first|exact st_slen|exact st_move'|exact st_and_t'|exact st_and_f'|exact st_or_f'|exact st_or_t'|exact st_not' (b:=true) (u:=false) rfl|exact st_not' (b:=false) (u:=true) rfl|exact st_not' rfl|exact st_eq' (by first|assumption|rfl)|exact st_neq' (by first|assumption|rfl)|exact st_leq' (by first|assumption|rfl)|exact st_geq' (by first|assumption|rfl)|exact st_len') (by kernel_rfl) ?_|refine g_sk rfl inferInstance rfl (by kernel_rfl) ?_|refine g_un rfl inferInstance (by kernel_rfl) ?_|apply g_st|apply g_skip|apply g_ct|apply g_cf|apply g_ret|refine r_1 rfl ?_|apply g_blk|apply g_eb|apply g_ex|apply e_t|apply e_h|refine e_o rfl ?_|apply r_t|apply r_b|apply g_cl|exact st_sidx hix|exact st_slen|exact st_add' (by assumption)|exact st_move'|exact st_assign'|exact st_and_t'|exact st_and_f'|exact st_or_f'|exact st_or_t'|exact st_not' (b:=true) (u:=false) rfl|exact st_not' (b:=false) (u:=true) rfl|exact st_not' rfl|exact st_eq' (by first|assumption|rfl)|exact st_neq' (by first|assumption|rfl)|exact st_lss' (by first|assumption|rfl)|exact st_leq' (by first|assumption|rfl)|exact st_gtr' (by first|assumption|rfl)|exact st_geq' (by first|assumption|rfl)|exact st_len'|exact Cv.rfl'|intro _
   ·have hi0:i=0:=by have:=eq_of_beq hz;omega
    rw [name_bad0 (by rw [←hi0];exact hx) hl]
    refine g_of h ?_
    clear h
    repeat' first|kernel_rfl|apply g_seq|apply g_reg|apply g_nil|apply g_box|apply g_all|apply g_stf|apply g_stw|apply g_sto|apply g_asg|refine g_run rfl inferInstance (by first|exact st_slen|exact st_move'|exact st_and_t'|exact st_and_f'|exact st_or_f'|exact st_or_t'|exact st_not' (b:=true) (u:=false) rfl|exact st_not' (b:=false) (u:=true) rfl|exact st_not' rfl|exact st_eq' (by first|assumption|rfl)|exact st_neq' (by first|assumption|rfl)|exact st_leq' (by first|assumption|rfl)|exact st_geq' (by first|assumption|rfl)|exact st_len') (by kernel_rfl) ?_|refine g_sk rfl inferInstance rfl (by kernel_rfl) ?_|refine g_un rfl inferInstance (by kernel_rfl) ?_|apply g_st|apply g_skip|apply g_ct|apply g_cf|apply g_ret|refine r_1 rfl ?_|apply g_blk|apply g_eb|apply g_ex|apply e_t|apply e_h|refine e_o rfl ?_|apply r_t|apply r_b|apply g_cl|exact st_sidx hix|exact st_slen|exact st_add' (by assumption)|exact st_move'|exact st_assign'|exact st_and_t'|exact st_and_f'|exact st_or_f'|exact st_or_t'|exact st_not' (b:=true) (u:=false) rfl|exact st_not' (b:=false) (u:=true) rfl|exact st_not' rfl|exact st_eq' (by first|assumption|rfl)|exact st_neq' (by first|assumption|rfl)|exact st_lss' (by first|assumption|rfl)|exact st_leq' (by first|assumption|rfl)|exact st_gtr' (by first|assumption|rfl)|exact st_geq' (by first|assumption|rfl)|exact st_len'|exact Cv.rfl'|intro _
  ·have e97:decide ((97:Int)≤(c.toNat:Int))=true:=decide_eq_true (by omega)
   have e122:decide ((c.toNat:Int)≤122)=false:=decide_eq_false (by omega)
   have e65:decide ((65:Int)≤(c.toNat:Int))=true:=decide_eq_true (by omega)
   have e90:decide ((c.toNat:Int)≤90)=false:=decide_eq_false (by omega)
   have e48:decide ((48:Int)≤(c.toNat:Int))=true:=decide_eq_true (by omega)
   have e57:decide ((c.toNat:Int)≤57)=false:=decide_eq_false (by omega)
   have n95:((c.toNat:Int) != 95)=true:=bne_iff_ne.2 (by omega)
   have n45:((c.toNat:Int) != 45)=true:=bne_iff_ne.2 (by omega)
   have hl:letB c=false:=by
    unfold letB
    rw [Bool.eq_false_iff];simp only [ne_eq,Bool.or_eq_true,Bool.and_eq_true,decide_eq_true_eq];omega
   have hn:inB c=false:=by
    unfold inB
    rw [hl]
    rw [Bool.eq_false_iff];simp only [ne_eq,Bool.or_eq_true,Bool.and_eq_true,decide_eq_true_eq,beq_iff_eq,Bool.false_or];omega
   cases hz:((i:Int)==0)
   ·rw [name_bad hx hn]
    refine g_of h ?_
    clear h
    repeat' first|kernel_rfl|apply g_seq|apply g_reg|apply g_nil|apply g_box|apply g_all|apply g_stf|apply g_stw|apply g_sto|apply g_asg|refine g_run rfl inferInstance (by first|exact st_slen|exact st_move'|exact st_and_t'|exact st_and_f'|exact st_or_f'|exact st_or_t'|exact st_not' (b:=true) (u:=false) rfl|exact st_not' (b:=false) (u:=true) rfl|exact st_not' rfl|exact st_eq' (by first|assumption|rfl)|exact st_neq' (by first|assumption|rfl)|exact st_leq' (by first|assumption|rfl)|exact st_geq' (by first|assumption|rfl)|exact st_len') (by kernel_rfl) ?_|refine g_sk rfl inferInstance rfl (by kernel_rfl) ?_|refine g_un rfl inferInstance (by kernel_rfl) ?_|apply g_st|apply g_skip|apply g_ct|apply g_cf|apply g_ret|refine r_1 rfl ?_|apply g_blk|apply g_eb|apply g_ex|apply e_t|apply e_h|refine e_o rfl ?_|apply r_t|apply r_b|apply g_cl|exact st_sidx hix|exact st_slen|exact st_add' (by assumption)|exact st_move'|exact st_assign'|exact st_and_t'|exact st_and_f'|exact st_or_f'|exact st_or_t'|exact st_not' (b:=true) (u:=false) rfl|exact st_not' (b:=false) (u:=true) rfl|exact st_not' rfl|exact st_eq' (by first|assumption|rfl)|exact st_neq' (by first|assumption|rfl)|exact st_lss' (by first|assumption|rfl)|exact st_leq' (by first|assumption|rfl)|exact st_gtr' (by first|assumption|rfl)|exact st_geq' (by first|assumption|rfl)|exact st_len'|exact Cv.rfl'|intro _
   ·have hi0:i=0:=by have:=eq_of_beq hz;omega
    rw [name_bad0 (by rw [←hi0];exact hx) hl]
    refine g_of h ?_
    clear h
    repeat' first|kernel_rfl|apply g_seq|apply g_reg|apply g_nil|apply g_box|apply g_all|apply g_stf|apply g_stw|apply g_sto|apply g_asg|refine g_run rfl inferInstance (by first|exact st_slen|exact st_move'|exact st_and_t'|exact st_and_f'|exact st_or_f'|exact st_or_t'|exact st_not' (b:=true) (u:=false) rfl|exact st_not' (b:=false) (u:=true) rfl|exact st_not' rfl|exact st_eq' (by first|assumption|rfl)|exact st_neq' (by first|assumption|rfl)|exact st_leq' (by first|assumption|rfl)|exact st_geq' (by first|assumption|rfl)|exact st_len') (by kernel_rfl) ?_|refine g_sk rfl inferInstance rfl (by kernel_rfl) ?_|refine g_un rfl inferInstance (by kernel_rfl) ?_|apply g_st|apply g_skip|apply g_ct|apply g_cf|apply g_ret|refine r_1 rfl ?_|apply g_blk|apply g_eb|apply g_ex|apply e_t|apply e_h|refine e_o rfl ?_|apply r_t|apply r_b|apply g_cl|exact st_sidx hix|exact st_slen|exact st_add' (by assumption)|exact st_move'|exact st_assign'|exact st_and_t'|exact st_and_f'|exact st_or_f'|exact st_or_t'|exact st_not' (b:=true) (u:=false) rfl|exact st_not' (b:=false) (u:=true) rfl|exact st_not' rfl|exact st_eq' (by first|assumption|rfl)|exact st_neq' (by first|assumption|rfl)|exact st_lss' (by first|assumption|rfl)|exact st_leq' (by first|assumption|rfl)|exact st_gtr' (by first|assumption|rfl)|exact st_geq' (by first|assumption|rfl)|exact st_len'|exact Cv.rfl'|intro _
 ·have hil:i=l.length:=by omega
  have hc:decide ((i:Int)<(l.length:Int))=false:=decide_eq_false (by omega)
  rw [hil,List.take_length] at ha
  have en:=name_end ha (fun h=>h0 (by omega))
  rcases en with ⟨hp,en⟩|⟨hp,en⟩
  ·rw [en]
   refine g_of h ?_
   clear h
   repeat' first|kernel_rfl|apply g_seq|apply g_reg|apply g_nil|apply g_box|apply g_all|apply g_stf|apply g_stw|apply g_sto|apply g_asg|refine g_run rfl inferInstance (by first|exact st_slen|exact st_move'|exact st_and_t'|exact st_and_f'|exact st_or_f'|exact st_or_t'|exact st_not' (b:=true) (u:=false) rfl|exact st_not' (b:=false) (u:=true) rfl|exact st_not' rfl|exact st_eq' (by first|assumption|rfl)|exact st_neq' (by first|assumption|rfl)|exact st_leq' (by first|assumption|rfl)|exact st_geq' (by first|assumption|rfl)|exact st_len') (by kernel_rfl) ?_|refine g_sk rfl inferInstance rfl (by kernel_rfl) ?_|refine g_un rfl inferInstance (by kernel_rfl) ?_|apply g_st|apply g_skip|apply g_ct|apply g_cf|apply g_ret|refine r_1 rfl ?_|apply g_blk|apply g_eb|apply g_ex|apply e_t|apply e_h|refine e_o rfl ?_|apply r_t|apply r_b|apply g_cl|exact st_sidx hix|exact st_slen|exact st_add' (by assumption)|exact st_move'|exact st_assign'|exact st_and_t'|exact st_and_f'|exact st_or_f'|exact st_or_t'|exact st_not' (b:=true) (u:=false) rfl|exact st_not' (b:=false) (u:=true) rfl|exact st_not' rfl|exact st_eq' (by first|assumption|rfl)|exact st_neq' (by first|assumption|rfl)|exact st_lss' (by first|assumption|rfl)|exact st_leq' (by first|assumption|rfl)|exact st_gtr' (by first|assumption|rfl)|exact st_geq' (by first|assumption|rfl)|exact st_len'|exact Cv.rfl'|intro _
  ·rw [en]
   refine g_of h ?_
   clear h
   repeat' first|kernel_rfl|apply g_seq|apply g_reg|apply g_nil|apply g_box|apply g_all|apply g_stf|apply g_stw|apply g_sto|apply g_asg|refine g_run rfl inferInstance (by first|exact st_slen|exact st_move'|exact st_and_t'|exact st_and_f'|exact st_or_f'|exact st_or_t'|exact st_not' (b:=true) (u:=false) rfl|exact st_not' (b:=false) (u:=true) rfl|exact st_not' rfl|exact st_eq' (by first|assumption|rfl)|exact st_neq' (by first|assumption|rfl)|exact st_leq' (by first|assumption|rfl)|exact st_geq' (by first|assumption|rfl)|exact st_len') (by kernel_rfl) ?_|refine g_sk rfl inferInstance rfl (by kernel_rfl) ?_|refine g_un rfl inferInstance (by kernel_rfl) ?_|apply g_st|apply g_skip|apply g_ct|apply g_cf|apply g_ret|refine r_1 rfl ?_|apply g_blk|apply g_eb|apply g_ex|apply e_t|apply e_h|refine e_o rfl ?_|apply r_t|apply r_b|apply g_cl|exact st_sidx hix|exact st_slen|exact st_add' (by assumption)|exact st_move'|exact st_assign'|exact st_and_t'|exact st_and_f'|exact st_or_f'|exact st_or_t'|exact st_not' (b:=true) (u:=false) rfl|exact st_not' (b:=false) (u:=true) rfl|exact st_not' rfl|exact st_eq' (by first|assumption|rfl)|exact st_neq' (by first|assumption|rfl)|exact st_lss' (by first|assumption|rfl)|exact st_leq' (by first|assumption|rfl)|exact st_gtr' (by first|assumption|rfl)|exact st_geq' (by first|assumption|rfl)|exact st_len'|exact Cv.rfl'|intro _
theorem s8_div0 {w00:World} {N:Nat} {L:List Loc} {E:List (Nat×VTy)} {d:Nat} {t0:TypeId} {pos:String} {af:Array Edge} {gd:Option (Nat×Bool)} {ats:Array TypeId} {o0 o1:Operand} {T0 T1:VTy} {N0 M:Int} {L0 K:Nat} [OpC E o0 T0] [a0:AsN T0 N0 L0] [OpC E o1 T1] [a1:AsN T1 M K] (hb:L0≤1000∧K≤1000) (hM:M=0):
 StepT Tryz.prog w00 N L E ⟨some d, .call { callee:= .value (.func 110),args:= #[o0,o1],argTypes:=ats },t0,pos,af,gd⟩ (.tup [.nc 0 0, .nc 0 0, .is (.int .i64 20)]):=by
 subst hM
 refine sc2 e3_div fun X w v0 v1 hX _ _ h0 h1=>(c3_div0 (a0.ok h0) (a1.ok h1) hb).mono ?_
 rintro e w' ⟨v,rfl,hv,hb⟩
 have hT:(VTy.nc 0 0).holds X w' (.agg #[.bool false, .slice none 0 0]):=⟨(false,[]),⟨Whole.zero,by decide⟩,[.bool false, .slice none 0 0],rfl,num_rd.2 ⟨none,0,0,rfl,⟨Sl.nil,fun h=>by omega⟩,Dg.nil⟩⟩
 exact ⟨v,rfl,⟨[_,_,_],hv,hT,hT,rfl,trivial⟩,hb⟩
theorem unit_fmod {k:Nat} {x:RawQ} (hx:Dg 4294967296 x.1.2) (hy:Dg 4294967296 x.2.2) (h:qrt x=true):iv x.2≠0∧unitB k x=(cmpI ((k:Int).fmod (iv x.2)) 0==0):=by
 obtain ⟨_,_,hd⟩:=Frac.of hx hy h
 have hp:=(qv x).den_pos
 refine ⟨by omega,?_⟩
 unfold unitB
 rw [h,←hd,Bool.true_and,Int.fmod_eq_emod_of_nonneg _ (by omega),Bool.eq_iff_iff,decide_eq_true_eq,beq_iff_eq,cmpI_zero]
 constructor
 ·intro e;exact_mod_cast congrArg (Nat.cast:Nat→Int) e
 ·intro e;exact_mod_cast e
theorem c8_units {x:RawQ} {L k:Nat} (hL:L≤90) (hk: -9223372036854775808≤(k:Int)∧(k:Int)≤9223372036854775807):Ctr Tryz.prog Tab 43 [4,0] [.qx x L, .is (.int .i64 (k:Int))] (fun _=> .is (.bool (unitB k x))):=by
 refine ctrF (F:=(Dg 4294967296 x.1.2∧Dg 4294967296 x.2.2)∧x.1.2.length≤L∧x.2.2.length≤L∧0<L) (fun ha=> ?_) (fun _ _=>by kernel_rfl) fun ⟨⟨hx,hy⟩,_⟩=> ?_
 ·obtain ⟨v,us,rfl,h,_⟩:=ha.tail
  exact qx_dg h
 cases hq:qrt x
 ·rw [show unitB k x=false by unfold unitB;rw [hq];rfl]
  by_cases h0:iv x.2=0
  refine ctr Tryz.func43 rfl Tryz.ntmps43 (by simp) (fun _ _=>by kernel_rfl) fun X w hE=> ?_
  simp only [argE,Nat.zero_add,Nat.reduceAdd]
  repeat' first|kernel_rfl|apply g_seq|apply g_reg|apply g_nil|apply g_drawE (id:=1) [] [] 11 [7,8]|apply z_sto|apply z_asg|apply z_cl|apply o_all|apply o_go|exact OpsT.nil|exact GuardC.nil|exact UndefC.nil|refine @GuardC.cons _ _ _ _ inferInstance ?_|refine @UndefC.cons _ _ _ inferInstance ?_|apply g_box|apply g_all|apply g_stf|apply g_stw|apply g_sto|apply g_asg|refine g_run rfl inferInstance (by first|exact s3_sign (by omega)|exact st_move'|exact st_load'|exact st_eq' (by first|assumption|rfl)|exact st_loadE') (by kernel_rfl) ?_|refine g_sk rfl inferInstance rfl (by kernel_rfl) ?_|refine g_un rfl inferInstance (by kernel_rfl) ?_|apply g_st|apply g_skip|apply g_ct|apply g_cf|apply g_ret|refine r_1 rfl ?_|apply g_cl|exact s3_of (by assumption)|exact s3_div (by omega) (by assumption)|exact s8_div0 (by omega) (by assumption)|exact s4_rightU (by omega) (by assumption)|exact s3_sign (by omega)|exact st_move'|exact st_assign'|exact st_load'|exact st_fieldAddr'|exact st_extract'|exact st_and_t'|exact st_and_f'|exact st_eq' (by first|assumption|rfl)|exact st_loadE'|exact Cv.rfl'|(intro _;simp only[newX,newL,ptrs,List.map,List.cons_append,List.nil_append])|intro _
  ·skip
   refine ctr Tryz.func43 rfl Tryz.ntmps43 (by simp) (fun _ _=>by kernel_rfl) fun X w hE=> ?_
   simp only [argE,Nat.zero_add,Nat.reduceAdd]
   repeat' first|kernel_rfl|apply g_seq|apply g_reg|apply g_nil|apply g_drawE (id:=1) [] [] 11 [7,8]|apply z_sto|apply z_asg|apply z_cl|apply o_all|apply o_go|exact OpsT.nil|exact GuardC.nil|exact UndefC.nil|refine @GuardC.cons _ _ _ _ inferInstance ?_|refine @UndefC.cons _ _ _ inferInstance ?_|apply g_box|apply g_all|apply g_stf|apply g_stw|apply g_sto|apply g_asg|refine g_run rfl inferInstance (by first|exact s3_sign (by omega)|exact st_move'|exact st_load'|exact st_eq' (by first|assumption|rfl)|exact st_loadE') (by kernel_rfl) ?_|refine g_sk rfl inferInstance rfl (by kernel_rfl) ?_|refine g_un rfl inferInstance (by kernel_rfl) ?_|apply g_st|apply g_skip|apply g_ct|apply g_cf|apply g_ret|refine r_1 rfl ?_|apply g_cl|exact s3_of (by assumption)|exact s3_div (by omega) (by assumption)|exact s8_div0 (by omega) (by assumption)|exact s4_rightU (by omega) (by assumption)|exact s3_sign (by omega)|exact st_move'|exact st_assign'|exact st_load'|exact st_fieldAddr'|exact st_extract'|exact st_and_t'|exact st_and_f'|exact st_eq' (by first|assumption|rfl)|exact st_loadE'|exact Cv.rfl'|(intro _;simp only[newX,newL,ptrs,List.map,List.cons_append,List.nil_append])|intro _
 ·obtain ⟨h0,he⟩:=unit_fmod (k:=k) hx hy hq
  rw [he]
  refine ctr Tryz.func43 rfl Tryz.ntmps43 (by simp) (fun _ _=>by kernel_rfl) fun X w hE=> ?_
  simp only [argE,Nat.zero_add,Nat.reduceAdd]
  repeat' first|kernel_rfl|apply g_seq|apply g_reg|apply g_nil|apply g_drawE (id:=1) [] [] 11 [7,8]|apply z_sto|apply z_asg|apply z_cl|apply o_all|apply o_go|exact OpsT.nil|exact GuardC.nil|exact UndefC.nil|refine @GuardC.cons _ _ _ _ inferInstance ?_|refine @UndefC.cons _ _ _ inferInstance ?_|apply g_box|apply g_all|apply g_stf|apply g_stw|apply g_sto|apply g_asg|refine g_run rfl inferInstance (by first|exact s3_sign (by omega)|exact st_move'|exact st_load'|exact st_eq' (by first|assumption|rfl)|exact st_loadE') (by kernel_rfl) ?_|refine g_sk rfl inferInstance rfl (by kernel_rfl) ?_|refine g_un rfl inferInstance (by kernel_rfl) ?_|apply g_st|apply g_skip|apply g_ct|apply g_cf|apply g_ret|refine r_1 rfl ?_|apply g_cl|exact s3_of (by assumption)|exact s3_div (by omega) (by assumption)|exact s8_div0 (by omega) (by assumption)|exact s4_rightU (by omega) (by assumption)|exact s3_sign (by omega)|exact st_move'|exact st_assign'|exact st_load'|exact st_fieldAddr'|exact st_extract'|exact st_and_t'|exact st_and_f'|exact st_eq' (by first|assumption|rfl)|exact st_loadE'|exact Cv.rfl'|(intro _;simp only[newX,newL,ptrs,List.map,List.cons_append,List.nil_append])|intro _
theorem c8_ismoneyX {x:RawQ} {L:Nat} (hL:L≤80):Ctr Tryz.prog Tab 14 [4] [.qx x L] (fun _=> .is (.bool (monB x))):=by
 unfold monB
 rw [Bool.and_assoc]
 have k0:Ctr Tryz.prog Tab 43 [4,0] [.qx x L, .is (.int .i64 100)] _:=c8_units (x:=x) (k:=100) (by omega) (by decide)
 cases h0:unitB 100 x
 ·rw [h0] at k0
  simp only [Bool.false_and]
  refine ctr Tryz.func14 rfl Tryz.ntmps14 (by simp) (fun _ _=>by kernel_rfl) fun X w hE=> ?_
  simp only [argE,Nat.zero_add,Nat.reduceAdd]
  repeat' first|kernel_rfl|apply g_seq|apply g_reg|apply g_nil|apply g_draw (id:=3) [(10,false),(16,false)] [] 15|(apply o_sk;(focus rfl);(focus kernel_rfl))|apply o_all|apply o_go|exact OpsT.nil|exact GuardC.nil|exact UndefC.nil|refine @GuardC.cons _ _ _ _ inferInstance ?_|refine @UndefC.cons _ _ _ inferInstance ?_|apply g_box|apply g_all|apply g_stf|apply g_stw|apply g_sto|apply g_asg|refine g_run rfl inferInstance (by first|fail) (by kernel_rfl) ?_|refine g_sk rfl inferInstance rfl (by kernel_rfl) ?_|refine g_un rfl inferInstance (by kernel_rfl) ?_|apply g_st|apply g_skip|apply g_ct|apply g_cf|apply g_ret|refine r_1 rfl ?_|apply g_cl|exact sc hE k0|exact s4_neg (by omega)|exact s4_mul (by omega)|exact s4_cmp (by omega)|exact s4_whole (by decide)|exact st_move'|exact st_assign'|exact st_load'|exact st_and_t'|exact st_and_f'|exact st_lss' (by first|assumption|rfl)|exact st_loadE'|exact Cv.rfl'|(intro _;simp only[newX,newL,ptrs,List.map,List.cons_append,List.nil_append])|intro _
 rw [h0] at k0
 simp only [Bool.true_and]
 unfold topQ
 cases h1:decide (cmpQ (qv x) (((1000000000000000:Int):Rat)*((1000000000000000:Int):Rat))<0)
 ·simp only [Bool.false_and]
  refine ctr Tryz.func14 rfl Tryz.ntmps14 (by simp) (fun _ _=>by kernel_rfl) fun X w hE=> ?_
  simp only [argE,Nat.zero_add,Nat.reduceAdd]
  repeat' first|kernel_rfl|apply g_seq|apply g_reg|apply g_nil|apply g_draw (id:=3) [(10,true),(16,false)] [] 15|(apply o_sk;(focus rfl);(focus kernel_rfl))|apply o_all|apply o_go|exact OpsT.nil|exact GuardC.nil|exact UndefC.nil|refine @GuardC.cons _ _ _ _ inferInstance ?_|refine @UndefC.cons _ _ _ inferInstance ?_|apply g_box|apply g_all|apply g_stf|apply g_stw|apply g_sto|apply g_asg|refine g_run rfl inferInstance (by first|fail) (by kernel_rfl) ?_|refine g_sk rfl inferInstance rfl (by kernel_rfl) ?_|refine g_un rfl inferInstance (by kernel_rfl) ?_|apply g_st|apply g_skip|apply g_ct|apply g_cf|apply g_ret|refine r_1 rfl ?_|apply g_cl|exact sc hE k0|exact s4_neg (by omega)|exact s4_mul (by omega)|exact s4_cmp (by omega)|exact s4_whole (by decide)|exact st_move'|exact st_assign'|exact st_load'|exact st_and_t'|exact st_and_f'|exact st_lss' (by first|assumption|rfl)|exact st_loadE'|exact Cv.rfl'|(intro _;simp only[newX,newL,ptrs,List.map,List.cons_append,List.nil_append])|intro _
 simp only [Bool.true_and]
 refine ctr Tryz.func14 rfl Tryz.ntmps14 (by simp) (fun _ _=>by kernel_rfl) fun X w hE=> ?_
 simp only [argE,Nat.zero_add,Nat.reduceAdd]
 repeat' first|kernel_rfl|apply g_seq|apply g_reg|apply g_nil|apply g_draw (id:=3) [(10,true),(16,true)] [] 15|apply o_all|apply o_go|exact OpsT.nil|exact GuardC.nil|exact UndefC.nil|refine @GuardC.cons _ _ _ _ inferInstance ?_|refine @UndefC.cons _ _ _ inferInstance ?_|apply g_box|apply g_all|apply g_stf|apply g_stw|apply g_sto|apply g_asg|refine g_run rfl inferInstance (by first|fail) (by kernel_rfl) ?_|refine g_sk rfl inferInstance rfl (by kernel_rfl) ?_|refine g_un rfl inferInstance (by kernel_rfl) ?_|apply g_st|apply g_skip|apply g_ct|apply g_cf|apply g_ret|refine r_1 rfl ?_|apply g_cl|exact sc hE k0|exact s4_neg (by omega)|exact s4_mul (by omega)|exact s4_cmp (by omega)|exact s4_whole (by decide)|exact st_move'|exact st_assign'|exact st_load'|exact st_and_t'|exact st_and_f'|exact st_lss' (by first|assumption|rfl)|exact st_loadE'|exact Cv.rfl'|(intro _;simp only[newX,newL,ptrs,List.map,List.cons_append,List.nil_append])|intro _
theorem c8_isshareX {x:RawQ} {L:Nat} (hL:L≤80):Ctr Tryz.prog Tab 16 [4] [.qx x L] (fun _=> .is (.bool (shrB x))):=by
 unfold shrB uptoB
 have k0:Ctr Tryz.prog Tab 43 [4,0] [.qx x L, .is (.int .i64 1000000)] _:=c8_units (x:=x) (k:=1000000) (by omega) (by decide)
 cases h0:unitB 1000000 x
 ·rw [h0] at k0
  simp only [Bool.false_and]
  refine ctr Tryz.func16 rfl Tryz.ntmps16 (by simp) (fun _ _=>by kernel_rfl) fun X w hE=> ?_
  simp only [argE,Nat.zero_add,Nat.reduceAdd]
  repeat' first|kernel_rfl|apply g_seq|apply g_reg|apply g_nil|apply g_draw (id:=1) [(5,false),(10,false)] [] 13|(apply o_sk;(focus rfl);(focus kernel_rfl))|apply o_all|apply o_go|exact OpsT.nil|exact GuardC.nil|exact UndefC.nil|refine @GuardC.cons _ _ _ _ inferInstance ?_|refine @UndefC.cons _ _ _ inferInstance ?_|apply g_box|apply g_all|apply g_stf|apply g_stw|apply g_sto|apply g_asg|refine g_run rfl inferInstance (by first|fail) (by kernel_rfl) ?_|refine g_sk rfl inferInstance rfl (by kernel_rfl) ?_|refine g_un rfl inferInstance (by kernel_rfl) ?_|apply g_st|apply g_skip|apply g_ct|apply g_cf|apply g_ret|refine r_1 rfl ?_|apply g_cl|exact sc hE k0|exact s4_cmp (by omega)|exact s4_sign (by omega)|exact s4_whole (by decide)|exact st_move'|exact st_assign'|exact st_load'|exact st_and_t'|exact st_and_f'|exact st_leq' (by first|assumption|rfl)|exact st_geq' (by first|assumption|rfl)|exact st_loadE'|exact Cv.rfl'|(intro _;simp only[newX,newL,ptrs,List.map,List.cons_append,List.nil_append])|intro _
 rw [h0] at k0
 simp only [Bool.true_and]
 cases h1:decide (0≤cmpQ (qv x) 0)
 ·simp only [Bool.false_and]
  refine ctr Tryz.func16 rfl Tryz.ntmps16 (by simp) (fun _ _=>by kernel_rfl) fun X w hE=> ?_
  simp only [argE,Nat.zero_add,Nat.reduceAdd]
  repeat' first|kernel_rfl|apply g_seq|apply g_reg|apply g_nil|apply g_draw (id:=1) [(5,true),(10,false)] [] 13|(apply o_sk;(focus rfl);(focus kernel_rfl))|apply o_all|apply o_go|exact OpsT.nil|exact GuardC.nil|exact UndefC.nil|refine @GuardC.cons _ _ _ _ inferInstance ?_|refine @UndefC.cons _ _ _ inferInstance ?_|apply g_box|apply g_all|apply g_stf|apply g_stw|apply g_sto|apply g_asg|refine g_run rfl inferInstance (by first|fail) (by kernel_rfl) ?_|refine g_sk rfl inferInstance rfl (by kernel_rfl) ?_|refine g_un rfl inferInstance (by kernel_rfl) ?_|apply g_st|apply g_skip|apply g_ct|apply g_cf|apply g_ret|refine r_1 rfl ?_|apply g_cl|exact sc hE k0|exact s4_cmp (by omega)|exact s4_sign (by omega)|exact s4_whole (by decide)|exact st_move'|exact st_assign'|exact st_load'|exact st_and_t'|exact st_and_f'|exact st_leq' (by first|assumption|rfl)|exact st_geq' (by first|assumption|rfl)|exact st_loadE'|exact Cv.rfl'|(intro _;simp only[newX,newL,ptrs,List.map,List.cons_append,List.nil_append])|intro _
 simp only [Bool.true_and]
 refine ctr Tryz.func16 rfl Tryz.ntmps16 (by simp) (fun _ _=>by kernel_rfl) fun X w hE=> ?_
 simp only [argE,Nat.zero_add,Nat.reduceAdd]
 repeat' first|kernel_rfl|apply g_seq|apply g_reg|apply g_nil|apply g_draw (id:=1) [(5,true),(10,true)] [] 13|apply o_all|apply o_go|exact OpsT.nil|exact GuardC.nil|exact UndefC.nil|refine @GuardC.cons _ _ _ _ inferInstance ?_|refine @UndefC.cons _ _ _ inferInstance ?_|apply g_box|apply g_all|apply g_stf|apply g_stw|apply g_sto|apply g_asg|refine g_run rfl inferInstance (by first|fail) (by kernel_rfl) ?_|refine g_sk rfl inferInstance rfl (by kernel_rfl) ?_|refine g_un rfl inferInstance (by kernel_rfl) ?_|apply g_st|apply g_skip|apply g_ct|apply g_cf|apply g_ret|refine r_1 rfl ?_|apply g_cl|exact sc hE k0|exact s4_cmp (by omega)|exact s4_sign (by omega)|exact s4_whole (by decide)|exact st_move'|exact st_assign'|exact st_load'|exact st_and_t'|exact st_and_f'|exact st_leq' (by first|assumption|rfl)|exact st_geq' (by first|assumption|rfl)|exact st_loadE'|exact Cv.rfl'|(intro _;simp only[newX,newL,ptrs,List.map,List.cons_append,List.nil_append])|intro _
theorem tr_qx {ts:List TypeId} {C L:Nat} {x:RawQ} (hf:fewQ L x) {X:List Nat} {w:World} {v:Value} (h:(VTy.tr Rp.frac ts C x).holds X w v):(VTy.qx x L).holds X w v:=ra_qx hf (tr_ra h)
theorem c8_ismoneyT {x:RawQ} {ts:List TypeId} {C:Nat} (hf:fewQ 6 x):Ctr Tryz.prog Tab 14 [0] [.tr Rp.frac ts C x] (fun _=> .is (.bool (monB x))):=(c8_ismoneyX (L:=6) (by decide)).args fun h=>by
 obtain ⟨v,rfl,h⟩:=h.one
 exact ⟨tr_qx hf h.1,trivial⟩
theorem c8_isshareT {x:RawQ} {ts:List TypeId} {C:Nat} (hf:fewQ 6 x):Ctr Tryz.prog Tab 16 [0] [.tr Rp.frac ts C x] (fun _=> .is (.bool (shrB x))):=(c8_isshareX (L:=6) (by decide)).args fun h=>by
 obtain ⟨v,rfl,h⟩:=h.one
 exact ⟨tr_qx hf h.1,trivial⟩
theorem l8_words {s:List UInt8} {x:RawQ}:Ctr Tryz.prog Tab 3 [0,0] [.is (Tx s), .ra Rp.frac x] (fun _=> .is (.bool true)):=by
 cases h0:decide ((70:Int)<(s.length:Int))
 rotate_left
 ·skip
  refine ctr Tryz.func3 rfl Tryz.ntmps3 (by simp) (fun _ _=>by kernel_rfl) fun X w hE=> ?_
  simp only [argE,Nat.zero_add,Nat.reduceAdd]
  repeat' first|kernel_rfl|apply g_seq|apply g_reg|apply g_nil|apply o_all|apply o_go|exact OpsT.nil|exact GuardC.nil|exact UndefC.nil|refine @GuardC.cons _ _ _ _ inferInstance ?_|refine @UndefC.cons _ _ _ inferInstance ?_|apply g_box|apply g_all|apply g_stf|apply g_stw|apply g_sto|apply g_asg|refine g_run rfl inferInstance (by first|exact sc hE l8_works|exact st_lenL|exact sc trivial kr|exact sc trivial c_isname|exact sc trivial (c8_isname (by omega))|exact sc hE km|exact sc hE ks|exact sc hE c8_m|exact sc hE c8_s|exact st_slen|exact st_load'|exact st_fieldAddr'|exact st_gtr' (by first|assumption|rfl)|exact st_len'|exact st_loadE') (by kernel_rfl) ?_|refine g_sk rfl inferInstance rfl (by kernel_rfl) ?_|refine g_un rfl inferInstance (by kernel_rfl) ?_|apply g_st|apply g_skip|apply g_ct|apply g_cf|apply g_ret|refine r_1 rfl ?_|apply g_cl|exact sc hE l8_works|exact st_lenL|exact sc trivial kr|exact sc trivial c_isname|exact sc trivial (c8_isname (by omega))|exact sc hE km|exact sc hE ks|exact sc hE c8_m|exact sc hE c8_s|exact st_eqB' (beq_self_eq_true _)|exact st_slen|exact st_move'|exact st_assign'|exact st_load'|exact st_fieldAddr'|exact st_and_t'|exact st_and_f'|exact st_or_f'|exact st_or_t'|exact st_eq' (by first|assumption|rfl)|exact st_gtr' (by first|assumption|rfl)|exact st_len'|exact st_loadE'|exact Cv.rfl'|(intro _;simp only[newX,newL,ptrs,List.map,List.cons_append,List.nil_append])|intro _
 cases h1:decide ((6:Int)<(x.1.2.length:Int))
 rotate_left
 ·skip
  refine ctr Tryz.func3 rfl Tryz.ntmps3 (by simp) (fun _ _=>by kernel_rfl) fun X w hE=> ?_
  simp only [argE,Nat.zero_add,Nat.reduceAdd]
  repeat' first|kernel_rfl|apply g_seq|apply g_reg|apply g_nil|apply o_all|apply o_go|exact OpsT.nil|exact GuardC.nil|exact UndefC.nil|refine @GuardC.cons _ _ _ _ inferInstance ?_|refine @UndefC.cons _ _ _ inferInstance ?_|apply g_box|apply g_all|apply g_stf|apply g_stw|apply g_sto|apply g_asg|refine g_run rfl inferInstance (by first|exact sc hE l8_works|exact st_lenL|exact sc trivial kr|exact sc trivial c_isname|exact sc trivial (c8_isname (by omega))|exact sc hE km|exact sc hE ks|exact sc hE c8_m|exact sc hE c8_s|exact st_slen|exact st_load'|exact st_fieldAddr'|exact st_gtr' (by first|assumption|rfl)|exact st_len'|exact st_loadE') (by kernel_rfl) ?_|refine g_sk rfl inferInstance rfl (by kernel_rfl) ?_|refine g_un rfl inferInstance (by kernel_rfl) ?_|apply g_st|apply g_skip|apply g_ct|apply g_cf|apply g_ret|refine r_1 rfl ?_|apply g_cl|exact sc hE l8_works|exact st_lenL|exact sc trivial kr|exact sc trivial c_isname|exact sc trivial (c8_isname (by omega))|exact sc hE km|exact sc hE ks|exact sc hE c8_m|exact sc hE c8_s|exact st_eqB' (beq_self_eq_true _)|exact st_slen|exact st_move'|exact st_assign'|exact st_load'|exact st_fieldAddr'|exact st_and_t'|exact st_and_f'|exact st_or_f'|exact st_or_t'|exact st_eq' (by first|assumption|rfl)|exact st_gtr' (by first|assumption|rfl)|exact st_len'|exact st_loadE'|exact Cv.rfl'|(intro _;simp only[newX,newL,ptrs,List.map,List.cons_append,List.nil_append])|intro _
 cases h2:decide ((6:Int)<(x.2.2.length:Int))
 rotate_left
 ·skip
  refine ctr Tryz.func3 rfl Tryz.ntmps3 (by simp) (fun _ _=>by kernel_rfl) fun X w hE=> ?_
  simp only [argE,Nat.zero_add,Nat.reduceAdd]
  repeat' first|kernel_rfl|apply g_seq|apply g_reg|apply g_nil|apply o_all|apply o_go|exact OpsT.nil|exact GuardC.nil|exact UndefC.nil|refine @GuardC.cons _ _ _ _ inferInstance ?_|refine @UndefC.cons _ _ _ inferInstance ?_|apply g_box|apply g_all|apply g_stf|apply g_stw|apply g_sto|apply g_asg|refine g_run rfl inferInstance (by first|exact sc hE l8_works|exact st_lenL|exact sc trivial kr|exact sc trivial c_isname|exact sc trivial (c8_isname (by omega))|exact sc hE km|exact sc hE ks|exact sc hE c8_m|exact sc hE c8_s|exact st_slen|exact st_load'|exact st_fieldAddr'|exact st_gtr' (by first|assumption|rfl)|exact st_len'|exact st_loadE') (by kernel_rfl) ?_|refine g_sk rfl inferInstance rfl (by kernel_rfl) ?_|refine g_un rfl inferInstance (by kernel_rfl) ?_|apply g_st|apply g_skip|apply g_ct|apply g_cf|apply g_ret|refine r_1 rfl ?_|apply g_cl|exact sc hE l8_works|exact st_lenL|exact sc trivial kr|exact sc trivial c_isname|exact sc trivial (c8_isname (by omega))|exact sc hE km|exact sc hE ks|exact sc hE c8_m|exact sc hE c8_s|exact st_eqB' (beq_self_eq_true _)|exact st_slen|exact st_move'|exact st_assign'|exact st_load'|exact st_fieldAddr'|exact st_and_t'|exact st_and_f'|exact st_or_f'|exact st_or_t'|exact st_eq' (by first|assumption|rfl)|exact st_gtr' (by first|assumption|rfl)|exact st_len'|exact st_loadE'|exact Cv.rfl'|(intro _;simp only[newX,newL,ptrs,List.map,List.cons_append,List.nil_append])|intro _
 have hs:=of_decide_eq_false h0
 have hf:fewQ 6 x:=⟨by have:=of_decide_eq_false h1;omega,by have:=of_decide_eq_false h2;omega,by decide⟩
 have kr:=c_refrat (x:=x) ⟨by have:=hf.1;omega,by have:=hf.2.1;omega⟩
 have km:=c_ismoney (x:=x) (L:=6) (by decide) hf
 have ks:=c_isshare (x:=x) (L:=6) (by decide) hf
 have c8_m:=c8_ismoneyT (x:=x) (ts:=[76]) (C:=0) hf
 have c8_s:=c8_isshareT (x:=x) (ts:=[76]) (C:=0) hf
 refine ctr Tryz.func3 rfl Tryz.ntmps3 (by simp) (fun _ _=>by kernel_rfl) fun X w hE=> ?_
 simp only [argE,Nat.zero_add,Nat.reduceAdd]
 repeat' first|kernel_rfl|apply g_seq|apply g_reg|apply g_nil|apply g_draw (id:=4) [(31,true),(38,true),(45,true)] [] 22|apply o_all|apply o_go|exact OpsT.nil|exact GuardC.nil|exact UndefC.nil|refine @GuardC.cons _ _ _ _ inferInstance ?_|refine @UndefC.cons _ _ _ inferInstance ?_|apply g_box|apply g_all|apply g_stf|apply g_stw|apply g_sto|apply g_asg|refine g_run rfl inferInstance (by first|exact sc hE l8_works|exact st_lenL|exact sc trivial kr|exact sc trivial c_isname|exact sc trivial (c8_isname (by omega))|exact sc hE km|exact sc hE ks|exact sc hE c8_m|exact sc hE c8_s|exact st_slen|exact st_load'|exact st_fieldAddr'|exact st_gtr' (by first|assumption|rfl)|exact st_len'|exact st_loadE') (by kernel_rfl) ?_|refine g_sk rfl inferInstance rfl (by kernel_rfl) ?_|refine g_un rfl inferInstance (by kernel_rfl) ?_|apply g_st|apply g_skip|apply g_ct|apply g_cf|apply g_ret|refine r_1 rfl ?_|apply g_cl|exact sc hE l8_works|exact st_lenL|exact sc trivial kr|exact sc trivial c_isname|exact sc trivial (c8_isname (by omega))|exact sc hE km|exact sc hE ks|exact sc hE c8_m|exact sc hE c8_s|exact st_eqB' (beq_self_eq_true _)|exact st_slen|exact st_move'|exact st_assign'|exact st_load'|exact st_fieldAddr'|exact st_and_t'|exact st_and_f'|exact st_or_f'|exact st_or_t'|exact st_eq' (by first|assumption|rfl)|exact st_gtr' (by first|assumption|rfl)|exact st_len'|exact st_loadE'|exact Cv.rfl'|(intro _;simp only[newX,newL,ptrs,List.map,List.cons_append,List.nil_append])|intro _
theorem l8_wordsZ {s:List UInt8} {x:RawQ}:Ctr Tryz.prog Tab 3 [0,7] [.is (Tx s), .qz x] (fun _=> .is (.bool true)):=l8_words.args fun h=>by
 obtain ⟨v,us,rfl,h1,h2⟩:=h.tail
 obtain ⟨u,rfl,y,rfl,h3⟩:=h2.one
 exact ⟨h1,h3,trivial⟩
end Go.Proofs.YtgnggldjjjkogaaGreatDoor
