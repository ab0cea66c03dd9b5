/- tallageref06: what texts are read as. -/
import Derived.Test.YtfepenpngklogaaGreatDoorGO
set_option maxHeartbeats 4000000
set_option maxRecDepth 20000
set_option synthInstance.maxHeartbeats 400000
set_option synthInstance.maxSize 4000
set_option linter.unusedSimpArgs false
set_option linter.unusedVariables false
namespace Go.Proofs.YtfepenpngklogaaGreatDoor
open Go Go.RowKit
theorem drop_nil {l:List UInt8} {m:Nat} (h:m≤l.length):(l.drop m==[])=((m:Int)==(l.length:Int)):=by
 rw [Bool.eq_iff_iff,beq_iff_eq,beq_iff_eq,List.drop_eq_nil_iff]
 omega
theorem c_eqI {c:UInt8} {d:Nat} (hd:d<256):(some c==some (UInt8.ofNat d))=((c.toNat:Int)==(d:Int)):=by
 rw [Bool.eq_iff_iff,beq_iff_eq,beq_iff_eq]
 have e:(UInt8.ofNat d).toNat=d:=by rw [UInt8.toNat_ofNat'];omega
 constructor
 ·intro h;injection h with h;rw [h,e]
 ·intro h;rw [show c=UInt8.ofNat d from UInt8.toNat_inj.1 (by rw [e];omega)]
def szN (l:List UInt8):Nat:=bif ng l then 1 else 0
theorem drop_bd (l:List UInt8):l.drop (szN l)=bd l∧szN l≤l.length:=by
 unfold szN bd
 cases h:ng l with
 |false=>exact ⟨rfl,Nat.zero_le _⟩
 |true=>
  have:=head_tail h
  refine ⟨by rw [cond_true,cond_true,List.drop_one],?_⟩
  rw [this]
  show 1≤_
  simp
theorem drop_r1 (l:List UInt8):l.drop (szN l+(wh l).length)=r1 l∧szN l+(wh l).length≤l.length:=by
 obtain ⟨e,h⟩:=drop_bd l
 refine ⟨?_,?_⟩
 ·rw [←List.drop_drop,e]
  exact takeW_drop (bd l)
 ·have h1:(wh l).length≤(bd l).length:=takeW_len (bd l)
  rw [←e,List.length_drop] at h1
  omega
theorem drop_r2 {l:List UInt8} (hs:sp l=true):l.drop (szN l+(wh l).length+1)=r2 l∧szN l+(wh l).length+1≤l.length:=by
 obtain ⟨e,h⟩:=drop_r1 l
 have h2:=head_tail hs
 refine ⟨?_,?_⟩
 ·rw [←List.drop_drop,e]
  unfold r2
  rw [hs,cond_true,List.drop_one]
 ·have:=congrArg List.length e
  rw [h2,List.length_drop,List.length_cons] at this
  omega
theorem c6_form {l:List UInt8} (hl:l.length≤1000000):Ctr Tryz.prog S1 122 [0] [.is (Tx l)] (fun _=> .tup [.is (.int .i64 (fN l)), .is (.int .i64 (fK l)), .is (.bool (fok l&&(r3 l==[])))]):=by
 obtain ⟨e0,l0⟩:=drop_bd l
 obtain ⟨e1,l1⟩:=drop_r1 l
 have hX:FormX l (szN l:Int) (wh l).length (pc l).length (szN l+(wh l).length) (sp l):=⟨hl,by
  have:=c6_digits (x:=(szN l:Int)) hl rfl l0
  rw [e0] at this
  exact this,i64_small qO qO,i64_small qO qO,fun hs=>by
  obtain ⟨e2,l2⟩:=drop_r2 hs
  have:=c6_digits (x:=((szN l+(wh l).length:Nat):Int)+1) hl (k:=szN l+(wh l).length+1) qO l2
  rw [e2] at this
  have hp:pc l=(r2 l).takeWhile isD:=by unfold pc;rw [hs];rfl
  rw [hp]
  exact this,fun hs=>by
  have:=len_parts l
  exact i64_small qO qO,by
  cases hr:r1 l with
  |nil=>
   rw [hr] at e1
   have:=congrArg List.length e1
   rw [List.length_drop,List.length_nil] at this
   refine .inl ⟨decide_eq_false qO,?_⟩
   unfold sp
   rw [hr];rfl
  |cons c r=>
   rw [hr] at e1
   have:=congrArg List.length e1
   rw [List.length_drop,List.length_cons] at this
   refine .inr ⟨decide_eq_true qO,c,⟨by omega,?_⟩,?_⟩
   ·show l[szN l+(wh l).length]? =some c
    rw [←head_at,e1];rfl
   ·unfold sp
    rw [hr]
    exact (c_eqI (d:=46) qD).symm⟩
 have hB:Begin l (szN l:Int):=by
  cases l with
  |nil=>exact .inl ⟨rfl,rfl⟩
  |cons c r=>
   refine .inr ⟨decide_eq_true qE,c,⟨Int.le_refl _,rfl⟩,?_⟩
   have e:ng (c::r)=((c.toNat:Int)==45):=c_eqI (d:=45) qD
   unfold szN
   rw [e]
   cases ((c.toNat:Int)==45)
   ·exact .inl ⟨rfl,rfl⟩
   ·exact .inr ⟨rfl,rfl⟩
 have hend:(r3 l==[])=bif sp l then (((szN l+(wh l).length:Nat):Int)+1+((pc l).length:Int)==(l.length:Int)) else (((szN l+(wh l).length:Nat):Int)==(l.length:Int)):=by
  cases hs:sp l with
  |false=>
   have:r3 l=l.drop (szN l+(wh l).length):=by unfold r3 r2;rw [hs,e1];rfl
   rw [this,drop_nil l1];rfl
  |true=>
   obtain ⟨e2,l2⟩:=drop_r2 hs
   have hlp:szN l+(wh l).length+1+(pc l).length≤l.length:=by
    have h1:(pc l).length≤(r2 l).length:=by unfold pc;rw [hs];exact takeW_len (r2 l)
    rw [←e2,List.length_drop] at h1
    omega
   have:r3 l=l.drop (szN l+(wh l).length+1+(pc l).length):=by
    rw [←List.drop_drop,e2]
    unfold r3 pc
    rw [hs]
    exact (takeW_drop (r2 l)).symm
   rw [this,drop_nil hlp,cond_true]
   congr 1
 have hw0:∀ (i:Nat),i<(wh l).length→l[szN l+i]? =(wh l)[i]? :=fun i hi=>by
  rw [←drop_at,e0]
  conv=>lhs;rw [show bd l=wh l++r1 l from (List.takeWhile_append_dropWhile).symm]
  exact List.getElem?_append_left hi
 have hlead:((!(wh l==[])&& !((wh l).head? ==some 48&&decide (1<(wh l).length)))=true→Lead l (szN l:Int) (wh l).length)∧((!(wh l==[])&& !((wh l).head? ==some 48&&decide (1<(wh l).length)))=false→NoLead l (szN l:Int) (wh l).length):=by
  cases hW:wh l with
  |nil=>exact ⟨fun h=>(by cases h),fun _=> .inl rfl⟩
  |cons c r=>
   have hx:0≤(szN l:Int)∧l[(szN l:Int).toNat]? =some c:=⟨by omega,by
    have:=hw0 0 (by rw [hW];simp)
    rw [hW] at this
    exact this⟩
   have h1:((((c::r).length:Nat):Int)==0)=false:=by rw [beq_eq_false_iff_ne,List.length_cons];omega
   have e2:decide (1<(c::r).length)=decide ((1:Int)<(((c::r).length:Nat):Int)):=decide_eq_decide.2 qO
   have e3:((c::r).head? ==some 48)=((c.toNat:Int)==48):=c_eqI (d:=48) qD
   rw [e2,e3]
   cases k4:((c.toNat:Int)==48)<;>cases k5:decide ((1:Int)<(((c::r).length:Nat):Int))
   ·exact ⟨fun _=>⟨h1, .inl k5⟩,fun h=>(by cases h)⟩
   ·exact ⟨fun _=>⟨h1, .inr ⟨k5,c,hx,k4⟩⟩,fun h=>(by cases h)⟩
   ·exact ⟨fun _=>⟨h1, .inl k5⟩,fun h=>(by cases h)⟩
   ·exact ⟨fun h=>(by cases h),fun _=> .inr ⟨h1,k5,c,hx,k4⟩⟩
 have hfd:fok l=((!(wh l==[])&& !((wh l).head? ==some 48&&decide (1<(wh l).length)))&& !(sp l&&pc l==[])):=rfl
 unfold fN fK
 rw [hend]
 generalize (!(wh l==[])&& !((wh l).head? ==some 48&&decide (1<(wh l).length)))=A at*
 have hne:(pc l==[])=(((pc l).length:Int)==0):=by
  cases pc l with
  |nil=>rfl
  |cons c r=>
   rw [show (c::r==[])=false from rfl]
   exact (beq_eq_false_iff_ne.2 (by rw [List.length_cons];omega)).symm
 rw [hne] at hfd
 cases A with
 |false=>
  rw [hfd]
  simp only [cond_false,Bool.false_and]
  exact form_no hX hB (hlead.2 rfl) fun e=>by subst e;rfl
 |true=>
  have hl0:l≠[]:=fun e=>by
   have:=(hlead.1 rfl).1
   rw [e] at this
   cases this
  cases hs:sp l with
  |false=>
   rw [hs] at hfd
   rw [hfd]
   simp only [Bool.false_and,Bool.not_false,Bool.and_self,cond_true,cond_false,Bool.true_and]
   have:=form_a hX hB (hlead.1 rfl) hl0 hs rfl
   rw [pc_sp hs]
   exact this
  |true=>
   rw [hs] at hfd
   rw [hfd]
   cases hk:(((pc l).length:Int)==0) with
   |true=>
    simp only [Bool.and_self,Bool.not_true,Bool.and_false,cond_false,Bool.false_and]
    exact form_b hX hB (hlead.1 rfl) hl0 hs hk
   |false=>
    simp only [Bool.and_false,Bool.not_false,Bool.and_self,cond_true,Bool.true_and]
    exact form_c hX hB (hlead.1 rfl) hl0 hs hk rfl
def zc (c:UInt8):Bool:=c==45 || (c==46 || c==48)
theorem zs_parts {l:List UInt8} (h3:r3 l=[]):l.all zc=(al0 (wh l)&&al0 (pc l)):=by
 have hW:=wh_dig l
 have hP:=pc_dig l
 have e:=parts l
 rw [h3] at e
 generalize wh l=W at*
 generalize pc l=P at*
 generalize ng l=n at*
 generalize sp l=s at*
 have hdig:∀ {a:List UInt8},(∀ c∈a,isDig c)→a.all zc=al0 a:=fun {a} ha=>by
  unfold al0
  induction a with
  |nil=>rfl
  |cons c a ih=>
   rw [List.all_cons,List.all_cons,ih fun x hx=>ha x (List.mem_cons_of_mem _ hx)]
   obtain ⟨h1,h2⟩:=dig_ne (ha c List.mem_cons_self)
   unfold zc
   rw [beq_eq_false_iff_ne.2 h1,beq_eq_false_iff_ne.2 h2]
   rfl
 have h1:(sgL n 45).all zc=true:=by cases n<;>rfl
 have h2:(sgL s 46).all zc=true:=by cases s<;>rfl
 subst e
 rw [List.all_append,List.all_append,List.all_append,List.all_append,h1,h2,hdig hW,hdig hP]
 simp
theorem all_next {l:List UInt8} {i:Nat} {c:UInt8} (h:l[i]? =some c):(l.take (i+1)).all zc=((l.take i).all zc&&zc c):=by rw [take_next h,List.all_append];simp
theorem zc_int (c:UInt8):zc c=(((c.toNat:Int)==45) || (((c.toNat:Int)==46) || ((c.toNat:Int)==48))):=by
 have q1:(c==45)=((c.toNat:Int)==45):=c_eqI (c:=c) (d:=45) qD
 have q2:(c==46)=((c.toNat:Int)==46):=c_eqI (c:=c) (d:=46) qD
 have q3:(c==48)=((c.toNat:Int)==48):=c_eqI (c:=c) (d:=48) qD
 unfold zc
 rw [q1,q2,q3]
theorem lq0:Lq (0:Rat) 10:=Lq.zero.mono qD
theorem c6_parse {l:List UInt8} {x:Int} {m:Nat} (hl:l.length≤1000000) (hx:x=(m:Int)):Ctr Tryz.prog S1 69 [0,0] [.is (Tx l), .is (.int .i64 x)] (fun _=> .tup [.qc (qeV (dq l) (pE m l)) 10, .is (.int .i64 (pE m l))]):=by
 subst hx
 have cf:=c6_form hl
 have hlp:=len_parts l
 have hd:dok l=(fok l&& !(ng l&&(al0 (wh l)&&al0 (pc l)))):=rfl
 cases hF:(fok l&&(r3 l==[])) with
 |false=>
  rw [hF] at cf
  have hp:pE m l=60:=by
   unfold pE
   have:(dok l&&(r3 l==[]))=false:=by
    rw [hd]
    cases hf:fok l
    ·rfl
    ·rw [hf] at hF
     rw [show (r3 l==[])=false by simpa using hF,Bool.and_false]
   rw [this];rfl
  rw [hp]
  refine ctr Tryz.func69 rfl Tryz.ntmps69 qE (fun _ _=>by kernel_rfl) fun X w hE=> ?_
  simp only [argE,Nat.zero_add,Nat.reduceAdd]
  repeat' first|kernel_rfl|apply g_seq|apply g_reg|apply g_nil|apply g_box|apply g_all|apply g_stf|apply g_stw|apply g_sto|apply g_asg|refine g_run rfl inferInstance (by first|exact sc trivial cf|exact sc trivial cs|exact st_seq (by first|assumption|rfl)|exact st_sidx (by assumption)|exact st_move'|exact st_or_f'|exact st_or_t'|exact st_eq' (by first|assumption|rfl)|exact st_gtr' (by first|assumption|rfl)) qK ?_|refine g_sk rfl inferInstance rfl qK ?_|refine g_un rfl inferInstance qK ?_|apply g_st|apply g_skip|apply g_ct|apply g_cf|apply g_ret|refine r_2 rfl ?_|apply g_blk|apply g_eb|apply g_ex|apply e_t|apply e_h|refine e_o rfl ?_|apply r_t|apply r_b|apply g_cl|exact sc trivial cf|exact sc trivial cs|exact s4_zero|exact st_sadd qL|exact st_slen|exact st_seq qG|exact st_sidx qL|exact st_add' qL|exact st_move'|exact st_assign'|exact st_extract'|exact st_and_t'|exact st_and_f'|exact st_or_f'|exact st_or_t'|exact st_not' (b:=true) (u:=false) rfl|exact st_not' (b:=false) (u:=true) rfl|exact st_not' rfl|exact st_eq' qG|exact st_lss' qG|exact st_gtr' qG|exact st_len'|exact ⟨fun _ _=>tup_imp (fun _ g=>qc_qc rfl lq0 _ g) (fun _ g=>g)⟩|exact Cv.rfl'|intro _
 |true=>
  rw [hF] at cf
  rw [Bool.and_eq_true] at hF
  obtain ⟨hf,h3⟩:=hF
  have h3':r3 l=[]:=by simpa using h3
  have hfN:fN l=((wh l).length:Int):=by unfold fN;rw [hf];rfl
  have hfK:fK l=((pc l).length:Int):=by unfold fK;rw [hf];rfl
  rw [hfN,hfK] at cf
  rw [hf,Bool.true_and] at hd
  cases hm:decide ((m:Int)<((pc l).length:Int)) with
  |true=>
   have hp:pE m l=60:=by
    unfold pE
    have:=of_decide_eq_true hm
    rw [decide_eq_true (show m<(pc l).length by omega)]
    cases (dok l&&(r3 l==[]))<;>rfl
   rw [hp]
   refine ctr Tryz.func69 rfl Tryz.ntmps69 qE (fun _ _=>by kernel_rfl) fun X w hE=> ?_
   simp only [argE,Nat.zero_add,Nat.reduceAdd]
   repeat' first|kernel_rfl|apply g_seq|apply g_reg|apply g_nil|apply g_box|apply g_all|apply g_stf|apply g_stw|apply g_sto|apply g_asg|refine g_run rfl inferInstance (by first|exact sc trivial cf|exact sc trivial cs|exact st_seq (by first|assumption|rfl)|exact st_sidx (by assumption)|exact st_move'|exact st_or_f'|exact st_or_t'|exact st_eq' (by first|assumption|rfl)|exact st_gtr' (by first|assumption|rfl)) qK ?_|refine g_sk rfl inferInstance rfl qK ?_|refine g_un rfl inferInstance qK ?_|apply g_st|apply g_skip|apply g_ct|apply g_cf|apply g_ret|refine r_2 rfl ?_|apply g_blk|apply g_eb|apply g_ex|apply e_t|apply e_h|refine e_o rfl ?_|apply r_t|apply r_b|apply g_cl|exact sc trivial cf|exact sc trivial cs|exact s4_zero|exact st_sadd qL|exact st_slen|exact st_seq qG|exact st_sidx qL|exact st_add' qL|exact st_move'|exact st_assign'|exact st_extract'|exact st_and_t'|exact st_and_f'|exact st_or_f'|exact st_or_t'|exact st_not' (b:=true) (u:=false) rfl|exact st_not' (b:=false) (u:=true) rfl|exact st_not' rfl|exact st_eq' qG|exact st_lss' qG|exact st_gtr' qG|exact st_len'|exact ⟨fun _ _=>tup_imp (fun _ g=>qc_qc rfl lq0 _ g) (fun _ g=>g)⟩|exact Cv.rfl'|intro _
  |false=>
   have hpE:pE m l=bif (l.all zc&&ng l) then 60 else bif decide ((40:Int)<((wh l).length:Int)+((pc l).length:Int)) then 3 else 0:=by
    unfold pE
    have:=of_decide_eq_false hm
    rw [decide_eq_false (show ¬ m<(pc l).length by omega),hd,h3,Bool.and_true,zs_parts h3',show decide ((40:Int)<((wh l).length:Int)+((pc l).length:Int))=decide (40<(wh l).length+(pc l).length) from decide_eq_decide.2 qO,Bool.and_comm (ng l)]
    cases (al0 (wh l)&&al0 (pc l)&&ng l)<;>rfl
   obtain ⟨c0,hx0⟩:∃ c,l[0]? =some c:=by
    cases l with
    |nil=>cases hf
    |cons c r=>exact ⟨c,rfl⟩
   have hix0:0≤(0:Int)∧l[(0:Int).toNat]? =some c0:=⟨by omega,hx0⟩
   have hng:((c0.toNat:Int)==45)=ng l:=by
    unfold ng
    rw [List.head?_eq_getElem?,hx0]
    exact (c_eqI (d:=45) qD).symm
   have hw0:wh l≠[]:=wh_ne hf
   clear hd hfN hfK h3 hlp
   refine ctr Tryz.func69 rfl Tryz.ntmps69 qE (fun _ _=>by kernel_rfl) fun X w hE=> ?_
   simp only [argE,Nat.zero_add,Nat.reduceAdd]
   repeat' first|kernel_rfl|apply g_seq|apply g_reg|apply g_nil|apply g_box|apply g_all|apply g_stf|apply g_stw|apply g_sto|apply g_asg|refine g_run rfl inferInstance (by first|exact sc trivial cf|exact sc trivial cs|exact st_seq (by first|assumption|rfl)|exact st_sidx (by assumption)|exact st_move'|exact st_or_f'|exact st_or_t'|exact st_eq' (by first|assumption|rfl)|exact st_gtr' (by first|assumption|rfl)) qK ?_|refine g_sk rfl inferInstance rfl qK ?_|refine g_un rfl inferInstance qK ?_|apply g_st|apply g_skip|apply g_ct|apply g_cf|apply g_ret|refine r_2 rfl ?_|apply g_blk|apply g_eb|apply g_ex|apply e_t|apply e_h|refine e_o rfl ?_|apply r_t|apply r_b|apply g_cl|exact sc trivial cf|exact sc trivial cs|exact s4_zero|exact st_sadd qL|exact st_slen|exact st_seq qG|exact st_sidx qL|exact st_add' qL|exact st_move'|exact st_assign'|exact st_extract'|exact st_and_t'|exact st_and_f'|exact st_or_f'|exact st_or_t'|exact st_not' (b:=true) (u:=false) rfl|exact st_not' (b:=false) (u:=true) rfl|exact st_not' rfl|exact st_eq' qG|exact st_lss' qG|exact st_gtr' qG|exact st_len'|exact ⟨fun _ _=>tup_imp (fun _ g=>qc_qc rfl lq0 _ g) (fun _ g=>g)⟩|exact Cv.rfl'|intro _
   refine g_stop fun a w h=> ?_
   refine cw_loop (fun j a w=>∃ i:Nat,i+j=l.length∧TS _ _ [(_,VTy.q0)] [(10, .is (.int .i64 (i:Int))),(9, .is (.bool ((l.take i).all zc&&ng l))),(7, .is (.int .i64 ((pc l).length:Int))),(6, .is (.int .i64 ((wh l).length:Int))),(4, .is (.pointer (some ⟨_,0,none⟩))),(0, .is (Tx l))] 62 a w) l.length ⟨0,by omega,h.keep [10,9,7,6,4,0]⟩ ?_
   clear h
   rintro j a w ⟨i,hi,h⟩
   by_cases hlt:i<l.length
   ·obtain ⟨c,hx⟩:∃ c,l[i]? =some c:=⟨_,List.getElem?_eq_getElem hlt⟩
    have hc:decide ((i:Int)<(l.length:Int))=true:=decide_eq_true qO
    have hix:0≤(i:Int)∧l[(i:Int).toNat]? =some c:=⟨by omega,hx⟩
    have hw:IntKind.i64.wrap ((i:Int)+1)=((i+1:Nat):Int):=i64_small qO qO
    have hnx:=all_next hx
    clear hix0 hx0 hng
    cases hb:((l.take i).all zc&&ng l) with
    |false=>
     rw [hb] at h
     have HB:Hid (((l.take (i+1)).all zc&&ng l)=false):=Lib.hid (by rw [hnx];revert hb;cases (l.take i).all zc<;>cases ng l<;>simp)
     clear hb hnx
     refine g_of h ?_
     clear h
     repeat' first|kernel_rfl|exact g_done fun _ _ h=>⟨j - 1,by omega,i+1,by omega,by rw [HB.out];exact h.keep [10,9,7,6,4,0]⟩|apply g_seq|apply g_reg|apply g_nil|apply g_box|apply g_all|apply g_stf|apply g_stw|apply g_sto|apply g_asg|refine g_run rfl inferInstance (by first|exact sc trivial cf|exact sc trivial cs|exact st_seq (by first|assumption|rfl)|exact st_sidx (by assumption)|exact st_move'|exact st_or_f'|exact st_or_t'|exact st_eq' (by first|assumption|rfl)|exact st_gtr' (by first|assumption|rfl)) qK ?_|refine g_sk rfl inferInstance rfl qK ?_|refine g_un rfl inferInstance qK ?_|apply g_st|apply g_skip|apply g_ct|apply g_cf|apply g_ret|refine r_2 rfl ?_|apply g_blk|apply g_eb|apply g_ex|apply e_t|apply e_h|refine e_o rfl ?_|apply r_t|apply r_b|apply g_cl|exact sc trivial cf|exact sc trivial cs|exact s4_zero|exact st_sadd qL|exact st_slen|exact st_seq qG|exact st_sidx qL|exact st_add' qL|exact st_move'|exact st_assign'|exact st_extract'|exact st_and_t'|exact st_and_f'|exact st_or_f'|exact st_or_t'|exact st_not' (b:=true) (u:=false) rfl|exact st_not' (b:=false) (u:=true) rfl|exact st_not' rfl|exact st_eq' qG|exact st_lss' qG|exact st_gtr' qG|exact st_len'|exact Cv.rfl'|intro _
    |true=>
     rw [hb] at h
     have hz:((l.take (i+1)).all zc&&ng l)=(((c.toNat:Int)==45) || (((c.toNat:Int)==46) || ((c.toNat:Int)==48))):=by
      rw [←zc_int,hnx];revert hb;cases (l.take i).all zc<;>cases ng l<;>simp
     clear hb hnx
     cases t1:((c.toNat:Int)==45) with
     |true=>
      rw [t1] at hz
      have HB:=Lib.hid hz
      clear hz
      refine g_of h ?_
      clear h
      repeat' first|kernel_rfl|exact g_done fun _ _ h=>⟨j - 1,by omega,i+1,by omega,by rw [HB.out];exact h.keep [10,9,7,6,4,0]⟩|apply g_seq|apply g_reg|apply g_nil|apply g_box|apply g_all|apply g_stf|apply g_stw|apply g_sto|apply g_asg|refine g_run rfl inferInstance (by first|exact sc trivial cf|exact sc trivial cs|exact st_seq (by first|assumption|rfl)|exact st_sidx (by assumption)|exact st_move'|exact st_or_f'|exact st_or_t'|exact st_eq' (by first|assumption|rfl)|exact st_gtr' (by first|assumption|rfl)) qK ?_|refine g_sk rfl inferInstance rfl qK ?_|refine g_un rfl inferInstance qK ?_|apply g_st|apply g_skip|apply g_ct|apply g_cf|apply g_ret|refine r_2 rfl ?_|apply g_blk|apply g_eb|apply g_ex|apply e_t|apply e_h|refine e_o rfl ?_|apply r_t|apply r_b|apply g_cl|exact sc trivial cf|exact sc trivial cs|exact s4_zero|exact st_sadd qL|exact st_slen|exact st_seq qG|exact st_sidx qL|exact st_add' qL|exact st_move'|exact st_assign'|exact st_extract'|exact st_and_t'|exact st_and_f'|exact st_or_f'|exact st_or_t'|exact st_not' (b:=true) (u:=false) rfl|exact st_not' (b:=false) (u:=true) rfl|exact st_not' rfl|exact st_eq' qG|exact st_lss' qG|exact st_gtr' qG|exact st_len'|exact Cv.rfl'|intro _
     |false=>
      cases t2:((c.toNat:Int)==46) with
      |true=>
       rw [t1,t2] at hz
       have HB:=Lib.hid hz
       clear hz
       refine g_of h ?_
       clear h
       repeat' first|kernel_rfl|exact g_done fun _ _ h=>⟨j - 1,by omega,i+1,by omega,by rw [HB.out];exact h.keep [10,9,7,6,4,0]⟩|apply g_seq|apply g_reg|apply g_nil|apply g_box|apply g_all|apply g_stf|apply g_stw|apply g_sto|apply g_asg|refine g_run rfl inferInstance (by first|exact sc trivial cf|exact sc trivial cs|exact st_seq (by first|assumption|rfl)|exact st_sidx (by assumption)|exact st_move'|exact st_or_f'|exact st_or_t'|exact st_eq' (by first|assumption|rfl)|exact st_gtr' (by first|assumption|rfl)) qK ?_|refine g_sk rfl inferInstance rfl qK ?_|refine g_un rfl inferInstance qK ?_|apply g_st|apply g_skip|apply g_ct|apply g_cf|apply g_ret|refine r_2 rfl ?_|apply g_blk|apply g_eb|apply g_ex|apply e_t|apply e_h|refine e_o rfl ?_|apply r_t|apply r_b|apply g_cl|exact sc trivial cf|exact sc trivial cs|exact s4_zero|exact st_sadd qL|exact st_slen|exact st_seq qG|exact st_sidx qL|exact st_add' qL|exact st_move'|exact st_assign'|exact st_extract'|exact st_and_t'|exact st_and_f'|exact st_or_f'|exact st_or_t'|exact st_not' (b:=true) (u:=false) rfl|exact st_not' (b:=false) (u:=true) rfl|exact st_not' rfl|exact st_eq' qG|exact st_lss' qG|exact st_gtr' qG|exact st_len'|exact Cv.rfl'|intro _
      |false=>
       rw [t1,t2] at hz
       have HB:=Lib.hid hz
       clear hz
       refine g_of h ?_
       clear h
       repeat' first|kernel_rfl|exact g_done fun _ _ h=>⟨j - 1,by omega,i+1,by omega,by rw [HB.out];exact h.keep [10,9,7,6,4,0]⟩|apply g_seq|apply g_reg|apply g_nil|apply g_box|apply g_all|apply g_stf|apply g_stw|apply g_sto|apply g_asg|refine g_run rfl inferInstance (by first|exact sc trivial cf|exact sc trivial cs|exact st_seq (by first|assumption|rfl)|exact st_sidx (by assumption)|exact st_move'|exact st_or_f'|exact st_or_t'|exact st_eq' (by first|assumption|rfl)|exact st_gtr' (by first|assumption|rfl)) qK ?_|refine g_sk rfl inferInstance rfl qK ?_|refine g_un rfl inferInstance qK ?_|apply g_st|apply g_skip|apply g_ct|apply g_cf|apply g_ret|refine r_2 rfl ?_|apply g_blk|apply g_eb|apply g_ex|apply e_t|apply e_h|refine e_o rfl ?_|apply r_t|apply r_b|apply g_cl|exact sc trivial cf|exact sc trivial cs|exact s4_zero|exact st_sadd qL|exact st_slen|exact st_seq qG|exact st_sidx qL|exact st_add' qL|exact st_move'|exact st_assign'|exact st_extract'|exact st_and_t'|exact st_and_f'|exact st_or_f'|exact st_or_t'|exact st_not' (b:=true) (u:=false) rfl|exact st_not' (b:=false) (u:=true) rfl|exact st_not' rfl|exact st_eq' qG|exact st_lss' qG|exact st_gtr' qG|exact st_len'|exact Cv.rfl'|intro _
   ·have hc:decide ((i:Int)<(l.length:Int))=false:=decide_eq_false qO
    rw [List.take_of_length_le (show l.length≤i by omega)] at h
    rw [hpE]
    have hw:IntKind.i64.wrap (((wh l).length:Int)+((pc l).length:Int))=((wh l).length:Int)+((pc l).length:Int):=i64_small qO (by have:=len_parts l;omega)
    clear hpE hix0 hx0 hng
    cases hb:(l.all zc&&ng l) with
    |true=>
     rw [hb] at h
     clear hb
     simp only [cond_true]
     refine g_of h ?_
     clear h
     repeat' first|kernel_rfl|apply g_seq|apply g_reg|apply g_nil|apply g_box|apply g_all|apply g_stf|apply g_stw|apply g_sto|apply g_asg|refine g_run rfl inferInstance (by first|exact sc trivial cf|exact sc trivial cs|exact st_seq (by first|assumption|rfl)|exact st_sidx (by assumption)|exact st_move'|exact st_or_f'|exact st_or_t'|exact st_eq' (by first|assumption|rfl)|exact st_gtr' (by first|assumption|rfl)) qK ?_|refine g_sk rfl inferInstance rfl qK ?_|refine g_un rfl inferInstance qK ?_|apply g_st|apply g_skip|apply g_ct|apply g_cf|apply g_ret|refine r_2 rfl ?_|apply g_blk|apply g_eb|apply g_ex|apply e_t|apply e_h|refine e_o rfl ?_|apply r_t|apply r_b|apply g_cl|exact sc trivial cf|exact sc trivial cs|exact s4_zero|exact st_sadd qL|exact st_slen|exact st_seq qG|exact st_sidx qL|exact st_add' qL|exact st_move'|exact st_assign'|exact st_extract'|exact st_and_t'|exact st_and_f'|exact st_or_f'|exact st_or_t'|exact st_not' (b:=true) (u:=false) rfl|exact st_not' (b:=false) (u:=true) rfl|exact st_not' rfl|exact st_eq' qG|exact st_lss' qG|exact st_gtr' qG|exact st_len'|exact ⟨fun _ _=>tup_imp (fun _ g=>qc_qc rfl lq0 _ g) (fun _ g=>g)⟩|exact Cv.rfl'|intro _
    |false=>
     rw [hb] at h
     clear hb
     simp only [cond_false]
     cases h40:decide ((40:Int)<((wh l).length:Int)+((pc l).length:Int)) with
     |true=>
      simp only [cond_true]
      refine g_of h ?_
      clear h
      repeat' first|kernel_rfl|apply g_seq|apply g_reg|apply g_nil|apply g_box|apply g_all|apply g_stf|apply g_stw|apply g_sto|apply g_asg|refine g_run rfl inferInstance (by first|exact sc trivial cf|exact sc trivial cs|exact st_seq (by first|assumption|rfl)|exact st_sidx (by assumption)|exact st_move'|exact st_or_f'|exact st_or_t'|exact st_eq' (by first|assumption|rfl)|exact st_gtr' (by first|assumption|rfl)) qK ?_|refine g_sk rfl inferInstance rfl qK ?_|refine g_un rfl inferInstance qK ?_|apply g_st|apply g_skip|apply g_ct|apply g_cf|apply g_ret|refine r_2 rfl ?_|apply g_blk|apply g_eb|apply g_ex|apply e_t|apply e_h|refine e_o rfl ?_|apply r_t|apply r_b|apply g_cl|exact sc trivial cf|exact sc trivial cs|exact s4_zero|exact st_sadd qL|exact st_slen|exact st_seq qG|exact st_sidx qL|exact st_add' qL|exact st_move'|exact st_assign'|exact st_extract'|exact st_and_t'|exact st_and_f'|exact st_or_f'|exact st_or_t'|exact st_not' (b:=true) (u:=false) rfl|exact st_not' (b:=false) (u:=true) rfl|exact st_not' rfl|exact st_eq' qG|exact st_lss' qG|exact st_gtr' qG|exact st_len'|exact ⟨fun _ _=>tup_imp (fun _ g=>qc_qc rfl lq0 _ g) (fun _ g=>g)⟩|exact Cv.rfl'|intro _
     |false=>
      have cs:=c6_says hw0 h3' (by have:=of_decide_eq_false h40;omega)
      simp only [cond_false]
      refine g_of h ?_
      clear h
      repeat' first|kernel_rfl|apply g_seq|apply g_reg|apply g_nil|apply g_box|apply g_all|apply g_stf|apply g_stw|apply g_sto|apply g_asg|refine g_run rfl inferInstance (by first|exact sc trivial cf|exact sc trivial cs|exact st_seq (by first|assumption|rfl)|exact st_sidx (by assumption)|exact st_move'|exact st_or_f'|exact st_or_t'|exact st_eq' (by first|assumption|rfl)|exact st_gtr' (by first|assumption|rfl)) qK ?_|refine g_sk rfl inferInstance rfl qK ?_|refine g_un rfl inferInstance qK ?_|apply g_st|apply g_skip|apply g_ct|apply g_cf|apply g_ret|refine r_2 rfl ?_|apply g_blk|apply g_eb|apply g_ex|apply e_t|apply e_h|refine e_o rfl ?_|apply r_t|apply r_b|apply g_cl|exact sc trivial cf|exact sc trivial cs|exact s4_zero|exact st_sadd qL|exact st_slen|exact st_seq qG|exact st_sidx qL|exact st_add' qL|exact st_move'|exact st_assign'|exact st_extract'|exact st_and_t'|exact st_and_f'|exact st_or_f'|exact st_or_t'|exact st_not' (b:=true) (u:=false) rfl|exact st_not' (b:=false) (u:=true) rfl|exact st_not' rfl|exact st_eq' qG|exact st_lss' qG|exact st_gtr' qG|exact st_len'|exact Cv.rfl'|intro _
theorem c6_parseT {l:List UInt8} (hl:l.length≤1000000):Ctr Tryz.prog S1 28 [0] [.is (Tx l)] (fun _=> .tup [.qc (qeV (dq l) (pE l.length l)) 10, .is (.int .i64 (pE l.length l))]):=by
 have cp:=c6_parse (l:=l) (x:=(l.length:Int)) (m:=l.length) hl rfl
 refine ctr Tryz.func28 rfl Tryz.ntmps28 qE (fun _ _=>by kernel_rfl) fun X w hE=> ?_
 simp only [argE,Nat.zero_add,Nat.reduceAdd]
 repeat' first|kernel_rfl|apply g_seq|apply g_reg|apply g_nil|apply g_box|apply g_all|apply g_stf|apply g_stw|apply g_sto|apply g_asg|apply g_st|apply g_skip|apply g_ct|apply g_cf|apply g_ret|refine r_2 rfl ?_|apply g_cl|exact sc trivial cp|exact st_slen|exact st_move'|exact st_assign'|exact st_extract'|exact st_len'|exact Cv.rfl'|intro _
theorem c6_amountT {l:List UInt8} (hl:l.length≤1000000):Ctr Tryz.prog S1 29 [0] [.is (Tx l)] (fun _=> .tup [.qc (qeV (dq l) (pE 2 l)) 10, .is (.int .i64 (pE 2 l))]):=by
 have cp:=c6_parse (l:=l) (x:=2) (m:=2) hl rfl
 refine ctr Tryz.func29 rfl Tryz.ntmps29 qE (fun _ _=>by kernel_rfl) fun X w hE=> ?_
 simp only [argE,Nat.zero_add,Nat.reduceAdd]
 repeat' first|kernel_rfl|apply g_seq|apply g_reg|apply g_nil|apply g_box|apply g_all|apply g_stf|apply g_stw|apply g_sto|apply g_asg|apply g_st|apply g_skip|apply g_ct|apply g_cf|apply g_ret|refine r_2 rfl ?_|apply g_cl|exact sc trivial cp|exact st_move'|exact st_assign'|exact st_extract'|exact Cv.rfl'|intro _
theorem sh_pct {m:List UInt8} (hn:ng (m++[37])=false):(pE 4 m=0→decide (0<cmpQ (dq m) h100)=false→shE (m++[37])=0)∧(pE 4 m≠0→shE (m++[37])=60)∧(decide (0<cmpQ (dq m) h100)=true→shE (m++[37])=60)∧(pE 4 m=0→dq (m++[37])=dq m):=by
 by_cases hd:(dok m&&(r3 m==[]))=true
 ·rw [Bool.and_eq_true] at hd
  obtain ⟨h1,h2⟩:=hd
  have h2':r3 m=[]:=by simpa using h2
  have hw:wh m≠[]:=wh_ne (by unfold dok at h1;exact (Bool.and_eq_true_iff.1 h1).1)
  obtain ⟨e1,e2,e3,e4,e5⟩:=parts_pct hw h2'
  have e6:dok (m++[37])=true:=(dok_of e1 e2 e3 e4).trans h1
  have e7:dq (m++[37])=dq m:=by unfold dq;rw [e1,e2,e4]
  have hs:shE (m++[37])=bif decide (4<(pc m).length) || decide (40<(wh m).length+(pc m).length) || decide (0<cmpQ (dq m) h100) then 60 else 0:=by
   unfold shE
   rw [e6,e5,hn,e4,e2,e7]
   rfl
  have hp:pE 4 m=bif decide (4<(pc m).length) then 60 else bif decide (40<(wh m).length+(pc m).length) then 3 else 0:=by
   unfold pE
   rw [h1,h2]
   rfl
  rw [hs,hp]
  generalize decide (0<cmpQ (dq m) h100)=z
  refine ⟨?_,?_,?_,fun _=>e7⟩<;>cases decide (4<(pc m).length)<;>cases decide (40<(wh m).length+(pc m).length)<;>cases z<;>simp
 ·have hd':(dok m&&(r3 m==[]))=false:=by simpa using hd
  have hp:pE 4 m=60:=by unfold pE;rw [hd'];rfl
  have hs:shE (m++[37])=60:=by
   unfold shE
   cases hq:(dok (m++[37])&&(r3 (m++[37])==[37])) with
   |false=>rfl
   |true=>
    exfalso
    rw [Bool.and_eq_true] at hq
    obtain ⟨h1,h2⟩:=hq
    have h2':r3 (m++[37])=[37]:=by simpa using h2
    have hw:wh (m++[37])≠[]:=wh_ne (by unfold dok at h1;exact (Bool.and_eq_true_iff.1 h1).1)
    obtain ⟨m',e,e1,e2,e3,e4,e5⟩:=pct_end hw h2'
    obtain rfl:m=m':=(List.append_inj' e rfl).1
    rw [(dok_of e1 e2 e3 e4).trans h1,e5] at hd'
    cases hd'
  rw [hs,hp]
  exact ⟨fun h=>absurd h qD,fun _=>rfl,fun _=>rfl,fun h=>absurd h qD⟩
theorem sh_not {l:List UInt8} (h:∀ m,l≠m++[37]):shE l=60:=by
 unfold shE
 cases hq:(dok l&&(r3 l==[37])) with
 |false=>rfl
 |true=>
  exfalso
  rw [Bool.and_eq_true] at hq
  obtain ⟨h1,h2⟩:=hq
  have hw:wh l≠[]:=wh_ne (by unfold dok at h1;exact (Bool.and_eq_true_iff.1 h1).1)
  obtain ⟨m,e,_⟩:=pct_end hw (by simpa using h2)
  exact h m e
theorem sh_neg {l:List UInt8} (h:ng l=true):shE l=60:=by
 unfold shE
 rw [h]
 cases (dok l&&(r3 l==[37]))<;>rfl
theorem lq12:Lq (0:Rat) 12:=Lq.zero.mono qD
theorem c6_share {l:List UInt8} (hl:l.length≤1000000):Ctr Tryz.prog S1 30 [0] [.is (Tx l)] (fun _=> .tup [.qc (qeV (dq l / h100) (shE l)) 12, .is (.int .i64 (shE l))]):=by
 by_cases h0:l=[]
 ·subst h0
  have hs:shE []=60:=sh_not fun m e=>by simp at e
  have hq:(([]:List UInt8)==[])=true:=rfl
  rw [hs]
  refine ctr Tryz.func30 rfl Tryz.ntmps30 qE (fun _ _=>by kernel_rfl) fun X w hE=> ?_
  simp only [argE,Nat.zero_add,Nat.reduceAdd]
  repeat' first|kernel_rfl|apply g_seq|apply g_reg|apply g_nil|apply o_all|apply o_go|exact OpsT.nil|exact GuardC.nil|exact UndefC.nil|refine @GuardC.cons _ _ _ _ inferInstance ?_|refine @UndefC.cons _ _ _ inferInstance ?_|apply g_box|apply g_all|apply g_stf|apply g_stw|apply g_sto|apply g_asg|refine g_run rfl inferInstance (by first|exact sc trivial cp|exact st_slen|exact st_seq (by first|assumption|rfl)|exact st_sne (by first|assumption|rfl)|exact st_sidx (by first|exact hi0|exact hi1)|exact st_sub2 (by assumption)|exact st_move'|exact st_eq' (by first|assumption|rfl)|exact st_neq' (by first|assumption|rfl)|exact st_len') qK ?_|refine g_sk rfl inferInstance rfl qK ?_|refine g_un rfl inferInstance qK ?_|apply g_st|apply g_skip|apply g_ct|apply g_cf|apply g_ret|refine r_2 rfl ?_|apply g_cl|exact sc trivial cp|exact s4_zero|exact s4_whole qD|exact s4_cmp qO|exact s4_div qO h100_ne|exact st_slen|exact st_seq qG|exact st_sne qG|exact st_sidx (by first|exact hi0|exact hi1)|exact st_sto qL|exact st_sfrom qL|exact st_sub2 qL|exact st_move'|exact st_assign'|exact st_load'|exact st_extract'|exact st_or_f'|exact st_or_t'|exact st_eq' qG|exact st_neq' qG|exact st_gtr' qG|exact st_len'|exact st_loadE'|exact ⟨fun _ _=>tup_imp (fun _ g=>qc_qc rfl lq12 _ g) (fun _ g=>g)⟩|exact Cv.rfl'|(intro _;simp only[newX,newL,ptrs,List.map,List.cons_append,List.nil_append])|intro _
 have hq:(l==[])=false:=by simpa using h0
 obtain ⟨c,hx⟩:∃ c,l[0]? =some c:=by
  cases l with
  |nil=>exact absurd rfl h0
  |cons c r=>exact ⟨c,rfl⟩
 have hi0:0≤(0:Int)∧l[(0:Int).toNat]? =some c:=⟨by omega,hx⟩
 have hng:((c.toNat:Int)==45)=ng l:=by
  unfold ng
  rw [List.head?_eq_getElem?,hx]
  exact (c_eqI (d:=45) qD).symm
 obtain ⟨m,z,e⟩:∃ m z,l=m++[z]:=⟨l.dropLast,l.getLast h0,(List.dropLast_concat_getLast h0).symm⟩
 have hlen:l.length=m.length+1:=by rw [e];simp
 have hw:IntKind.i64.wrap ((l.length:Int) - 1)=((m.length:Nat):Int):=by rw [IntKind.wrap_i64];omega
 have hi1:0≤((m.length:Nat):Int)∧l[((m.length:Nat):Int).toNat]? =some z:=⟨by omega,by show l[m.length]? =_;rw [e];simp⟩
 have hto:0≤((m.length:Nat):Int)∧((m.length:Nat):Int)≤(l.length:Int):=qO
 have htk:l.take ((m.length:Nat):Int).toNat=m:=by show l.take m.length=m;rw [e];simp
 have cp:Ctr Tryz.prog S1 69 [0,0] [.is (Tx (l.take ((m.length:Nat):Int).toNat)), .is (.int .i64 4)] (fun _=> .tup [.qc (qeV (dq m) (pE 4 m)) 10, .is (.int .i64 (pE 4 m))]):=by
  rw [htk]
  exact c6_parse (m:=4) qO rfl
 clear htk
 cases hn:ng l with
 |true=>
  rw [sh_neg hn]
  rw [hn] at hng
  refine ctr Tryz.func30 rfl Tryz.ntmps30 qE (fun _ _=>by kernel_rfl) fun X w hE=> ?_
  simp only [argE,Nat.zero_add,Nat.reduceAdd]
  repeat' first|kernel_rfl|apply g_seq|apply g_reg|apply g_nil|apply o_all|apply o_go|exact OpsT.nil|exact GuardC.nil|exact UndefC.nil|refine @GuardC.cons _ _ _ _ inferInstance ?_|refine @UndefC.cons _ _ _ inferInstance ?_|apply g_box|apply g_all|apply g_stf|apply g_stw|apply g_sto|apply g_asg|refine g_run rfl inferInstance (by first|exact sc trivial cp|exact st_slen|exact st_seq (by first|assumption|rfl)|exact st_sne (by first|assumption|rfl)|exact st_sidx (by first|exact hi0|exact hi1)|exact st_sub2 (by assumption)|exact st_move'|exact st_eq' (by first|assumption|rfl)|exact st_neq' (by first|assumption|rfl)|exact st_len') qK ?_|refine g_sk rfl inferInstance rfl qK ?_|refine g_un rfl inferInstance qK ?_|apply g_st|apply g_skip|apply g_ct|apply g_cf|apply g_ret|refine r_2 rfl ?_|apply g_cl|exact sc trivial cp|exact s4_zero|exact s4_whole qD|exact s4_cmp qO|exact s4_div qO h100_ne|exact st_slen|exact st_seq qG|exact st_sne qG|exact st_sidx (by first|exact hi0|exact hi1)|exact st_sto qL|exact st_sfrom qL|exact st_sub2 qL|exact st_move'|exact st_assign'|exact st_load'|exact st_extract'|exact st_or_f'|exact st_or_t'|exact st_eq' qG|exact st_neq' qG|exact st_gtr' qG|exact st_len'|exact st_loadE'|exact ⟨fun _ _=>tup_imp (fun _ g=>qc_qc rfl lq12 _ g) (fun _ g=>g)⟩|exact Cv.rfl'|(intro _;simp only[newX,newL,ptrs,List.map,List.cons_append,List.nil_append])|intro _
 |false=>
  rw [hn] at hng
  cases hz:((z.toNat:Int) != 37) with
  |true=>
   have hz':z≠37:=fun h=>by rw [h] at hz;exact absurd hz qD
   rw [sh_not fun m' e'=>hz' (by have:=(List.append_inj' (e.symm.trans e') rfl).2;simpa using this)]
   refine ctr Tryz.func30 rfl Tryz.ntmps30 qE (fun _ _=>by kernel_rfl) fun X w hE=> ?_
   simp only [argE,Nat.zero_add,Nat.reduceAdd]
   repeat' first|kernel_rfl|apply g_seq|apply g_reg|apply g_nil|apply o_all|apply o_go|exact OpsT.nil|exact GuardC.nil|exact UndefC.nil|refine @GuardC.cons _ _ _ _ inferInstance ?_|refine @UndefC.cons _ _ _ inferInstance ?_|apply g_box|apply g_all|apply g_stf|apply g_stw|apply g_sto|apply g_asg|refine g_run rfl inferInstance (by first|exact sc trivial cp|exact st_slen|exact st_seq (by first|assumption|rfl)|exact st_sne (by first|assumption|rfl)|exact st_sidx (by first|exact hi0|exact hi1)|exact st_sub2 (by assumption)|exact st_move'|exact st_eq' (by first|assumption|rfl)|exact st_neq' (by first|assumption|rfl)|exact st_len') qK ?_|refine g_sk rfl inferInstance rfl qK ?_|refine g_un rfl inferInstance qK ?_|apply g_st|apply g_skip|apply g_ct|apply g_cf|apply g_ret|refine r_2 rfl ?_|apply g_cl|exact sc trivial cp|exact s4_zero|exact s4_whole qD|exact s4_cmp qO|exact s4_div qO h100_ne|exact st_slen|exact st_seq qG|exact st_sne qG|exact st_sidx (by first|exact hi0|exact hi1)|exact st_sto qL|exact st_sfrom qL|exact st_sub2 qL|exact st_move'|exact st_assign'|exact st_load'|exact st_extract'|exact st_or_f'|exact st_or_t'|exact st_eq' qG|exact st_neq' qG|exact st_gtr' qG|exact st_len'|exact st_loadE'|exact ⟨fun _ _=>tup_imp (fun _ g=>qc_qc rfl lq12 _ g) (fun _ g=>g)⟩|exact Cv.rfl'|(intro _;simp only[newX,newL,ptrs,List.map,List.cons_append,List.nil_append])|intro _
  |false=>
   obtain rfl:z=37:=UInt8.toNat_inj.1 (by rw [bne_eq_false_iff_eq] at hz;show z.toNat=37;omega)
   have hnm:ng (m++[37])=false:=by rw [←e];exact hn
   obtain ⟨g1,g2,g3,g4⟩:=sh_pct hnm
   rw [←e] at g1 g2 g3 g4
   by_cases he:pE 4 m=0
   ·replace cp:Ctr Tryz.prog S1 69 [0,0] [.is (Tx (l.take ((m.length:Nat):Int).toNat)), .is (.int .i64 4)] (fun _=> .tup [.qc (dq m) 10, .is (.int .i64 0)]):=by rw [he] at cp;exact cp
    cases hc:decide (0<cmpQ (dq m) h100) with
    |true=>
     rw [g3 hc]
     clear g1 g2 g3 g4
     refine ctr Tryz.func30 rfl Tryz.ntmps30 qE (fun _ _=>by kernel_rfl) fun X w hE=> ?_
     simp only [argE,Nat.zero_add,Nat.reduceAdd]
     repeat' first|kernel_rfl|apply g_seq|apply g_reg|apply g_nil|apply g_draw (id:=4) [(35,false)] [] 7|apply o_all|apply o_go|exact OpsT.nil|exact GuardC.nil|exact UndefC.nil|refine @GuardC.cons _ _ _ _ inferInstance ?_|refine @UndefC.cons _ _ _ inferInstance ?_|apply g_box|apply g_all|apply g_stf|apply g_stw|apply g_sto|apply g_asg|refine g_run rfl inferInstance (by first|exact sc trivial cp|exact st_slen|exact st_seq (by first|assumption|rfl)|exact st_sne (by first|assumption|rfl)|exact st_sidx (by first|exact hi0|exact hi1)|exact st_sub2 (by assumption)|exact st_move'|exact st_eq' (by first|assumption|rfl)|exact st_neq' (by first|assumption|rfl)|exact st_len') qK ?_|refine g_sk rfl inferInstance rfl qK ?_|refine g_un rfl inferInstance qK ?_|apply g_st|apply g_skip|apply g_ct|apply g_cf|apply g_ret|refine r_2 rfl ?_|apply g_cl|exact sc trivial cp|exact s4_zero|exact s4_whole qD|exact s4_cmp qO|exact s4_div qO h100_ne|exact st_slen|exact st_seq qG|exact st_sne qG|exact st_sidx (by first|exact hi0|exact hi1)|exact st_sto qL|exact st_sfrom qL|exact st_sub2 qL|exact st_move'|exact st_assign'|exact st_load'|exact st_extract'|exact st_or_f'|exact st_or_t'|exact st_eq' qG|exact st_neq' qG|exact st_gtr' qG|exact st_len'|exact st_loadE'|exact ⟨fun _ _=>tup_imp (fun _ g=>qc_qc rfl lq12 _ g) (fun _ g=>g)⟩|exact Cv.rfl'|(intro _;simp only[newX,newL,ptrs,List.map,List.cons_append,List.nil_append])|intro _
    |false=>
     rw [g1 he hc,g4 he]
     clear g1 g2 g3 g4
     refine ctr Tryz.func30 rfl Tryz.ntmps30 qE (fun _ _=>by kernel_rfl) fun X w hE=> ?_
     simp only [argE,Nat.zero_add,Nat.reduceAdd]
     repeat' first|kernel_rfl|apply g_seq|apply g_reg|apply g_nil|apply g_draw (id:=4) [(35,false)] [] 7|apply g_drawE (id:=6) [] [] 7 [5]|apply z_sto|apply z_asg|apply z_cl|apply o_all|apply o_go|exact OpsT.nil|exact GuardC.nil|exact UndefC.nil|refine @GuardC.cons _ _ _ _ inferInstance ?_|refine @UndefC.cons _ _ _ inferInstance ?_|apply g_box|apply g_all|apply g_stf|apply g_stw|apply g_sto|apply g_asg|refine g_run rfl inferInstance (by first|exact sc trivial cp|exact st_slen|exact st_seq (by first|assumption|rfl)|exact st_sne (by first|assumption|rfl)|exact st_sidx (by first|exact hi0|exact hi1)|exact st_sub2 (by assumption)|exact st_move'|exact st_eq' (by first|assumption|rfl)|exact st_neq' (by first|assumption|rfl)|exact st_len') qK ?_|refine g_sk rfl inferInstance rfl qK ?_|refine g_un rfl inferInstance qK ?_|apply g_st|apply g_skip|apply g_ct|apply g_cf|apply g_ret|refine r_2 rfl ?_|apply g_cl|exact sc trivial cp|exact s4_zero|exact s4_whole qD|exact s4_cmp qO|exact s4_div qO h100_ne|exact st_slen|exact st_seq qG|exact st_sne qG|exact st_sidx (by first|exact hi0|exact hi1)|exact st_sto qL|exact st_sfrom qL|exact st_sub2 qL|exact st_move'|exact st_assign'|exact st_load'|exact st_extract'|exact st_or_f'|exact st_or_t'|exact st_eq' qG|exact st_neq' qG|exact st_gtr' qG|exact st_len'|exact st_loadE'|exact Cv.rfl'|(intro _;simp only[newX,newL,ptrs,List.map,List.cons_append,List.nil_append])|intro _
   ·rw [g2 he]
    have hne:(pE 4 m != 0)=true:=by simpa using he
    clear g1 g2 g3 g4
    refine ctr Tryz.func30 rfl Tryz.ntmps30 qE (fun _ _=>by kernel_rfl) fun X w hE=> ?_
    simp only [argE,Nat.zero_add,Nat.reduceAdd]
    repeat' first|kernel_rfl|apply g_seq|apply g_reg|apply g_nil|apply g_draw (id:=4) [(35,true)] [] 7|(apply o_sk;(focus rfl);(focus kernel_rfl))|apply o_all|apply o_go|exact OpsT.nil|exact GuardC.nil|exact UndefC.nil|refine @GuardC.cons _ _ _ _ inferInstance ?_|refine @UndefC.cons _ _ _ inferInstance ?_|apply g_box|apply g_all|apply g_stf|apply g_stw|apply g_sto|apply g_asg|refine g_run rfl inferInstance (by first|exact sc trivial cp|exact st_slen|exact st_seq (by first|assumption|rfl)|exact st_sne (by first|assumption|rfl)|exact st_sidx (by first|exact hi0|exact hi1)|exact st_sub2 (by assumption)|exact st_move'|exact st_eq' (by first|assumption|rfl)|exact st_neq' (by first|assumption|rfl)|exact st_len') qK ?_|refine g_sk rfl inferInstance rfl qK ?_|refine g_un rfl inferInstance qK ?_|apply g_st|apply g_skip|apply g_ct|apply g_cf|apply g_ret|refine r_2 rfl ?_|apply g_cl|exact sc trivial cp|exact s4_zero|exact s4_whole qD|exact s4_cmp qO|exact s4_div qO h100_ne|exact st_slen|exact st_seq qG|exact st_sne qG|exact st_sidx (by first|exact hi0|exact hi1)|exact st_sto qL|exact st_sfrom qL|exact st_sub2 qL|exact st_move'|exact st_assign'|exact st_load'|exact st_extract'|exact st_or_f'|exact st_or_t'|exact st_eq' qG|exact st_neq' qG|exact st_gtr' qG|exact st_len'|exact st_loadE'|exact ⟨fun _ _=>tup_imp (fun _ g=>qc_qc rfl lq12 _ g) (fun _ g=>g)⟩|exact Cv.rfl'|(intro _;simp only[newX,newL,ptrs,List.map,List.cons_append,List.nil_append])|intro _
end Go.Proofs.YtfepenpngklogaaGreatDoor
