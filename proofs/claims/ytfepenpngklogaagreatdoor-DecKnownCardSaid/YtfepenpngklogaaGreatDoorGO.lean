/- tallageref06: the forms of decimals. -/
import Derived.Test.YtfepenpngklogaaGreatDoorGN
set_option maxHeartbeats 4000000
set_option maxRecDepth 20000
set_option synthInstance.maxHeartbeats 400000
set_option synthInstance.maxSize 4000
set_option linter.unusedSimpArgs false
set_option linter.unusedVariables false
namespace Go.Proofs.YtfepenpngklogaaGreatDoor
open Go Go.RowKit
variable {k n en:Nat} {s u:Bool} {x:Int}
theorem head_at (l:List UInt8) (k:Nat):(l.drop k)[0]? =l[k]? :=by simp
theorem drop_at (l:List UInt8) (k i:Nat):(l.drop k)[i]? =l[k+i]? :=by simp
theorem c6_digits{l:List UInt8} (hl:l.length≤1000000) (hx:x=(k:Int)) (hk:k≤l.length):Ctr Tryz.prog S1 171 [0,0] [.is (Tx l), .is (.int .i64 x)] (fun _=> .is (.int .i64 (((l.drop k).takeWhile isD).length:Int))):=by
 have hm1:=takeW_len (p:=isD) (l.drop k)
 rw [List.length_drop] at hm1
 subst hx
 refine ctr Tryz.func171 rfl Tryz.ntmps171 qE (fun _ _=>by kernel_rfl) fun X w hE=> ?_
 simp only [argE,Nat.zero_add,Nat.reduceAdd]
 repeat' first|kernel_rfl|apply g_seq|apply g_reg|apply g_nil|apply g_box|apply g_all|apply g_stf|apply g_stw|apply g_sto|apply g_asg|refine g_run rfl inferInstance (by first|exact st_sadd (by assumption)|exact st_sidx (by assumption)|exact st_add' (by assumption)|exact st_move'|exact st_leq' (by first|assumption|rfl)|exact st_geq' (by first|assumption|rfl)) qK ?_|refine g_sk rfl inferInstance rfl qK ?_|refine g_un rfl inferInstance qK ?_|apply g_st|apply g_skip|apply g_ct|apply g_cf|apply g_ret|refine r_1 rfl ?_|apply g_blk|apply g_eb|apply g_ex|apply e_t|apply e_h|refine e_o rfl ?_|apply r_t|apply r_b|apply g_cl|exact st_sadd qL|exact st_slen|exact st_sidx qL|exact st_add' qL|exact st_move'|exact st_assign'|exact st_and_t'|exact st_and_f'|exact st_lss' qG|exact st_leq' qG|exact st_geq' qG|exact st_len'|exact Cv.rfl'|intro _
 refine g_stop fun a w h=> ?_
 refine cw_loop (fun j a w=>∃ i:Nat,i+j=((l.drop k).takeWhile isD).length∧TS _ X [] [(5, .is (.int .i64 (i:Int))),(1, .is (.int .i64 (k:Int))),(0, .is (Tx l))] 31 a w) ((l.drop k).takeWhile isD).length ⟨0,by omega,h.keep [5,1,0]⟩ ?_
 clear h
 rintro j a w ⟨i,hi,h⟩
 have hw0:IntKind.i64.wrap ((k:Int)+(i:Int))=((k+i:Nat):Int):=i64_small qO qO
 by_cases hlt:i<((l.drop k).takeWhile isD).length
 ·obtain ⟨c,hx,hd⟩:=takeW_in hlt
  rw [drop_at] at hx
  obtain ⟨c1,c2⟩:decide ((48:Int)≤(c.toNat:Int))=true∧decide ((c.toNat:Int)≤57)=true:=by
   rcases isD_two hd with ⟨_,h⟩|h
   ·cases h
   ·exact h
  have hc:decide (((k+i:Nat):Int)<(l.length:Int))=true:=decide_eq_true qO
  have hix:0≤((k+i:Nat):Int)∧l[((k+i:Nat):Int).toNat]? =some c:=⟨by omega,hx⟩
  have hw:IntKind.i64.wrap ((i:Int)+1)=((i+1:Nat):Int):=i64_small qO qO
  refine g_of h ?_
  clear h
  repeat' first|kernel_rfl|exact g_done fun _ _ h=>⟨j - 1,by omega,i+1,by omega,h.keep [5,1,0]⟩|apply g_seq|apply g_reg|apply g_nil|apply g_box|apply g_all|apply g_stf|apply g_stw|apply g_sto|apply g_asg|refine g_run rfl inferInstance (by first|exact st_sadd (by assumption)|exact st_sidx (by assumption)|exact st_add' (by assumption)|exact st_move'|exact st_leq' (by first|assumption|rfl)|exact st_geq' (by first|assumption|rfl)) qK ?_|refine g_sk rfl inferInstance rfl qK ?_|refine g_un rfl inferInstance qK ?_|apply g_st|apply g_skip|apply g_ct|apply g_cf|apply g_ret|refine r_1 rfl ?_|apply g_blk|apply g_eb|apply g_ex|apply e_t|apply e_h|refine e_o rfl ?_|apply r_t|apply r_b|apply g_cl|exact st_sadd qL|exact st_slen|exact st_sidx qL|exact st_add' qL|exact st_move'|exact st_assign'|exact st_and_t'|exact st_and_f'|exact st_lss' qG|exact st_leq' qG|exact st_geq' qG|exact st_len'|exact Cv.rfl'|intro _
 ·obtain rfl:i=((l.drop k).takeWhile isD).length:=qO
  have hcs:decide (((k+((l.drop k).takeWhile isD).length:Nat):Int)<(l.length:Int))=false∨(decide (((k+((l.drop k).takeWhile isD).length:Nat):Int)<(l.length:Int))=true∧∃ c:UInt8,(0≤((k+((l.drop k).takeWhile isD).length:Nat):Int)∧l[((k+((l.drop k).takeWhile isD).length:Nat):Int).toNat]? =some c)∧(decide ((48:Int)≤(c.toNat:Int))=false∨decide ((48:Int)≤(c.toNat:Int))=true∧decide ((c.toNat:Int)≤57)=false)):=by
   by_cases hq:((l.drop k).takeWhile isD).length<(l.drop k).length
   ·obtain ⟨c,hx,hd⟩:=takeW_end hq
    rw [drop_at] at hx
    rw [List.length_drop] at hq
    exact .inr ⟨decide_eq_true qO,c,⟨by omega,hx⟩,(isD_two hd).imp And.left id⟩
   ·rw [List.length_drop] at hq
    exact .inl (decide_eq_false qO)
  rcases hcs with hc|⟨hc,c,hx,c1|⟨c1,c2⟩⟩
  all_goals
   refine g_of h ?_
   clear h
   repeat' first|kernel_rfl|apply g_seq|apply g_reg|apply g_nil|apply g_box|apply g_all|apply g_stf|apply g_stw|apply g_sto|apply g_asg|refine g_run rfl inferInstance (by first|exact st_sadd (by assumption)|exact st_sidx (by assumption)|exact st_add' (by assumption)|exact st_move'|exact st_leq' (by first|assumption|rfl)|exact st_geq' (by first|assumption|rfl)) qK ?_|refine g_sk rfl inferInstance rfl qK ?_|refine g_un rfl inferInstance qK ?_|apply g_st|apply g_skip|apply g_ct|apply g_cf|apply g_ret|refine r_1 rfl ?_|apply g_blk|apply g_eb|apply g_ex|apply e_t|apply e_h|refine e_o rfl ?_|apply r_t|apply r_b|apply g_cl|exact st_sadd qL|exact st_slen|exact st_sidx qL|exact st_add' qL|exact st_move'|exact st_assign'|exact st_and_t'|exact st_and_f'|exact st_lss' qG|exact st_leq' qG|exact st_geq' qG|exact st_len'|exact Cv.rfl'|intro _
def fN (l:List UInt8):Int:=bif fok l then ((wh l).length:Int) else 0
def fK (l:List UInt8):Int:=bif fok l then ((pc l).length:Int) else 0
structure FormX (l:List UInt8) (x:Int) (n k en:Nat) (s:Bool):Prop where
 hl:l.length≤1000000
 d1:Ctr Tryz.prog S1 171 [0,0] [.is (Tx l), .is (.int .i64 x)] (fun _=> .is (.int .i64 (n:Int)))
 w1:IntKind.i64.wrap (x+(n:Int))=(en:Int)
 w2:IntKind.i64.wrap ((en:Int)+1)=(en:Int)+1
 d2:s=true→Ctr Tryz.prog S1 171 [0,0] [.is (Tx l), .is (.int .i64 ((en:Int)+1))] (fun _=> .is (.int .i64 (k:Int)))
 w3:s=true→IntKind.i64.wrap ((en:Int)+1+(k:Int))=(en:Int)+1+(k:Int)
 c2:decide ((en:Int)<(l.length:Int))=false∧s=false∨decide ((en:Int)<(l.length:Int))=true∧∃ c:UInt8,(0≤(en:Int)∧l[(en:Int).toNat]? =some c)∧((c.toNat:Int)==46)=s
def Begin (l:List UInt8) (x:Int):Prop:=(decide ((0:Int)<(l.length:Int))=false∧x=0)∨decide ((0:Int)<(l.length:Int))=true∧∃ c:UInt8,(0≤(0:Int)∧l[(0:Int).toNat]? =some c)∧(((c.toNat:Int)==45)=false∧x=0∨((c.toNat:Int)==45)=true∧x=1)
def Lead (l:List UInt8) (x:Int) (n:Nat):Prop:=((n:Int)==0)=false∧(decide ((1:Int)<(n:Int))=false∨decide ((1:Int)<(n:Int))=true∧∃ c:UInt8,(0≤x∧l[x.toNat]? =some c)∧((c.toNat:Int)==48)=false)
def NoLead (l:List UInt8) (x:Int) (n:Nat):Prop:=((n:Int)==0)=true∨((n:Int)==0)=false∧decide ((1:Int)<(n:Int))=true∧∃ c:UInt8,(0≤x∧l[x.toNat]? =some c)∧((c.toNat:Int)==48)=true
theorem fno1e{l:List UInt8} (h:FormX l 0 n k en s) (b1:decide ((0:Int)<(l.length:Int))=false) (n1:((n:Int)==0)=true):Ctr Tryz.prog S1 122 [0] [.is (Tx l)] (fun _=> .tup [.is (.int .i64 0), .is (.int .i64 0), .is (.bool false)]):=by
 obtain ⟨hl,d1,w1,w2,d2,w3,c2⟩:=h
 clear d2 w3 c2
 refine ctr Tryz.func122 rfl Tryz.ntmps122 qE (fun _ _=>by kernel_rfl) fun X w hE=> ?_
 simp only [argE,Nat.zero_add,Nat.reduceAdd]
 repeat' first|kernel_rfl|apply g_seq|apply g_reg|apply g_nil|apply g_box|apply g_all|apply g_stf|apply g_stw|apply g_sto|apply g_asg|refine g_run rfl inferInstance (by first|exact sc trivial d1|exact sc trivial d2|exact st_seq (by first|assumption|rfl)|exact st_sidx (by assumption)|exact st_move'|exact st_and_t'|exact st_and_f'|exact st_eq' (by first|assumption|rfl)|exact st_gtr' (by first|assumption|rfl)) qK ?_|refine g_sk rfl inferInstance rfl qK ?_|refine g_un rfl inferInstance qK ?_|apply g_st|apply g_skip|apply g_ct|apply g_cf|apply g_ret|refine r_3 rfl ?_|apply g_blk|apply g_eb|apply g_ex|apply e_t|apply e_h|refine e_o rfl ?_|apply r_t|apply r_b|apply g_cl|exact sc trivial d1|exact sc trivial d2|exact st_sadd qL|exact st_slen|exact st_seq qG|exact st_sidx qL|exact st_add' qL|exact st_move'|exact st_assign'|exact st_and_t'|exact st_and_f'|exact st_or_f'|exact st_or_t'|exact st_eq' qG|exact st_lss' qG|exact st_gtr' qG|exact st_len'|exact Cv.rfl'|intro _
theorem fno1p{l:List UInt8} (h:FormX l 0 n k en s) {cb:UInt8} (b1:decide ((0:Int)<(l.length:Int))=true) (hb:0≤(0:Int)∧l[(0:Int).toNat]? =some cb) (b2:((cb.toNat:Int)==45)=false) (n1:((n:Int)==0)=true):Ctr Tryz.prog S1 122 [0] [.is (Tx l)] (fun _=> .tup [.is (.int .i64 0), .is (.int .i64 0), .is (.bool false)]):=by
 obtain ⟨hl,d1,w1,w2,d2,w3,c2⟩:=h
 clear d2 w3 c2
 refine ctr Tryz.func122 rfl Tryz.ntmps122 qE (fun _ _=>by kernel_rfl) fun X w hE=> ?_
 simp only [argE,Nat.zero_add,Nat.reduceAdd]
 repeat' first|kernel_rfl|apply g_seq|apply g_reg|apply g_nil|apply g_box|apply g_all|apply g_stf|apply g_stw|apply g_sto|apply g_asg|refine g_run rfl inferInstance (by first|exact sc trivial d1|exact sc trivial d2|exact st_seq (by first|assumption|rfl)|exact st_sidx (by assumption)|exact st_move'|exact st_and_t'|exact st_and_f'|exact st_eq' (by first|assumption|rfl)|exact st_gtr' (by first|assumption|rfl)) qK ?_|refine g_sk rfl inferInstance rfl qK ?_|refine g_un rfl inferInstance qK ?_|apply g_st|apply g_skip|apply g_ct|apply g_cf|apply g_ret|refine r_3 rfl ?_|apply g_blk|apply g_eb|apply g_ex|apply e_t|apply e_h|refine e_o rfl ?_|apply r_t|apply r_b|apply g_cl|exact sc trivial d1|exact sc trivial d2|exact st_sadd qL|exact st_slen|exact st_seq qG|exact st_sidx qL|exact st_add' qL|exact st_move'|exact st_assign'|exact st_and_t'|exact st_and_f'|exact st_or_f'|exact st_or_t'|exact st_eq' qG|exact st_lss' qG|exact st_gtr' qG|exact st_len'|exact Cv.rfl'|intro _
theorem fno2p{l:List UInt8} (h:FormX l 0 n k en s) {cb:UInt8} (b1:decide ((0:Int)<(l.length:Int))=true) (hb:0≤(0:Int)∧l[(0:Int).toNat]? =some cb) (b2:((cb.toNat:Int)==45)=false) (n1:((n:Int)==0)=false) (n2:decide ((1:Int)<(n:Int))=true) (n3:((cb.toNat:Int)==48)=true):Ctr Tryz.prog S1 122 [0] [.is (Tx l)] (fun _=> .tup [.is (.int .i64 0), .is (.int .i64 0), .is (.bool false)]):=by
 obtain ⟨hl,d1,w1,w2,d2,w3,c2⟩:=h
 clear d2 w3 c2
 refine ctr Tryz.func122 rfl Tryz.ntmps122 qE (fun _ _=>by kernel_rfl) fun X w hE=> ?_
 simp only [argE,Nat.zero_add,Nat.reduceAdd]
 repeat' first|kernel_rfl|apply g_seq|apply g_reg|apply g_nil|apply g_box|apply g_all|apply g_stf|apply g_stw|apply g_sto|apply g_asg|refine g_run rfl inferInstance (by first|exact sc trivial d1|exact sc trivial d2|exact st_seq (by first|assumption|rfl)|exact st_sidx (by assumption)|exact st_move'|exact st_and_t'|exact st_and_f'|exact st_eq' (by first|assumption|rfl)|exact st_gtr' (by first|assumption|rfl)) qK ?_|refine g_sk rfl inferInstance rfl qK ?_|refine g_un rfl inferInstance qK ?_|apply g_st|apply g_skip|apply g_ct|apply g_cf|apply g_ret|refine r_3 rfl ?_|apply g_blk|apply g_eb|apply g_ex|apply e_t|apply e_h|refine e_o rfl ?_|apply r_t|apply r_b|apply g_cl|exact sc trivial d1|exact sc trivial d2|exact st_sadd qL|exact st_slen|exact st_seq qG|exact st_sidx qL|exact st_add' qL|exact st_move'|exact st_assign'|exact st_and_t'|exact st_and_f'|exact st_or_f'|exact st_or_t'|exact st_eq' qG|exact st_lss' qG|exact st_gtr' qG|exact st_len'|exact Cv.rfl'|intro _
theorem fno1m{l:List UInt8} (h:FormX l 1 n k en s) {cb:UInt8} (b1:decide ((0:Int)<(l.length:Int))=true) (hb:0≤(0:Int)∧l[(0:Int).toNat]? =some cb) (b2:((cb.toNat:Int)==45)=true) (n1:((n:Int)==0)=true):Ctr Tryz.prog S1 122 [0] [.is (Tx l)] (fun _=> .tup [.is (.int .i64 0), .is (.int .i64 0), .is (.bool false)]):=by
 obtain ⟨hl,d1,w1,w2,d2,w3,c2⟩:=h
 clear d2 w3 c2
 refine ctr Tryz.func122 rfl Tryz.ntmps122 qE (fun _ _=>by kernel_rfl) fun X w hE=> ?_
 simp only [argE,Nat.zero_add,Nat.reduceAdd]
 repeat' first|kernel_rfl|apply g_seq|apply g_reg|apply g_nil|apply g_box|apply g_all|apply g_stf|apply g_stw|apply g_sto|apply g_asg|refine g_run rfl inferInstance (by first|exact sc trivial d1|exact sc trivial d2|exact st_seq (by first|assumption|rfl)|exact st_sidx (by assumption)|exact st_move'|exact st_and_t'|exact st_and_f'|exact st_eq' (by first|assumption|rfl)|exact st_gtr' (by first|assumption|rfl)) qK ?_|refine g_sk rfl inferInstance rfl qK ?_|refine g_un rfl inferInstance qK ?_|apply g_st|apply g_skip|apply g_ct|apply g_cf|apply g_ret|refine r_3 rfl ?_|apply g_blk|apply g_eb|apply g_ex|apply e_t|apply e_h|refine e_o rfl ?_|apply r_t|apply r_b|apply g_cl|exact sc trivial d1|exact sc trivial d2|exact st_sadd qL|exact st_slen|exact st_seq qG|exact st_sidx qL|exact st_add' qL|exact st_move'|exact st_assign'|exact st_and_t'|exact st_and_f'|exact st_or_f'|exact st_or_t'|exact st_eq' qG|exact st_lss' qG|exact st_gtr' qG|exact st_len'|exact Cv.rfl'|intro _
theorem fno2m{l:List UInt8} (h:FormX l 1 n k en s) {cb:UInt8} (b1:decide ((0:Int)<(l.length:Int))=true) (hb:0≤(0:Int)∧l[(0:Int).toNat]? =some cb) (b2:((cb.toNat:Int)==45)=true) (n1:((n:Int)==0)=false) (n2:decide ((1:Int)<(n:Int))=true) {cn:UInt8} (hn:0≤(1:Int)∧l[(1:Int).toNat]? =some cn) (n3:((cn.toNat:Int)==48)=true):Ctr Tryz.prog S1 122 [0] [.is (Tx l)] (fun _=> .tup [.is (.int .i64 0), .is (.int .i64 0), .is (.bool false)]):=by
 obtain ⟨hl,d1,w1,w2,d2,w3,c2⟩:=h
 clear d2 w3 c2
 refine ctr Tryz.func122 rfl Tryz.ntmps122 qE (fun _ _=>by kernel_rfl) fun X w hE=> ?_
 simp only [argE,Nat.zero_add,Nat.reduceAdd]
 repeat' first|kernel_rfl|apply g_seq|apply g_reg|apply g_nil|apply g_box|apply g_all|apply g_stf|apply g_stw|apply g_sto|apply g_asg|refine g_run rfl inferInstance (by first|exact sc trivial d1|exact sc trivial d2|exact st_seq (by first|assumption|rfl)|exact st_sidx (by assumption)|exact st_move'|exact st_and_t'|exact st_and_f'|exact st_eq' (by first|assumption|rfl)|exact st_gtr' (by first|assumption|rfl)) qK ?_|refine g_sk rfl inferInstance rfl qK ?_|refine g_un rfl inferInstance qK ?_|apply g_st|apply g_skip|apply g_ct|apply g_cf|apply g_ret|refine r_3 rfl ?_|apply g_blk|apply g_eb|apply g_ex|apply e_t|apply e_h|refine e_o rfl ?_|apply r_t|apply r_b|apply g_cl|exact sc trivial d1|exact sc trivial d2|exact st_sadd qL|exact st_slen|exact st_seq qG|exact st_sidx qL|exact st_add' qL|exact st_move'|exact st_assign'|exact st_and_t'|exact st_and_f'|exact st_or_f'|exact st_or_t'|exact st_eq' qG|exact st_lss' qG|exact st_gtr' qG|exact st_len'|exact Cv.rfl'|intro _
theorem fa1p1{l:List UInt8} (h:FormX l 0 n k en s) {cb:UInt8} (b1:decide ((0:Int)<(l.length:Int))=true) (hb:0≤(0:Int)∧l[(0:Int).toNat]? =some cb) (b2:((cb.toNat:Int)==45)=false) (n1:((n:Int)==0)=false) (n2:decide ((1:Int)<(n:Int))=false) (k2:decide ((en:Int)<(l.length:Int))=false) (hu:((en:Int)==(l.length:Int))=u):Ctr Tryz.prog S1 122 [0] [.is (Tx l)] (fun _=> .tup [.is (.int .i64 n), .is (.int .i64 0), .is (.bool u)]):=by
 obtain ⟨hl,d1,w1,w2,d2,w3,c2⟩:=h
 clear d2 w3 c2
 refine ctr Tryz.func122 rfl Tryz.ntmps122 qE (fun _ _=>by kernel_rfl) fun X w hE=> ?_
 simp only [argE,Nat.zero_add,Nat.reduceAdd]
 repeat' first|kernel_rfl|apply g_seq|apply g_reg|apply g_nil|apply g_box|apply g_all|apply g_stf|apply g_stw|apply g_sto|apply g_asg|refine g_run rfl inferInstance (by first|exact sc trivial d1|exact sc trivial d2|exact st_seq (by first|assumption|rfl)|exact st_sidx (by assumption)|exact st_move'|exact st_and_t'|exact st_and_f'|exact st_eq' (by first|assumption|rfl)|exact st_gtr' (by first|assumption|rfl)) qK ?_|refine g_sk rfl inferInstance rfl qK ?_|refine g_un rfl inferInstance qK ?_|apply g_st|apply g_skip|apply g_ct|apply g_cf|apply g_ret|refine r_3 rfl ?_|apply g_blk|apply g_eb|apply g_ex|apply e_t|apply e_h|refine e_o rfl ?_|apply r_t|apply r_b|apply g_cl|exact sc trivial d1|exact sc trivial d2|exact st_sadd qL|exact st_slen|exact st_seq qG|exact st_sidx qL|exact st_add' qL|exact st_move'|exact st_assign'|exact st_and_t'|exact st_and_f'|exact st_or_f'|exact st_or_t'|exact st_eq' qG|exact st_lss' qG|exact st_gtr' qG|exact st_len'|exact Cv.rfl'|intro _
theorem fa2p1{l:List UInt8} (h:FormX l 0 n k en s) {cb:UInt8} (b1:decide ((0:Int)<(l.length:Int))=true) (hb:0≤(0:Int)∧l[(0:Int).toNat]? =some cb) (b2:((cb.toNat:Int)==45)=false) (n1:((n:Int)==0)=false) (n2:decide ((1:Int)<(n:Int))=false) (k2:decide ((en:Int)<(l.length:Int))=true) {c:UInt8} (hx:0≤(en:Int)∧l[(en:Int).toNat]? =some c) (c3:((c.toNat:Int)==46)=false) (hu:((en:Int)==(l.length:Int))=u):Ctr Tryz.prog S1 122 [0] [.is (Tx l)] (fun _=> .tup [.is (.int .i64 n), .is (.int .i64 0), .is (.bool u)]):=by
 obtain ⟨hl,d1,w1,w2,d2,w3,c2⟩:=h
 clear d2 w3 c2
 refine ctr Tryz.func122 rfl Tryz.ntmps122 qE (fun _ _=>by kernel_rfl) fun X w hE=> ?_
 simp only [argE,Nat.zero_add,Nat.reduceAdd]
 repeat' first|kernel_rfl|apply g_seq|apply g_reg|apply g_nil|apply g_box|apply g_all|apply g_stf|apply g_stw|apply g_sto|apply g_asg|refine g_run rfl inferInstance (by first|exact sc trivial d1|exact sc trivial d2|exact st_seq (by first|assumption|rfl)|exact st_sidx (by assumption)|exact st_move'|exact st_and_t'|exact st_and_f'|exact st_eq' (by first|assumption|rfl)|exact st_gtr' (by first|assumption|rfl)) qK ?_|refine g_sk rfl inferInstance rfl qK ?_|refine g_un rfl inferInstance qK ?_|apply g_st|apply g_skip|apply g_ct|apply g_cf|apply g_ret|refine r_3 rfl ?_|apply g_blk|apply g_eb|apply g_ex|apply e_t|apply e_h|refine e_o rfl ?_|apply r_t|apply r_b|apply g_cl|exact sc trivial d1|exact sc trivial d2|exact st_sadd qL|exact st_slen|exact st_seq qG|exact st_sidx qL|exact st_add' qL|exact st_move'|exact st_assign'|exact st_and_t'|exact st_and_f'|exact st_or_f'|exact st_or_t'|exact st_eq' qG|exact st_lss' qG|exact st_gtr' qG|exact st_len'|exact Cv.rfl'|intro _
theorem fbp1{l:List UInt8} (h:FormX l 0 n k en s) {cb:UInt8} (b1:decide ((0:Int)<(l.length:Int))=true) (hb:0≤(0:Int)∧l[(0:Int).toNat]? =some cb) (b2:((cb.toNat:Int)==45)=false) (n1:((n:Int)==0)=false) (n2:decide ((1:Int)<(n:Int))=false) (hs:s=true) (hk:((k:Int)==0)=true):Ctr Tryz.prog S1 122 [0] [.is (Tx l)] (fun _=> .tup [.is (.int .i64 0), .is (.int .i64 0), .is (.bool false)]):=by
 obtain ⟨hl,d1,w1,w2,d2,w3,c2⟩:=h
 subst hs
 replace d2:=d2 rfl
 replace w3:=w3 rfl
 obtain ⟨c2,c,hx,c3⟩:decide ((en:Int)<(l.length:Int))=true∧∃ c:UInt8,(0≤(en:Int)∧l[(en:Int).toNat]? =some c)∧((c.toNat:Int)==46)=true:=by
  rcases c2 with ⟨_,h⟩|h
  ·cases h
  ·exact h
 refine ctr Tryz.func122 rfl Tryz.ntmps122 qE (fun _ _=>by kernel_rfl) fun X w hE=> ?_
 simp only [argE,Nat.zero_add,Nat.reduceAdd]
 repeat' first|kernel_rfl|apply g_seq|apply g_reg|apply g_nil|apply g_box|apply g_all|apply g_stf|apply g_stw|apply g_sto|apply g_asg|refine g_run rfl inferInstance (by first|exact sc trivial d1|exact sc trivial d2|exact st_seq (by first|assumption|rfl)|exact st_sidx (by assumption)|exact st_move'|exact st_and_t'|exact st_and_f'|exact st_eq' (by first|assumption|rfl)|exact st_gtr' (by first|assumption|rfl)) qK ?_|refine g_sk rfl inferInstance rfl qK ?_|refine g_un rfl inferInstance qK ?_|apply g_st|apply g_skip|apply g_ct|apply g_cf|apply g_ret|refine r_3 rfl ?_|apply g_blk|apply g_eb|apply g_ex|apply e_t|apply e_h|refine e_o rfl ?_|apply r_t|apply r_b|apply g_cl|exact sc trivial d1|exact sc trivial d2|exact st_sadd qL|exact st_slen|exact st_seq qG|exact st_sidx qL|exact st_add' qL|exact st_move'|exact st_assign'|exact st_and_t'|exact st_and_f'|exact st_or_f'|exact st_or_t'|exact st_eq' qG|exact st_lss' qG|exact st_gtr' qG|exact st_len'|exact Cv.rfl'|intro _
theorem fcp1{l:List UInt8} (h:FormX l 0 n k en s) {cb:UInt8} (b1:decide ((0:Int)<(l.length:Int))=true) (hb:0≤(0:Int)∧l[(0:Int).toNat]? =some cb) (b2:((cb.toNat:Int)==45)=false) (n1:((n:Int)==0)=false) (n2:decide ((1:Int)<(n:Int))=false) (hs:s=true) (hk:((k:Int)==0)=false) (hu:((en:Int)+1+(k:Int)==(l.length:Int))=u):Ctr Tryz.prog S1 122 [0] [.is (Tx l)] (fun _=> .tup [.is (.int .i64 n), .is (.int .i64 k), .is (.bool u)]):=by
 obtain ⟨hl,d1,w1,w2,d2,w3,c2⟩:=h
 subst hs
 replace d2:=d2 rfl
 replace w3:=w3 rfl
 obtain ⟨c2,c,hx,c3⟩:decide ((en:Int)<(l.length:Int))=true∧∃ c:UInt8,(0≤(en:Int)∧l[(en:Int).toNat]? =some c)∧((c.toNat:Int)==46)=true:=by
  rcases c2 with ⟨_,h⟩|h
  ·cases h
  ·exact h
 refine ctr Tryz.func122 rfl Tryz.ntmps122 qE (fun _ _=>by kernel_rfl) fun X w hE=> ?_
 simp only [argE,Nat.zero_add,Nat.reduceAdd]
 repeat' first|kernel_rfl|apply g_seq|apply g_reg|apply g_nil|apply g_box|apply g_all|apply g_stf|apply g_stw|apply g_sto|apply g_asg|refine g_run rfl inferInstance (by first|exact sc trivial d1|exact sc trivial d2|exact st_seq (by first|assumption|rfl)|exact st_sidx (by assumption)|exact st_move'|exact st_and_t'|exact st_and_f'|exact st_eq' (by first|assumption|rfl)|exact st_gtr' (by first|assumption|rfl)) qK ?_|refine g_sk rfl inferInstance rfl qK ?_|refine g_un rfl inferInstance qK ?_|apply g_st|apply g_skip|apply g_ct|apply g_cf|apply g_ret|refine r_3 rfl ?_|apply g_blk|apply g_eb|apply g_ex|apply e_t|apply e_h|refine e_o rfl ?_|apply r_t|apply r_b|apply g_cl|exact sc trivial d1|exact sc trivial d2|exact st_sadd qL|exact st_slen|exact st_seq qG|exact st_sidx qL|exact st_add' qL|exact st_move'|exact st_assign'|exact st_and_t'|exact st_and_f'|exact st_or_f'|exact st_or_t'|exact st_eq' qG|exact st_lss' qG|exact st_gtr' qG|exact st_len'|exact Cv.rfl'|intro _
theorem fa1p2{l:List UInt8} (h:FormX l 0 n k en s) {cb:UInt8} (b1:decide ((0:Int)<(l.length:Int))=true) (hb:0≤(0:Int)∧l[(0:Int).toNat]? =some cb) (b2:((cb.toNat:Int)==45)=false) (n1:((n:Int)==0)=false) (n2:decide ((1:Int)<(n:Int))=true) (n3:((cb.toNat:Int)==48)=false) (k2:decide ((en:Int)<(l.length:Int))=false) (hu:((en:Int)==(l.length:Int))=u):Ctr Tryz.prog S1 122 [0] [.is (Tx l)] (fun _=> .tup [.is (.int .i64 n), .is (.int .i64 0), .is (.bool u)]):=by
 obtain ⟨hl,d1,w1,w2,d2,w3,c2⟩:=h
 clear d2 w3 c2
 refine ctr Tryz.func122 rfl Tryz.ntmps122 qE (fun _ _=>by kernel_rfl) fun X w hE=> ?_
 simp only [argE,Nat.zero_add,Nat.reduceAdd]
 repeat' first|kernel_rfl|apply g_seq|apply g_reg|apply g_nil|apply g_box|apply g_all|apply g_stf|apply g_stw|apply g_sto|apply g_asg|refine g_run rfl inferInstance (by first|exact sc trivial d1|exact sc trivial d2|exact st_seq (by first|assumption|rfl)|exact st_sidx (by assumption)|exact st_move'|exact st_and_t'|exact st_and_f'|exact st_eq' (by first|assumption|rfl)|exact st_gtr' (by first|assumption|rfl)) qK ?_|refine g_sk rfl inferInstance rfl qK ?_|refine g_un rfl inferInstance qK ?_|apply g_st|apply g_skip|apply g_ct|apply g_cf|apply g_ret|refine r_3 rfl ?_|apply g_blk|apply g_eb|apply g_ex|apply e_t|apply e_h|refine e_o rfl ?_|apply r_t|apply r_b|apply g_cl|exact sc trivial d1|exact sc trivial d2|exact st_sadd qL|exact st_slen|exact st_seq qG|exact st_sidx qL|exact st_add' qL|exact st_move'|exact st_assign'|exact st_and_t'|exact st_and_f'|exact st_or_f'|exact st_or_t'|exact st_eq' qG|exact st_lss' qG|exact st_gtr' qG|exact st_len'|exact Cv.rfl'|intro _
theorem fa2p2{l:List UInt8} (h:FormX l 0 n k en s) {cb:UInt8} (b1:decide ((0:Int)<(l.length:Int))=true) (hb:0≤(0:Int)∧l[(0:Int).toNat]? =some cb) (b2:((cb.toNat:Int)==45)=false) (n1:((n:Int)==0)=false) (n2:decide ((1:Int)<(n:Int))=true) (n3:((cb.toNat:Int)==48)=false) (k2:decide ((en:Int)<(l.length:Int))=true) {c:UInt8} (hx:0≤(en:Int)∧l[(en:Int).toNat]? =some c) (c3:((c.toNat:Int)==46)=false) (hu:((en:Int)==(l.length:Int))=u):Ctr Tryz.prog S1 122 [0] [.is (Tx l)] (fun _=> .tup [.is (.int .i64 n), .is (.int .i64 0), .is (.bool u)]):=by
 obtain ⟨hl,d1,w1,w2,d2,w3,c2⟩:=h
 clear d2 w3 c2
 refine ctr Tryz.func122 rfl Tryz.ntmps122 qE (fun _ _=>by kernel_rfl) fun X w hE=> ?_
 simp only [argE,Nat.zero_add,Nat.reduceAdd]
 repeat' first|kernel_rfl|apply g_seq|apply g_reg|apply g_nil|apply g_box|apply g_all|apply g_stf|apply g_stw|apply g_sto|apply g_asg|refine g_run rfl inferInstance (by first|exact sc trivial d1|exact sc trivial d2|exact st_seq (by first|assumption|rfl)|exact st_sidx (by assumption)|exact st_move'|exact st_and_t'|exact st_and_f'|exact st_eq' (by first|assumption|rfl)|exact st_gtr' (by first|assumption|rfl)) qK ?_|refine g_sk rfl inferInstance rfl qK ?_|refine g_un rfl inferInstance qK ?_|apply g_st|apply g_skip|apply g_ct|apply g_cf|apply g_ret|refine r_3 rfl ?_|apply g_blk|apply g_eb|apply g_ex|apply e_t|apply e_h|refine e_o rfl ?_|apply r_t|apply r_b|apply g_cl|exact sc trivial d1|exact sc trivial d2|exact st_sadd qL|exact st_slen|exact st_seq qG|exact st_sidx qL|exact st_add' qL|exact st_move'|exact st_assign'|exact st_and_t'|exact st_and_f'|exact st_or_f'|exact st_or_t'|exact st_eq' qG|exact st_lss' qG|exact st_gtr' qG|exact st_len'|exact Cv.rfl'|intro _
theorem fbp2{l:List UInt8} (h:FormX l 0 n k en s) {cb:UInt8} (b1:decide ((0:Int)<(l.length:Int))=true) (hb:0≤(0:Int)∧l[(0:Int).toNat]? =some cb) (b2:((cb.toNat:Int)==45)=false) (n1:((n:Int)==0)=false) (n2:decide ((1:Int)<(n:Int))=true) (n3:((cb.toNat:Int)==48)=false) (hs:s=true) (hk:((k:Int)==0)=true):Ctr Tryz.prog S1 122 [0] [.is (Tx l)] (fun _=> .tup [.is (.int .i64 0), .is (.int .i64 0), .is (.bool false)]):=by
 obtain ⟨hl,d1,w1,w2,d2,w3,c2⟩:=h
 subst hs
 replace d2:=d2 rfl
 replace w3:=w3 rfl
 obtain ⟨c2,c,hx,c3⟩:decide ((en:Int)<(l.length:Int))=true∧∃ c:UInt8,(0≤(en:Int)∧l[(en:Int).toNat]? =some c)∧((c.toNat:Int)==46)=true:=by
  rcases c2 with ⟨_,h⟩|h
  ·cases h
  ·exact h
 refine ctr Tryz.func122 rfl Tryz.ntmps122 qE (fun _ _=>by kernel_rfl) fun X w hE=> ?_
 simp only [argE,Nat.zero_add,Nat.reduceAdd]
 repeat' first|kernel_rfl|apply g_seq|apply g_reg|apply g_nil|apply g_box|apply g_all|apply g_stf|apply g_stw|apply g_sto|apply g_asg|refine g_run rfl inferInstance (by first|exact sc trivial d1|exact sc trivial d2|exact st_seq (by first|assumption|rfl)|exact st_sidx (by assumption)|exact st_move'|exact st_and_t'|exact st_and_f'|exact st_eq' (by first|assumption|rfl)|exact st_gtr' (by first|assumption|rfl)) qK ?_|refine g_sk rfl inferInstance rfl qK ?_|refine g_un rfl inferInstance qK ?_|apply g_st|apply g_skip|apply g_ct|apply g_cf|apply g_ret|refine r_3 rfl ?_|apply g_blk|apply g_eb|apply g_ex|apply e_t|apply e_h|refine e_o rfl ?_|apply r_t|apply r_b|apply g_cl|exact sc trivial d1|exact sc trivial d2|exact st_sadd qL|exact st_slen|exact st_seq qG|exact st_sidx qL|exact st_add' qL|exact st_move'|exact st_assign'|exact st_and_t'|exact st_and_f'|exact st_or_f'|exact st_or_t'|exact st_eq' qG|exact st_lss' qG|exact st_gtr' qG|exact st_len'|exact Cv.rfl'|intro _
theorem fcp2{l:List UInt8} (h:FormX l 0 n k en s) {cb:UInt8} (b1:decide ((0:Int)<(l.length:Int))=true) (hb:0≤(0:Int)∧l[(0:Int).toNat]? =some cb) (b2:((cb.toNat:Int)==45)=false) (n1:((n:Int)==0)=false) (n2:decide ((1:Int)<(n:Int))=true) (n3:((cb.toNat:Int)==48)=false) (hs:s=true) (hk:((k:Int)==0)=false) (hu:((en:Int)+1+(k:Int)==(l.length:Int))=u):Ctr Tryz.prog S1 122 [0] [.is (Tx l)] (fun _=> .tup [.is (.int .i64 n), .is (.int .i64 k), .is (.bool u)]):=by
 obtain ⟨hl,d1,w1,w2,d2,w3,c2⟩:=h
 subst hs
 replace d2:=d2 rfl
 replace w3:=w3 rfl
 obtain ⟨c2,c,hx,c3⟩:decide ((en:Int)<(l.length:Int))=true∧∃ c:UInt8,(0≤(en:Int)∧l[(en:Int).toNat]? =some c)∧((c.toNat:Int)==46)=true:=by
  rcases c2 with ⟨_,h⟩|h
  ·cases h
  ·exact h
 refine ctr Tryz.func122 rfl Tryz.ntmps122 qE (fun _ _=>by kernel_rfl) fun X w hE=> ?_
 simp only [argE,Nat.zero_add,Nat.reduceAdd]
 repeat' first|kernel_rfl|apply g_seq|apply g_reg|apply g_nil|apply g_box|apply g_all|apply g_stf|apply g_stw|apply g_sto|apply g_asg|refine g_run rfl inferInstance (by first|exact sc trivial d1|exact sc trivial d2|exact st_seq (by first|assumption|rfl)|exact st_sidx (by assumption)|exact st_move'|exact st_and_t'|exact st_and_f'|exact st_eq' (by first|assumption|rfl)|exact st_gtr' (by first|assumption|rfl)) qK ?_|refine g_sk rfl inferInstance rfl qK ?_|refine g_un rfl inferInstance qK ?_|apply g_st|apply g_skip|apply g_ct|apply g_cf|apply g_ret|refine r_3 rfl ?_|apply g_blk|apply g_eb|apply g_ex|apply e_t|apply e_h|refine e_o rfl ?_|apply r_t|apply r_b|apply g_cl|exact sc trivial d1|exact sc trivial d2|exact st_sadd qL|exact st_slen|exact st_seq qG|exact st_sidx qL|exact st_add' qL|exact st_move'|exact st_assign'|exact st_and_t'|exact st_and_f'|exact st_or_f'|exact st_or_t'|exact st_eq' qG|exact st_lss' qG|exact st_gtr' qG|exact st_len'|exact Cv.rfl'|intro _
theorem fa1m1{l:List UInt8} (h:FormX l 1 n k en s) {cb:UInt8} (b1:decide ((0:Int)<(l.length:Int))=true) (hb:0≤(0:Int)∧l[(0:Int).toNat]? =some cb) (b2:((cb.toNat:Int)==45)=true) (n1:((n:Int)==0)=false) (n2:decide ((1:Int)<(n:Int))=false) (k2:decide ((en:Int)<(l.length:Int))=false) (hu:((en:Int)==(l.length:Int))=u):Ctr Tryz.prog S1 122 [0] [.is (Tx l)] (fun _=> .tup [.is (.int .i64 n), .is (.int .i64 0), .is (.bool u)]):=by
 obtain ⟨hl,d1,w1,w2,d2,w3,c2⟩:=h
 clear d2 w3 c2
 refine ctr Tryz.func122 rfl Tryz.ntmps122 qE (fun _ _=>by kernel_rfl) fun X w hE=> ?_
 simp only [argE,Nat.zero_add,Nat.reduceAdd]
 repeat' first|kernel_rfl|apply g_seq|apply g_reg|apply g_nil|apply g_box|apply g_all|apply g_stf|apply g_stw|apply g_sto|apply g_asg|refine g_run rfl inferInstance (by first|exact sc trivial d1|exact sc trivial d2|exact st_seq (by first|assumption|rfl)|exact st_sidx (by assumption)|exact st_move'|exact st_and_t'|exact st_and_f'|exact st_eq' (by first|assumption|rfl)|exact st_gtr' (by first|assumption|rfl)) qK ?_|refine g_sk rfl inferInstance rfl qK ?_|refine g_un rfl inferInstance qK ?_|apply g_st|apply g_skip|apply g_ct|apply g_cf|apply g_ret|refine r_3 rfl ?_|apply g_blk|apply g_eb|apply g_ex|apply e_t|apply e_h|refine e_o rfl ?_|apply r_t|apply r_b|apply g_cl|exact sc trivial d1|exact sc trivial d2|exact st_sadd qL|exact st_slen|exact st_seq qG|exact st_sidx qL|exact st_add' qL|exact st_move'|exact st_assign'|exact st_and_t'|exact st_and_f'|exact st_or_f'|exact st_or_t'|exact st_eq' qG|exact st_lss' qG|exact st_gtr' qG|exact st_len'|exact Cv.rfl'|intro _
theorem fa2m1{l:List UInt8} (h:FormX l 1 n k en s) {cb:UInt8} (b1:decide ((0:Int)<(l.length:Int))=true) (hb:0≤(0:Int)∧l[(0:Int).toNat]? =some cb) (b2:((cb.toNat:Int)==45)=true) (n1:((n:Int)==0)=false) (n2:decide ((1:Int)<(n:Int))=false) (k2:decide ((en:Int)<(l.length:Int))=true) {c:UInt8} (hx:0≤(en:Int)∧l[(en:Int).toNat]? =some c) (c3:((c.toNat:Int)==46)=false) (hu:((en:Int)==(l.length:Int))=u):Ctr Tryz.prog S1 122 [0] [.is (Tx l)] (fun _=> .tup [.is (.int .i64 n), .is (.int .i64 0), .is (.bool u)]):=by
 obtain ⟨hl,d1,w1,w2,d2,w3,c2⟩:=h
 clear d2 w3 c2
 refine ctr Tryz.func122 rfl Tryz.ntmps122 qE (fun _ _=>by kernel_rfl) fun X w hE=> ?_
 simp only [argE,Nat.zero_add,Nat.reduceAdd]
 repeat' first|kernel_rfl|apply g_seq|apply g_reg|apply g_nil|apply g_box|apply g_all|apply g_stf|apply g_stw|apply g_sto|apply g_asg|refine g_run rfl inferInstance (by first|exact sc trivial d1|exact sc trivial d2|exact st_seq (by first|assumption|rfl)|exact st_sidx (by assumption)|exact st_move'|exact st_and_t'|exact st_and_f'|exact st_eq' (by first|assumption|rfl)|exact st_gtr' (by first|assumption|rfl)) qK ?_|refine g_sk rfl inferInstance rfl qK ?_|refine g_un rfl inferInstance qK ?_|apply g_st|apply g_skip|apply g_ct|apply g_cf|apply g_ret|refine r_3 rfl ?_|apply g_blk|apply g_eb|apply g_ex|apply e_t|apply e_h|refine e_o rfl ?_|apply r_t|apply r_b|apply g_cl|exact sc trivial d1|exact sc trivial d2|exact st_sadd qL|exact st_slen|exact st_seq qG|exact st_sidx qL|exact st_add' qL|exact st_move'|exact st_assign'|exact st_and_t'|exact st_and_f'|exact st_or_f'|exact st_or_t'|exact st_eq' qG|exact st_lss' qG|exact st_gtr' qG|exact st_len'|exact Cv.rfl'|intro _
theorem fbm1{l:List UInt8} (h:FormX l 1 n k en s) {cb:UInt8} (b1:decide ((0:Int)<(l.length:Int))=true) (hb:0≤(0:Int)∧l[(0:Int).toNat]? =some cb) (b2:((cb.toNat:Int)==45)=true) (n1:((n:Int)==0)=false) (n2:decide ((1:Int)<(n:Int))=false) (hs:s=true) (hk:((k:Int)==0)=true):Ctr Tryz.prog S1 122 [0] [.is (Tx l)] (fun _=> .tup [.is (.int .i64 0), .is (.int .i64 0), .is (.bool false)]):=by
 obtain ⟨hl,d1,w1,w2,d2,w3,c2⟩:=h
 subst hs
 replace d2:=d2 rfl
 replace w3:=w3 rfl
 obtain ⟨c2,c,hx,c3⟩:decide ((en:Int)<(l.length:Int))=true∧∃ c:UInt8,(0≤(en:Int)∧l[(en:Int).toNat]? =some c)∧((c.toNat:Int)==46)=true:=by
  rcases c2 with ⟨_,h⟩|h
  ·cases h
  ·exact h
 refine ctr Tryz.func122 rfl Tryz.ntmps122 qE (fun _ _=>by kernel_rfl) fun X w hE=> ?_
 simp only [argE,Nat.zero_add,Nat.reduceAdd]
 repeat' first|kernel_rfl|apply g_seq|apply g_reg|apply g_nil|apply g_box|apply g_all|apply g_stf|apply g_stw|apply g_sto|apply g_asg|refine g_run rfl inferInstance (by first|exact sc trivial d1|exact sc trivial d2|exact st_seq (by first|assumption|rfl)|exact st_sidx (by assumption)|exact st_move'|exact st_and_t'|exact st_and_f'|exact st_eq' (by first|assumption|rfl)|exact st_gtr' (by first|assumption|rfl)) qK ?_|refine g_sk rfl inferInstance rfl qK ?_|refine g_un rfl inferInstance qK ?_|apply g_st|apply g_skip|apply g_ct|apply g_cf|apply g_ret|refine r_3 rfl ?_|apply g_blk|apply g_eb|apply g_ex|apply e_t|apply e_h|refine e_o rfl ?_|apply r_t|apply r_b|apply g_cl|exact sc trivial d1|exact sc trivial d2|exact st_sadd qL|exact st_slen|exact st_seq qG|exact st_sidx qL|exact st_add' qL|exact st_move'|exact st_assign'|exact st_and_t'|exact st_and_f'|exact st_or_f'|exact st_or_t'|exact st_eq' qG|exact st_lss' qG|exact st_gtr' qG|exact st_len'|exact Cv.rfl'|intro _
theorem fcm1{l:List UInt8} (h:FormX l 1 n k en s) {cb:UInt8} (b1:decide ((0:Int)<(l.length:Int))=true) (hb:0≤(0:Int)∧l[(0:Int).toNat]? =some cb) (b2:((cb.toNat:Int)==45)=true) (n1:((n:Int)==0)=false) (n2:decide ((1:Int)<(n:Int))=false) (hs:s=true) (hk:((k:Int)==0)=false) (hu:((en:Int)+1+(k:Int)==(l.length:Int))=u):Ctr Tryz.prog S1 122 [0] [.is (Tx l)] (fun _=> .tup [.is (.int .i64 n), .is (.int .i64 k), .is (.bool u)]):=by
 obtain ⟨hl,d1,w1,w2,d2,w3,c2⟩:=h
 subst hs
 replace d2:=d2 rfl
 replace w3:=w3 rfl
 obtain ⟨c2,c,hx,c3⟩:decide ((en:Int)<(l.length:Int))=true∧∃ c:UInt8,(0≤(en:Int)∧l[(en:Int).toNat]? =some c)∧((c.toNat:Int)==46)=true:=by
  rcases c2 with ⟨_,h⟩|h
  ·cases h
  ·exact h
 refine ctr Tryz.func122 rfl Tryz.ntmps122 qE (fun _ _=>by kernel_rfl) fun X w hE=> ?_
 simp only [argE,Nat.zero_add,Nat.reduceAdd]
 repeat' first|kernel_rfl|apply g_seq|apply g_reg|apply g_nil|apply g_box|apply g_all|apply g_stf|apply g_stw|apply g_sto|apply g_asg|refine g_run rfl inferInstance (by first|exact sc trivial d1|exact sc trivial d2|exact st_seq (by first|assumption|rfl)|exact st_sidx (by assumption)|exact st_move'|exact st_and_t'|exact st_and_f'|exact st_eq' (by first|assumption|rfl)|exact st_gtr' (by first|assumption|rfl)) qK ?_|refine g_sk rfl inferInstance rfl qK ?_|refine g_un rfl inferInstance qK ?_|apply g_st|apply g_skip|apply g_ct|apply g_cf|apply g_ret|refine r_3 rfl ?_|apply g_blk|apply g_eb|apply g_ex|apply e_t|apply e_h|refine e_o rfl ?_|apply r_t|apply r_b|apply g_cl|exact sc trivial d1|exact sc trivial d2|exact st_sadd qL|exact st_slen|exact st_seq qG|exact st_sidx qL|exact st_add' qL|exact st_move'|exact st_assign'|exact st_and_t'|exact st_and_f'|exact st_or_f'|exact st_or_t'|exact st_eq' qG|exact st_lss' qG|exact st_gtr' qG|exact st_len'|exact Cv.rfl'|intro _
theorem fa1m2{l:List UInt8} (h:FormX l 1 n k en s) {cb:UInt8} (b1:decide ((0:Int)<(l.length:Int))=true) (hb:0≤(0:Int)∧l[(0:Int).toNat]? =some cb) (b2:((cb.toNat:Int)==45)=true) (n1:((n:Int)==0)=false) (n2:decide ((1:Int)<(n:Int))=true) {cn:UInt8} (hn:0≤(1:Int)∧l[(1:Int).toNat]? =some cn) (n3:((cn.toNat:Int)==48)=false) (k2:decide ((en:Int)<(l.length:Int))=false) (hu:((en:Int)==(l.length:Int))=u):Ctr Tryz.prog S1 122 [0] [.is (Tx l)] (fun _=> .tup [.is (.int .i64 n), .is (.int .i64 0), .is (.bool u)]):=by
 obtain ⟨hl,d1,w1,w2,d2,w3,c2⟩:=h
 clear d2 w3 c2
 refine ctr Tryz.func122 rfl Tryz.ntmps122 qE (fun _ _=>by kernel_rfl) fun X w hE=> ?_
 simp only [argE,Nat.zero_add,Nat.reduceAdd]
 repeat' first|kernel_rfl|apply g_seq|apply g_reg|apply g_nil|apply g_box|apply g_all|apply g_stf|apply g_stw|apply g_sto|apply g_asg|refine g_run rfl inferInstance (by first|exact sc trivial d1|exact sc trivial d2|exact st_seq (by first|assumption|rfl)|exact st_sidx (by assumption)|exact st_move'|exact st_and_t'|exact st_and_f'|exact st_eq' (by first|assumption|rfl)|exact st_gtr' (by first|assumption|rfl)) qK ?_|refine g_sk rfl inferInstance rfl qK ?_|refine g_un rfl inferInstance qK ?_|apply g_st|apply g_skip|apply g_ct|apply g_cf|apply g_ret|refine r_3 rfl ?_|apply g_blk|apply g_eb|apply g_ex|apply e_t|apply e_h|refine e_o rfl ?_|apply r_t|apply r_b|apply g_cl|exact sc trivial d1|exact sc trivial d2|exact st_sadd qL|exact st_slen|exact st_seq qG|exact st_sidx qL|exact st_add' qL|exact st_move'|exact st_assign'|exact st_and_t'|exact st_and_f'|exact st_or_f'|exact st_or_t'|exact st_eq' qG|exact st_lss' qG|exact st_gtr' qG|exact st_len'|exact Cv.rfl'|intro _
theorem fa2m2{l:List UInt8} (h:FormX l 1 n k en s) {cb:UInt8} (b1:decide ((0:Int)<(l.length:Int))=true) (hb:0≤(0:Int)∧l[(0:Int).toNat]? =some cb) (b2:((cb.toNat:Int)==45)=true) (n1:((n:Int)==0)=false) (n2:decide ((1:Int)<(n:Int))=true) {cn:UInt8} (hn:0≤(1:Int)∧l[(1:Int).toNat]? =some cn) (n3:((cn.toNat:Int)==48)=false) (k2:decide ((en:Int)<(l.length:Int))=true) {c:UInt8} (hx:0≤(en:Int)∧l[(en:Int).toNat]? =some c) (c3:((c.toNat:Int)==46)=false) (hu:((en:Int)==(l.length:Int))=u):Ctr Tryz.prog S1 122 [0] [.is (Tx l)] (fun _=> .tup [.is (.int .i64 n), .is (.int .i64 0), .is (.bool u)]):=by
 obtain ⟨hl,d1,w1,w2,d2,w3,c2⟩:=h
 clear d2 w3 c2
 refine ctr Tryz.func122 rfl Tryz.ntmps122 qE (fun _ _=>by kernel_rfl) fun X w hE=> ?_
 simp only [argE,Nat.zero_add,Nat.reduceAdd]
 repeat' first|kernel_rfl|apply g_seq|apply g_reg|apply g_nil|apply g_box|apply g_all|apply g_stf|apply g_stw|apply g_sto|apply g_asg|refine g_run rfl inferInstance (by first|exact sc trivial d1|exact sc trivial d2|exact st_seq (by first|assumption|rfl)|exact st_sidx (by assumption)|exact st_move'|exact st_and_t'|exact st_and_f'|exact st_eq' (by first|assumption|rfl)|exact st_gtr' (by first|assumption|rfl)) qK ?_|refine g_sk rfl inferInstance rfl qK ?_|refine g_un rfl inferInstance qK ?_|apply g_st|apply g_skip|apply g_ct|apply g_cf|apply g_ret|refine r_3 rfl ?_|apply g_blk|apply g_eb|apply g_ex|apply e_t|apply e_h|refine e_o rfl ?_|apply r_t|apply r_b|apply g_cl|exact sc trivial d1|exact sc trivial d2|exact st_sadd qL|exact st_slen|exact st_seq qG|exact st_sidx qL|exact st_add' qL|exact st_move'|exact st_assign'|exact st_and_t'|exact st_and_f'|exact st_or_f'|exact st_or_t'|exact st_eq' qG|exact st_lss' qG|exact st_gtr' qG|exact st_len'|exact Cv.rfl'|intro _
theorem fbm2{l:List UInt8} (h:FormX l 1 n k en s) {cb:UInt8} (b1:decide ((0:Int)<(l.length:Int))=true) (hb:0≤(0:Int)∧l[(0:Int).toNat]? =some cb) (b2:((cb.toNat:Int)==45)=true) (n1:((n:Int)==0)=false) (n2:decide ((1:Int)<(n:Int))=true) {cn:UInt8} (hn:0≤(1:Int)∧l[(1:Int).toNat]? =some cn) (n3:((cn.toNat:Int)==48)=false) (hs:s=true) (hk:((k:Int)==0)=true):Ctr Tryz.prog S1 122 [0] [.is (Tx l)] (fun _=> .tup [.is (.int .i64 0), .is (.int .i64 0), .is (.bool false)]):=by
 obtain ⟨hl,d1,w1,w2,d2,w3,c2⟩:=h
 subst hs
 replace d2:=d2 rfl
 replace w3:=w3 rfl
 obtain ⟨c2,c,hx,c3⟩:decide ((en:Int)<(l.length:Int))=true∧∃ c:UInt8,(0≤(en:Int)∧l[(en:Int).toNat]? =some c)∧((c.toNat:Int)==46)=true:=by
  rcases c2 with ⟨_,h⟩|h
  ·cases h
  ·exact h
 refine ctr Tryz.func122 rfl Tryz.ntmps122 qE (fun _ _=>by kernel_rfl) fun X w hE=> ?_
 simp only [argE,Nat.zero_add,Nat.reduceAdd]
 repeat' first|kernel_rfl|apply g_seq|apply g_reg|apply g_nil|apply g_box|apply g_all|apply g_stf|apply g_stw|apply g_sto|apply g_asg|refine g_run rfl inferInstance (by first|exact sc trivial d1|exact sc trivial d2|exact st_seq (by first|assumption|rfl)|exact st_sidx (by assumption)|exact st_move'|exact st_and_t'|exact st_and_f'|exact st_eq' (by first|assumption|rfl)|exact st_gtr' (by first|assumption|rfl)) qK ?_|refine g_sk rfl inferInstance rfl qK ?_|refine g_un rfl inferInstance qK ?_|apply g_st|apply g_skip|apply g_ct|apply g_cf|apply g_ret|refine r_3 rfl ?_|apply g_blk|apply g_eb|apply g_ex|apply e_t|apply e_h|refine e_o rfl ?_|apply r_t|apply r_b|apply g_cl|exact sc trivial d1|exact sc trivial d2|exact st_sadd qL|exact st_slen|exact st_seq qG|exact st_sidx qL|exact st_add' qL|exact st_move'|exact st_assign'|exact st_and_t'|exact st_and_f'|exact st_or_f'|exact st_or_t'|exact st_eq' qG|exact st_lss' qG|exact st_gtr' qG|exact st_len'|exact Cv.rfl'|intro _
theorem fcm2{l:List UInt8} (h:FormX l 1 n k en s) {cb:UInt8} (b1:decide ((0:Int)<(l.length:Int))=true) (hb:0≤(0:Int)∧l[(0:Int).toNat]? =some cb) (b2:((cb.toNat:Int)==45)=true) (n1:((n:Int)==0)=false) (n2:decide ((1:Int)<(n:Int))=true) {cn:UInt8} (hn:0≤(1:Int)∧l[(1:Int).toNat]? =some cn) (n3:((cn.toNat:Int)==48)=false) (hs:s=true) (hk:((k:Int)==0)=false) (hu:((en:Int)+1+(k:Int)==(l.length:Int))=u):Ctr Tryz.prog S1 122 [0] [.is (Tx l)] (fun _=> .tup [.is (.int .i64 n), .is (.int .i64 k), .is (.bool u)]):=by
 obtain ⟨hl,d1,w1,w2,d2,w3,c2⟩:=h
 subst hs
 replace d2:=d2 rfl
 replace w3:=w3 rfl
 obtain ⟨c2,c,hx,c3⟩:decide ((en:Int)<(l.length:Int))=true∧∃ c:UInt8,(0≤(en:Int)∧l[(en:Int).toNat]? =some c)∧((c.toNat:Int)==46)=true:=by
  rcases c2 with ⟨_,h⟩|h
  ·cases h
  ·exact h
 refine ctr Tryz.func122 rfl Tryz.ntmps122 qE (fun _ _=>by kernel_rfl) fun X w hE=> ?_
 simp only [argE,Nat.zero_add,Nat.reduceAdd]
 repeat' first|kernel_rfl|apply g_seq|apply g_reg|apply g_nil|apply g_box|apply g_all|apply g_stf|apply g_stw|apply g_sto|apply g_asg|refine g_run rfl inferInstance (by first|exact sc trivial d1|exact sc trivial d2|exact st_seq (by first|assumption|rfl)|exact st_sidx (by assumption)|exact st_move'|exact st_and_t'|exact st_and_f'|exact st_eq' (by first|assumption|rfl)|exact st_gtr' (by first|assumption|rfl)) qK ?_|refine g_sk rfl inferInstance rfl qK ?_|refine g_un rfl inferInstance qK ?_|apply g_st|apply g_skip|apply g_ct|apply g_cf|apply g_ret|refine r_3 rfl ?_|apply g_blk|apply g_eb|apply g_ex|apply e_t|apply e_h|refine e_o rfl ?_|apply r_t|apply r_b|apply g_cl|exact sc trivial d1|exact sc trivial d2|exact st_sadd qL|exact st_slen|exact st_seq qG|exact st_sidx qL|exact st_add' qL|exact st_move'|exact st_assign'|exact st_and_t'|exact st_and_f'|exact st_or_f'|exact st_or_t'|exact st_eq' qG|exact st_lss' qG|exact st_gtr' qG|exact st_len'|exact Cv.rfl'|intro _
theorem form_no{l:List UInt8} (h:FormX l x n k en s) (hb:Begin l x) (hn:NoLead l x n) (h0:l=[]→n=0):Ctr Tryz.prog S1 122 [0] [.is (Tx l)] (fun _=> .tup [.is (.int .i64 0), .is (.int .i64 0), .is (.bool false)]):=by
 rcases hb with ⟨b1,rfl⟩|⟨b1,cb,hb,⟨b2,rfl⟩|⟨b2,rfl⟩⟩
 ·have e:l=[]:=List.eq_nil_of_length_eq_zero (by have:=of_decide_eq_false b1;omega)
  exact fno1e h b1 (by rw [h0 e];rfl)
 ·rcases hn with n1|⟨n1,n2,cn,hn,n3⟩
  ·exact fno1p h b1 hb b2 n1
  ·obtain rfl:cb=cn:=Option.some.inj (hb.2.symm.trans hn.2)
   exact fno2p h b1 hb b2 n1 n2 n3
 ·rcases hn with n1|⟨n1,n2,cn,hn,n3⟩
  ·exact fno1m h b1 hb b2 n1
  ·exact fno2m h b1 hb b2 n1 n2 hn n3
theorem form_a{l:List UInt8} (h:FormX l x n k en s) (hb:Begin l x) (hn:Lead l x n) (h0:l≠[]) (hs:s=false) (hu:((en:Int)==(l.length:Int))=u):Ctr Tryz.prog S1 122 [0] [.is (Tx l)] (fun _=> .tup [.is (.int .i64 n), .is (.int .i64 0), .is (.bool u)]):=by
 rcases hb with ⟨b1,rfl⟩|⟨b1,cb,hb,⟨b2,rfl⟩|⟨b2,rfl⟩⟩
 ·exact absurd (List.eq_nil_of_length_eq_zero (by have:=of_decide_eq_false b1;omega)) h0
 ·rcases hn with ⟨n1,n2|⟨n2,cn,hn,n3⟩⟩
  ·rcases h.c2 with ⟨c2,_⟩|⟨c2,c,hx,c3⟩
   ·exact fa1p1 h b1 hb b2 n1 n2 c2 hu
   ·exact fa2p1 h b1 hb b2 n1 n2 c2 hx (c3.trans hs) hu
  ·obtain rfl:cb=cn:=Option.some.inj (hb.2.symm.trans hn.2)
   rcases h.c2 with ⟨c2,_⟩|⟨c2,c,hx,c3⟩
   ·exact fa1p2 h b1 hb b2 n1 n2 n3 c2 hu
   ·exact fa2p2 h b1 hb b2 n1 n2 n3 c2 hx (c3.trans hs) hu
 ·rcases hn with ⟨n1,n2|⟨n2,cn,hn,n3⟩⟩
  ·rcases h.c2 with ⟨c2,_⟩|⟨c2,c,hx,c3⟩
   ·exact fa1m1 h b1 hb b2 n1 n2 c2 hu
   ·exact fa2m1 h b1 hb b2 n1 n2 c2 hx (c3.trans hs) hu
  ·rcases h.c2 with ⟨c2,_⟩|⟨c2,c,hx,c3⟩
   ·exact fa1m2 h b1 hb b2 n1 n2 hn n3 c2 hu
   ·exact fa2m2 h b1 hb b2 n1 n2 hn n3 c2 hx (c3.trans hs) hu
theorem form_b{l:List UInt8} (h:FormX l x n k en s) (hb:Begin l x) (hn:Lead l x n) (h0:l≠[]) (hs:s=true) (hk:((k:Int)==0)=true):Ctr Tryz.prog S1 122 [0] [.is (Tx l)] (fun _=> .tup [.is (.int .i64 0), .is (.int .i64 0), .is (.bool false)]):=by
 rcases hb with ⟨b1,rfl⟩|⟨b1,cb,hb,⟨b2,rfl⟩|⟨b2,rfl⟩⟩
 ·exact absurd (List.eq_nil_of_length_eq_zero (by have:=of_decide_eq_false b1;omega)) h0
 ·rcases hn with ⟨n1,n2|⟨n2,cn,hn,n3⟩⟩
  ·exact fbp1 h b1 hb b2 n1 n2 hs hk
  ·obtain rfl:cb=cn:=Option.some.inj (hb.2.symm.trans hn.2)
   exact fbp2 h b1 hb b2 n1 n2 n3 hs hk
 ·rcases hn with ⟨n1,n2|⟨n2,cn,hn,n3⟩⟩
  ·exact fbm1 h b1 hb b2 n1 n2 hs hk
  ·exact fbm2 h b1 hb b2 n1 n2 hn n3 hs hk
theorem form_c{l:List UInt8} (h:FormX l x n k en s) (hb:Begin l x) (hn:Lead l x n) (h0:l≠[]) (hs:s=true) (hk:((k:Int)==0)=false) (hu:((en:Int)+1+(k:Int)==(l.length:Int))=u):Ctr Tryz.prog S1 122 [0] [.is (Tx l)] (fun _=> .tup [.is (.int .i64 n), .is (.int .i64 k), .is (.bool u)]):=by
 rcases hb with ⟨b1,rfl⟩|⟨b1,cb,hb,⟨b2,rfl⟩|⟨b2,rfl⟩⟩
 ·exact absurd (List.eq_nil_of_length_eq_zero (by have:=of_decide_eq_false b1;omega)) h0
 ·rcases hn with ⟨n1,n2|⟨n2,cn,hn,n3⟩⟩
  ·exact fcp1 h b1 hb b2 n1 n2 hs hk hu
  ·obtain rfl:cb=cn:=Option.some.inj (hb.2.symm.trans hn.2)
   exact fcp2 h b1 hb b2 n1 n2 n3 hs hk hu
 ·rcases hn with ⟨n1,n2|⟨n2,cn,hn,n3⟩⟩
  ·exact fcm1 h b1 hb b2 n1 n2 hs hk hu
  ·exact fcm2 h b1 hb b2 n1 n2 hn n3 hs hk hu
theorem lq_t10 {i:Nat} (hi:i≤40):Lq (t10 i) 5:=⟨pow10 hi,by show (1:Int)<_;decide⟩
theorem t10_next (i:Nat):t10 i*((10:Int):Rat)=t10 (i+1):=by
 show ((10^i:Int):Rat)*_=((10^(i+1):Int):Rat)
 rw [←Rat.intCast_mul,←Int.pow_succ]
theorem c6_ten{n:Int} (hn:n=(k:Int)) (hk:k≤40):Ctr Tryz.prog S1 38 [0] [.is (.int .i64 n)] (fun _=> .qc (t10 k) 5):=by
 subst hn
 refine ctr Tryz.func38 rfl Tryz.ntmps38 qE (fun _ _=>by kernel_rfl) fun X w hE=> ?_
 simp only [argE,Nat.zero_add,Nat.reduceAdd]
 repeat' first|kernel_rfl|apply g_seq|apply g_reg|apply g_nil|apply o_all|apply o_go|exact OpsT.nil|exact GuardC.nil|exact UndefC.nil|apply g_box|apply g_all|apply g_stf|apply g_stw|apply g_sto|apply g_asg|apply g_st|apply g_skip|apply g_ct|apply g_cf|apply g_ret|refine r_1 rfl ?_|apply g_blk|apply g_eb|apply g_ex|apply e_t|apply e_h|refine e_o rfl ?_|apply r_t|apply r_b|apply g_cl|exact s4_mul qO|exact s4_whole qD|exact st_sadd qL|exact st_add' qL|exact st_move'|exact st_assign'|exact st_load'|exact st_lss' qG|exact st_loadE'|exact Cv.rfl'|(intro _;simp only[newX,newL,ptrs,List.map,List.cons_append,List.nil_append])|intro _
 refine g_stop fun a w h=> ?_
 refine cw_loop (fun j a w=>∃ i:Nat,i+j=k∧TS _ _ [(_,VTy.qc (t10 i) 5),(_,VTy.q0)] [(4, .is (.int .i64 (i:Int))),(3, .is (.pointer (some ⟨_,0,none⟩))),(2, .is (.pointer (some ⟨_,0,none⟩))),(0, .is (.int .i64 (k:Int)))] 15 a w) k ⟨0,by omega,(h.keep [4,3,2,0]).locs (.cons (fun _ _ v g=>qc_qc (show ((1:Int):Rat)=t10 0 from rfl) (lq_t10 qO) v g) (.same .nil))⟩ ?_
 clear h
 rintro j a w ⟨i,hi,h⟩
 by_cases hlt:i<k
 ·have hc:decide ((i:Int)<(k:Int))=true:=decide_eq_true qO
  have hw:IntKind.i64.wrap ((i:Int)+1)=((i+1:Nat):Int):=i64_small qO qO
  refine g_of h ?_
  clear h
  repeat' first|kernel_rfl|exact g_done fun _ _ h=>⟨j - 1,by omega,i+1,by omega,(h.keep [4,3,2,0]).locs (.cons (fun _ _ v g=>qc_qc (t10_next i) (lq_t10 qO) v g) (.same .nil))⟩|apply g_seq|apply g_reg|apply g_nil|apply g_draw (id:=5) [] [] 3|apply o_all|apply o_go|exact OpsT.nil|exact GuardC.nil|exact UndefC.nil|apply g_box|apply g_all|apply g_stf|apply g_stw|apply g_sto|apply g_asg|apply g_st|apply g_skip|apply g_ct|apply g_cf|apply g_ret|refine r_1 rfl ?_|apply g_blk|apply g_eb|apply g_ex|apply e_t|apply e_h|refine e_o rfl ?_|apply r_t|apply r_b|apply g_cl|exact s4_mul qO|exact s4_whole qD|exact st_sadd qL|exact st_add' qL|exact st_move'|exact st_assign'|exact st_load'|exact st_lss' qG|exact st_loadE'|exact Cv.rfl'|(intro _;simp only[newX,newL,ptrs,List.map,List.cons_append,List.nil_append])|intro _
 ·have hc:decide ((i:Int)<(k:Int))=false:=decide_eq_false qO
  obtain rfl:i=k:=qO
  refine g_of h ?_
  clear h
  repeat' first|kernel_rfl|apply g_seq|apply g_reg|apply g_nil|apply o_all|apply o_go|exact OpsT.nil|exact GuardC.nil|exact UndefC.nil|apply g_box|apply g_all|apply g_stf|apply g_stw|apply g_sto|apply g_asg|apply g_st|apply g_skip|apply g_ct|apply g_cf|apply g_ret|refine r_1 rfl ?_|apply g_blk|apply g_eb|apply g_ex|apply e_t|apply e_h|refine e_o rfl ?_|apply r_t|apply r_b|apply g_cl|exact s4_mul qO|exact s4_whole qD|exact st_sadd qL|exact st_add' qL|exact st_move'|exact st_assign'|exact st_load'|exact st_lss' qG|exact st_loadE'|exact Cv.rfl'|(intro _;simp only[newX,newL,ptrs,List.map,List.cons_append,List.nil_append])|intro _
theorem divInt_div (a b:Int):Rat.divInt a b=(a:Rat) / (b:Rat):=Rat.divInt_eq_div a b
def sst (s:Int×Int) (c:UInt8):Int×Int:=if c=46 then (s.1,0) else if c=45 then s else (s.1*10+((c.toNat:Int) - 48),if 0≤s.2 then s.2+1 else s.2)
theorem sst_46 {s:Int×Int} {c:UInt8} (h:c=46):sst s c=(s.1,0):=by rw [h];rfl
theorem sst_45 {s:Int×Int} {c:UInt8} (h:c=45):sst s c=s:=by rw [h];rfl
theorem sst_D {s:Int×Int} {c:UInt8} (h1:c≠45) (h2:c≠46):sst s c=(s.1*10+((c.toNat:Int) - 48),if 0≤s.2 then s.2+1 else s.2):=by unfold sst;rw [if_neg h2,if_neg h1]
def okc (c:UInt8):Bool:=isD c || c==45 || c==46
theorem dig_ne {c:UInt8} (h:isDig c):c≠45∧c≠46:=by
 unfold isDig at h
 constructor<;>(intro e;rw [e] at h;revert h;decide)
theorem sst_digits:∀ (a:List UInt8) (v p:Int),(∀ c∈a,isDig c)→a.foldl sst (v,p)=(v*10^a.length+dval a,if 0≤p then p+a.length else p)
 |[],v,p,_=>by
  show (v,p)=_
  have:dval []=0:=rfl
  rw [this]
  ext
  ·simp
  ·show p=if 0≤p then p+((0:Nat):Int) else p
   split<;>omega
 |c::a,v,p,h=>by
  obtain ⟨h1,h2⟩:=dig_ne (h c List.mem_cons_self)
  have e:=dval_append [c] a
  have e':dval (c::a)=((c.toNat:Int) - 48)*10^a.length+dval a:=by simpa [dval] using e
  show a.foldl sst (sst (v,p) c)=_
  rw [sst_D h1 h2,sst_digits a _ _ fun x hx=>h x (List.mem_cons_of_mem _ hx),e',List.length_cons,Int.pow_succ]
  ext
  ·show (v*10+((c.toNat:Int) - 48))*10^a.length+dval a=v*(10^a.length*10)+(((c.toNat:Int) - 48)*10^a.length+dval a)
   grind
  ·show (if 0≤(if 0≤p then p+1 else p) then _ else _)=_
   by_cases hp:0≤p
   ·simp only [hp,if_true]
    rw [if_pos qO]
    omega
   ·simp only [hp,if_false]
theorem sst_all{n:Bool} {W P:List UInt8} (hW:∀ c∈W,isDig c) (hP:∀ c∈P,isDig c) (hs:s=false→P=[]):(sgL n 45++(W++(sgL s 46++(P++[])))).foldl sst (0, -1)=(dval (W++P),if s then (P.length:Int) else -1):=by
 have h1:(sgL n 45).foldl sst (0, -1)=(0, -1):=by cases n<;>rfl
 rw [List.foldl_append,h1,List.foldl_append,sst_digits W _ _ hW,List.foldl_append,List.append_nil]
 have h2:(0:Int)*10^W.length+dval W=dval W:=qO
 rw [h2,if_neg (show ¬ (0:Int)≤ -1 by decide)]
 cases s with
 |false=>
  rw [hs rfl]
  show (dval W,(-1:Int))=(dval (W++[]), -1)
  rw [List.append_nil]
 |true=>
  show P.foldl sst (sst (dval W, -1) 46)=_
  show P.foldl sst (dval W,0)=_
  rw [sst_digits P _ _ hP,dval_append]
  ext
  ·rfl
  ·show (if (0:Int)≤0 then (0:Int)+P.length else 0)=(P.length:Int)
   simp
def cntD (l:List UInt8):Nat:=(l.filter isD).length
theorem sst_bound:∀ (t:List UInt8) (v p:Int),(∀ c∈t,okc c=true)→0≤v→ -1≤p→0≤(t.foldl sst (v,p)).1∧(t.foldl sst (v,p)).1<(v+1)*10^cntD t∧ -1≤(t.foldl sst (v,p)).2∧(t.foldl sst (v,p)).2≤max p 0+t.length
 |[],v,p,_,h0,h1=>⟨h0,by show v<(v+1)*10^0;omega,h1,by show p≤max p 0+((0:Nat):Int);omega⟩
 |c::t,v,p,h,h0,h1=>by
  have hc:=h c List.mem_cons_self
  have ht:=fun x hx=>h x (List.mem_cons_of_mem _ hx)
  show 0≤(t.foldl sst (sst (v,p) c)).1∧(t.foldl sst (sst (v,p) c)).1<_∧ -1≤(t.foldl sst (sst (v,p) c)).2∧(t.foldl sst (sst (v,p) c)).2≤_
  by_cases h46:c=46
  ·rw [sst_46 h46]
   dsimp only
   obtain ⟨g1,g2,g3,g4⟩:=sst_bound t v 0 ht h0 qD
   have e:cntD (c::t)=cntD t:=by unfold cntD;rw [List.filter_cons,h46];rfl
   rw [e,List.length_cons]
   exact ⟨g1,g2,g3,by omega⟩
  ·by_cases h45:c=45
   ·rw [sst_45 h45]
    obtain ⟨g1,g2,g3,g4⟩:=sst_bound t v p ht h0 h1
    have e:cntD (c::t)=cntD t:=by unfold cntD;rw [List.filter_cons,h45];rfl
    rw [e,List.length_cons]
    exact ⟨g1,g2,g3,by omega⟩
   ·rw [sst_D h45 h46]
    dsimp only
    have hd:isD c=true:=by
     unfold okc at hc
     have e1:(c==45)=false:=by rw [beq_eq_false_iff_ne];exact h45
     have e2:(c==46)=false:=by rw [beq_eq_false_iff_ne];exact h46
     rwa [e1,e2,Bool.or_false,Bool.or_false] at hc
    have hd':=isD_iff.1 hd
    unfold isDig at hd'
    obtain ⟨g1,g2,g3,g4⟩:=sst_bound t (v*10+((c.toNat:Int) - 48)) (if 0≤p then p+1 else p) ht qO (by split<;>omega)
    have e:cntD (c::t)=cntD t+1:=by unfold cntD;rw [List.filter_cons,hd];rfl
    have hp:=pow_pos' (show (0:Int)<10 by decide) (cntD t)
    have hm:(v*10+((c.toNat:Int) - 48)+1)*10^cntD t≤((v+1)*10)*10^cntD t:=Int.mul_le_mul_of_nonneg_right qO qO
    have e2:(v+1)*10^(cntD t+1)=((v+1)*10)*10^cntD t:=by rw [Int.pow_succ];grind
    rw [e,List.length_cons,e2]
    refine ⟨g1,by omega,g3,?_⟩
    by_cases hp0:0≤p
    ·rw [if_pos hp0] at g4 ⊢;omega
    ·rw [if_neg hp0] at g4 ⊢;omega
theorem dec_okc {l:List UInt8} (h3:r3 l=[]):(∀ c∈l,okc c=true)∧cntD l=(wh l).length+(pc l).length:=by
 have hW:=wh_dig l
 have hP:=pc_dig l
 have e:=parts l
 rw [h3] at e
 generalize wh l=W at*
 generalize pc l=P at*
 generalize ng l=n at*
 generalize sp l=s at*
 have hdig:∀ {a:List UInt8},(∀ c∈a,isDig c)→(∀ c∈a,okc c=true)∧a.filter isD=a:=fun {a} ha=>⟨fun c hc=>by unfold okc;rw [isD_iff.2 (ha c hc)];rfl,List.filter_eq_self.2 fun c hc=>isD_iff.2 (ha c hc)⟩
 obtain ⟨w1,w2⟩:=hdig hW
 obtain ⟨p1,p2⟩:=hdig hP
 have s1:∀ (u:Bool) (d:UInt8),okc d=true→isD d=false→(∀ c∈sgL u d,okc c=true)∧(sgL u d).filter isD=[]:=fun u d h1 h2=>by
  cases u with
  |false=>exact ⟨fun c hc=>(by cases hc),rfl⟩
  |true=>exact ⟨fun c hc=>by rw [List.mem_singleton.1 hc];exact h1,by show [d].filter isD=[];rw [List.filter_cons,h2];rfl⟩
 obtain ⟨n1,n2⟩:=s1 n 45 qD qD
 obtain ⟨d1,d2⟩:=s1 s 46 qD qD
 subst e
 refine ⟨fun c hc=> ?_,?_⟩
 ·simp only [List.mem_append,List.not_mem_nil,or_false] at hc
  rcases hc with h|h|h|h
  ·exact n1 c h
  ·exact w1 c h
  ·exact d1 c h
  ·exact p1 c h
 ·unfold cntD
  simp only [List.filter_append,n2,w2,d2,p2,List.filter_nil,List.append_nil,List.nil_append,List.length_append]
theorem take_next {l:List UInt8} {i:Nat} {c:UInt8} (h:l[i]? =some c):l.take (i+1)=l.take i++[c]:=by
 obtain ⟨hlt,e⟩:=List.getElem?_eq_some_iff.1 h
 rw [List.take_succ_eq_append_getElem hlt,e]
theorem lq_int {v:Int} {K:Nat} (hK:0<K) (h:(v.natAbs:Int)<4294967296^K):Lq ((v:Int):Rat) K:=⟨h,by
 show (1:Int)<_
 have:=pow_mono (β:=4294967296) qD (show 1≤K from hK)
 have e:(4294967296:Int)^1=4294967296:=by decide
 omega⟩
theorem c6_says {l:List UInt8} (hw0:wh l≠[]) (h3:r3 l=[]) (h40:(wh l).length+(pc l).length≤40):Ctr Tryz.prog S1 123 [0] [.is (Tx l)] (fun _=> .qc (dq l) 10):=by
 obtain ⟨hok,hcnt⟩:=dec_okc h3
 have hlen:l.length≤42:=by
  have h:=congrArg List.length (parts l)
  rw [h3] at h
  have h1:∀ u c,(sgL u c).length≤1:=fun u c=>by cases u<;>simp [sgL]
  have:=h1 (ng l) 45
  have:=h1 (sp l) 46
  simp only [List.length_append,List.length_nil] at h
  omega
 have hbd:∀ i,0≤((l.take i).foldl sst (0, -1)).1∧((l.take i).foldl sst (0, -1)).1<4294967296^5∧ -1≤((l.take i).foldl sst (0, -1)).2∧((l.take i).foldl sst (0, -1)).2≤42:=fun i=>by
  obtain ⟨g1,g2,g3,g4⟩:=sst_bound (l.take i) 0 (-1) (fun c hc=>hok c (List.mem_of_mem_take hc)) qD qD
  have hc:cntD (l.take i)≤40:=by
   have:cntD (l.take i)≤cntD l:=((List.take_sublist i l).filter isD).length_le
   omega
  have:=pow10_lt hc
  have hti:(l.take i).length≤42:=Nat.le_trans (by rw [List.length_take];omega) hlen
  exact ⟨g1,by omega,g3,by omega⟩
 refine ctr Tryz.func123 rfl Tryz.ntmps123 qE (fun _ _=>by kernel_rfl) fun X w hE=> ?_
 simp only [argE,Nat.zero_add,Nat.reduceAdd]
 repeat' first|kernel_rfl|apply g_seq|apply g_reg|apply g_nil|apply o_all|apply o_go|exact OpsT.nil|exact GuardC.nil|exact UndefC.nil|apply g_box|apply g_all|apply g_stf|apply g_stw|apply g_sto|apply g_asg|apply g_st|apply g_skip|apply g_ct|apply g_cf|apply g_ret|refine r_1 rfl ?_|apply g_blk|apply g_eb|apply g_ex|apply e_t|apply e_h|refine e_o rfl ?_|apply r_t|apply r_b|apply g_cl|exact st_conv2 Tryz.underlying5 Tryz.underlying2 qL|exact s4_whole (by first|decide|omega)|exact s4_div qO hne|exact sc trivial ct|exact s4_neg qO|exact s4_mul qO|exact s4_add qO|exact s4_zero|exact st_sadd qL|exact st_slen|exact st_seq qG|exact st_sne qG|exact st_sidx hix|exact st_add' qL|exact st_sub2 qL|exact st_max qL|exact st_move'|exact st_assign'|exact st_load'|exact st_extract'|exact st_eq' qG|exact st_neq' qG|exact st_lss' qG|exact st_geq' qG|exact st_len'|exact st_loadE'|exact Cv.rfl'|(intro _;simp only[newX,newL,ptrs,List.map,List.cons_append,List.nil_append])|intro _
 refine g_stop fun a w h=> ?_
 refine cw_loop (fun j a w=>∃ i:Nat,i+j=l.length∧TS _ _ [(_,VTy.qc (((l.take i).foldl sst (0, -1)).1:Rat) 5),(_,VTy.q0)] [(5, .is (.int .i64 (i:Int))),(4, .is (.int .i64 ((l.take i).foldl sst (0, -1)).2)),(3, .is (.pointer (some ⟨_,0,none⟩))),(2, .is (.pointer (some ⟨_,0,none⟩))),(0, .is (Tx l))] 51 a w) l.length ⟨0,by omega,(h.keep [5,4,3,2,0]).locs (.cons (fun _ _ v g=>qc_qc rfl (lq_int qD (by show ((0:Int).natAbs:Int)<_;decide)) v g) (.same .nil))⟩ ?_
 clear h
 rintro j a w ⟨i,hi,h⟩
 obtain ⟨v0,v1,p0,p1⟩:=hbd i
 by_cases hlt:i<l.length
 ·obtain ⟨c,hx⟩:∃ c,l[i]? =some c:=⟨_,List.getElem?_eq_getElem hlt⟩
  have hcm:=hok c (List.mem_of_getElem? hx)
  have e1:=take_next hx
  have hbn:=hbd (i+1)
  rw [e1,List.foldl_append] at hbn
  have hstep:((l.take (i+1)).foldl sst (0, -1))=sst ((l.take i).foldl sst (0, -1)) c:=by rw [e1,List.foldl_append];rfl
  have hstep1:=congrArg Prod.fst hstep
  have hstep2:=congrArg Prod.snd hstep
  have hc:decide ((i:Int)<(l.length:Int))=true:=decide_eq_true qO
  have hix:0≤(i:Int)∧l[(i:Int).toNat]? =some c:=⟨by omega,hx⟩
  have hw:IntKind.i64.wrap ((i:Int)+1)=((i+1:Nat):Int):=i64_small qO qO
  clear e1 hok hbd hcnt
  generalize e0:(l.take i).foldl sst (0, -1)=s0 at*
  generalize e1:(l.take (i+1)).foldl sst (0, -1)=s1 at*
  clear e0
  by_cases h46:c=46
  ·have t1:((c.toNat:Int)==46)=true:=by rw [h46];rfl
   have hs1:s1.1=s0.1:=by rw [hstep1,sst_46 h46]
   have hs2:s1.2=0:=by rw [hstep2,sst_46 h46]
   have HS1:=Lib.hid hs1
   have HS2:=Lib.hid hs2
   clear hs1 hs2 hstep hstep1 hstep2 hbn
   refine g_of h ?_
   clear h
   repeat' first|kernel_rfl|exact g_done fun _ _ h=>⟨j - 1,by omega,i+1,by omega,by rw [e1,HS1.out,HS2.out];exact h.keep [5,4,3,2,0]⟩|apply g_seq|apply g_reg|apply g_nil|apply o_all|apply o_go|exact OpsT.nil|exact GuardC.nil|exact UndefC.nil|apply g_box|apply g_all|apply g_stf|apply g_stw|apply g_sto|apply g_asg|apply g_st|apply g_skip|apply g_ct|apply g_cf|apply g_ret|refine r_1 rfl ?_|apply g_blk|apply g_eb|apply g_ex|apply e_t|apply e_h|refine e_o rfl ?_|apply r_t|apply r_b|apply g_cl|exact st_conv2 Tryz.underlying5 Tryz.underlying2 qL|exact s4_whole (by first|decide|omega)|exact s4_div qO hne|exact sc trivial ct|exact s4_neg qO|exact s4_mul qO|exact s4_add qO|exact s4_zero|exact st_sadd qL|exact st_slen|exact st_seq qG|exact st_sne qG|exact st_sidx hix|exact st_add' qL|exact st_sub2 qL|exact st_max qL|exact st_move'|exact st_assign'|exact st_load'|exact st_extract'|exact st_eq' qG|exact st_neq' qG|exact st_lss' qG|exact st_geq' qG|exact st_len'|exact st_loadE'|exact Cv.rfl'|(intro _;simp only[newX,newL,ptrs,List.map,List.cons_append,List.nil_append])|intro _
  ·have t1:((c.toNat:Int)==46)=false:=by
    rw [beq_eq_false_iff_ne]
    exact fun e=>h46 (UInt8.toNat_inj.1 (by show c.toNat=46;omega))
   by_cases h45:c=45
   ·have t2:((c.toNat:Int) != 45)=false:=by rw [h45];rfl
    have hs1:s1.1=s0.1:=by rw [hstep1,sst_45 h45]
    have hs2:s1.2=s0.2:=by rw [hstep2,sst_45 h45]
    have HS1:=Lib.hid hs1
    have HS2:=Lib.hid hs2
    clear hs1 hs2 hstep hstep1 hstep2 hbn
    refine g_of h ?_
    clear h
    repeat' first|kernel_rfl|exact g_done fun _ _ h=>⟨j - 1,by omega,i+1,by omega,by rw [e1,HS1.out,HS2.out];exact h.keep [5,4,3,2,0]⟩|apply g_seq|apply g_reg|apply g_nil|apply o_all|apply o_go|exact OpsT.nil|exact GuardC.nil|exact UndefC.nil|apply g_box|apply g_all|apply g_stf|apply g_stw|apply g_sto|apply g_asg|apply g_st|apply g_skip|apply g_ct|apply g_cf|apply g_ret|refine r_1 rfl ?_|apply g_blk|apply g_eb|apply g_ex|apply e_t|apply e_h|refine e_o rfl ?_|apply r_t|apply r_b|apply g_cl|exact st_conv2 Tryz.underlying5 Tryz.underlying2 qL|exact s4_whole (by first|decide|omega)|exact s4_div qO hne|exact sc trivial ct|exact s4_neg qO|exact s4_mul qO|exact s4_add qO|exact s4_zero|exact st_sadd qL|exact st_slen|exact st_seq qG|exact st_sne qG|exact st_sidx hix|exact st_add' qL|exact st_sub2 qL|exact st_max qL|exact st_move'|exact st_assign'|exact st_load'|exact st_extract'|exact st_eq' qG|exact st_neq' qG|exact st_lss' qG|exact st_geq' qG|exact st_len'|exact st_loadE'|exact Cv.rfl'|(intro _;simp only[newX,newL,ptrs,List.map,List.cons_append,List.nil_append])|intro _
   ·have t2:((c.toNat:Int) != 45)=true:=by
     rw [bne_iff_ne]
     exact fun e=>h45 (UInt8.toNat_inj.1 (by show c.toNat=45;omega))
    have hd:isDig c:=by
     rw [←isD_iff]
     unfold okc at hcm
     rwa [beq_eq_false_iff_ne.2 h45,beq_eq_false_iff_ne.2 h46,Bool.or_false,Bool.or_false] at hcm
    unfold isDig at hd
    have hw1:IntKind.u8.wrap ((c.toNat:Int) - 48)=(c.toNat:Int) - 48:=by rw [IntKind.wrap_u8];omega
    have hw2:IntKind.i64.wrap ((c.toNat:Int) - 48)=(c.toNat:Int) - 48:=i64_small qO qO
    have hs1:s1.1=s0.1*10+((c.toNat:Int) - 48):=by rw [hstep1,sst_D h45 h46]
    have hs2:s1.2=if 0≤s0.2 then s0.2+1 else s0.2:=by rw [hstep2,sst_D h45 h46]
    have hb1:0≤s1.1∧s1.1<4294967296^5:=by rw [hstep];exact ⟨hbn.1,hbn.2.1⟩
    have hqe:(s0.1:Rat)*((10:Int):Rat)+(((c.toNat:Int) - 48:Int):Rat)=(s1.1:Rat):=by rw [hs1,Rat.intCast_add,Rat.intCast_mul]
    have hlq:=lq_int (K:=5) (v:=s1.1) qD qO
    have HLQ:=Lib.hid hlq
    clear hlq
    have hwp:IntKind.i64.wrap (s0.2+1)=s0.2+1:=by rw [IntKind.wrap_i64];omega
    clear hstep hstep1 hstep2 hbn hs1 hb1
    by_cases hp:0≤s0.2
    ·have t3:decide ((0:Int)≤s0.2)=true:=decide_eq_true hp
     rw [if_pos hp] at hs2
     have HS2:=Lib.hid hs2
     clear hs2
     refine g_of h ?_
     clear h
     repeat' first|kernel_rfl|exact g_done fun _ _ h=>⟨j - 1,by omega,i+1,by omega,by rw [e1,HS2.out];exact (h.keep [5,4,3,2,0]).locs (.cons (fun _ _ v g=>qc_qc hqe HLQ.out v g) (.same .nil))⟩|apply g_seq|apply g_reg|apply g_nil|apply g_draw (id:=9) [] [] 10|apply o_all|apply o_go|exact OpsT.nil|exact GuardC.nil|exact UndefC.nil|apply g_box|apply g_all|apply g_stf|apply g_stw|apply g_sto|apply g_asg|apply g_st|apply g_skip|apply g_ct|apply g_cf|apply g_ret|refine r_1 rfl ?_|apply g_blk|apply g_eb|apply g_ex|apply e_t|apply e_h|refine e_o rfl ?_|apply r_t|apply r_b|apply g_cl|exact st_conv2 Tryz.underlying5 Tryz.underlying2 qL|exact s4_whole (by first|decide|omega)|exact s4_div qO hne|exact sc trivial ct|exact s4_neg qO|exact s4_mul qO|exact s4_add qO|exact s4_zero|exact st_sadd qL|exact st_slen|exact st_seq qG|exact st_sne qG|exact st_sidx hix|exact st_add' qL|exact st_sub2 qL|exact st_max qL|exact st_move'|exact st_assign'|exact st_load'|exact st_extract'|exact st_eq' qG|exact st_neq' qG|exact st_lss' qG|exact st_geq' qG|exact st_len'|exact st_loadE'|exact Cv.rfl'|(intro _;simp only[newX,newL,ptrs,List.map,List.cons_append,List.nil_append])|intro _
    ·have t3:decide ((0:Int)≤s0.2)=false:=decide_eq_false hp
     rw [if_neg hp] at hs2
     have HS2:=Lib.hid hs2
     clear hs2
     refine g_of h ?_
     clear h
     repeat' first|kernel_rfl|refine g_done fun _ _ h=>⟨j - 1,by omega,i+1,by omega,?_⟩|apply g_seq|apply g_reg|apply g_nil|apply g_draw (id:=9) [] [] 10|apply o_all|apply o_go|exact OpsT.nil|exact GuardC.nil|exact UndefC.nil|apply g_box|apply g_all|apply g_stf|apply g_stw|apply g_sto|apply g_asg|apply g_st|apply g_skip|apply g_ct|apply g_cf|apply g_ret|refine r_1 rfl ?_|apply g_blk|apply g_eb|apply g_ex|apply e_t|apply e_h|refine e_o rfl ?_|apply r_t|apply r_b|apply g_cl|exact st_conv2 Tryz.underlying5 Tryz.underlying2 qL|exact s4_whole (by first|decide|omega)|exact s4_div qO hne|exact sc trivial ct|exact s4_neg qO|exact s4_mul qO|exact s4_add qO|exact s4_zero|exact st_sadd qL|exact st_slen|exact st_seq qG|exact st_sne qG|exact st_sidx hix|exact st_add' qL|exact st_sub2 qL|exact st_max qL|exact st_move'|exact st_assign'|exact st_load'|exact st_extract'|exact st_eq' qG|exact st_neq' qG|exact st_lss' qG|exact st_geq' qG|exact st_len'|exact st_loadE'|exact Cv.rfl'|(intro _;simp only[newX,newL,ptrs,List.map,List.cons_append,List.nil_append])|intro _
     rw [e1,HS2.out]
     exact (h.keep [5,4,3,2,0]).locs (.cons (fun _ _ v g=>qc_qc hqe HLQ.out v g) (.same .nil))
 ·have hc:decide ((i:Int)<(l.length:Int))=false:=decide_eq_false qO
  have hfin:(l.take i).foldl sst (0, -1)=(dval (wh l++pc l),if sp l then ((pc l).length:Int) else -1):=by
   rw [List.take_of_length_le qO]
   conv=>lhs;rw [parts l,h3]
   exact sst_all (wh_dig l) (pc_dig l) pc_sp
  have hpl:(pc l).length≤40:=qO
  have hmx:max 0 ((l.take i).foldl sst (0, -1)).2=((pc l).length:Int):=by
   rw [hfin]
   cases hs:sp l with
   |true=>show max 0 ((pc l).length:Int)=_;omega
   |false=>rw [pc_sp hs];rfl
  have hv:((l.take i).foldl sst (0, -1)).1=dval (wh l++pc l):=by rw [hfin]
  have ct:=c6_ten (n:=((pc l).length:Int)) (k:=(pc l).length) rfl hpl
  have hne:t10 (pc l).length≠0:=by
   have:(0:Int)<10^(pc l).length:=Int.pow_pos qD
   intro e
   have:=Rat.intCast_eq_zero_iff.1 e
   omega
  have hq:(((l.take i).foldl sst (0, -1)).1:Rat) / t10 (pc l).length=Rat.divInt (dval (wh l++pc l)) (10^(pc l).length):=by rw [hv,divInt_div]
  have hdq:dq l=bif ng l then -(Rat.divInt (dval (wh l++pc l)) (10^(pc l).length)) else Rat.divInt (dval (wh l++pc l)) (10^(pc l).length):=by
   unfold dq dqv sgv
   cases ng l with
   |true=>show Rat.divInt (-_) _=_;rw [←Rat.neg_divInt];rfl
   |false=>rfl
  rw [hdq,←hq]
  clear hdq hq hv hfin hbd hok hcnt
  obtain ⟨c,hx⟩:∃ c,l[0]? =some c:=by
   cases l with
   |nil=>exact absurd rfl hw0
   |cons c r=>exact ⟨c,rfl⟩
  have hix:0≤(0:Int)∧l[(0:Int).toNat]? =some c:=⟨by omega,hx⟩
  have hng:ng l=((c.toNat:Int)==45):=by
   unfold ng
   rw [←List.head?_eq_getElem?] at hx
   rw [hx,Bool.eq_iff_iff,beq_iff_eq,beq_iff_eq]
   constructor
   ·intro h;injection h with h;rw [h];rfl
   ·intro h;rw [show c=45 from UInt8.toNat_inj.1 (by show c.toNat=45;omega)]
  rw [hng]
  cases hq:((c.toNat:Int)==45) with
  |true=>
   simp only [cond_true]
   refine g_of h ?_
   clear h
   repeat' first|kernel_rfl|apply g_seq|apply g_reg|apply g_nil|apply g_drawE (id:=12) [] [] 8 [7]|apply z_sto|apply z_asg|apply z_cl|apply o_all|apply o_go|exact OpsT.nil|exact GuardC.nil|exact UndefC.nil|apply g_box|apply g_all|apply g_stf|apply g_stw|apply g_sto|apply g_asg|apply g_st|apply g_skip|apply g_ct|apply g_cf|apply g_ret|refine r_1 rfl ?_|apply g_blk|apply g_eb|apply g_ex|apply e_t|apply e_h|refine e_o rfl ?_|apply r_t|apply r_b|apply g_cl|exact st_conv2 Tryz.underlying5 Tryz.underlying2 qL|exact s4_whole (by first|decide|omega)|exact s4_div qO hne|exact sc trivial ct|exact s4_neg qO|exact s4_mul qO|exact s4_add qO|exact s4_zero|exact st_sadd qL|exact st_slen|exact st_seq qG|exact st_sne qG|exact st_sidx hix|exact st_add' qL|exact st_sub2 qL|exact st_max qL|exact st_move'|exact st_assign'|exact st_load'|exact st_extract'|exact st_eq' qG|exact st_neq' qG|exact st_lss' qG|exact st_geq' qG|exact st_len'|exact st_loadE'|exact Cv.rfl'|(intro _;simp only[newX,newL,ptrs,List.map,List.cons_append,List.nil_append])|intro _
  |false=>
   simp only [cond_false]
   refine g_of h ?_
   clear h
   repeat' first|kernel_rfl|apply g_seq|apply g_reg|apply g_nil|apply g_drawE (id:=12) [] [] 8 [7]|apply z_sto|apply z_asg|apply z_cl|apply o_all|apply o_go|exact OpsT.nil|exact GuardC.nil|exact UndefC.nil|apply g_box|apply g_all|apply g_stf|apply g_stw|apply g_sto|apply g_asg|apply g_st|apply g_skip|apply g_ct|apply g_cf|apply g_ret|refine r_1 rfl ?_|apply g_blk|apply g_eb|apply g_ex|apply e_t|apply e_h|refine e_o rfl ?_|apply r_t|apply r_b|apply g_cl|exact st_conv2 Tryz.underlying5 Tryz.underlying2 qL|exact s4_whole (by first|decide|omega)|exact s4_div qO hne|exact sc trivial ct|exact s4_neg qO|exact s4_mul qO|exact s4_add qO|exact s4_zero|exact st_sadd qL|exact st_slen|exact st_seq qG|exact st_sne qG|exact st_sidx hix|exact st_add' qL|exact st_sub2 qL|exact st_max qL|exact st_move'|exact st_assign'|exact st_load'|exact st_extract'|exact st_eq' qG|exact st_neq' qG|exact st_lss' qG|exact st_geq' qG|exact st_len'|exact st_loadE'|exact Cv.rfl'|(intro _;simp only[newX,newL,ptrs,List.map,List.cons_append,List.nil_append])|intro _
end Go.Proofs.YtfepenpngklogaaGreatDoor
