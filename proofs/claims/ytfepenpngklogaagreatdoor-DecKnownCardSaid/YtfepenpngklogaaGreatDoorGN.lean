/- Package dec: a decimal is taken off a text. -/
import Derived.Test.YtfepenpngklogaaGreatDoorGM
set_option maxHeartbeats 4000000
set_option maxRecDepth 20000
set_option linter.unusedSimpArgs false
set_option linter.unusedVariables false
namespace Go.Proofs.YtfepenpngklogaaGreatDoor
open Go Go.RowKit
variable {z n:Bool} {V:Int} {K L N d:Nat} {q:Rat} {X:List Nat} {w w00:World} {ty t0:TypeId} {u:Value} {E:List (Nat×VTy)} {pos:String} {af:Array Edge} {gd:Option (Nat×Bool)} {l:List Value}
def dcv (u n:Bool) (a b:List UInt8):Value:=bif u then .agg #[.bool n,Tx a,Tx b] else .agg #[.bool false,Tx [],Tx []]
theorem bd_len (l:List UInt8):(bd l).length≤l.length:=by unfold bd;cases ng l<;>simp
theorem r1_len (l:List UInt8):(r1 l).length≤l.length:=Nat.le_trans (List.dropWhile_sublist _).length_le (bd_len l)
theorem r2_len (l:List UInt8):(r2 l).length≤l.length:=by
 have:=r1_len l
 unfold r2
 cases sp l
 ·exact this
 ·show (r1 l).tail.length≤_
  rw [List.length_tail];omega
theorem st_zdec{L:List Loc} :StepT Tryz.prog w00 N L E ⟨some d, .build 82 #[],t0,pos,af,gd⟩ (.is (.agg #[.bool false,Tx [],Tx []])):=by
 constructor
 intro X ρ w hc _ hN hm hsl
 clear hsl hm hc
 unfold Yields
 go_simp
 exact ⟨rfl,Below.refl _ _⟩
structure DecX (l W p R3 B R1 R2:List UInt8) (n s z:Bool):Prop where
 t1:PtC Tryz.prog S1 163 (.cs [Tx l]) [0] [.is (Tx [45])] (.cs [Tx B]) (.is (.bool n))
 d1:PtC Tryz.prog S1 164 (.cs [Tx B]) [] [] (.cs [Tx R1]) (.is (Tx W))
 t2:PtC Tryz.prog S1 163 (.cs [Tx R1]) [0] [.is (Tx [46])] (.cs [Tx R2]) (.is (.bool s))
 d2:s=true→PtC Tryz.prog S1 164 (.cs [Tx R2]) [] [] (.cs [Tx R3]) (.is (Tx p))
 d3:s=false→R3=R2∧p=[]
 nn:Ctr Tryz.prog S1 165 [0] [.is (.agg #[.bool n,Tx W,Tx p])] (fun _=> .is (.bool z))
theorem dec_at{l W p R3 B R1 R2:List UInt8} (h:DecX l W p R3 B R1 R2 n true z) (k1:(W==[])=true):PtC Tryz.prog S1 117 (.cs [Tx l]) [] [] (.cs [Tx R3]) (.tup [.is (dcv false n W p), .is (.bool false)]):=by
 obtain ⟨t1,d1,t2,d2,d3,nn⟩:=h
 first|(obtain ⟨rfl,rfl⟩:=d3 rfl;clear d2)|replace d2:=d2 rfl
 clear d3
 simp only [dcv,cond_true,cond_false]
 refine ptc Tryz.func117 rfl Tryz.ntmps117 qE (fun _ _=>by kernel_rfl) fun w00 X L0 r wS hG hm=> ?_
 simp only [argE,Nat.zero_add,Nat.reduceAdd,List.cons_append,List.nil_append]
 repeat' first|kernel_rfl|refine g_pc (s:=8) trivial t1 qK ?_|refine g_pc (s:=13) trivial d1 qK ?_|refine g_pc (s:=18) trivial t2 qK ?_|refine g_pc (s:=23) trivial d2 qK ?_|apply g_seq|apply g_reg|apply g_nil|apply g_box|apply g_all|apply g_stf|apply g_stw|apply g_sto|apply g_asg|refine g_run rfl inferInstance (by first|exact sc trivial nn|exact st_slen|exact st_seq (by first|assumption|rfl)|exact st_load'|exact st_fieldAddr'|exact st_eq' (by first|assumption|rfl)|exact st_gtr' (by first|assumption|rfl)|exact st_len'|exact st_loadE') qK ?_|refine g_sk rfl inferInstance rfl qK ?_|refine g_un rfl inferInstance qK ?_|apply g_st|apply g_skip|apply g_ct|apply g_cf|apply g_ret|refine rp_2 rfl hm ?_|apply g_blk|apply g_eb|apply g_ex|apply e_t|apply e_h|refine e_o rfl ?_|apply r_t|apply r_b|apply g_cl|exact sc trivial nn|exact st_zdec|exact st_slen|exact st_seq qG|exact st_sidx qL|exact st_nilc|exact st_move'|exact st_assign'|exact st_load'|exact st_fieldAddr'|exact st_and_t'|exact st_and_f'|exact st_eq' qG|exact st_gtr' qG|exact st_len'|exact st_loadE'|exact Cv.rfl'|intro _
theorem dec_bt{l W p R3 B R1 R2:List UInt8} (h:DecX l W p R3 B R1 R2 n true z) {c:UInt8} (k1:(W==[])=false) (hx:0≤(0:Int)∧W[(0:Int).toNat]? =some c) (k4:((c.toNat:Int)==48)=true) (k5:decide ((1:Int)<(W.length:Int))=true):PtC Tryz.prog S1 117 (.cs [Tx l]) [] [] (.cs [Tx R3]) (.tup [.is (dcv false n W p), .is (.bool false)]):=by
 obtain ⟨t1,d1,t2,d2,d3,nn⟩:=h
 first|(obtain ⟨rfl,rfl⟩:=d3 rfl;clear d2)|replace d2:=d2 rfl
 clear d3
 simp only [dcv,cond_true,cond_false]
 refine ptc Tryz.func117 rfl Tryz.ntmps117 qE (fun _ _=>by kernel_rfl) fun w00 X L0 r wS hG hm=> ?_
 simp only [argE,Nat.zero_add,Nat.reduceAdd,List.cons_append,List.nil_append]
 repeat' first|kernel_rfl|refine g_pc (s:=8) trivial t1 qK ?_|refine g_pc (s:=13) trivial d1 qK ?_|refine g_pc (s:=18) trivial t2 qK ?_|refine g_pc (s:=23) trivial d2 qK ?_|apply g_seq|apply g_reg|apply g_nil|apply g_box|apply g_all|apply g_stf|apply g_stw|apply g_sto|apply g_asg|refine g_run rfl inferInstance (by first|exact sc trivial nn|exact st_slen|exact st_seq (by first|assumption|rfl)|exact st_load'|exact st_fieldAddr'|exact st_eq' (by first|assumption|rfl)|exact st_gtr' (by first|assumption|rfl)|exact st_len'|exact st_loadE') qK ?_|refine g_sk rfl inferInstance rfl qK ?_|refine g_un rfl inferInstance qK ?_|apply g_st|apply g_skip|apply g_ct|apply g_cf|apply g_ret|refine rp_2 rfl hm ?_|apply g_blk|apply g_eb|apply g_ex|apply e_t|apply e_h|refine e_o rfl ?_|apply r_t|apply r_b|apply g_cl|exact sc trivial nn|exact st_zdec|exact st_slen|exact st_seq qG|exact st_sidx qL|exact st_nilc|exact st_move'|exact st_assign'|exact st_load'|exact st_fieldAddr'|exact st_and_t'|exact st_and_f'|exact st_eq' qG|exact st_gtr' qG|exact st_len'|exact st_loadE'|exact Cv.rfl'|intro _
theorem dec_c1{l W p R3 B R1 R2:List UInt8} (h:DecX l W p R3 B R1 R2 n true z) {c:UInt8} (k1:(W==[])=false) (hx:0≤(0:Int)∧W[(0:Int).toNat]? =some c) (k4:((c.toNat:Int)==48)=false) (k7:(p==[])=true):PtC Tryz.prog S1 117 (.cs [Tx l]) [] [] (.cs [Tx R3]) (.tup [.is (dcv false n W p), .is (.bool false)]):=by
 obtain ⟨t1,d1,t2,d2,d3,nn⟩:=h
 first|(obtain ⟨rfl,rfl⟩:=d3 rfl;clear d2)|replace d2:=d2 rfl
 clear d3
 simp only [dcv,cond_true,cond_false]
 refine ptc Tryz.func117 rfl Tryz.ntmps117 qE (fun _ _=>by kernel_rfl) fun w00 X L0 r wS hG hm=> ?_
 simp only [argE,Nat.zero_add,Nat.reduceAdd,List.cons_append,List.nil_append]
 repeat' first|kernel_rfl|refine g_pc (s:=8) trivial t1 qK ?_|refine g_pc (s:=13) trivial d1 qK ?_|refine g_pc (s:=18) trivial t2 qK ?_|refine g_pc (s:=23) trivial d2 qK ?_|apply g_seq|apply g_reg|apply g_nil|apply g_box|apply g_all|apply g_stf|apply g_stw|apply g_sto|apply g_asg|refine g_run rfl inferInstance (by first|exact sc trivial nn|exact st_slen|exact st_seq (by first|assumption|rfl)|exact st_load'|exact st_fieldAddr'|exact st_eq' (by first|assumption|rfl)|exact st_gtr' (by first|assumption|rfl)|exact st_len'|exact st_loadE') qK ?_|refine g_sk rfl inferInstance rfl qK ?_|refine g_un rfl inferInstance qK ?_|apply g_st|apply g_skip|apply g_ct|apply g_cf|apply g_ret|refine rp_2 rfl hm ?_|apply g_blk|apply g_eb|apply g_ex|apply e_t|apply e_h|refine e_o rfl ?_|apply r_t|apply r_b|apply g_cl|exact sc trivial nn|exact st_zdec|exact st_slen|exact st_seq qG|exact st_sidx qL|exact st_nilc|exact st_move'|exact st_assign'|exact st_load'|exact st_fieldAddr'|exact st_and_t'|exact st_and_f'|exact st_eq' qG|exact st_gtr' qG|exact st_len'|exact st_loadE'|exact Cv.rfl'|intro _
theorem dec_dt1{l W p R3 B R1 R2:List UInt8} (h:DecX l W p R3 B R1 R2 false true z) {c:UInt8} (k1:(W==[])=false) (hx:0≤(0:Int)∧W[(0:Int).toNat]? =some c) (k4:((c.toNat:Int)==48)=false) (k7:(p==[])=false):PtC Tryz.prog S1 117 (.cs [Tx l]) [] [] (.cs [Tx R3]) (.tup [.is (dcv true false W p), .is (.bool true)]):=by
 obtain ⟨t1,d1,t2,d2,d3,nn⟩:=h
 first|(obtain ⟨rfl,rfl⟩:=d3 rfl;clear d2)|replace d2:=d2 rfl
 clear d3
 simp only [dcv,cond_true,cond_false]
 refine ptc Tryz.func117 rfl Tryz.ntmps117 qE (fun _ _=>by kernel_rfl) fun w00 X L0 r wS hG hm=> ?_
 simp only [argE,Nat.zero_add,Nat.reduceAdd,List.cons_append,List.nil_append]
 repeat' first|kernel_rfl|refine g_pc (s:=8) trivial t1 qK ?_|refine g_pc (s:=13) trivial d1 qK ?_|refine g_pc (s:=18) trivial t2 qK ?_|refine g_pc (s:=23) trivial d2 qK ?_|apply g_seq|apply g_reg|apply g_nil|apply g_box|apply g_all|apply g_stf|apply g_stw|apply g_sto|apply g_asg|refine g_run rfl inferInstance (by first|exact sc trivial nn|exact st_slen|exact st_seq (by first|assumption|rfl)|exact st_load'|exact st_fieldAddr'|exact st_eq' (by first|assumption|rfl)|exact st_gtr' (by first|assumption|rfl)|exact st_len'|exact st_loadE') qK ?_|refine g_sk rfl inferInstance rfl qK ?_|refine g_un rfl inferInstance qK ?_|apply g_st|apply g_skip|apply g_ct|apply g_cf|apply g_ret|refine rp_2 rfl hm ?_|apply g_blk|apply g_eb|apply g_ex|apply e_t|apply e_h|refine e_o rfl ?_|apply r_t|apply r_b|apply g_cl|exact sc trivial nn|exact st_zdec|exact st_slen|exact st_seq qG|exact st_sidx qL|exact st_nilc|exact st_move'|exact st_assign'|exact st_load'|exact st_fieldAddr'|exact st_and_t'|exact st_and_f'|exact st_eq' qG|exact st_gtr' qG|exact st_len'|exact st_loadE'|exact Cv.rfl'|intro _
theorem dec_et1 {l W p R3 B R1 R2:List UInt8} (h:DecX l W p R3 B R1 R2 true true true) {c:UInt8} (k1:(W==[])=false) (hx:0≤(0:Int)∧W[(0:Int).toNat]? =some c) (k4:((c.toNat:Int)==48)=false) (k7:(p==[])=false):PtC Tryz.prog S1 117 (.cs [Tx l]) [] [] (.cs [Tx R3]) (.tup [.is (dcv false true W p), .is (.bool false)]):=by
 obtain ⟨t1,d1,t2,d2,d3,nn⟩:=h
 first|(obtain ⟨rfl,rfl⟩:=d3 rfl;clear d2)|replace d2:=d2 rfl
 clear d3
 simp only [dcv,cond_true,cond_false]
 refine ptc Tryz.func117 rfl Tryz.ntmps117 qE (fun _ _=>by kernel_rfl) fun w00 X L0 r wS hG hm=> ?_
 simp only [argE,Nat.zero_add,Nat.reduceAdd,List.cons_append,List.nil_append]
 repeat' first|kernel_rfl|refine g_pc (s:=8) trivial t1 qK ?_|refine g_pc (s:=13) trivial d1 qK ?_|refine g_pc (s:=18) trivial t2 qK ?_|refine g_pc (s:=23) trivial d2 qK ?_|apply g_seq|apply g_reg|apply g_nil|apply g_box|apply g_all|apply g_stf|apply g_stw|apply g_sto|apply g_asg|refine g_run rfl inferInstance (by first|exact sc trivial nn|exact st_slen|exact st_seq (by first|assumption|rfl)|exact st_load'|exact st_fieldAddr'|exact st_eq' (by first|assumption|rfl)|exact st_gtr' (by first|assumption|rfl)|exact st_len'|exact st_loadE') qK ?_|refine g_sk rfl inferInstance rfl qK ?_|refine g_un rfl inferInstance qK ?_|apply g_st|apply g_skip|apply g_ct|apply g_cf|apply g_ret|refine rp_2 rfl hm ?_|apply g_blk|apply g_eb|apply g_ex|apply e_t|apply e_h|refine e_o rfl ?_|apply r_t|apply r_b|apply g_cl|exact sc trivial nn|exact st_zdec|exact st_slen|exact st_seq qG|exact st_sidx qL|exact st_nilc|exact st_move'|exact st_assign'|exact st_load'|exact st_fieldAddr'|exact st_and_t'|exact st_and_f'|exact st_eq' qG|exact st_gtr' qG|exact st_len'|exact st_loadE'|exact Cv.rfl'|intro _
theorem dec_ft1 {l W p R3 B R1 R2:List UInt8} (h:DecX l W p R3 B R1 R2 true true false) {c:UInt8} (k1:(W==[])=false) (hx:0≤(0:Int)∧W[(0:Int).toNat]? =some c) (k4:((c.toNat:Int)==48)=false) (k7:(p==[])=false):PtC Tryz.prog S1 117 (.cs [Tx l]) [] [] (.cs [Tx R3]) (.tup [.is (dcv true true W p), .is (.bool true)]):=by
 obtain ⟨t1,d1,t2,d2,d3,nn⟩:=h
 first|(obtain ⟨rfl,rfl⟩:=d3 rfl;clear d2)|replace d2:=d2 rfl
 clear d3
 simp only [dcv,cond_true,cond_false]
 refine ptc Tryz.func117 rfl Tryz.ntmps117 qE (fun _ _=>by kernel_rfl) fun w00 X L0 r wS hG hm=> ?_
 simp only [argE,Nat.zero_add,Nat.reduceAdd,List.cons_append,List.nil_append]
 repeat' first|kernel_rfl|refine g_pc (s:=8) trivial t1 qK ?_|refine g_pc (s:=13) trivial d1 qK ?_|refine g_pc (s:=18) trivial t2 qK ?_|refine g_pc (s:=23) trivial d2 qK ?_|apply g_seq|apply g_reg|apply g_nil|apply g_box|apply g_all|apply g_stf|apply g_stw|apply g_sto|apply g_asg|refine g_run rfl inferInstance (by first|exact sc trivial nn|exact st_slen|exact st_seq (by first|assumption|rfl)|exact st_load'|exact st_fieldAddr'|exact st_eq' (by first|assumption|rfl)|exact st_gtr' (by first|assumption|rfl)|exact st_len'|exact st_loadE') qK ?_|refine g_sk rfl inferInstance rfl qK ?_|refine g_un rfl inferInstance qK ?_|apply g_st|apply g_skip|apply g_ct|apply g_cf|apply g_ret|refine rp_2 rfl hm ?_|apply g_blk|apply g_eb|apply g_ex|apply e_t|apply e_h|refine e_o rfl ?_|apply r_t|apply r_b|apply g_cl|exact sc trivial nn|exact st_zdec|exact st_slen|exact st_seq qG|exact st_sidx qL|exact st_nilc|exact st_move'|exact st_assign'|exact st_load'|exact st_fieldAddr'|exact st_and_t'|exact st_and_f'|exact st_eq' qG|exact st_gtr' qG|exact st_len'|exact st_loadE'|exact Cv.rfl'|intro _
theorem dec_c2{l W p R3 B R1 R2:List UInt8} (h:DecX l W p R3 B R1 R2 n true z) {c:UInt8} (k1:(W==[])=false) (hx:0≤(0:Int)∧W[(0:Int).toNat]? =some c) (k4:((c.toNat:Int)==48)=true) (k5:decide ((1:Int)<(W.length:Int))=false) (k7:(p==[])=true):PtC Tryz.prog S1 117 (.cs [Tx l]) [] [] (.cs [Tx R3]) (.tup [.is (dcv false n W p), .is (.bool false)]):=by
 obtain ⟨t1,d1,t2,d2,d3,nn⟩:=h
 first|(obtain ⟨rfl,rfl⟩:=d3 rfl;clear d2)|replace d2:=d2 rfl
 clear d3
 simp only [dcv,cond_true,cond_false]
 refine ptc Tryz.func117 rfl Tryz.ntmps117 qE (fun _ _=>by kernel_rfl) fun w00 X L0 r wS hG hm=> ?_
 simp only [argE,Nat.zero_add,Nat.reduceAdd,List.cons_append,List.nil_append]
 repeat' first|kernel_rfl|refine g_pc (s:=8) trivial t1 qK ?_|refine g_pc (s:=13) trivial d1 qK ?_|refine g_pc (s:=18) trivial t2 qK ?_|refine g_pc (s:=23) trivial d2 qK ?_|apply g_seq|apply g_reg|apply g_nil|apply g_box|apply g_all|apply g_stf|apply g_stw|apply g_sto|apply g_asg|refine g_run rfl inferInstance (by first|exact sc trivial nn|exact st_slen|exact st_seq (by first|assumption|rfl)|exact st_load'|exact st_fieldAddr'|exact st_eq' (by first|assumption|rfl)|exact st_gtr' (by first|assumption|rfl)|exact st_len'|exact st_loadE') qK ?_|refine g_sk rfl inferInstance rfl qK ?_|refine g_un rfl inferInstance qK ?_|apply g_st|apply g_skip|apply g_ct|apply g_cf|apply g_ret|refine rp_2 rfl hm ?_|apply g_blk|apply g_eb|apply g_ex|apply e_t|apply e_h|refine e_o rfl ?_|apply r_t|apply r_b|apply g_cl|exact sc trivial nn|exact st_zdec|exact st_slen|exact st_seq qG|exact st_sidx qL|exact st_nilc|exact st_move'|exact st_assign'|exact st_load'|exact st_fieldAddr'|exact st_and_t'|exact st_and_f'|exact st_eq' qG|exact st_gtr' qG|exact st_len'|exact st_loadE'|exact Cv.rfl'|intro _
theorem dec_dt2{l W p R3 B R1 R2:List UInt8} (h:DecX l W p R3 B R1 R2 false true z) {c:UInt8} (k1:(W==[])=false) (hx:0≤(0:Int)∧W[(0:Int).toNat]? =some c) (k4:((c.toNat:Int)==48)=true) (k5:decide ((1:Int)<(W.length:Int))=false) (k7:(p==[])=false):PtC Tryz.prog S1 117 (.cs [Tx l]) [] [] (.cs [Tx R3]) (.tup [.is (dcv true false W p), .is (.bool true)]):=by
 obtain ⟨t1,d1,t2,d2,d3,nn⟩:=h
 first|(obtain ⟨rfl,rfl⟩:=d3 rfl;clear d2)|replace d2:=d2 rfl
 clear d3
 simp only [dcv,cond_true,cond_false]
 refine ptc Tryz.func117 rfl Tryz.ntmps117 qE (fun _ _=>by kernel_rfl) fun w00 X L0 r wS hG hm=> ?_
 simp only [argE,Nat.zero_add,Nat.reduceAdd,List.cons_append,List.nil_append]
 repeat' first|kernel_rfl|refine g_pc (s:=8) trivial t1 qK ?_|refine g_pc (s:=13) trivial d1 qK ?_|refine g_pc (s:=18) trivial t2 qK ?_|refine g_pc (s:=23) trivial d2 qK ?_|apply g_seq|apply g_reg|apply g_nil|apply g_box|apply g_all|apply g_stf|apply g_stw|apply g_sto|apply g_asg|refine g_run rfl inferInstance (by first|exact sc trivial nn|exact st_slen|exact st_seq (by first|assumption|rfl)|exact st_load'|exact st_fieldAddr'|exact st_eq' (by first|assumption|rfl)|exact st_gtr' (by first|assumption|rfl)|exact st_len'|exact st_loadE') qK ?_|refine g_sk rfl inferInstance rfl qK ?_|refine g_un rfl inferInstance qK ?_|apply g_st|apply g_skip|apply g_ct|apply g_cf|apply g_ret|refine rp_2 rfl hm ?_|apply g_blk|apply g_eb|apply g_ex|apply e_t|apply e_h|refine e_o rfl ?_|apply r_t|apply r_b|apply g_cl|exact sc trivial nn|exact st_zdec|exact st_slen|exact st_seq qG|exact st_sidx qL|exact st_nilc|exact st_move'|exact st_assign'|exact st_load'|exact st_fieldAddr'|exact st_and_t'|exact st_and_f'|exact st_eq' qG|exact st_gtr' qG|exact st_len'|exact st_loadE'|exact Cv.rfl'|intro _
theorem dec_et2 {l W p R3 B R1 R2:List UInt8} (h:DecX l W p R3 B R1 R2 true true true) {c:UInt8} (k1:(W==[])=false) (hx:0≤(0:Int)∧W[(0:Int).toNat]? =some c) (k4:((c.toNat:Int)==48)=true) (k5:decide ((1:Int)<(W.length:Int))=false) (k7:(p==[])=false):PtC Tryz.prog S1 117 (.cs [Tx l]) [] [] (.cs [Tx R3]) (.tup [.is (dcv false true W p), .is (.bool false)]):=by
 obtain ⟨t1,d1,t2,d2,d3,nn⟩:=h
 first|(obtain ⟨rfl,rfl⟩:=d3 rfl;clear d2)|replace d2:=d2 rfl
 clear d3
 simp only [dcv,cond_true,cond_false]
 refine ptc Tryz.func117 rfl Tryz.ntmps117 qE (fun _ _=>by kernel_rfl) fun w00 X L0 r wS hG hm=> ?_
 simp only [argE,Nat.zero_add,Nat.reduceAdd,List.cons_append,List.nil_append]
 repeat' first|kernel_rfl|refine g_pc (s:=8) trivial t1 qK ?_|refine g_pc (s:=13) trivial d1 qK ?_|refine g_pc (s:=18) trivial t2 qK ?_|refine g_pc (s:=23) trivial d2 qK ?_|apply g_seq|apply g_reg|apply g_nil|apply g_box|apply g_all|apply g_stf|apply g_stw|apply g_sto|apply g_asg|refine g_run rfl inferInstance (by first|exact sc trivial nn|exact st_slen|exact st_seq (by first|assumption|rfl)|exact st_load'|exact st_fieldAddr'|exact st_eq' (by first|assumption|rfl)|exact st_gtr' (by first|assumption|rfl)|exact st_len'|exact st_loadE') qK ?_|refine g_sk rfl inferInstance rfl qK ?_|refine g_un rfl inferInstance qK ?_|apply g_st|apply g_skip|apply g_ct|apply g_cf|apply g_ret|refine rp_2 rfl hm ?_|apply g_blk|apply g_eb|apply g_ex|apply e_t|apply e_h|refine e_o rfl ?_|apply r_t|apply r_b|apply g_cl|exact sc trivial nn|exact st_zdec|exact st_slen|exact st_seq qG|exact st_sidx qL|exact st_nilc|exact st_move'|exact st_assign'|exact st_load'|exact st_fieldAddr'|exact st_and_t'|exact st_and_f'|exact st_eq' qG|exact st_gtr' qG|exact st_len'|exact st_loadE'|exact Cv.rfl'|intro _
theorem dec_ft2 {l W p R3 B R1 R2:List UInt8} (h:DecX l W p R3 B R1 R2 true true false) {c:UInt8} (k1:(W==[])=false) (hx:0≤(0:Int)∧W[(0:Int).toNat]? =some c) (k4:((c.toNat:Int)==48)=true) (k5:decide ((1:Int)<(W.length:Int))=false) (k7:(p==[])=false):PtC Tryz.prog S1 117 (.cs [Tx l]) [] [] (.cs [Tx R3]) (.tup [.is (dcv true true W p), .is (.bool true)]):=by
 obtain ⟨t1,d1,t2,d2,d3,nn⟩:=h
 first|(obtain ⟨rfl,rfl⟩:=d3 rfl;clear d2)|replace d2:=d2 rfl
 clear d3
 simp only [dcv,cond_true,cond_false]
 refine ptc Tryz.func117 rfl Tryz.ntmps117 qE (fun _ _=>by kernel_rfl) fun w00 X L0 r wS hG hm=> ?_
 simp only [argE,Nat.zero_add,Nat.reduceAdd,List.cons_append,List.nil_append]
 repeat' first|kernel_rfl|refine g_pc (s:=8) trivial t1 qK ?_|refine g_pc (s:=13) trivial d1 qK ?_|refine g_pc (s:=18) trivial t2 qK ?_|refine g_pc (s:=23) trivial d2 qK ?_|apply g_seq|apply g_reg|apply g_nil|apply g_box|apply g_all|apply g_stf|apply g_stw|apply g_sto|apply g_asg|refine g_run rfl inferInstance (by first|exact sc trivial nn|exact st_slen|exact st_seq (by first|assumption|rfl)|exact st_load'|exact st_fieldAddr'|exact st_eq' (by first|assumption|rfl)|exact st_gtr' (by first|assumption|rfl)|exact st_len'|exact st_loadE') qK ?_|refine g_sk rfl inferInstance rfl qK ?_|refine g_un rfl inferInstance qK ?_|apply g_st|apply g_skip|apply g_ct|apply g_cf|apply g_ret|refine rp_2 rfl hm ?_|apply g_blk|apply g_eb|apply g_ex|apply e_t|apply e_h|refine e_o rfl ?_|apply r_t|apply r_b|apply g_cl|exact sc trivial nn|exact st_zdec|exact st_slen|exact st_seq qG|exact st_sidx qL|exact st_nilc|exact st_move'|exact st_assign'|exact st_load'|exact st_fieldAddr'|exact st_and_t'|exact st_and_f'|exact st_eq' qG|exact st_gtr' qG|exact st_len'|exact st_loadE'|exact Cv.rfl'|intro _
theorem dec_af{l W p R3 B R1 R2:List UInt8} (h:DecX l W p R3 B R1 R2 n false z) (k1:(W==[])=true):PtC Tryz.prog S1 117 (.cs [Tx l]) [] [] (.cs [Tx R3]) (.tup [.is (dcv false n W p), .is (.bool false)]):=by
 obtain ⟨t1,d1,t2,d2,d3,nn⟩:=h
 first|(obtain ⟨rfl,rfl⟩:=d3 rfl;clear d2)|replace d2:=d2 rfl
 clear d3
 simp only [dcv,cond_true,cond_false]
 refine ptc Tryz.func117 rfl Tryz.ntmps117 qE (fun _ _=>by kernel_rfl) fun w00 X L0 r wS hG hm=> ?_
 simp only [argE,Nat.zero_add,Nat.reduceAdd,List.cons_append,List.nil_append]
 repeat' first|kernel_rfl|refine g_pc (s:=8) trivial t1 qK ?_|refine g_pc (s:=13) trivial d1 qK ?_|refine g_pc (s:=18) trivial t2 qK ?_|refine g_pc (s:=23) trivial d2 qK ?_|apply g_seq|apply g_reg|apply g_nil|apply g_box|apply g_all|apply g_stf|apply g_stw|apply g_sto|apply g_asg|refine g_run rfl inferInstance (by first|exact sc trivial nn|exact st_slen|exact st_seq (by first|assumption|rfl)|exact st_load'|exact st_fieldAddr'|exact st_eq' (by first|assumption|rfl)|exact st_gtr' (by first|assumption|rfl)|exact st_len'|exact st_loadE') qK ?_|refine g_sk rfl inferInstance rfl qK ?_|refine g_un rfl inferInstance qK ?_|apply g_st|apply g_skip|apply g_ct|apply g_cf|apply g_ret|refine rp_2 rfl hm ?_|apply g_blk|apply g_eb|apply g_ex|apply e_t|apply e_h|refine e_o rfl ?_|apply r_t|apply r_b|apply g_cl|exact sc trivial nn|exact st_zdec|exact st_slen|exact st_seq qG|exact st_sidx qL|exact st_nilc|exact st_move'|exact st_assign'|exact st_load'|exact st_fieldAddr'|exact st_and_t'|exact st_and_f'|exact st_eq' qG|exact st_gtr' qG|exact st_len'|exact st_loadE'|exact Cv.rfl'|intro _
theorem dec_bf{l W p R3 B R1 R2:List UInt8} (h:DecX l W p R3 B R1 R2 n false z) {c:UInt8} (k1:(W==[])=false) (hx:0≤(0:Int)∧W[(0:Int).toNat]? =some c) (k4:((c.toNat:Int)==48)=true) (k5:decide ((1:Int)<(W.length:Int))=true):PtC Tryz.prog S1 117 (.cs [Tx l]) [] [] (.cs [Tx R3]) (.tup [.is (dcv false n W p), .is (.bool false)]):=by
 obtain ⟨t1,d1,t2,d2,d3,nn⟩:=h
 first|(obtain ⟨rfl,rfl⟩:=d3 rfl;clear d2)|replace d2:=d2 rfl
 clear d3
 simp only [dcv,cond_true,cond_false]
 refine ptc Tryz.func117 rfl Tryz.ntmps117 qE (fun _ _=>by kernel_rfl) fun w00 X L0 r wS hG hm=> ?_
 simp only [argE,Nat.zero_add,Nat.reduceAdd,List.cons_append,List.nil_append]
 repeat' first|kernel_rfl|refine g_pc (s:=8) trivial t1 qK ?_|refine g_pc (s:=13) trivial d1 qK ?_|refine g_pc (s:=18) trivial t2 qK ?_|refine g_pc (s:=23) trivial d2 qK ?_|apply g_seq|apply g_reg|apply g_nil|apply g_box|apply g_all|apply g_stf|apply g_stw|apply g_sto|apply g_asg|refine g_run rfl inferInstance (by first|exact sc trivial nn|exact st_slen|exact st_seq (by first|assumption|rfl)|exact st_load'|exact st_fieldAddr'|exact st_eq' (by first|assumption|rfl)|exact st_gtr' (by first|assumption|rfl)|exact st_len'|exact st_loadE') qK ?_|refine g_sk rfl inferInstance rfl qK ?_|refine g_un rfl inferInstance qK ?_|apply g_st|apply g_skip|apply g_ct|apply g_cf|apply g_ret|refine rp_2 rfl hm ?_|apply g_blk|apply g_eb|apply g_ex|apply e_t|apply e_h|refine e_o rfl ?_|apply r_t|apply r_b|apply g_cl|exact sc trivial nn|exact st_zdec|exact st_slen|exact st_seq qG|exact st_sidx qL|exact st_nilc|exact st_move'|exact st_assign'|exact st_load'|exact st_fieldAddr'|exact st_and_t'|exact st_and_f'|exact st_eq' qG|exact st_gtr' qG|exact st_len'|exact st_loadE'|exact Cv.rfl'|intro _
theorem dec_df1{l W p R3 B R1 R2:List UInt8} (h:DecX l W p R3 B R1 R2 false false z) {c:UInt8} (k1:(W==[])=false) (hx:0≤(0:Int)∧W[(0:Int).toNat]? =some c) (k4:((c.toNat:Int)==48)=false):PtC Tryz.prog S1 117 (.cs [Tx l]) [] [] (.cs [Tx R3]) (.tup [.is (dcv true false W p), .is (.bool true)]):=by
 obtain ⟨t1,d1,t2,d2,d3,nn⟩:=h
 first|(obtain ⟨rfl,rfl⟩:=d3 rfl;clear d2)|replace d2:=d2 rfl
 clear d3
 simp only [dcv,cond_true,cond_false]
 refine ptc Tryz.func117 rfl Tryz.ntmps117 qE (fun _ _=>by kernel_rfl) fun w00 X L0 r wS hG hm=> ?_
 simp only [argE,Nat.zero_add,Nat.reduceAdd,List.cons_append,List.nil_append]
 repeat' first|kernel_rfl|refine g_pc (s:=8) trivial t1 qK ?_|refine g_pc (s:=13) trivial d1 qK ?_|refine g_pc (s:=18) trivial t2 qK ?_|refine g_pc (s:=23) trivial d2 qK ?_|apply g_seq|apply g_reg|apply g_nil|apply g_box|apply g_all|apply g_stf|apply g_stw|apply g_sto|apply g_asg|refine g_run rfl inferInstance (by first|exact sc trivial nn|exact st_slen|exact st_seq (by first|assumption|rfl)|exact st_load'|exact st_fieldAddr'|exact st_eq' (by first|assumption|rfl)|exact st_gtr' (by first|assumption|rfl)|exact st_len'|exact st_loadE') qK ?_|refine g_sk rfl inferInstance rfl qK ?_|refine g_un rfl inferInstance qK ?_|apply g_st|apply g_skip|apply g_ct|apply g_cf|apply g_ret|refine rp_2 rfl hm ?_|apply g_blk|apply g_eb|apply g_ex|apply e_t|apply e_h|refine e_o rfl ?_|apply r_t|apply r_b|apply g_cl|exact sc trivial nn|exact st_zdec|exact st_slen|exact st_seq qG|exact st_sidx qL|exact st_nilc|exact st_move'|exact st_assign'|exact st_load'|exact st_fieldAddr'|exact st_and_t'|exact st_and_f'|exact st_eq' qG|exact st_gtr' qG|exact st_len'|exact st_loadE'|exact Cv.rfl'|intro _
theorem dec_ef1 {l W p R3 B R1 R2:List UInt8} (h:DecX l W p R3 B R1 R2 true false true) {c:UInt8} (k1:(W==[])=false) (hx:0≤(0:Int)∧W[(0:Int).toNat]? =some c) (k4:((c.toNat:Int)==48)=false):PtC Tryz.prog S1 117 (.cs [Tx l]) [] [] (.cs [Tx R3]) (.tup [.is (dcv false true W p), .is (.bool false)]):=by
 obtain ⟨t1,d1,t2,d2,d3,nn⟩:=h
 first|(obtain ⟨rfl,rfl⟩:=d3 rfl;clear d2)|replace d2:=d2 rfl
 clear d3
 simp only [dcv,cond_true,cond_false]
 refine ptc Tryz.func117 rfl Tryz.ntmps117 qE (fun _ _=>by kernel_rfl) fun w00 X L0 r wS hG hm=> ?_
 simp only [argE,Nat.zero_add,Nat.reduceAdd,List.cons_append,List.nil_append]
 repeat' first|kernel_rfl|refine g_pc (s:=8) trivial t1 qK ?_|refine g_pc (s:=13) trivial d1 qK ?_|refine g_pc (s:=18) trivial t2 qK ?_|refine g_pc (s:=23) trivial d2 qK ?_|apply g_seq|apply g_reg|apply g_nil|apply g_box|apply g_all|apply g_stf|apply g_stw|apply g_sto|apply g_asg|refine g_run rfl inferInstance (by first|exact sc trivial nn|exact st_slen|exact st_seq (by first|assumption|rfl)|exact st_load'|exact st_fieldAddr'|exact st_eq' (by first|assumption|rfl)|exact st_gtr' (by first|assumption|rfl)|exact st_len'|exact st_loadE') qK ?_|refine g_sk rfl inferInstance rfl qK ?_|refine g_un rfl inferInstance qK ?_|apply g_st|apply g_skip|apply g_ct|apply g_cf|apply g_ret|refine rp_2 rfl hm ?_|apply g_blk|apply g_eb|apply g_ex|apply e_t|apply e_h|refine e_o rfl ?_|apply r_t|apply r_b|apply g_cl|exact sc trivial nn|exact st_zdec|exact st_slen|exact st_seq qG|exact st_sidx qL|exact st_nilc|exact st_move'|exact st_assign'|exact st_load'|exact st_fieldAddr'|exact st_and_t'|exact st_and_f'|exact st_eq' qG|exact st_gtr' qG|exact st_len'|exact st_loadE'|exact Cv.rfl'|intro _
theorem dec_ff1 {l W p R3 B R1 R2:List UInt8} (h:DecX l W p R3 B R1 R2 true false false) {c:UInt8} (k1:(W==[])=false) (hx:0≤(0:Int)∧W[(0:Int).toNat]? =some c) (k4:((c.toNat:Int)==48)=false):PtC Tryz.prog S1 117 (.cs [Tx l]) [] [] (.cs [Tx R3]) (.tup [.is (dcv true true W p), .is (.bool true)]):=by
 obtain ⟨t1,d1,t2,d2,d3,nn⟩:=h
 first|(obtain ⟨rfl,rfl⟩:=d3 rfl;clear d2)|replace d2:=d2 rfl
 clear d3
 simp only [dcv,cond_true,cond_false]
 refine ptc Tryz.func117 rfl Tryz.ntmps117 qE (fun _ _=>by kernel_rfl) fun w00 X L0 r wS hG hm=> ?_
 simp only [argE,Nat.zero_add,Nat.reduceAdd,List.cons_append,List.nil_append]
 repeat' first|kernel_rfl|refine g_pc (s:=8) trivial t1 qK ?_|refine g_pc (s:=13) trivial d1 qK ?_|refine g_pc (s:=18) trivial t2 qK ?_|refine g_pc (s:=23) trivial d2 qK ?_|apply g_seq|apply g_reg|apply g_nil|apply g_box|apply g_all|apply g_stf|apply g_stw|apply g_sto|apply g_asg|refine g_run rfl inferInstance (by first|exact sc trivial nn|exact st_slen|exact st_seq (by first|assumption|rfl)|exact st_load'|exact st_fieldAddr'|exact st_eq' (by first|assumption|rfl)|exact st_gtr' (by first|assumption|rfl)|exact st_len'|exact st_loadE') qK ?_|refine g_sk rfl inferInstance rfl qK ?_|refine g_un rfl inferInstance qK ?_|apply g_st|apply g_skip|apply g_ct|apply g_cf|apply g_ret|refine rp_2 rfl hm ?_|apply g_blk|apply g_eb|apply g_ex|apply e_t|apply e_h|refine e_o rfl ?_|apply r_t|apply r_b|apply g_cl|exact sc trivial nn|exact st_zdec|exact st_slen|exact st_seq qG|exact st_sidx qL|exact st_nilc|exact st_move'|exact st_assign'|exact st_load'|exact st_fieldAddr'|exact st_and_t'|exact st_and_f'|exact st_eq' qG|exact st_gtr' qG|exact st_len'|exact st_loadE'|exact Cv.rfl'|intro _
theorem dec_df2{l W p R3 B R1 R2:List UInt8} (h:DecX l W p R3 B R1 R2 false false z) {c:UInt8} (k1:(W==[])=false) (hx:0≤(0:Int)∧W[(0:Int).toNat]? =some c) (k4:((c.toNat:Int)==48)=true) (k5:decide ((1:Int)<(W.length:Int))=false):PtC Tryz.prog S1 117 (.cs [Tx l]) [] [] (.cs [Tx R3]) (.tup [.is (dcv true false W p), .is (.bool true)]):=by
 obtain ⟨t1,d1,t2,d2,d3,nn⟩:=h
 first|(obtain ⟨rfl,rfl⟩:=d3 rfl;clear d2)|replace d2:=d2 rfl
 clear d3
 simp only [dcv,cond_true,cond_false]
 refine ptc Tryz.func117 rfl Tryz.ntmps117 qE (fun _ _=>by kernel_rfl) fun w00 X L0 r wS hG hm=> ?_
 simp only [argE,Nat.zero_add,Nat.reduceAdd,List.cons_append,List.nil_append]
 repeat' first|kernel_rfl|refine g_pc (s:=8) trivial t1 qK ?_|refine g_pc (s:=13) trivial d1 qK ?_|refine g_pc (s:=18) trivial t2 qK ?_|refine g_pc (s:=23) trivial d2 qK ?_|apply g_seq|apply g_reg|apply g_nil|apply g_box|apply g_all|apply g_stf|apply g_stw|apply g_sto|apply g_asg|refine g_run rfl inferInstance (by first|exact sc trivial nn|exact st_slen|exact st_seq (by first|assumption|rfl)|exact st_load'|exact st_fieldAddr'|exact st_eq' (by first|assumption|rfl)|exact st_gtr' (by first|assumption|rfl)|exact st_len'|exact st_loadE') qK ?_|refine g_sk rfl inferInstance rfl qK ?_|refine g_un rfl inferInstance qK ?_|apply g_st|apply g_skip|apply g_ct|apply g_cf|apply g_ret|refine rp_2 rfl hm ?_|apply g_blk|apply g_eb|apply g_ex|apply e_t|apply e_h|refine e_o rfl ?_|apply r_t|apply r_b|apply g_cl|exact sc trivial nn|exact st_zdec|exact st_slen|exact st_seq qG|exact st_sidx qL|exact st_nilc|exact st_move'|exact st_assign'|exact st_load'|exact st_fieldAddr'|exact st_and_t'|exact st_and_f'|exact st_eq' qG|exact st_gtr' qG|exact st_len'|exact st_loadE'|exact Cv.rfl'|intro _
theorem dec_ef2 {l W p R3 B R1 R2:List UInt8} (h:DecX l W p R3 B R1 R2 true false true) {c:UInt8} (k1:(W==[])=false) (hx:0≤(0:Int)∧W[(0:Int).toNat]? =some c) (k4:((c.toNat:Int)==48)=true) (k5:decide ((1:Int)<(W.length:Int))=false):PtC Tryz.prog S1 117 (.cs [Tx l]) [] [] (.cs [Tx R3]) (.tup [.is (dcv false true W p), .is (.bool false)]):=by
 obtain ⟨t1,d1,t2,d2,d3,nn⟩:=h
 first|(obtain ⟨rfl,rfl⟩:=d3 rfl;clear d2)|replace d2:=d2 rfl
 clear d3
 simp only [dcv,cond_true,cond_false]
 refine ptc Tryz.func117 rfl Tryz.ntmps117 qE (fun _ _=>by kernel_rfl) fun w00 X L0 r wS hG hm=> ?_
 simp only [argE,Nat.zero_add,Nat.reduceAdd,List.cons_append,List.nil_append]
 repeat' first|kernel_rfl|refine g_pc (s:=8) trivial t1 qK ?_|refine g_pc (s:=13) trivial d1 qK ?_|refine g_pc (s:=18) trivial t2 qK ?_|refine g_pc (s:=23) trivial d2 qK ?_|apply g_seq|apply g_reg|apply g_nil|apply g_box|apply g_all|apply g_stf|apply g_stw|apply g_sto|apply g_asg|refine g_run rfl inferInstance (by first|exact sc trivial nn|exact st_slen|exact st_seq (by first|assumption|rfl)|exact st_load'|exact st_fieldAddr'|exact st_eq' (by first|assumption|rfl)|exact st_gtr' (by first|assumption|rfl)|exact st_len'|exact st_loadE') qK ?_|refine g_sk rfl inferInstance rfl qK ?_|refine g_un rfl inferInstance qK ?_|apply g_st|apply g_skip|apply g_ct|apply g_cf|apply g_ret|refine rp_2 rfl hm ?_|apply g_blk|apply g_eb|apply g_ex|apply e_t|apply e_h|refine e_o rfl ?_|apply r_t|apply r_b|apply g_cl|exact sc trivial nn|exact st_zdec|exact st_slen|exact st_seq qG|exact st_sidx qL|exact st_nilc|exact st_move'|exact st_assign'|exact st_load'|exact st_fieldAddr'|exact st_and_t'|exact st_and_f'|exact st_eq' qG|exact st_gtr' qG|exact st_len'|exact st_loadE'|exact Cv.rfl'|intro _
theorem dec_ff2 {l W p R3 B R1 R2:List UInt8} (h:DecX l W p R3 B R1 R2 true false false) {c:UInt8} (k1:(W==[])=false) (hx:0≤(0:Int)∧W[(0:Int).toNat]? =some c) (k4:((c.toNat:Int)==48)=true) (k5:decide ((1:Int)<(W.length:Int))=false):PtC Tryz.prog S1 117 (.cs [Tx l]) [] [] (.cs [Tx R3]) (.tup [.is (dcv true true W p), .is (.bool true)]):=by
 obtain ⟨t1,d1,t2,d2,d3,nn⟩:=h
 first|(obtain ⟨rfl,rfl⟩:=d3 rfl;clear d2)|replace d2:=d2 rfl
 clear d3
 simp only [dcv,cond_true,cond_false]
 refine ptc Tryz.func117 rfl Tryz.ntmps117 qE (fun _ _=>by kernel_rfl) fun w00 X L0 r wS hG hm=> ?_
 simp only [argE,Nat.zero_add,Nat.reduceAdd,List.cons_append,List.nil_append]
 repeat' first|kernel_rfl|refine g_pc (s:=8) trivial t1 qK ?_|refine g_pc (s:=13) trivial d1 qK ?_|refine g_pc (s:=18) trivial t2 qK ?_|refine g_pc (s:=23) trivial d2 qK ?_|apply g_seq|apply g_reg|apply g_nil|apply g_box|apply g_all|apply g_stf|apply g_stw|apply g_sto|apply g_asg|refine g_run rfl inferInstance (by first|exact sc trivial nn|exact st_slen|exact st_seq (by first|assumption|rfl)|exact st_load'|exact st_fieldAddr'|exact st_eq' (by first|assumption|rfl)|exact st_gtr' (by first|assumption|rfl)|exact st_len'|exact st_loadE') qK ?_|refine g_sk rfl inferInstance rfl qK ?_|refine g_un rfl inferInstance qK ?_|apply g_st|apply g_skip|apply g_ct|apply g_cf|apply g_ret|refine rp_2 rfl hm ?_|apply g_blk|apply g_eb|apply g_ex|apply e_t|apply e_h|refine e_o rfl ?_|apply r_t|apply r_b|apply g_cl|exact sc trivial nn|exact st_zdec|exact st_slen|exact st_seq qG|exact st_sidx qL|exact st_nilc|exact st_move'|exact st_assign'|exact st_load'|exact st_fieldAddr'|exact st_and_t'|exact st_and_f'|exact st_eq' qG|exact st_gtr' qG|exact st_len'|exact st_loadE'|exact Cv.rfl'|intro _
theorem c_decimal {l:List UInt8} (hl:l.length≤1000000):PtC Tryz.prog S1 117 (.cs [Tx l]) [] [] (.cs [Tx (r3 l)]) (.tup [.is (dcv (dok l) (ng l) (wh l) (pc l)), .is (.bool (dok l))]):=by
 have hlw:=len_parts l
 have hX:DecX l (wh l) (pc l) (r3 l) (bd l) (r1 l) (r2 l) (ng l) (sp l) (al0 (wh l)&&al0 (pc l)):=⟨c_take,c_digits (Nat.le_trans (bd_len l) hl),c_take,fun h=>by
  have:=c_digits (Nat.le_trans (r2_len l) hl)
  unfold r3 pc
  rw [h]
  exact this,fun h=>⟨by unfold r3;rw [h];rfl,pc_sp h⟩,c_nought (n:=ng l) (a:=wh l) (b:=pc l) qO qO⟩
 have hd:dok l=((!(wh l==[])&& !((wh l).head? ==some 48&&decide (1<(wh l).length))&& !(sp l&&pc l==[]))&& !(ng l&&(al0 (wh l)&&al0 (pc l)))):=rfl
 generalize dok l=D at*
 generalize ng l=n at*
 generalize sp l=s at*
 generalize wh l=W at*
 generalize pc l=p at*
 generalize r3 l=R3 at*
 generalize bd l=B at*
 generalize r1 l=R1 at*
 generalize r2 l=R2 at*
 generalize (al0 W&&al0 p)=z at*
 clear hlw
 by_cases hw:(W==[])=true
 ·rw [hw] at hd
  obtain rfl:D=false:=by rw [hd];rfl
  cases s
  ·exact dec_af hX hw
  ·exact dec_at hX hw
 ·have hw:(W==[])=false:=by simpa using hw
  obtain ⟨c,r,e⟩:∃ c r,W=c::r:=by
   cases W with
   |nil=>cases hw
   |cons c r=>exact ⟨c,r,rfl⟩
  have hx:0≤(0:Int)∧W[(0:Int).toNat]? =some c:=⟨Int.le_refl _,by rw [e];rfl⟩
  have e1:(W.head? ==some 48)=((c.toNat:Int)==48):=by
   rw [e,Bool.eq_iff_iff,beq_iff_eq,beq_iff_eq]
   constructor
   ·intro h;injection h with h;rw [h];rfl
   ·intro h;rw [show c=48 from UInt8.toNat_inj.1 (by show c.toNat=48;omega)];rfl
  have e2:decide (1<W.length)=decide ((1:Int)<(W.length:Int)):=decide_eq_decide.2 qO
  rw [hw,e1,e2] at hd
  clear e e1 e2
  cases k4:((c.toNat:Int)==48)<;>cases k5:decide ((1:Int)<(W.length:Int))<;>rw [k4,k5] at hd<;>cases s<;>cases n<;>cases z<;>cases k7:(p==[])<;>rw [k7] at hd<;>simp at hd<;>subst hd
  all_goals first
   |exact dec_bt hX hw hx k4 k5
   |exact dec_bf hX hw hx k4 k5
   |exact dec_c1 hX hw hx k4 k7
   |exact dec_c2 hX hw hx k4 k5 k7
   |exact dec_dt1 hX hw hx k4 k7
   |exact dec_dt2 hX hw hx k4 k5 k7
   |exact dec_df1 hX hw hx k4
   |exact dec_df2 hX hw hx k4 k5
   |exact dec_et1 hX hw hx k4 k7
   |exact dec_et2 hX hw hx k4 k5 k7
   |exact dec_ef1 hX hw hx k4
   |exact dec_ef2 hX hw hx k4 k5
   |exact dec_ft1 hX hw hx k4 k7
   |exact dec_ft2 hX hw hx k4 k5 k7
   |exact dec_ff1 hX hw hx k4
   |exact dec_ff2 hX hw hx k4 k5
theorem Free.new6(hX:∀ b∈X,b<w.heap.size) (o:Obj):Free X (w.alloc o) w.heap.size:=⟨by rw [size_one];exact Nat.lt_succ_self _,fun h=>Nat.lt_irrefl _ (hX _ h)⟩
def VTy.vs (l:List Value):VTy:=⟨fun X w v=>∃ b,v= .slice (some ⟨b,0,none⟩) l.length l.length∧Free X w b∧∀ (j:Nat) (u:Value),l[j]? =some u→w.cell? ⟨b,j,none⟩=some u,
 fun ⟨b,e,hb,h⟩ hk hX=>⟨b,e,Free.mono hk hX b hb,fun j u hj=>(World.cell?_of_block (hk.block b hb.1 hb.2)).trans (h j u hj)⟩⟩
def VTy.pv (u:Value):VTy:=⟨fun X w v=>∃ b o,v= .pointer (some ⟨b,o,none⟩)∧Free X w b∧w.cell? ⟨b,o,none⟩=some u,
 fun ⟨b,o,e,hb,h⟩ hk hX=>⟨b,o,e,Free.mono hk hX b hb,(World.cell?_of_block (hk.block b hb.1 hb.2)).trans h⟩⟩
def enumF (k:Nat):List Value→List (Nat×Value)
 |[]=>[]
 |v::vs=>(k,v)::enumF (k+1) vs
class IsL (E:List (Nat×VTy)) (ps:List (Nat×Operand)) (k:Nat) (vs:outParam (List Value)):Prop where
 get:∀ {X:List Nat} {w:World} {ρ:Operand→Value},(∀ c,ρ (.const c)=c)→(∀ p∈E, .tmp p.1∈ps.map Prod.snd→p.2.holds X w (ρ (.tmp p.1)))→ps.map (fun p=>(p.1,ρ p.2))=enumF k vs
instance IsL.nil {E:List (Nat×VTy)} {k:Nat}:IsL E [] k []:=⟨fun _ _=>rfl⟩
instance IsL.cons {E:List (Nat×VTy)} {o:Operand} {ps:List (Nat×Operand)} {k:Nat} {v:Value} {vs:List Value} [ho:OpC E o (.is v)] [t:IsL E ps (k+1) vs]:IsL E ((k,o)::ps) k (v::vs):=⟨fun {X w ρ} hc hs=>by
 rw [List.map_cons,t.get (X:=X) (w:=w) hc fun p hp hm=>hs p hp (List.mem_cons_of_mem _ hm)]
 have e:ρ o=v:=ho.get (X:=X) (w:=w) hc fun p hp e=>hs p hp (by rw [e];exact List.mem_cons_self)
 rw [e]
 rfl⟩
theorem fill_row:∀ (vs:List Value) (k:Nat) (c:Array Value),(∀ v∈vs,v.oneCell'=true)→k+vs.length≤c.size→
 ∃ c',Instr.fill (fun i=>some (i*1,1)) c (enumF k vs)=some c'∧c'.size=c.size∧(∀ j,j<k→c'[j]? =c[j]?)∧∀ j u,vs[j]? =some u→c'[k+j]? =some u
 |[],k,c,_,_=>⟨c,rfl,rfl,fun _ _=>rfl,fun j u h=>by simp at h⟩
 |v::vs,k,c,h1,hl=>by
  have hv:=cells_one (h1 v List.mem_cons_self)
  simp only [List.length_cons] at hl
  obtain ⟨c',e,hs,ho,hn⟩:=fill_row vs (k+1) (c.setIfInBounds k v) (fun u hu=>h1 u (List.mem_cons_of_mem _ hu)) (by simp;omega)
  refine ⟨c',?_,by rw [hs];simp,fun j hj=> ?_,fun j u hj=> ?_⟩
  ·unfold enumF Instr.fill
   simp only [hv,Nat.mul_one]
   rw [if_neg (by simp;omega)]
   simpa using e
  ·rw [ho j qO]
   simp [Array.getElem?_setIfInBounds,show k≠j by omega]
  ·cases j with
   |zero=>
    rw [Nat.add_zero,ho k qO]
    have:v=u:=by simpa using hj
    rw [←this]
    simp [Array.getElem?_setIfInBounds,show k<c.size by omega]
   |succ j=>
    have:=hn j u (by simpa using hj)
    rw [show k+(j+1)=k+1+j by omega]
    exact this
class RowC (P:Program) (ty:TypeId):Prop where
 ok:∃ e,P.underlying ty=some (.slice e)∧(P.info? e).map (·.size)=some 1∧∀ w,∃ z,(zeroValue e).run P w= .ok z w
instance {P:Program} {ty:TypeId} [r:RowC P ty]:SliceC P ty 1:=let ⟨e,h1,h2,_⟩:=r.ok;⟨⟨e,h1,h2⟩⟩
section
variable {P:Program} {w00:World} {N:Nat} {L:List Loc} {E:List (Nat×VTy)} {d:Nat} {t0:TypeId} {pos:String} {af:Array Edge} {gd:Option (Nat×Bool)} {ats:Array TypeId}
theorem st_rowV{n:Nat} {ps:List (Nat×Operand)} {vs:List Value} [r:RowC P ty] [h:IsL E ps 0 vs] (hn:Nat.beq vs.length n=true) (hs:Nat.ble n 10000=true) (h1:vs.all (·.oneCell')=true):StepT P w00 N L E ⟨some d, .buildSlice ty n ps.toArray,t0,pos,af,gd⟩ (.vs vs):=by
 constructor
 intro X ρ w hc _ hN hm hsl
 obtain ⟨e,hu,hi,hz⟩:=r.ok
 obtain ⟨z,hz⟩:=hz w
 have hn':vs.length=n:=Nat.eq_of_beq_eq_true hn
 have hs':=Nat.le_of_ble_eq_true hs
 have hps:=h.get (X:=X) (w:=w) (ρ:=ρ) hc fun p hp hm=>hsl p hp (by
  simp only [Op.operands]
  obtain ⟨q,hq,e⟩:=List.mem_map.1 hm
  simp
  exact ⟨q.1,by rw [←e];exact hq⟩)
 have hsz:(sizeOf e).run P w= .ok 1 w:=by
  cases hq:P.info? e with
  |none=>rw [hq] at hi;cases hi
  |some q=>
   rw [hq] at hi
   have:q.size=1:=by simpa using hi
   simp [sizeOf,typeInfo,hq,this]
 have hfill:∀ c:Array Value,c.size=n→∃ c':Array Value,Instr.fill (fun i=>some (i*1,1)) c (ps.map fun p=>(p.1,ρ p.2))=some c'∧∀ (j:Nat) (u:Value),vs[j]? =some u→c'[j]? =some u:=fun c hcs=>by
  obtain ⟨c',ef,_,_,ev⟩:=fill_row vs 0 c (by simpa using h1) qO
  rw [hps]
  exact ⟨c',ef,fun j u hj=>by have:=ev j u hj;rwa [Nat.zero_add] at this⟩
 have hrun:∃ c':Array Value,(Instr.buildSlice ty n (ps.toArray.map fun (i,x)=>(i,ρ x))).run P w= .ok (.slice (some ⟨w.heap.size,0,none⟩) n n) (w.alloc (.cells c' e))∧∀ (j:Nat) (u:Value),vs[j]? =some u→c'[j]? =some u:=by
  obtain ⟨c',ef,ev⟩:=hfill ((Array.range (n*1)).map ((if n*1=0 then #[] else z.cells)[· %(if n*1=0 then #[] else z.cells).size]!)) qE
  refine ⟨c',?_,ev⟩
  have hbig:¬ 2^24<n*1:=qO
  have hl:(ps.toArray.map fun (i,x)=>(i,ρ x)).toList=ps.map fun p=>(p.1,ρ p.2):=by simp
  unfold Instr.buildSlice
  simp only [Sem.run_bind,run_underlying hu w,Result.andThen_ok,hsz,if_neg hbig,hl,Sem.run_pure]
  by_cases h0:n*1=0
  ·rw [if_pos h0] at ef ⊢
   simp only [Sem.run_bind,Sem.run_pure,Result.andThen_ok,ef]
   rfl
  ·rw [if_neg h0] at ef ⊢
   simp only [Sem.run_bind,hz,Sem.run_pure,Result.andThen_ok,ef]
   rfl
 obtain ⟨c',hrun,hc'⟩:=hrun
 unfold Yields execOp
 simp only [Sem.run_bind,hrun,Result.andThen_ok,Sem.run_pure]
 refine ⟨⟨w.heap.size,by rw [hn'],Free.new6 hm.far _,fun j u hj=> ?_⟩,(Below.refl _ _).alloc (Nat.le_refl _) _⟩
 exact cell_at (heap_new w (.cells c' e)) (hc' j u hj)
theorem st_lenV{s:Nat} [ho:Look E s (.vs l)] [ht:RowC P ty]:StepT P w00 N L E ⟨some d, .call { callee:= .builtin .len,args:= #[.tmp s],argTypes:= #[ty] },t0,pos,af,gd⟩ (.is (.int .i64 l.length)):=by
 constructor
 intro X ρ w hc _ hN hm hsl
 obtain ⟨b,e,_⟩:=hsl _ ho.mem qJ
 have e1:ρ (.tmp s)= .slice (some ⟨b,0,none⟩) l.length l.length:=e
 obtain ⟨el,hu,_⟩:=ht.ok
 clear hc hsl ho ht e hm
 unfold Yields
 go_simp
 exact ⟨rfl,Below.refl _ _⟩
theorem st_idxV{o oi:Operand} {j:Nat} [ho:OpC E o (.vs l)] [hi:OpC E oi (.is (.int .i64 (j:Int)))] [ht:RowC P ty] (ha:l[j]? =some u):StepT P w00 N L E ⟨some d, .indexAddr ty o oi,t0,pos,af,gd⟩ (.pv u):=by
 constructor
 intro X ρ w hc _ hN hm hsl
 obtain ⟨b,e,hb,h⟩:=ho.get (X:=X) (w:=w) hc fun p hp e=>hsl p hp qS
 have e1:ρ o= .slice (some ⟨b,0,none⟩) l.length l.length:=e
 have e2:ρ oi= .int .i64 j:=hi.get (X:=X) (w:=w) hc fun p hp e=>hsl p hp qS
 have hj:j<l.length:=(List.getElem?_eq_some_iff.1 ha).1
 obtain ⟨el,hu,hs,_⟩:=ht.ok
 have hz:(sizeOf el).run P w= .ok 1 w:=by
  cases hq:P.info? el with
  |none=>rw [hq] at hs;cases hs
  |some q=>
   rw [hq] at hs
   have:q.size=1:=by simpa using hs
   simp [sizeOf,typeInfo,hq,this]
 have hrun:(execOp ρ ⟨some d, .indexAddr ty o oi,t0,pos,af,gd⟩).run P w= .ok (.value (.pointer (some ⟨b,0+j*1,none⟩))) w:=by
  unfold execOp
  have hji:(0:Int)≤(j:Int)∧(j:Int)<(l.length:Int):=⟨by omega,by omega⟩
  simp only [e1,e2,Instr.indexAt,asIntOf,Sem.run_bind,Sem.run_pure,Result.andThen_ok,run_underlying hu w,hji,and_self,if_true,hz,Int.toNat_natCast,Addr.add_mid]
 unfold Yields
 rw [hrun]
 exact ⟨⟨b,_,rfl,hb,by rw [show 0+j*1=j by omega];exact h j u ha⟩,Below.refl _ _⟩
theorem st_loadV{s:Nat} [ho:Look E s (.pv u)] [ht:TyC P ty 1 false]:StepT P w00 N L E ⟨some d, .load ty (.tmp s),t0,pos,af,gd⟩ (.is u):=by
 constructor
 intro X ρ w hc _ hN hm hsl
 obtain ⟨b,o,e,hb,hcell⟩:=hsl _ ho.mem qI
 have e1:ρ (.tmp s)= .pointer (some ⟨b,o,none⟩):=e
 obtain ⟨dd,hu,hd⟩:=ht.row
 have hag:(isAgg ty).run P w= .ok false w:=by
  unfold isAgg
  rw [Sem.run_bind,run_underlying hu w]
  cases dd<;>first|rfl|cases hd
 have hrun:(execOp ρ ⟨some d, .load ty (.tmp s),t0,pos,af,gd⟩).run P w= .ok (.value u) w:=by
  unfold execOp
  simp only [e1,Instr.loadAt,Instr.sureAddr,loadVar,Sem.run_bind,Sem.run_pure,Result.andThen_ok,hag,run_load,hcell,if_false,Bool.false_eq_true]
 unfold Yields
 rw [hrun]
 exact ⟨rfl,Below.refl _ _⟩
end
instance:RowC Tryz.prog 30:=⟨⟨_,Tryz.underlying30,by kernel_rfl,fun w=>⟨Tx [],by go_simp⟩⟩⟩
instance:RowC Tryz.prog 32:=⟨⟨_,Tryz.underlying32,by kernel_rfl,fun w=>⟨.int .i64 0,by go_simp⟩⟩⟩
theorem st_rdr{L:List Loc} {o:Operand} {l:List UInt8} [ho:OpC E o (.is (Tx l))]:StepT Tryz.prog w00 N L E ⟨some d, .build 152 #[(0,o)],t0,pos,af,gd⟩ (.is (.agg #[Tx l])):=by
 constructor
 intro X ρ w hc _ hN hm hsl
 have e0:ρ o=Tx l:=ho.get (X:=X) (w:=w) hc fun p hp e=>hsl p hp qS
 clear hsl hm hc ho
 unfold Yields
 go_simp
 exact ⟨rfl,Below.refl _ _⟩
theorem c_decimalof {l b:List UInt8} {u:Bool} (hl:l.length≤1000000) (hu:(dok l&&(r3 l==b))=u):Ctr Tryz.prog S1 58 [0,0] [.is (Tx l), .is (Tx b)] (fun _=> .tup [.is (dcv u (ng l) (wh l) (pc l)), .is (.bool u)]):=by
 have cd:=c_decimal hl
 cases hd:dok l with
 |false=>
  rw [hd] at hu cd
  obtain rfl:u=false:=hu.symm
  simp only [dcv,cond_false] at cd ⊢
  refine ctr Tryz.func58 rfl Tryz.ntmps58 qE (fun _ _=>by kernel_rfl) fun X w hE=> ?_
  simp only [argE,Nat.zero_add,Nat.reduceAdd]
  repeat' first|kernel_rfl|refine g_pc trivial cd qK ?_|apply g_seq|apply g_reg|apply g_nil|apply g_box|apply g_all|apply g_stf|apply g_stw|apply g_sto|apply g_asg|refine g_run rfl inferInstance (by first|exact st_sne (by first|assumption|rfl)|exact st_move'|exact st_load'|exact st_fieldAddr'|exact st_neq' (by first|assumption|rfl)|exact st_loadE') qK ?_|refine g_sk rfl inferInstance rfl qK ?_|refine g_un rfl inferInstance qK ?_|apply g_st|apply g_skip|apply g_ct|apply g_cf|apply g_ret|refine r_2 rfl ?_|apply g_blk|apply g_eb|apply g_ex|apply e_t|apply e_h|refine e_o rfl ?_|apply r_t|apply r_b|apply g_cl|exact st_zdec|exact st_rdr|exact st_sne qG|exact st_move'|exact st_assign'|exact st_load'|exact st_fieldAddr'|exact st_extract'|exact st_or_f'|exact st_or_t'|exact st_not' (b:=true) (u:=false) rfl|exact st_not' (b:=false) (u:=true) rfl|exact st_not' rfl|exact st_neq' qG|exact st_loadE'|exact Cv.rfl'|intro _
 |true=>
  rw [hd] at hu cd
  simp only [dcv,cond_true] at cd ⊢
  cases u with
  |false=>
   have hq:(!(r3 l==b))=true:=by rw [Bool.true_and] at hu;rw [hu];rfl
   simp only [cond_false]
   refine ctr Tryz.func58 rfl Tryz.ntmps58 qE (fun _ _=>by kernel_rfl) fun X w hE=> ?_
   simp only [argE,Nat.zero_add,Nat.reduceAdd]
   repeat' first|kernel_rfl|refine g_pc trivial cd qK ?_|apply g_seq|apply g_reg|apply g_nil|apply g_box|apply g_all|apply g_stf|apply g_stw|apply g_sto|apply g_asg|refine g_run rfl inferInstance (by first|exact st_sne (by first|assumption|rfl)|exact st_move'|exact st_load'|exact st_fieldAddr'|exact st_neq' (by first|assumption|rfl)|exact st_loadE') qK ?_|refine g_sk rfl inferInstance rfl qK ?_|refine g_un rfl inferInstance qK ?_|apply g_st|apply g_skip|apply g_ct|apply g_cf|apply g_ret|refine r_2 rfl ?_|apply g_blk|apply g_eb|apply g_ex|apply e_t|apply e_h|refine e_o rfl ?_|apply r_t|apply r_b|apply g_cl|exact st_zdec|exact st_rdr|exact st_sne qG|exact st_move'|exact st_assign'|exact st_load'|exact st_fieldAddr'|exact st_extract'|exact st_or_f'|exact st_or_t'|exact st_not' (b:=true) (u:=false) rfl|exact st_not' (b:=false) (u:=true) rfl|exact st_not' rfl|exact st_neq' qG|exact st_loadE'|exact Cv.rfl'|intro _
  |true=>
   have hq:(!(r3 l==b))=false:=by rw [Bool.true_and] at hu;rw [hu];rfl
   simp only [cond_true]
   refine ctr Tryz.func58 rfl Tryz.ntmps58 qE (fun _ _=>by kernel_rfl) fun X w hE=> ?_
   simp only [argE,Nat.zero_add,Nat.reduceAdd]
   repeat' first|kernel_rfl|refine g_pc trivial cd qK ?_|apply g_seq|apply g_reg|apply g_nil|apply g_box|apply g_all|apply g_stf|apply g_stw|apply g_sto|apply g_asg|refine g_run rfl inferInstance (by first|exact st_sne (by first|assumption|rfl)|exact st_move'|exact st_load'|exact st_fieldAddr'|exact st_neq' (by first|assumption|rfl)|exact st_loadE') qK ?_|refine g_sk rfl inferInstance rfl qK ?_|refine g_un rfl inferInstance qK ?_|apply g_st|apply g_skip|apply g_ct|apply g_cf|apply g_ret|refine r_2 rfl ?_|apply g_blk|apply g_eb|apply g_ex|apply e_t|apply e_h|refine e_o rfl ?_|apply r_t|apply r_b|apply g_cl|exact st_zdec|exact st_rdr|exact st_sne qG|exact st_move'|exact st_assign'|exact st_load'|exact st_fieldAddr'|exact st_extract'|exact st_or_f'|exact st_or_t'|exact st_not' (b:=true) (u:=false) rfl|exact st_not' (b:=false) (u:=true) rfl|exact st_not' rfl|exact st_neq' qG|exact st_loadE'|exact Cv.rfl'|intro _
theorem pow10_lt {k:Nat} (h:k≤40):(10:Int)^k<4294967296^5:=by
 have h1:(10:Int)^k≤10^40:=pow_mono qD h
 have h3:(10:Int)^40<4294967296^5:=by decide
 omega
theorem NewE.lr{w':World} {e:Ending} (h:NewE w V e w') (hX:∀ b∈X,b<w.heap.size) (hK:V<4294967296^K):Gives X w (.tup [.lr V K, .is (.int .i64 0)]) e w':=by
 obtain ⟨ys,A,n,c,hr,rfl,ho,hb⟩:=h
 have hn:ys.length=n:=ho.sl.len
 exact ⟨_,rfl,⟨[.slice A n c, .int .i64 0],rfl,dr_new hX hr ho (by rw [←hn];exact hr.len_le (by decide) hK),rfl,trivial⟩,hb⟩
theorem c_nparse {l:List UInt8} (hw:Written ⟨l.toArray⟩) (hl:l.length≤40):Ctr Tryz.prog S1 166 [0] [.is (Tx l)] (fun _=> .tup [.lr (dval l) 5, .is (.int .i64 0)]):=
 ⟨fun _ _=>by kernel_rfl,fun _ h=>h,fun {X w vs} _ hX ha=>by
  obtain ⟨x,rfl,e⟩:=ha.one
  rw [show x=Tx l from e]
  refine (Parse_any (w:=w) ⟨l.toArray⟩ (by rw [bs_size];unfold maxLen;omega)).mono fun e w' h=> ?_
  rcases h with ⟨h,_⟩|⟨_,h,_⟩|⟨_,_,h⟩
  ·exact absurd hw h
  ·rw [bs_size] at h;omega
  ·rw [data_mk] at h
   have hb:=(dval_bound l (by have:=hw.2.2;rwa [data_mk] at this)).2
   have:=pow10_lt hl
   exact h.lr hX qO⟩
theorem c_npow {k:Nat} (hk:k≤40):Ctr Tryz.prog S1 78 [0,0] [.is (.int .u32 10), .is (.int .i64 (k:Int))] (fun _=> .tup [.lr (10^k) 5, .is (.int .i64 0)]):=
 ⟨fun _ _=>by kernel_rfl,fun _ h=>h,fun {X w vs} _ hX ha=>by
  obtain ⟨x,y,rfl,e,e2⟩:=ha.two
  rw [show x=_ from e,show y=_ from e2]
  exact (Pow_any (w:=w) (b:=10) (n:=k) qD qO).mono fun e w' h=>h.lr hX (pow10_lt hk)⟩
theorem lr_na{b:Bool} (h:(VTy.lr V K).holds X w u):∃ A n c,u= .slice A n c∧(VTy.na (sgv b V) K).holds X w (.agg #[.bool b, .slice A n c]):=by
 obtain ⟨A,n,c,xs,rfl,hs,hr,hl⟩:=h
 refine ⟨A,n,c,rfl,(b,xs),⟨?_,by rw [hs.1.len];exact hl⟩,[.bool b, .slice A n c],rfl,num_rd.2 ⟨A,n,c,rfl,hs,hr.dg⟩⟩
 show ival b xs=_
 by_cases hx:xs=[]
 ·have:=hr.val
  rw [hx] at this ⊢
  rw [ival_nil,←this]
  cases b<;>rfl
 ·rw [ival_right (rgt_of hr.tr fun h=>absurd h hx),hr.val]
section
variable {w00:World} {N:Nat} {L:List Loc} {E:List (Nat×VTy)} {d:Nat} {t0:TypeId} {pos:String} {af:Array Edge} {gd:Option (Nat×Bool)}
theorem st_bnum{o0 o1:Operand} {b:Bool} [h0:OpC E o0 (.is (.bool b))] [h1:OpC E o1 (.lr V K)]:StepT Tryz.prog w00 N L E ⟨some d, .build 25 #[(0,o0),(1,o1)],t0,pos,af,gd⟩ (.na (sgv b V) K):=by
 constructor
 intro X ρ w hc _ hN hm hsl
 have e0:ρ o0= .bool b:=h0.get (X:=X) (w:=w) hc fun p hp e=>hsl p hp qS
 obtain ⟨A,n,c,e1,hT⟩:=lr_na (b:=b) (h1.get (X:=X) (w:=w) hc fun p hp e=>hsl p hp qS)
 have HT:=Lib.hid hT
 clear hT hsl hm hc h0 h1
 unfold Yields
 go_simp
 exact ⟨HT.out,Below.refl _ _⟩
theorem st_bnum1{o1:Operand} [h1:OpC E o1 (.lr V K)]:StepT Tryz.prog w00 N L E ⟨some d, .build 25 #[(1,o1)],t0,pos,af,gd⟩ (.na V K):=by
 constructor
 intro X ρ w hc _ hN hm hsl
 obtain ⟨A,n,c,e1,hT⟩:=lr_na (b:=false) (h1.get (X:=X) (w:=w) hc fun p hp e=>hsl p hp qS)
 have HT:=Lib.hid hT
 clear hT hsl hm hc h1
 unfold Yields
 go_simp
 exact ⟨HT.out,Below.refl _ _⟩
end
theorem c_or{q:List UInt8} (hl:l.length=2) (h0:l[0]? =some (Tx q)) (h1:l[1]? =some (Tx [48])):Ctr Tryz.prog S1 167 [0] [.vs l] (fun _=> .is (Tx (bif q==[] then [48] else q))):=by
 refine ctr Tryz.func167 rfl Tryz.ntmps167 qE (fun _ _=>by kernel_rfl) fun X w hE=> ?_
 simp only [argE,Nat.zero_add,Nat.reduceAdd]
 repeat' first|kernel_rfl|apply g_seq|apply g_reg|apply g_nil|apply g_box|apply g_all|apply g_stf|apply g_stw|apply g_sto|apply g_asg|apply g_st|apply g_skip|apply g_ct|apply g_cf|apply g_ret|refine r_1 rfl ?_|apply g_blk|apply g_eb|apply g_ex|apply e_t|apply e_h|refine e_o rfl ?_|apply r_t|apply r_b|apply g_cl|exact st_lenV|exact st_idxV qL|exact st_loadV|exact st_sadd qL|exact st_slen|exact st_sne qG|exact st_add' qL|exact st_move'|exact st_assign'|exact st_load'|exact st_neq' qG|exact st_lss' qG|exact st_len'|exact st_indexAddr' qL|exact st_loadE'|exact Cv.rfl'|intro _
 refine g_stop fun a w h=> ?_
 refine cw_loop (fun k a w=>∃ i:Nat,i+k=2∧(i=0∨i=1∧q=[])∧TS _ X [] [(8, .is (.int .i64 (i:Int))),(7, .is (.int .i64 (l.length:Int))),(6, .vs l),(3, .is (Tx []))] 18 a w) 2 ⟨0,rfl, .inl rfl,h.keep [8,7,6,3]⟩ ?_
 clear h
 rintro k a w ⟨i,hi,hcs,h⟩
 have hc:decide ((i:Int)<(l.length:Int))=true:=decide_eq_true qO
 have hw:IntKind.i64.wrap ((i:Int)+1)=((i+1:Nat):Int):=i64_small qO qO
 obtain ⟨z,hx,hz⟩:∃ z,l[i]? =some (Tx z)∧((!(z==[]))=true∧z=(bif q==[] then [48] else q)∨(!(z==[]))=false∧i=0∧q=[]):=by
  rcases hcs with rfl|⟨rfl,ha⟩
  ·refine ⟨q,h0,?_⟩
   cases q with
   |nil=>exact .inr ⟨rfl,rfl,rfl⟩
   |cons c r=>exact .inl ⟨rfl,rfl⟩
  ·exact ⟨[48],h1, .inl ⟨rfl,by rw [ha];rfl⟩⟩
 clear hcs h0 h1
 rcases hz with ⟨hz,e⟩|⟨hz,hi0,ha⟩
 ·rw [←e]
  clear e
  refine g_of h ?_
  clear h
  repeat' first|kernel_rfl|apply g_seq|apply g_reg|apply g_nil|apply g_mv (s:=8)|apply g_box|apply g_all|apply g_stf|apply g_stw|apply g_sto|apply g_asg|apply g_st|apply g_skip|apply g_ct|apply g_cf|apply g_ret|refine r_1 rfl ?_|apply g_blk|apply g_eb|apply g_ex|apply e_t|apply e_h|refine e_o rfl ?_|apply r_t|apply r_b|apply g_cl|exact st_lenV|exact st_idxV qL|exact st_loadV|exact st_sadd qL|exact st_slen|exact st_sne qG|exact st_add' qL|exact st_move'|exact st_assign'|exact st_load'|exact st_neq' qG|exact st_lss' qG|exact st_len'|exact st_indexAddr' qL|exact st_loadE'|exact Cv.rfl'|intro _
 ·
  refine g_of h ?_
  clear h
  repeat' first|kernel_rfl|exact g_done fun _ _ h=>⟨k - 1,by omega,i+1,by omega, .inr ⟨by omega,ha⟩,h.keep [8,7,6,3]⟩|apply g_seq|apply g_reg|apply g_nil|apply g_mv (s:=8)|apply g_box|apply g_all|apply g_stf|apply g_stw|apply g_sto|apply g_asg|apply g_st|apply g_skip|apply g_ct|apply g_cf|apply g_ret|refine r_1 rfl ?_|apply g_blk|apply g_eb|apply g_ex|apply e_t|apply e_h|refine e_o rfl ?_|apply r_t|apply r_b|apply g_cl|exact st_lenV|exact st_idxV qL|exact st_loadV|exact st_sadd qL|exact st_slen|exact st_sne qG|exact st_add' qL|exact st_move'|exact st_assign'|exact st_load'|exact st_neq' qG|exact st_lss' qG|exact st_len'|exact st_indexAddr' qL|exact st_loadE'|exact Cv.rfl'|intro _
def dqv (n:Bool) (a b:List UInt8):Rat:=Rat.divInt (sgv n (dval (a++b))) (10^b.length)
theorem c_number{a b:List UInt8} (hd:∀ c∈a++b,isDig c) (hl:a.length+b.length≤40):Ctr Tryz.prog Env 118 [0] [.is (.agg #[.bool n,Tx a,Tx b])] (fun _=> .qc (dqv n a b) 5):=by
 have hs:a.length+b.length≤9223372036854775807:=qO
 have hlen:(a++b).length≤40:=by rw [List.length_append];omega
 obtain ⟨hw,hwl⟩:=cut0_written hd
 have hD:(10:Int)^b.length≠0:=by have:(0:Int)<10^b.length:=Int.pow_pos qD;omega
 have cp:=c_nparse hw qO
 rw [cut0_dval] at cp
 have co:∀ {E:World→Prop},Ctr Tryz.prog S1 167 [0] [.vs [Tx (Lib.trimLeftB (a++b) 48),Tx [48]]] (fun _=> .is (Tx (cut0 (a++b)))):=fun {_}=>c_or rfl rfl rfl
 have cw:=c_npow (k:=b.length) qO
 unfold dqv
 refine ctr Tryz.func118 rfl Tryz.ntmps118 qE (fun _ _=>by kernel_rfl) fun X w hE=> ?_
 simp only [argE,Nat.zero_add,Nat.reduceAdd]
 repeat' first|kernel_rfl|apply g_seq|apply g_reg|apply g_nil|apply g_box|apply g_all|apply g_stf|apply g_stw|apply g_sto|apply g_asg|apply g_st|apply g_skip|apply g_ct|apply g_cf|apply g_ret|refine r_1 rfl ?_|apply g_cl|exact sc trivial c_trimleft|exact st_rowV rfl rfl rfl|exact sc trivial (co (E:=S1))|exact sc trivial cp|exact sc trivial cw|exact st_bnum|exact st_bnum1|exact sr_new hE.tab qO hD|exact st_sadd qL|exact st_slen|exact st_add' qL|exact st_move'|exact st_assign'|exact st_load'|exact st_fieldAddr'|exact st_extract'|exact st_len'|exact st_loadE'|exact Cv.rfl'|intro _
theorem c_lim0{a b:List UInt8} (hd:∀ c∈a++b,isDig c) (hl:a.length+b.length≤40):Ctr Tryz.prog Env 59 [0] [.is (.agg #[.bool n,Tx a,Tx b])] (fun _=> .tup [.qc (dqv n a b) 5, .is (.int .i64 0)]):=by
 have hw:IntKind.i64.wrap ((a.length:Int)+(b.length:Int))=((a.length+b.length:Nat):Int):=i64_small qO qO
 have hc:decide ((40:Int)<((a.length+b.length:Nat):Int))=false:=decide_eq_false qO
 have cn:=c_number (n:=n) hd hl
 refine ctr Tryz.func59 rfl Tryz.ntmps59 qE (fun _ _=>by kernel_rfl) fun X w hE=> ?_
 simp only [argE,Nat.zero_add,Nat.reduceAdd]
 repeat' first|kernel_rfl|apply g_seq|apply g_reg|apply g_nil|apply g_box|apply g_all|apply g_stf|apply g_stw|apply g_sto|apply g_asg|apply g_st|apply g_skip|apply g_ct|apply g_cf|apply g_ret|refine r_2 rfl ?_|apply g_cl|exact sc hE cn|exact sr_build0|exact st_sadd qL|exact st_slen|exact st_add' qL|exact st_assign'|exact st_load'|exact st_fieldAddr'|exact st_gtr' qG|exact st_len'|exact st_loadE'|exact Cv.rfl'|intro _
theorem c_lim3{a b:List UInt8} (hl:40<a.length+b.length) (hb:a.length+b.length≤1000000):Ctr Tryz.prog Env 59 [0] [.is (.agg #[.bool n,Tx a,Tx b])] (fun _=> .tup [.q0, .is (.int .i64 3)]):=by
 have hw:IntKind.i64.wrap ((a.length:Int)+(b.length:Int))=((a.length+b.length:Nat):Int):=i64_small qO qO
 have hc:decide ((40:Int)<((a.length+b.length:Nat):Int))=true:=decide_eq_true qO
 refine ctr Tryz.func59 rfl Tryz.ntmps59 qE (fun _ _=>by kernel_rfl) fun X w hE=> ?_
 simp only [argE,Nat.zero_add,Nat.reduceAdd]
 repeat' first|kernel_rfl|apply g_seq|apply g_reg|apply g_nil|apply g_box|apply g_all|apply g_stf|apply g_stw|apply g_sto|apply g_asg|apply g_st|apply g_skip|apply g_ct|apply g_cf|apply g_ret|refine r_2 rfl ?_|apply g_cl|exact sr_build0|exact st_sadd qL|exact st_slen|exact st_add' qL|exact st_assign'|exact st_load'|exact st_fieldAddr'|exact st_gtr' qG|exact st_len'|exact st_loadE'|exact Cv.rfl'|intro _
def VTy.qe (q:Rat) (L:Nat) (e:Int):VTy:=bif e==0 then .qc q L else .q0
instance {q:Rat} {L:Nat} {e:Int}:SizeV (.qe q L e) 4 true:=by
 unfold VTy.qe
 cases (e==0)
 ·exact (inferInstance:SizeV .q0 4 true)
 ·exact (inferInstance:SizeV (.qc q L) 4 true)
instance {q:Rat} {L:Nat} {e:Int}:PartC (.qe q L e) 0 4 true (.qe q L e):= .whole inferInstance
def qeV (q:Rat) (e:Int):Rat:=bif e==0 then q else 0
instance {q:Rat} {L:Nat} {e:Int}:AsQ (.qe q L e) (qeV q e) (L+1):=⟨fun {X w v} h=>by
 unfold VTy.qe at h
 unfold qeV
 cases he:(e==0) with
 |true=>rw [he] at h;exact qa_mono qO ((inferInstance:AsQ (.qc q L) q L).ok h)
 |false=>
  rw [he] at h
  obtain ⟨x,rfl,g⟩:=h
  exact ⟨_,⟨by show qv _=0;decide,by simp,by simp,by omega⟩,g⟩⟩
def pE (m:Nat) (l:List UInt8):Int:=bif dok l&&(r3 l==[]) then (bif decide (m<(pc l).length) then 60 else bif decide (40<(wh l).length+(pc l).length) then 3 else 0) else 60
def dq (l:List UInt8):Rat:=dqv (ng l) (wh l) (pc l)
theorem c_parse {l:List UInt8} (hl:l.length≤1000000):Ctr Tryz.prog Env 17 [0] [.is (Tx l)] (fun _=> .tup [.qe (dq l) 5 (pE l.length l), .is (.int .i64 (pE l.length l))]):=by
 have hlp:=len_parts l
 unfold pE
 have cd:=fun u=>c_decimalof (l:=l) (b:=[]) (u:=u) hl
 cases hu:(dok l&&(r3 l==[])) with
 |false=>
  replace cd:=cd false hu
  simp only [dcv,cond_false] at cd ⊢
  refine ctr Tryz.func17 rfl Tryz.ntmps17 qE (fun _ _=>by kernel_rfl) fun X w hE=> ?_
  simp only [argE,Nat.zero_add,Nat.reduceAdd]
  repeat' first|kernel_rfl|apply g_seq|apply g_reg|apply g_nil|apply g_box|apply g_all|apply g_stf|apply g_stw|apply g_sto|apply g_asg|apply g_st|apply g_skip|apply g_ct|apply g_cf|apply g_ret|refine r_2 rfl ?_|apply g_cl|exact sc trivial cd|exact sr_build0|exact sc hE cl|exact st_move'|exact st_assign'|exact st_load'|exact st_extract'|exact st_not' (b:=true) (u:=false) rfl|exact st_not' (b:=false) (u:=true) rfl|exact st_not' rfl|exact st_loadE'|exact Cv.rfl'|intro _
 |true=>
  replace cd:=cd true hu
  simp only [dcv,cond_true] at cd ⊢
  rw [decide_eq_false (show ¬ l.length<(pc l).length by omega),cond_false]
  cases hc:decide (40<(wh l).length+(pc l).length) with
  |true=>
   have cl:=c_lim3 (n:=ng l) (of_decide_eq_true hc) qO
   simp only [cond_true]
   refine ctr Tryz.func17 rfl Tryz.ntmps17 qE (fun _ _=>by kernel_rfl) fun X w hE=> ?_
   simp only [argE,Nat.zero_add,Nat.reduceAdd]
   repeat' first|kernel_rfl|apply g_seq|apply g_reg|apply g_nil|apply g_box|apply g_all|apply g_stf|apply g_stw|apply g_sto|apply g_asg|apply g_st|apply g_skip|apply g_ct|apply g_cf|apply g_ret|refine r_2 rfl ?_|apply g_cl|exact sc trivial cd|exact sr_build0|exact sc hE cl|exact st_move'|exact st_assign'|exact st_load'|exact st_extract'|exact st_not' (b:=true) (u:=false) rfl|exact st_not' (b:=false) (u:=true) rfl|exact st_not' rfl|exact st_loadE'|exact Cv.rfl'|intro _
  |false=>
   have cl:=c_lim0 (n:=ng l) (wp_dig l) (by have:=of_decide_eq_false hc;omega)
   simp only [cond_false]
   refine ctr Tryz.func17 rfl Tryz.ntmps17 qE (fun _ _=>by kernel_rfl) fun X w hE=> ?_
   simp only [argE,Nat.zero_add,Nat.reduceAdd]
   repeat' first|kernel_rfl|apply g_seq|apply g_reg|apply g_nil|apply g_box|apply g_all|apply g_stf|apply g_stw|apply g_sto|apply g_asg|apply g_st|apply g_skip|apply g_ct|apply g_cf|apply g_ret|refine r_2 rfl ?_|apply g_cl|exact sc trivial cd|exact sr_build0|exact sc hE cl|exact st_move'|exact st_assign'|exact st_load'|exact st_extract'|exact st_not' (b:=true) (u:=false) rfl|exact st_not' (b:=false) (u:=true) rfl|exact st_not' rfl|exact st_loadE'|exact Cv.rfl'|intro _
theorem c_amount {l:List UInt8} (hl:l.length≤1000000):Ctr Tryz.prog Env 27 [0] [.is (Tx l)] (fun _=> .tup [.qe (dq l) 5 (pE 2 l), .is (.int .i64 (pE 2 l))]):=by
 have hlp:=len_parts l
 unfold pE
 have cd:=fun u=>c_decimalof (l:=l) (b:=[]) (u:=u) hl
 cases hu:(dok l&&(r3 l==[])) with
 |false=>
  replace cd:=cd false hu
  simp only [dcv,cond_false] at cd ⊢
  refine ctr Tryz.func27 rfl Tryz.ntmps27 qE (fun _ _=>by kernel_rfl) fun X w hE=> ?_
  simp only [argE,Nat.zero_add,Nat.reduceAdd]
  repeat' first|kernel_rfl|apply g_seq|apply g_reg|apply g_nil|apply g_box|apply g_all|apply g_stf|apply g_stw|apply g_sto|apply g_asg|refine g_run rfl inferInstance (by first|exact sc trivial cd|exact sc hE cl|exact st_slen|exact st_load'|exact st_fieldAddr'|exact st_gtr' (by first|assumption|rfl)|exact st_len'|exact st_loadE') qK ?_|refine g_sk rfl inferInstance rfl qK ?_|refine g_un rfl inferInstance qK ?_|apply g_st|apply g_skip|apply g_ct|apply g_cf|apply g_ret|refine r_2 rfl ?_|apply g_cl|exact sc trivial cd|exact sr_build0|exact sc hE cl|exact st_slen|exact st_move'|exact st_assign'|exact st_load'|exact st_fieldAddr'|exact st_extract'|exact st_or_f'|exact st_or_t'|exact st_not' (b:=true) (u:=false) rfl|exact st_not' (b:=false) (u:=true) rfl|exact st_not' rfl|exact st_gtr' qG|exact st_len'|exact st_loadE'|exact Cv.rfl'|intro _
 |true=>
  replace cd:=cd true hu
  simp only [dcv,cond_true] at cd ⊢
  cases hm:decide (2<(pc l).length) with
  |true=>
   have hm':decide ((2:Int)<((pc l).length:Int))=true:=by have:=of_decide_eq_true hm;exact decide_eq_true qO
   simp only [cond_true]
   refine ctr Tryz.func27 rfl Tryz.ntmps27 qE (fun _ _=>by kernel_rfl) fun X w hE=> ?_
   simp only [argE,Nat.zero_add,Nat.reduceAdd]
   repeat' first|kernel_rfl|apply g_seq|apply g_reg|apply g_nil|apply g_box|apply g_all|apply g_stf|apply g_stw|apply g_sto|apply g_asg|refine g_run rfl inferInstance (by first|exact sc trivial cd|exact sc hE cl|exact st_slen|exact st_load'|exact st_fieldAddr'|exact st_gtr' (by first|assumption|rfl)|exact st_len'|exact st_loadE') qK ?_|refine g_sk rfl inferInstance rfl qK ?_|refine g_un rfl inferInstance qK ?_|apply g_st|apply g_skip|apply g_ct|apply g_cf|apply g_ret|refine r_2 rfl ?_|apply g_cl|exact sc trivial cd|exact sr_build0|exact sc hE cl|exact st_slen|exact st_move'|exact st_assign'|exact st_load'|exact st_fieldAddr'|exact st_extract'|exact st_or_f'|exact st_or_t'|exact st_not' (b:=true) (u:=false) rfl|exact st_not' (b:=false) (u:=true) rfl|exact st_not' rfl|exact st_gtr' qG|exact st_len'|exact st_loadE'|exact Cv.rfl'|intro _
  |false=>
   have hm':decide ((2:Int)<((pc l).length:Int))=false:=by have:=of_decide_eq_false hm;exact decide_eq_false qO
   simp only [cond_false]
   cases hc:decide (40<(wh l).length+(pc l).length) with
   |true=>
    have cl:=c_lim3 (n:=ng l) (of_decide_eq_true hc) qO
    simp only [cond_true]
    refine ctr Tryz.func27 rfl Tryz.ntmps27 qE (fun _ _=>by kernel_rfl) fun X w hE=> ?_
    simp only [argE,Nat.zero_add,Nat.reduceAdd]
    repeat' first|kernel_rfl|apply g_seq|apply g_reg|apply g_nil|apply g_box|apply g_all|apply g_stf|apply g_stw|apply g_sto|apply g_asg|refine g_run rfl inferInstance (by first|exact sc trivial cd|exact sc hE cl|exact st_slen|exact st_load'|exact st_fieldAddr'|exact st_gtr' (by first|assumption|rfl)|exact st_len'|exact st_loadE') qK ?_|refine g_sk rfl inferInstance rfl qK ?_|refine g_un rfl inferInstance qK ?_|apply g_st|apply g_skip|apply g_ct|apply g_cf|apply g_ret|refine r_2 rfl ?_|apply g_cl|exact sc trivial cd|exact sr_build0|exact sc hE cl|exact st_slen|exact st_move'|exact st_assign'|exact st_load'|exact st_fieldAddr'|exact st_extract'|exact st_or_f'|exact st_or_t'|exact st_not' (b:=true) (u:=false) rfl|exact st_not' (b:=false) (u:=true) rfl|exact st_not' rfl|exact st_gtr' qG|exact st_len'|exact st_loadE'|exact Cv.rfl'|intro _
   |false=>
    have cl:=c_lim0 (n:=ng l) (wp_dig l) (by have:=of_decide_eq_false hc;omega)
    simp only [cond_false]
    refine ctr Tryz.func27 rfl Tryz.ntmps27 qE (fun _ _=>by kernel_rfl) fun X w hE=> ?_
    simp only [argE,Nat.zero_add,Nat.reduceAdd]
    repeat' first|kernel_rfl|apply g_seq|apply g_reg|apply g_nil|apply g_box|apply g_all|apply g_stf|apply g_stw|apply g_sto|apply g_asg|refine g_run rfl inferInstance (by first|exact sc trivial cd|exact sc hE cl|exact st_slen|exact st_load'|exact st_fieldAddr'|exact st_gtr' (by first|assumption|rfl)|exact st_len'|exact st_loadE') qK ?_|refine g_sk rfl inferInstance rfl qK ?_|refine g_un rfl inferInstance qK ?_|apply g_st|apply g_skip|apply g_ct|apply g_cf|apply g_ret|refine r_2 rfl ?_|apply g_cl|exact sc trivial cd|exact sr_build0|exact sc hE cl|exact st_slen|exact st_move'|exact st_assign'|exact st_load'|exact st_fieldAddr'|exact st_extract'|exact st_or_f'|exact st_or_t'|exact st_not' (b:=true) (u:=false) rfl|exact st_not' (b:=false) (u:=true) rfl|exact st_not' rfl|exact st_gtr' qG|exact st_len'|exact st_loadE'|exact Cv.rfl'|intro _
abbrev h100:Rat:=((100:Int):Rat)
theorem h100_ne:h100≠0:=by decide
def shE (l:List UInt8):Int:=bif dok l&&(r3 l==[37]) then (bif ng l || decide (4<(pc l).length) || decide (40<(wh l).length+(pc l).length) || decide (0<cmpQ (dq l) h100) then 60 else 0) else 60
theorem c_share {l:List UInt8} (hl:l.length≤1000000):Ctr Tryz.prog Env 25 [0] [.is (Tx l)] (fun _=> .tup [.qe (dq l / h100) 7 (shE l), .is (.int .i64 (shE l))]):=by
 have hlp:=len_parts l
 have hl4:decide ((4:Int)<((pc l).length:Int))=decide (4<(pc l).length):=decide_eq_decide.2 qO
 unfold shE
 have cd:=fun u=>c_decimalof (l:=l) (b:=[37]) (u:=u) hl
 cases hu:(dok l&&(r3 l==[37])) with
 |false=>
  replace cd:=cd false hu
  simp only [dcv,cond_false] at cd ⊢
  refine ctr Tryz.func25 rfl Tryz.ntmps25 qE (fun _ _=>by kernel_rfl) fun X w hE=> ?_
  simp only [argE,Nat.zero_add,Nat.reduceAdd]
  repeat' first|kernel_rfl|apply g_seq|apply g_reg|apply g_nil|apply o_all|apply o_go|exact OpsT.nil|exact GuardC.nil|exact UndefC.nil|refine @GuardC.cons _ _ _ _ inferInstance ?_|refine @UndefC.cons _ _ _ inferInstance ?_|apply g_box|apply g_all|apply g_stf|apply g_stw|apply g_sto|apply g_asg|refine g_run rfl inferInstance (by first|exact sc trivial cd|exact sc hE cl|exact st_slen|exact st_load'|exact st_fieldAddr'|exact st_gtr' (by first|assumption|rfl)|exact st_len'|exact st_loadE') qK ?_|refine g_sk rfl inferInstance rfl qK ?_|refine g_un rfl inferInstance qK ?_|apply g_st|apply g_skip|apply g_ct|apply g_cf|apply g_ret|refine r_2 rfl ?_|apply g_cl|exact sc trivial cd|exact sr_build0|exact sc hE cl|exact sr_whole hE.tab qD|exact sr_cmp hE.tab qO|exact sr_div hE.tab qO h100_ne|exact st_slen|exact st_sne qG|exact st_move'|exact st_assign'|exact st_load'|exact st_fieldAddr'|exact st_extract'|exact st_or_f'|exact st_or_t'|exact st_not' (b:=true) (u:=false) rfl|exact st_not' (b:=false) (u:=true) rfl|exact st_not' rfl|exact st_neq' qG|exact st_gtr' qG|exact st_len'|exact st_loadE'|exact Cv.rfl'|(intro _;simp only[newX,newL,ptrs,List.map,List.cons_append,List.nil_append])|intro _
 |true=>
  replace cd:=cd true hu
  simp only [dcv,cond_true] at cd ⊢
  cases hn:ng l with
  |true=>
   rw [hn] at cd
   simp only [Bool.true_or,cond_true]
   refine ctr Tryz.func25 rfl Tryz.ntmps25 qE (fun _ _=>by kernel_rfl) fun X w hE=> ?_
   simp only [argE,Nat.zero_add,Nat.reduceAdd]
   repeat' first|kernel_rfl|apply g_seq|apply g_reg|apply g_nil|apply o_all|apply o_go|exact OpsT.nil|exact GuardC.nil|exact UndefC.nil|refine @GuardC.cons _ _ _ _ inferInstance ?_|refine @UndefC.cons _ _ _ inferInstance ?_|apply g_box|apply g_all|apply g_stf|apply g_stw|apply g_sto|apply g_asg|refine g_run rfl inferInstance (by first|exact sc trivial cd|exact sc hE cl|exact st_slen|exact st_load'|exact st_fieldAddr'|exact st_gtr' (by first|assumption|rfl)|exact st_len'|exact st_loadE') qK ?_|refine g_sk rfl inferInstance rfl qK ?_|refine g_un rfl inferInstance qK ?_|apply g_st|apply g_skip|apply g_ct|apply g_cf|apply g_ret|refine r_2 rfl ?_|apply g_cl|exact sc trivial cd|exact sr_build0|exact sc hE cl|exact sr_whole hE.tab qD|exact sr_cmp hE.tab qO|exact sr_div hE.tab qO h100_ne|exact st_slen|exact st_sne qG|exact st_move'|exact st_assign'|exact st_load'|exact st_fieldAddr'|exact st_extract'|exact st_or_f'|exact st_or_t'|exact st_not' (b:=true) (u:=false) rfl|exact st_not' (b:=false) (u:=true) rfl|exact st_not' rfl|exact st_neq' qG|exact st_gtr' qG|exact st_len'|exact st_loadE'|exact Cv.rfl'|(intro _;simp only[newX,newL,ptrs,List.map,List.cons_append,List.nil_append])|intro _
  |false=>
   rw [hn] at cd
   rw [←hl4]
   cases h4:decide ((4:Int)<((pc l).length:Int)) with
   |true=>
    simp only [Bool.or_true,Bool.true_or,cond_true]
    refine ctr Tryz.func25 rfl Tryz.ntmps25 qE (fun _ _=>by kernel_rfl) fun X w hE=> ?_
    simp only [argE,Nat.zero_add,Nat.reduceAdd]
    repeat' first|kernel_rfl|apply g_seq|apply g_reg|apply g_nil|apply o_all|apply o_go|exact OpsT.nil|exact GuardC.nil|exact UndefC.nil|refine @GuardC.cons _ _ _ _ inferInstance ?_|refine @UndefC.cons _ _ _ inferInstance ?_|apply g_box|apply g_all|apply g_stf|apply g_stw|apply g_sto|apply g_asg|refine g_run rfl inferInstance (by first|exact sc trivial cd|exact sc hE cl|exact st_slen|exact st_load'|exact st_fieldAddr'|exact st_gtr' (by first|assumption|rfl)|exact st_len'|exact st_loadE') qK ?_|refine g_sk rfl inferInstance rfl qK ?_|refine g_un rfl inferInstance qK ?_|apply g_st|apply g_skip|apply g_ct|apply g_cf|apply g_ret|refine r_2 rfl ?_|apply g_cl|exact sc trivial cd|exact sr_build0|exact sc hE cl|exact sr_whole hE.tab qD|exact sr_cmp hE.tab qO|exact sr_div hE.tab qO h100_ne|exact st_slen|exact st_sne qG|exact st_move'|exact st_assign'|exact st_load'|exact st_fieldAddr'|exact st_extract'|exact st_or_f'|exact st_or_t'|exact st_not' (b:=true) (u:=false) rfl|exact st_not' (b:=false) (u:=true) rfl|exact st_not' rfl|exact st_neq' qG|exact st_gtr' qG|exact st_len'|exact st_loadE'|exact Cv.rfl'|(intro _;simp only[newX,newL,ptrs,List.map,List.cons_append,List.nil_append])|intro _
   |false=>
    cases hc:decide (40<(wh l).length+(pc l).length) with
    |true=>
     have cl:=c_lim3 (n:=false) (of_decide_eq_true hc) qO
     simp only [Bool.or_true,Bool.true_or,cond_true]
     refine ctr Tryz.func25 rfl Tryz.ntmps25 qE (fun _ _=>by kernel_rfl) fun X w hE=> ?_
     simp only [argE,Nat.zero_add,Nat.reduceAdd]
     repeat' first|kernel_rfl|apply g_seq|apply g_reg|apply g_nil|apply g_draw (id:=5) [(33,true)] [] 7|(apply o_sk;(focus rfl);(focus kernel_rfl))|apply o_all|apply o_go|exact OpsT.nil|exact GuardC.nil|exact UndefC.nil|refine @GuardC.cons _ _ _ _ inferInstance ?_|refine @UndefC.cons _ _ _ inferInstance ?_|apply g_box|apply g_all|apply g_stf|apply g_stw|apply g_sto|apply g_asg|refine g_run rfl inferInstance (by first|exact sc trivial cd|exact sc hE cl|exact st_slen|exact st_load'|exact st_fieldAddr'|exact st_gtr' (by first|assumption|rfl)|exact st_len'|exact st_loadE') qK ?_|refine g_sk rfl inferInstance rfl qK ?_|refine g_un rfl inferInstance qK ?_|apply g_st|apply g_skip|apply g_ct|apply g_cf|apply g_ret|refine r_2 rfl ?_|apply g_cl|exact sc trivial cd|exact sr_build0|exact sc hE cl|exact sr_whole hE.tab qD|exact sr_cmp hE.tab qO|exact sr_div hE.tab qO h100_ne|exact st_slen|exact st_sne qG|exact st_move'|exact st_assign'|exact st_load'|exact st_fieldAddr'|exact st_extract'|exact st_or_f'|exact st_or_t'|exact st_not' (b:=true) (u:=false) rfl|exact st_not' (b:=false) (u:=true) rfl|exact st_not' rfl|exact st_neq' qG|exact st_gtr' qG|exact st_len'|exact st_loadE'|exact Cv.rfl'|(intro _;simp only[newX,newL,ptrs,List.map,List.cons_append,List.nil_append])|intro _
    |false=>
     have cl:=c_lim0 (n:=false) (wp_dig l) (by have:=of_decide_eq_false hc;omega)
     unfold dq
     rw [hn]
     cases hq:decide (0<cmpQ (dqv false (wh l) (pc l)) h100) with
     |true=>
      simp only [Bool.or_true,cond_true]
      refine ctr Tryz.func25 rfl Tryz.ntmps25 qE (fun _ _=>by kernel_rfl) fun X w hE=> ?_
      simp only [argE,Nat.zero_add,Nat.reduceAdd]
      repeat' first|kernel_rfl|apply g_seq|apply g_reg|apply g_nil|apply g_draw (id:=5) [(33,false)] [] 7|apply g_draw (id:=7) [] [] 5|apply o_all|apply o_go|exact OpsT.nil|exact GuardC.nil|exact UndefC.nil|refine @GuardC.cons _ _ _ _ inferInstance ?_|refine @UndefC.cons _ _ _ inferInstance ?_|apply g_box|apply g_all|apply g_stf|apply g_stw|apply g_sto|apply g_asg|refine g_run rfl inferInstance (by first|exact sc trivial cd|exact sc hE cl|exact st_slen|exact st_load'|exact st_fieldAddr'|exact st_gtr' (by first|assumption|rfl)|exact st_len'|exact st_loadE') qK ?_|refine g_sk rfl inferInstance rfl qK ?_|refine g_un rfl inferInstance qK ?_|apply g_st|apply g_skip|apply g_ct|apply g_cf|apply g_ret|refine r_2 rfl ?_|apply g_cl|exact sc trivial cd|exact sr_build0|exact sc hE cl|exact sr_whole hE.tab qD|exact sr_cmp hE.tab qO|exact sr_div hE.tab qO h100_ne|exact st_slen|exact st_sne qG|exact st_move'|exact st_assign'|exact st_load'|exact st_fieldAddr'|exact st_extract'|exact st_or_f'|exact st_or_t'|exact st_not' (b:=true) (u:=false) rfl|exact st_not' (b:=false) (u:=true) rfl|exact st_not' rfl|exact st_neq' qG|exact st_gtr' qG|exact st_len'|exact st_loadE'|exact Cv.rfl'|(intro _;simp only[newX,newL,ptrs,List.map,List.cons_append,List.nil_append])|intro _
     |false=>
      simp only [Bool.or_false,cond_false]
      refine ctr Tryz.func25 rfl Tryz.ntmps25 qE (fun _ _=>by kernel_rfl) fun X w hE=> ?_
      simp only [argE,Nat.zero_add,Nat.reduceAdd]
      repeat' first|kernel_rfl|apply g_seq|apply g_reg|apply g_nil|apply g_draw (id:=5) [(33,false)] [] 7|apply g_draw (id:=7) [] [] 5|apply o_all|apply o_go|exact OpsT.nil|exact GuardC.nil|exact UndefC.nil|refine @GuardC.cons _ _ _ _ inferInstance ?_|refine @UndefC.cons _ _ _ inferInstance ?_|apply g_box|apply g_all|apply g_stf|apply g_stw|apply g_sto|apply g_asg|refine g_run rfl inferInstance (by first|exact sc trivial cd|exact sc hE cl|exact st_slen|exact st_load'|exact st_fieldAddr'|exact st_gtr' (by first|assumption|rfl)|exact st_len'|exact st_loadE') qK ?_|refine g_sk rfl inferInstance rfl qK ?_|refine g_un rfl inferInstance qK ?_|apply g_st|apply g_skip|apply g_ct|apply g_cf|apply g_ret|refine r_2 rfl ?_|apply g_cl|exact sc trivial cd|exact sr_build0|exact sc hE cl|exact sr_whole hE.tab qD|exact sr_cmp hE.tab qO|exact sr_div hE.tab qO h100_ne|exact st_slen|exact st_sne qG|exact st_move'|exact st_assign'|exact st_load'|exact st_fieldAddr'|exact st_extract'|exact st_or_f'|exact st_or_t'|exact st_not' (b:=true) (u:=false) rfl|exact st_not' (b:=false) (u:=true) rfl|exact st_not' rfl|exact st_neq' qG|exact st_gtr' qG|exact st_len'|exact st_loadE'|exact Cv.rfl'|(intro _;simp only[newX,newL,ptrs,List.map,List.cons_append,List.nil_append])|intro _
theorem putL_len47(h:V<4294967296^47):V<1000000000^456:=by
 have:(4294967296:Int)^47<1000000000^456:=by decide +kernel
 omega
theorem lr_lt(h:(VTy.lr V K).holds X w u):V<4294967296^K:=by
 obtain ⟨A,n,c,xs,_,hs,hr,hl⟩:=h
 have h1:=val_lt (β:=4294967296) qD hr.dg
 rw [hs.1.len,hr.val] at h1
 have:=pow_mono (β:=4294967296) qD hl
 omega
theorem c_nput(hK:K≤47):Ctr Tryz.prog Env 34 [0] [.lr V K] (fun _=> .is (Tx (putL V.toNat))):=
 ⟨fun _ _=>by kernel_rfl,fun _ h=>h,fun {X w vs} hE hX ha=>by
  obtain ⟨x,rfl,h⟩:=ha.one
  have hlt:=lr_lt h
  have hm:=pow_mono (β:=4294967296) qD hK
  obtain ⟨A,n,c,xs,rfl,hs,hr,hl⟩:=h
  have hv:=hr.val
  refine (Put_any hs.1 (Nat.le_refl _) hr.dg qO (by rw [hv];exact putL_len47 (by omega)) hE).mono fun e w' g=> ?_
  obtain ⟨t,rfl,ht,hb⟩:=g
  rw [hv] at ht
  exact ⟨_,rfl,by rw [tx_of t,ht];rfl,hb⟩⟩
theorem rep_rep (k:Nat):Lib.repeatL [48] k=List.replicate k 48:=by
 induction k with
 |zero=>rfl
 |succ k ih=>rw [List.replicate_succ,←ih];rfl
theorem putL_abs (M:Int):(M.natAbs:Int).toNat=M.natAbs:=qO
def plN (n:Int):Nat:=(min (max n 0) 40).toNat
theorem plN_le (n:Int):plN n≤40:=by unfold plN;omega
abbrev t10 (p:Nat):Rat:=((10^p:Int):Rat)
theorem nat_pow10 (p:Nat):((10:Int)^p)=(((10^p:Nat):Int)):=by simp
def VTy.nb (b:Bool) (N:Int) (L:Nat):VTy:=⟨fun X w v=>decide (N<0)=b∧(VTy.nc N L).holds X w v,fun ⟨h,g⟩ hk hX=>⟨h,(VTy.nc _ _).stable g hk hX⟩⟩
instance {b:Bool} {N:Int} {L:Nat}:SizeV (.nb b N L) 2 true:=⟨fun h=>(inferInstance:SizeV (.nc N L) 2 true).ok h.2⟩
instance {b:Bool} {N:Int} {L:Nat}:PartC (.nb b N L) 0 1 false (.is (.bool b)):=⟨fun _=>rfl,fun h=>by rw [←h.1];exact (inferInstance:PartC (.nc N L) 0 1 false (.is (.bool (decide (N<0))))).ok h.2⟩
instance {b:Bool} {N:Int} {L:Nat}:PartC (.nb b N L) 1 1 false (.lr (N.natAbs:Int) L):=⟨fun _=>rfl,fun h=>(inferInstance:PartC (.nc N L) 1 1 false (.lr (N.natAbs:Int) L)).ok h.2⟩
theorem hf_abs(h:Lq q L):((hf q).natAbs:Int)<4294967296^(L+2):=by
 have ha:=fl_abs h
 have hp:(4294967296:Int)^(L+2)=4294967296*4294967296^(L+1):=by rw [Int.pow_succ,Int.mul_comm]
 have hh:hf q=q.floor∨hf q=q.floor+1:=by
  unfold hf
  cases (decide (2*fr q<1) || (decide (2*fr q=1)&&decide (q.floor%2=0)))<;>simp
 rcases hh with hh|hh<;>rw [hh]<;>omega
theorem put_len(hK:K≤47) (h:V<4294967296^K):(putL V.toNat).length≤457:=by
 have hm:=pow_mono (β:=4294967296) qD hK
 have:(4294967296:Int)^47<10^456:=by decide +kernel
 exact putL_len_of 456 qO
theorem c_put{n:Int} (hL:L≤40):Ctr Tryz.prog Env 10 [1,0] [.qa q L, .is (.int .i64 n)] (fun _=> .is (Tx (putD (hf (q*t10 (plN n))) (plN n)))):=by
 refine ctrF (F:=Lq q L) (fun ha=> ?_) (fun _ _=>by kernel_rfl) fun hl=> ?_
 ·obtain ⟨v,us,rfl,h1,_⟩:=ha.tail
  exact (qa_Lq h1).1
 have hp:=plN_le n
 obtain ⟨m,hm1,hm2⟩:∃ m,max n 0=m∧min m 40=(plN n:Int):=⟨_,rfl,by unfold plN;omega⟩
 have cpl:=c_places (p:=q) (L:=L) qO hp
 generalize plN n=p at*
 have hMa:=hf_abs (pow_Lq hl hp)
 show Ctr _ _ _ _ _ fun _=> .is (Tx (putD (hf (q*((10^p:Int):Rat))) p))
 generalize hf (q*((10^p:Int):Rat))=M at*
 have cn:=c_nput (V:=(M.natAbs:Int)) (K:=L+5+2) qO
 have hptl:=put_len (K:=L+5+2) qO hMa
 rw [putL_abs] at cn hptl
 have cr:=c_repeat (a:=[48]) (k:=p+1 - (putL M.natAbs).length) qO qD
 rw [rep_rep] at cr
 have hR:=List.length_replicate (n:=p+1 - (putL M.natAbs).length) (a:=(48:UInt8))
 unfold putD ptL pdL
 generalize List.replicate (p+1 - (putL M.natAbs).length) (48:UInt8)=R at*
 generalize putL M.natAbs=t at*
 have hRt:(R++t).length=R.length+t.length:=List.length_append
 have hw1:IntKind.i64.wrap ((p:Int)+1)=(p:Int)+1:=i64_small qO qO
 have hw2:IntKind.i64.wrap ((p:Int)+1 - (t.length:Int))=(p:Int)+1 - (t.length:Int):=by rw [IntKind.wrap_i64];omega
 have hw3:max ((p:Int)+1 - (t.length:Int)) 0=((p+1 - t.length:Nat):Int):=qO
 have hw4:IntKind.i64.wrap (((R++t).length:Int) - (p:Int))=(((R++t).length - p:Nat):Int):=by rw [IntKind.wrap_i64];omega
 have hw5:0≤(((R++t).length - p:Nat):Int)∧(((R++t).length - p:Nat):Int)≤((R++t).length:Int):=qO
 have hw6:decide ((0:Int)<(p:Int))=decide (0<p):=decide_eq_decide.2 qO
 rw [←hw6]
 have cps:∀ {b:Bool},decide (M<0)=b→Ctr Tryz.prog Tab 33 [1,0] [.qa q L, .is (.int .i64 (p:Int))] (fun _=> .tup [.nb b M (L+5+2), .is (.int .i64 0)]):=fun hb=>cpl.weak fun ⟨vs,e,h⟩=>⟨vs,e,by
  match vs,h with
  |[_,_],⟨h1,h2,h3⟩=>exact ⟨⟨hb,nwn_ex h1⟩,h2,h3⟩⟩
 clear cpl hMa hl
 cases hb:decide (M<0)
 all_goals
  replace cps:=cps hb
  cases hc:decide ((0:Int)<(p:Int))
  all_goals
   simp only [sgL,cond_true,cond_false]
   try rw [List.append_cons]
   refine ctr Tryz.func10 rfl Tryz.ntmps10 qE (fun _ _=>by kernel_rfl) fun X w hE=> ?_
   simp only [argE,Nat.zero_add,Nat.reduceAdd]
   repeat' first|kernel_rfl|apply g_seq|apply g_reg|apply g_nil|apply g_draw (id:=7) [] [] 8|apply o_all|apply o_go|exact OpsT.nil|exact GuardC.nil|exact UndefC.nil|apply g_box|apply g_all|apply g_stf|apply g_stw|apply g_sto|apply g_asg|apply g_st|apply g_skip|apply g_ct|apply g_cf|apply g_ret|refine r_1 rfl ?_|apply g_cl|exact sc hE.tab cps|exact sc hE cn|exact sc trivial cr|exact st_sadd (by first|omega|(simp only [List.length_append,List.length_take,List.length_drop,List.length_cons,List.length_nil];omega))|exact st_slen|exact st_sto qL|exact st_sfrom qL|exact st_add' qL|exact st_sub2 qL|exact st_max qL|exact st_min qL|exact st_move'|exact st_assign'|exact st_load'|exact st_fieldAddr'|exact st_extract'|exact st_gtr' qG|exact st_len'|exact st_loadE'|exact ⟨fun _ _=>is_is qE⟩|exact Cv.rfl'|(intro _;simp only[newX,newL,ptrs,List.map,List.cons_append,List.nil_append])|intro _
theorem c_money(hL:L≤40):Ctr Tryz.prog Env 12 [1] [.qa q L] (fun _=> .is (Tx (putD (hf (q*t10 2)) 2))):=by
 have cp:Ctr Tryz.prog Env 10 [1,0] [.qa q L, .is (.int .i64 2)] (fun _=> .is (Tx (putD (hf (q*t10 2)) 2))):=c_put (n:=2) hL
 refine ctr Tryz.func12 rfl Tryz.ntmps12 qE (fun _ _=>by kernel_rfl) fun X w hE=> ?_
 simp only [argE,Nat.zero_add,Nat.reduceAdd]
 repeat' first|kernel_rfl|apply g_seq|apply g_reg|apply g_nil|apply g_box|apply g_all|apply g_stf|apply g_stw|apply g_sto|apply g_asg|apply g_st|apply g_skip|apply g_ct|apply g_cf|apply g_ret|refine r_1 rfl ?_|apply g_cl|exact sc hE cp|exact st_assign'|exact st_load'|exact st_loadE'|exact Cv.rfl'|intro _
def VTy.ro (q:Rat) (L:Nat):VTy:=⟨fun X w v=>∃ x,Frac q x∧(VTy.rq L [x]).holds X w v,fun ⟨x,h,g⟩ hk hX=>⟨x,h,(VTy.rq _ _).stable g hk hX⟩⟩
theorem sR_oneC{L:List Loc} {o0:Operand} {L0:Nat} [h0:OpC E o0 (.qc q L0)]:StepT Tryz.prog w00 N L E ⟨some d, .buildSlice 87 1 #[(0,o0)],t0,pos,af,gd⟩ (.ro q L0):=by
 constructor
 intro X ρ w hc _ hN hm hsl
 obtain ⟨x,⟨hf,hl⟩,cs,e,g0⟩:=h0.get (X:=X) (w:=w) hc fun p hp e=>hsl p hp qS
 obtain ⟨c1,c2,rfl,r1,r2⟩:=frac_rd.1 g0
 obtain ⟨A,n,c,rfl,_⟩:=num_rd.1 r1
 obtain ⟨A2,n2,c2,rfl,_⟩:=num_rd.1 r2
 have e0:ρ o0= .agg #[.bool x.1.1, .slice A n c, .bool x.2.1, .slice A2 n2 c2]:=e
 have hR:=rv_new (X:=X) (w:=w) (T:=27) (L:=L0) hm.far [(x,[.bool x.1.1, .slice A n c, .bool x.2.1, .slice A2 n2 c2])] (by
  intro p hp
  rw [List.mem_singleton.1 hp];exact ⟨⟨(hf.len hl).1,(hf.len hl).2,hl.pos⟩,g0⟩) qE
 have HR:=Lib.hid hR
 clear hR hsl hm hc g0 h0
 unfold Yields
 go_simp
 exact ⟨⟨x,hf,HR.out⟩,(Below.refl _ _).alloc (Nat.le_refl _) _⟩
theorem c_whole1(hL:L≤400):Ctr Tryz.prog Tab 47 [0] [.ro q L] (fun _=> .is (.bool (decide (q.den=1)))):=
 ⟨fun _ _=>by kernel_rfl,fun _ h=>h,fun {X w vs} hG hX ha=>by
  obtain ⟨v,rfl,x,hf,g⟩:=ha.one
  have:=(c_iswhole (l:=[x]) hL).run hG hX (vs:=[v]) ⟨g,trivial⟩
  have e:[x].all whq=decide (q.den=1):=by
   show (whq x&&true)=_
   unfold whq
   rw [hf.right,hf.val,Bool.true_and,Bool.and_true]
  rwa [e] at this⟩
def shN (q:Rat):Bool:=bif decide (cmpQ q 0<0) then false else bif decide (0<cmpQ q ((1:Int):Rat)) then false else decide ((q*((1000000:Int):Rat)).den=1)
def shT (q:Rat):List UInt8:=Lib.trimSuffix (Lib.trimRightB (putD (hf (q*h100*t10 4)) 4) 48) [46]
def putSh (q:Rat):List UInt8:=bif shN q then shT q++[37] else []
theorem putD_len {M:Int} {p:Nat} (h:(putL M.natAbs).length≤457) (hp:p≤40):(putD M p).length≤600:=by
 obtain ⟨a,b,e,hab,hb,_,_,ha⟩:=ptL_parts p M.natAbs
 unfold putD
 rw [e]
 have h1:∀ u c,(sgL u c).length≤1:=fun u c=>by cases u<;>simp [sgL]
 have:=h1 (decide (M<0)) 45
 have:=h1 (decide (0<p)) 46
 simp only [List.length_append]
 omega
theorem trimR_len (l:List UInt8) (c:UInt8):(Lib.trimRightB l c).length≤l.length:=by
 unfold Lib.trimRightB
 rw [List.length_reverse]
 exact Nat.le_trans (List.dropWhile_sublist _).length_le (by rw [List.length_reverse];exact Nat.le_refl _)
theorem trimS_len (l p:List UInt8):(Lib.trimSuffix l p).length≤l.length:=by
 unfold Lib.trimSuffix
 split
 ·rw [List.length_take];omega
 ·exact Nat.le_refl _
theorem lq_h100:Lq h100 1:=⟨by decide,by decide⟩
theorem c_putshare(hL:L≤30):Ctr Tryz.prog Env 13 [1] [.qa q L] (fun _=> .is (Tx (putSh q))):=by
 refine ctrF (F:=Lq q L) (fun ha=> ?_) (fun _ _=>by kernel_rfl) fun hl=> ?_
 ·obtain ⟨v,rfl,h1⟩:=ha.one
  exact (qa_Lq h1).1
 have cp:Ctr Tryz.prog Env 10 [1,0] [.qa (q*h100) (L+2), .is (.int .i64 4)] (fun _=> .is (Tx (putD (hf (q*h100*t10 4)) 4))):=c_put (n:=4) qO
 have hM:=put_len (K:=L+1+5+2) qO (hf_abs (pow_Lq (hl.mul lq_h100) (show 4≤40 by decide)))
 rw [putL_abs] at hM
 have hlen:(putD (hf (q*h100*t10 4)) 4).length≤600:=putD_len hM qD
 have h1:=trimR_len (putD (hf (q*h100*t10 4)) 4) 48
 have h2:=trimS_len (Lib.trimRightB (putD (hf (q*h100*t10 4)) 4) 48) [46]
 have ct:=c_trimright (l:=putD (hf (q*h100*t10 4)) 4) (Nat.le_trans hlen qD)
 have cs:=c_trimsuffix (l:=Lib.trimRightB (putD (hf (q*h100*t10 4)) 4) 48) (p:=[46]) qO
 have hadd:(shT q).length+[(37:UInt8)].length≤9223372036854775807:=by
  show (Lib.trimSuffix _ _).length+1≤_
  omega
 unfold putSh shN
 unfold shT at hadd ⊢
 generalize Lib.trimSuffix (Lib.trimRightB (putD (hf (q*h100*t10 4)) 4) 48) [46]=T at*
 generalize Lib.trimRightB (putD (hf (q*h100*t10 4)) 4) 48=T1 at*
 generalize putD (hf (q*h100*t10 4)) 4=T0 at*
 have cw:=c_whole1 (q:=q*((1000000:Int):Rat)) (L:=L+2) qO
 clear hM hlen h1 h2 hl
 cases e1:decide (cmpQ q 0<0) with
 |true=>
  simp only [cond_true,cond_false]
  refine ctr Tryz.func13 rfl Tryz.ntmps13 qE (fun _ _=>by kernel_rfl) fun X w hE=> ?_
  simp only [argE,Nat.zero_add,Nat.reduceAdd]
  repeat' first|kernel_rfl|apply g_seq|apply g_reg|apply g_nil|apply o_all|apply o_go|exact OpsT.nil|exact GuardC.nil|exact UndefC.nil|apply g_box|apply g_all|apply g_stf|apply g_stw|apply g_sto|apply g_asg|apply g_st|apply g_skip|apply g_ct|apply g_cf|apply g_ret|refine r_1 rfl ?_|apply g_blk|apply g_eb|apply g_ex|apply e_t|apply e_h|refine e_o rfl ?_|apply r_t|apply r_b|apply g_cl|exact sr_sign hE.tab qO|exact sr_whole hE.tab qD|exact sr_cmp hE.tab qO|exact sr_mul hE.tab qO|exact sR_oneC|exact sc hE.tab cw|exact sc hE cp|exact sc trivial ct|exact sc trivial cs|exact st_not' rfl|exact st_sadd qL|exact st_add' qL|exact st_move'|exact st_assign'|exact st_load'|exact st_not' (b:=true) (u:=false) rfl|exact st_not' (b:=false) (u:=true) rfl|exact st_not' rfl|exact st_lss' qG|exact st_gtr' qG|exact st_loadE'|exact Cv.rfl'|(intro _;simp only[newX,newL,ptrs,List.map,List.cons_append,List.nil_append])|intro _
 |false=>
  cases e2:decide (0<cmpQ q ((1:Int):Rat)) with
  |true=>
   simp only [cond_true,cond_false]
   refine ctr Tryz.func13 rfl Tryz.ntmps13 qE (fun _ _=>by kernel_rfl) fun X w hE=> ?_
   simp only [argE,Nat.zero_add,Nat.reduceAdd]
   repeat' first|kernel_rfl|apply g_seq|apply g_reg|apply g_nil|apply g_draw (id:=2) [] [] 4|apply o_all|apply o_go|exact OpsT.nil|exact GuardC.nil|exact UndefC.nil|apply g_box|apply g_all|apply g_stf|apply g_stw|apply g_sto|apply g_asg|apply g_st|apply g_skip|apply g_ct|apply g_cf|apply g_ret|refine r_1 rfl ?_|apply g_blk|apply g_eb|apply g_ex|apply e_t|apply e_h|refine e_o rfl ?_|apply r_t|apply r_b|apply g_cl|exact sr_sign hE.tab qO|exact sr_whole hE.tab qD|exact sr_cmp hE.tab qO|exact sr_mul hE.tab qO|exact sR_oneC|exact sc hE.tab cw|exact sc hE cp|exact sc trivial ct|exact sc trivial cs|exact st_not' rfl|exact st_sadd qL|exact st_add' qL|exact st_move'|exact st_assign'|exact st_load'|exact st_not' (b:=true) (u:=false) rfl|exact st_not' (b:=false) (u:=true) rfl|exact st_not' rfl|exact st_lss' qG|exact st_gtr' qG|exact st_loadE'|exact Cv.rfl'|(intro _;simp only[newX,newL,ptrs,List.map,List.cons_append,List.nil_append])|intro _
  |false=>
   simp only [cond_true,cond_false]
   generalize decide ((q*((1000000:Int):Rat)).den=1)=u at*
   cases u with
   |true=>
    simp only [cond_true]
    refine ctr Tryz.func13 rfl Tryz.ntmps13 qE (fun _ _=>by kernel_rfl) fun X w hE=> ?_
    simp only [argE,Nat.zero_add,Nat.reduceAdd]
    repeat' first|kernel_rfl|apply g_seq|apply g_reg|apply g_nil|apply g_draw (id:=2) [] [] 4|apply g_draw (id:=3) [] [] 6|apply g_draw (id:=5) [] [] 4|apply o_all|apply o_go|exact OpsT.nil|exact GuardC.nil|exact UndefC.nil|apply g_box|apply g_all|apply g_stf|apply g_stw|apply g_sto|apply g_asg|apply g_st|apply g_skip|apply g_ct|apply g_cf|apply g_ret|refine r_1 rfl ?_|apply g_blk|apply g_eb|apply g_ex|apply e_t|apply e_h|refine e_o rfl ?_|apply r_t|apply r_b|apply g_cl|exact sr_sign hE.tab qO|exact sr_whole hE.tab qD|exact sr_cmp hE.tab qO|exact sr_mul hE.tab qO|exact sR_oneC|exact sc hE.tab cw|exact sc hE cp|exact sc trivial ct|exact sc trivial cs|exact st_not' rfl|exact st_sadd qL|exact st_add' qL|exact st_move'|exact st_assign'|exact st_load'|exact st_not' (b:=true) (u:=false) rfl|exact st_not' (b:=false) (u:=true) rfl|exact st_not' rfl|exact st_lss' qG|exact st_gtr' qG|exact st_loadE'|exact Cv.rfl'|(intro _;simp only[newX,newL,ptrs,List.map,List.cons_append,List.nil_append])|intro _
   |false=>
    simp only [cond_false]
    refine ctr Tryz.func13 rfl Tryz.ntmps13 qE (fun _ _=>by kernel_rfl) fun X w hE=> ?_
    simp only [argE,Nat.zero_add,Nat.reduceAdd]
    repeat' first|kernel_rfl|apply g_seq|apply g_reg|apply g_nil|apply g_draw (id:=2) [] [] 4|apply g_draw (id:=3) [] [] 6|apply o_all|apply o_go|exact OpsT.nil|exact GuardC.nil|exact UndefC.nil|apply g_box|apply g_all|apply g_stf|apply g_stw|apply g_sto|apply g_asg|apply g_st|apply g_skip|apply g_ct|apply g_cf|apply g_ret|refine r_1 rfl ?_|apply g_blk|apply g_eb|apply g_ex|apply e_t|apply e_h|refine e_o rfl ?_|apply r_t|apply r_b|apply g_cl|exact sr_sign hE.tab qO|exact sr_whole hE.tab qD|exact sr_cmp hE.tab qO|exact sr_mul hE.tab qO|exact sR_oneC|exact sc hE.tab cw|exact sc hE cp|exact sc trivial ct|exact sc trivial cs|exact st_not' rfl|exact st_sadd qL|exact st_add' qL|exact st_move'|exact st_assign'|exact st_load'|exact st_not' (b:=true) (u:=false) rfl|exact st_not' (b:=false) (u:=true) rfl|exact st_not' rfl|exact st_lss' qG|exact st_gtr' qG|exact st_loadE'|exact Cv.rfl'|(intro _;simp only[newX,newL,ptrs,List.map,List.cons_append,List.nil_append])|intro _
end Go.Proofs.YtfepenpngklogaaGreatDoor
