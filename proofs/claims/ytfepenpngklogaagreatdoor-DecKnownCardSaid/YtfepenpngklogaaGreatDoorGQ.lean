/- tallagelaw06: plain, ref, is, same, by, works. -/
import Derived.Test.YtfepenpngklogaaGreatDoorGN
import Derived.Test.YtfepenpngklogaaGreatDoorGI
import Derived.Test.YtfepenpngklogaaGreatDoorGB
import Derived.Test.YtfepenpngklogaaGreatDoorGL
import Derived.Test.YtfepenpngklogaaGreatDoorGP
set_option maxHeartbeats 4000000
set_option maxRecDepth 20000
set_option synthInstance.maxHeartbeats 400000
set_option synthInstance.maxSize 4000
set_option linter.unusedSimpArgs false
set_option linter.unusedVariables false
namespace Go.Proofs.YtfepenpngklogaaGreatDoor
open Go Go.RowKit
variable {L K:Nat} {q:Rat}
theorem plain6_any {w:World} {B:Nat} {s:Bool} {A:Option Addr} {n c:Nat} {xs:List Int} (hs:Sl .u32 w B A n c xs) (hB:B≤w.heap.size) (hn:n≤400000000):
 Calls Tryz.prog 32 #[.agg #[.bool s, .slice A n c]] w (RefOf w s xs):=by
 obtain ⟨bX,bR,hlt,_⟩:=box_new2 (w:=w) (v0:= .bool s) (v1:= .slice A n c) (u0:= .bool false) (u1:= .slice none 0 0) (t:=25) (t2:=34) (Below.refl _ _)
 have hb0:Below w.heap.size w ((w.alloc (.cells #[.bool s, .slice A n c] 25)).alloc (.cells #[.bool false, .slice none 0 0] 34)):=
  ((Below.refl _ _).alloc (Nat.le_refl _) _).alloc qA _
 have HS:=Lib.hid (hs.below hb0 hB)
 have BR:=Lib.hid bR
 have BX:=Lib.hid bX
 have B0:=Lib.hid hb0
 have HL:=Lib.hid hlt
 have hlen:=hs.len
 clear hs bX bR hb0 hlt
 go_enter Tryz.func32,Tryz.ntmps32
 go_wp2_with (at_builtin;(refine wpList_app elemU rfl _ _ rfl (Own.nil (k:= .u32) (e:=100) (w:=((w.alloc (.cells #[.bool s, .slice A n c] 25)).alloc (.cells #[.bool false, .slice none 0 0] 34))) (B:=w.heap.size+2)) rfl HS.out rfl qO qR (by rw [size_two];exact Nat.le_refl _) ?_);intro A5 c5 w5 h5 hg;go_must (have hb5:=app_on hg;obtain ⟨p0,p1,p2,p3⟩:=Boxed.below BX.out hb5 qH;obtain ⟨r0,r1,r2,r3⟩:=Boxed.below BR.out hb5 HL.out;have H5:=Lib.hid h5;have HB5:=Lib.hid (B0.out.trans (hb5.mono B0.out.size));clear h5 hg hb5))
 have ho:=H5.out
 rw [Nat.zero_add,List.nil_append] at ho
 have HO:=Lib.hid (((ho.box (r:=w.heap.size+1) qO 0 (.bool s)).box (r:=w.heap.size+1) qO 1 (.slice A5 n c5)).lower (show w.heap.size≤w.heap.size+2 by omega))
 have HB:=Lib.hid ((HB5.out.setCell (p:=⟨w.heap.size+1,0,none⟩) (Nat.le_succ _) (.bool s)).setCell (p:=⟨w.heap.size+1,1,none⟩) (Nat.le_succ _) (.slice A5 n c5))
 clear ho
 refine bodyPost_ret (v:= .agg #[.bool s, .slice A5 n c5]) ?_ rfl ⟨A5,n,c5,rfl,HO.out,HB.out⟩
 simp only [results,Tryz.results32]
 go_simp
theorem l6_plain{x:RawI} (hL:L≤1000):Ctr Tryz.prog Tab 32 [6] [.nx x L] (fun _=> .kn x L):=
 ⟨fun _ _=>by kernel_rfl,fun _ h=>h,fun {X w vs} hG hX ha=>by
  obtain ⟨v,rfl,y,⟨rfl,hl⟩,cs,rfl,hr⟩:=ha.one
  obtain ⟨A,n,c,rfl,hs,hd⟩:=num_rd.1 hr
  have hn:=hs.1.len
  refine (plain6_any (s:=y.1) hs.1 (Nat.le_refl _) qO).mono ?_
  rintro e w' ⟨A5,n5,c5,rfl,ho,hb⟩
  refine ⟨_,rfl,⟨hl,[.bool y.1, .slice A5 n5 c5],rfl,num_rd.2 ⟨A5,n5,c5,rfl,⟨ho.sl,fun hn b hb'=> ?_⟩,hd⟩⟩,hb⟩
  obtain ⟨g1,g2⟩:=ho.blk_ b hb'
  obtain ⟨cur,hcur⟩:=ho.cellsAt hb'
  exact ⟨⟨g2,fun hx=>by have:=hX b hx;omega⟩,cur,_,_,hcur,by decide⟩⟩
theorem l6_ref{x:RawQ} (hL:L≤1000) (h0:0<L):Ctr Tryz.prog Tab 9 [4] [.qx x L] (fun _=> .kq x L):=by
 refine ctr Tryz.func9 rfl Tryz.ntmps9 qE (fun _ _=>by kernel_rfl) fun X w hE=> ?_
 simp only [argE,Nat.zero_add,Nat.reduceAdd]
 repeat' first|kernel_rfl|apply g_seq|apply g_reg|apply g_nil|apply g_draw (id:=1) [] [] 7|apply o_all|apply o_go|exact OpsT.nil|exact GuardC.nil|exact UndefC.nil|apply g_box|apply g_all|apply g_stf|apply g_stw|apply g_sto|apply g_asg|apply g_st|apply g_skip|apply g_ct|apply g_cf|apply g_ret|refine r_1 rfl ?_|apply g_cl|exact sc hE (l6_plain qO)|exact sL_buildK5 h0|exact st_load'|exact st_fieldAddr'|exact st_loadE'|exact Cv.rfl'|(intro _;simp only[newX,newL,ptrs,List.map,List.cons_append,List.nil_append])|intro _
theorem s4_sameU4{w00:World} {N:Nat} {L:List Loc} {E:List (Nat×VTy)} {d:Nat} {t0:TypeId} {pos:String} {af:Array Edge} {gd:Option (Nat×Bool)} {ats:Array TypeId} {o0:Operand} {T0:VTy} {p:Rat} {L0:Nat} {o1:Operand} {T1:VTy} {K0:Nat} {u:Bool} [OpC E o0 T0] [a0:AsQ T0 p L0] [OpC E o1 T1] [a1:AsQ T1 q K0] (hb:L0≤90∧K0≤90) (hu:(cmpQ p q==0)=u):StepT Tryz.prog w00 N L E ⟨some d, .call { callee:= .value (.func 53),args:= #[o0,o1],argTypes:=ats },t0,pos,af,gd⟩ (.is (.bool u)):=by
 rw [←hu]
 exact s4_sameQ hb
theorem l6_isX{x:RawQ} (hL:L≤90∧K≤90) (h0:0<L) (hf:Frac q x):Ctr Tryz.prog Tab 72 [4,3] [.qx x L, .qc q K] (fun _=> .is (.bool true)):=by
 have hq:=hf.right
 have hc:(cmpQ (qv x) q==0)=true:=by rw [hf.val,beq_iff_eq,cmpQ_zero]
 refine ctr Tryz.func72 rfl Tryz.ntmps72 qE (fun _ _=>by kernel_rfl) fun X w hE=> ?_
 simp only [argE,Nat.zero_add,Nat.reduceAdd]
 repeat' first|kernel_rfl|apply g_seq|apply g_reg|apply g_nil|apply g_draw (id:=1) [(8,true)] [] 9|apply o_all|apply o_go|exact OpsT.nil|exact GuardC.nil|exact UndefC.nil|refine @GuardC.cons _ _ _ _ inferInstance ?_|refine @UndefC.cons _ _ _ inferInstance ?_|apply g_box|apply g_all|apply g_stf|apply g_stw|apply g_sto|apply g_asg|refine g_run rfl inferInstance (by first|fail) qK ?_|refine g_sk rfl inferInstance rfl qK ?_|refine g_un rfl inferInstance qK ?_|apply g_st|apply g_skip|apply g_ct|apply g_cf|apply g_ret|refine r_1 rfl ?_|apply g_cl|exact sc hE (l6_ref qO h0)|exact s4_rightU qO hq|exact s4_sameU4 qO hc|exact st_move'|exact st_assign'|exact st_load'|exact st_and_t'|exact st_and_f'|exact st_loadE'|exact Cv.rfl'|(intro _;simp only[newX,newL,ptrs,List.map,List.cons_append,List.nil_append])|intro _
theorem l6_is(hL:L≤90∧K≤90):Ctr Tryz.prog Tab 72 [3,3] [.qc q L, .qc q K] (fun _=> .is (.bool true)):=
 ⟨fun _ _=>by kernel_rfl,fun _ h=>h,fun {X w vs} hG hX ha=>by
  obtain ⟨v,u,rfl,⟨x,⟨hf,hl⟩,g⟩,h2⟩:=ha.two
  exact (l6_isX hL hl.pos hf).run hG hX (vs:=[v,u]) ⟨⟨x,⟨rfl,(hf.len hl).1,(hf.len hl).2,hl.pos⟩,g⟩,h2,trivial⟩⟩
theorem l6_same{e:Int} (hL:L≤80∧K≤80):Ctr Tryz.prog Tab 31 [0,3,0] [.qe q L e, .qc (qeV q e) K, .is (.int .i64 e)] (fun _=> .is (.bool true)):=by
 by_cases he:e=0
 ·subst he
  show Ctr Tryz.prog Tab 31 [0,3,0] [.qc q L, .qc q K, .is (.int .i64 0)] (fun _=> .is (.bool true))
  have li:=l6_is (q:=q) (L:=L) (K:=K) qO
  have hc:((0:Int) != 0)=false:=rfl
  refine ctr Tryz.func31 rfl Tryz.ntmps31 qE (fun _ _=>by kernel_rfl) fun X w hE=> ?_
  simp only [argE,Nat.zero_add,Nat.reduceAdd]
  repeat' first|kernel_rfl|apply g_seq|apply g_reg|apply g_nil|apply g_box|apply g_all|apply g_stf|apply g_stw|apply g_sto|apply g_asg|apply g_st|apply g_skip|apply g_ct|apply g_cf|apply g_ret|refine r_1 rfl ?_|apply g_cl|exact sc hE li|exact st_seq qG|exact st_sne qG|exact st_move'|exact st_assign'|exact st_load'|exact st_eq' qG|exact st_neq' qG|exact st_loadE'|exact Cv.rfl'|intro _
 ·have hc:(e != 0)=true:=by simpa using he
  have hv:qeV q e=0:=by unfold qeV;rw [show (e==0)=false by simpa using he];rfl
  have hz:(cmpQ (qeV q e) 0==0)=true:=by rw [hv];rfl
  refine ctr Tryz.func31 rfl Tryz.ntmps31 qE (fun _ _=>by kernel_rfl) fun X w hE=> ?_
  simp only [argE,Nat.zero_add,Nat.reduceAdd]
  repeat' first|kernel_rfl|apply g_seq|apply g_reg|apply g_nil|apply g_box|apply g_all|apply g_stf|apply g_stw|apply g_sto|apply g_asg|apply g_st|apply g_skip|apply g_ct|apply g_cf|apply g_ret|refine r_1 rfl ?_|apply g_cl|exact sr_sign hE qO|exact st_seq qG|exact st_sne qG|exact st_move'|exact st_assign'|exact st_load'|exact st_eq' qG|exact st_neq' qG|exact st_loadE'|exact Cv.rfl'|intro _
theorem l6_by {n d:Int} (hn: -9223372036854775808≤n∧n≤9223372036854775807) (hd: -9223372036854775808≤d∧d≤9223372036854775807) (h0:d≠0):Ctr Tryz.prog Tab 5 [0,0] [.is (.int .i64 n), .is (.int .i64 d)] (fun _=> .qc (Rat.divInt n d) 2):=by
 refine ctr Tryz.func5 rfl Tryz.ntmps5 qE (fun _ _=>by kernel_rfl) fun X w hE=> ?_
 simp only [argE,Nat.zero_add,Nat.reduceAdd]
 repeat' first|kernel_rfl|apply g_seq|apply g_reg|apply g_nil|apply g_box|apply g_all|apply g_stf|apply g_stw|apply g_sto|apply g_asg|apply g_st|apply g_skip|apply g_ct|apply g_cf|apply g_ret|refine r_1 rfl ?_|apply g_cl|exact sr_of hE hn hd h0|exact st_move'|exact st_assign'|exact st_load'|exact st_extract'|exact st_loadE'|exact Cv.rfl'|intro _
theorem wk_p0:Ctr Tryz.prog Env 17 [0] [.is (Tx [45,49,50,46,53,48])] (fun _=> .tup [.qc (Rat.divInt (-25) 2) 5, .is (.int .i64 0)]):=by
 have h:=c_parse (l:=[45,49,50,46,53,48]) qD
 rw [show pE ([45,49,50,46,53,48]:List UInt8).length [45,49,50,46,53,48]=0 by decide +kernel] at h
 rw [show dq [45,49,50,46,53,48]=Rat.divInt (-25) 2 by decide +kernel] at h
 exact h
theorem wk_p1:Ctr Tryz.prog Env 27 [0] [.is (Tx [48,46,48,53])] (fun _=> .tup [.qc (Rat.divInt (1) 20) 5, .is (.int .i64 0)]):=by
 have h:=c_amount (l:=[48,46,48,53]) qD
 rw [show pE 2 [48,46,48,53]=0 by decide +kernel] at h
 rw [show dq [48,46,48,53]=Rat.divInt (1) 20 by decide +kernel] at h
 exact h
theorem wk_p2:Ctr Tryz.prog Env 27 [0] [.is (Tx [49,46,48,48,53])] (fun _=> .tup [.q0, .is (.int .i64 60)]):=by
 have h:=c_amount (l:=[49,46,48,48,53]) qD
 rw [show pE 2 [49,46,48,48,53]=60 by decide +kernel] at h
 exact h
theorem wk_p3:Ctr Tryz.prog Env 25 [0] [.is (Tx [51,55,46,53,37])] (fun _=> .tup [.qc (Rat.divInt (3) 8) 7, .is (.int .i64 0)]):=by
 have h:=c_share (l:=[51,55,46,53,37]) qD
 rw [show shE [51,55,46,53,37]=0 by decide +kernel] at h
 rw [show dq [51,55,46,53,37] / h100=Rat.divInt (3) 8 by decide +kernel] at h
 exact h
theorem wk_p4:Ctr Tryz.prog Env 25 [0] [.is (Tx [49,48,48,37])] (fun _=> .tup [.qc (Rat.divInt (1) 1) 7, .is (.int .i64 0)]):=by
 have h:=c_share (l:=[49,48,48,37]) qD
 rw [show shE [49,48,48,37]=0 by decide +kernel] at h
 rw [show dq [49,48,48,37] / h100=Rat.divInt (1) 1 by decide +kernel] at h
 exact h
theorem wk_p5:Ctr Tryz.prog Env 25 [0] [.is (Tx [49,48,48,46,49,37])] (fun _=> .tup [.q0, .is (.int .i64 60)]):=by
 have h:=c_share (l:=[49,48,48,46,49,37]) qD
 rw [show shE [49,48,48,46,49,37]=60 by decide +kernel] at h
 exact h
theorem wk_p6:Ctr Tryz.prog Env 25 [0] [.is (Tx [53])] (fun _=> .tup [.q0, .is (.int .i64 60)]):=by
 have h:=c_share (l:=[53]) qD
 rw [show shE [53]=60 by decide +kernel] at h
 exact h
theorem dec_put (n:Nat):putL n=Lib.decDigits n:=(decDigits_putL n).symm
theorem wk_q0:Ctr Tryz.prog Env 12 [1] [.qa (Rat.divInt (1) 8) 2] (fun _=> .is (Tx [48,46,49,50])):=by
 have h:=c_money (q:=(Rat.divInt (1) 8)) (L:=2) qD
 rw [show hf ((Rat.divInt (1) 8)*t10 2)=12 by decide +kernel,show putD 12 2=[48,46,49,50] by unfold putD ptL pdL;rw [dec_put];decide +kernel] at h
 exact h
theorem wk_q1:Ctr Tryz.prog Env 12 [1] [.qa (Rat.divInt (3) 8) 2] (fun _=> .is (Tx [48,46,51,56])):=by
 have h:=c_money (q:=(Rat.divInt (3) 8)) (L:=2) qD
 rw [show hf ((Rat.divInt (3) 8)*t10 2)=38 by decide +kernel,show putD 38 2=[48,46,51,56] by unfold putD ptL pdL;rw [dec_put];decide +kernel] at h
 exact h
theorem wk_q2:Ctr Tryz.prog Env 12 [1] [.qa (Rat.divInt (-1) 1000) 2] (fun _=> .is (Tx [48,46,48,48])):=by
 have h:=c_money (q:=(Rat.divInt (-1) 1000)) (L:=2) qD
 rw [show hf ((Rat.divInt (-1) 1000)*t10 2)=0 by decide +kernel,show putD 0 2=[48,46,48,48] by unfold putD ptL pdL;rw [dec_put];decide +kernel] at h
 exact h
theorem wk_q3:Ctr Tryz.prog Env 10 [1,0] [.qa (Rat.divInt (7) 2) 2, .is (.int .i64 0)] (fun _=> .is (Tx [52])):=by
 have h:=c_put (q:=(Rat.divInt (7) 2)) (L:=2) (n:=0) qD
 rw [show plN 0=0 by decide,show hf ((Rat.divInt (7) 2)*t10 0)=4 by decide +kernel,show putD 4 0=[52] by unfold putD ptL pdL;rw [dec_put];decide +kernel] at h
 exact h
theorem wk_q4:Ctr Tryz.prog Env 13 [1] [.qa (Rat.divInt (3) 8) 2] (fun _=> .is (Tx [51,55,46,53,37])):=by
 have h:=c_putshare (q:=(Rat.divInt (3) 8)) (L:=2) qD
 rw [show putSh (Rat.divInt (3) 8)=[51,55,46,53,37] by unfold putSh shT;rw [show hf ((Rat.divInt (3) 8)*h100*t10 4)=375000 by decide +kernel];unfold putD ptL pdL;rw [dec_put];decide +kernel] at h
 exact h
theorem wk_q5:Ctr Tryz.prog Env 13 [1] [.qa (Rat.divInt (1) 3) 2] (fun _=> .is (Tx ([]:List UInt8))):=by
 have h:=c_putshare (q:=(Rat.divInt (1) 3)) (L:=2) qD
 rw [show putSh (Rat.divInt (1) 3)=([]:List UInt8) by unfold putSh;rw [show shN (Rat.divInt (1) 3)=false by decide +kernel];rfl] at h
 exact h
theorem l6_works:Ctr Tryz.prog Env 8 [] [] (fun _=> .is (.bool true)):=by
 have k0:(cmpQ (Rat.divInt (-25) 2) (Rat.divInt (-25) 2)==0)=true:=by rw [beq_iff_eq,cmpQ_zero]
 have k1:(cmpQ (Rat.divInt (1) 20) (Rat.divInt (1) 20)==0)=true:=by rw [beq_iff_eq,cmpQ_zero]
 have k3:(cmpQ (Rat.divInt (3) 8) (Rat.divInt (3) 8)==0)=true:=by rw [beq_iff_eq,cmpQ_zero]
 have k4:(cmpQ (Rat.divInt (1) 1) (Rat.divInt (1) 1)==0)=true:=by rw [beq_iff_eq,cmpQ_zero]
 refine ctr Tryz.func8 rfl Tryz.ntmps8 qE (fun _ _=>by kernel_rfl) fun X w hE=> ?_
 simp only [argE,Nat.zero_add,Nat.reduceAdd]
 repeat' first|kernel_rfl|apply g_seq|apply g_reg|apply g_nil|apply g_draw (id:=8) [(45,true),(51,true),(55,true),(61,true),(65,true),(69,true),(75,true),(79,true),(85,true),(89,true),(93,true),(98,true),(103,true),(108,true),(113,true),(118,true)] [] 79|apply o_all|apply o_go|exact OpsT.nil|exact GuardC.nil|exact UndefC.nil|refine @GuardC.cons _ _ _ _ inferInstance ?_|refine @UndefC.cons _ _ _ inferInstance ?_|apply g_box|apply g_all|apply g_stf|apply g_stw|apply g_sto|apply g_asg|refine g_run rfl inferInstance (by first|fail) qK ?_|refine g_sk rfl inferInstance rfl qK ?_|refine g_un rfl inferInstance qK ?_|apply g_st|apply g_skip|apply g_ct|apply g_cf|apply g_ret|refine r_1 rfl ?_|apply g_cl|exact sc hE wk_p0|exact sc hE wk_p1|exact sc hE wk_p2|exact sc hE wk_p3|exact sc hE wk_p4|exact sc hE wk_p5|exact sc hE wk_p6|exact sc hE wk_q0|exact sc hE wk_q1|exact sc hE wk_q2|exact sc hE wk_q3|exact sc hE wk_q4|exact sc hE wk_q5|exact sc hE.tab (l6_by qD qD qD)|exact sr_cmp hE.tab qO|exact st_seq (u:=true) rfl|exact st_move'|exact st_assign'|exact st_load'|exact st_extract'|exact st_and_t'|exact st_and_f'|exact st_eq' qG|exact st_loadE'|exact Cv.rfl'|(intro _;simp only[newX,newL,ptrs,List.map,List.cons_append,List.nil_append])|intro _
theorem l6_reads {l:List UInt8} (hl:l.length≤9223372036854775807):Ctr Tryz.prog Env 7 [0] [.is (Tx l)] (fun _=> .is (.bool true)):=by
 cases hc:decide ((60:Int)<(l.length:Int)) with
 |true=>
  refine ctr Tryz.func7 rfl Tryz.ntmps7 qE (fun _ _=>by kernel_rfl) fun X w hE=> ?_
  simp only [argE,Nat.zero_add,Nat.reduceAdd]
  repeat' first|kernel_rfl|apply g_seq|apply g_reg|apply g_nil|apply g_box|apply g_all|apply g_stf|apply g_stw|apply g_sto|apply g_asg|refine g_run rfl inferInstance (by first|exact sc hE l6_works|exact st_seq (by first|assumption|rfl)|exact st_move'|exact st_load'|exact st_eq' (by first|assumption|rfl)|exact st_loadE') qK ?_|refine g_sk rfl inferInstance rfl qK ?_|refine g_un rfl inferInstance qK ?_|apply g_st|apply g_skip|apply g_ct|apply g_cf|apply g_ret|refine r_1 rfl ?_|apply g_cl|exact sc hE l6_works|exact st_slen|exact st_seq qG|exact st_move'|exact st_assign'|exact st_load'|exact st_extract'|exact st_and_t'|exact st_and_f'|exact st_eq' qG|exact st_gtr' qG|exact st_len'|exact st_loadE'|exact Cv.rfl'|intro _
 |false=>
  have hl6:l.length≤1000000:=by have:=of_decide_eq_false hc;omega
  have a1:=c_parse hl6
  have a2:=c_amount hl6
  have a3:=c_share hl6
  have b1:=c6_parseT hl6
  have b2:=c6_amountT hl6
  have b3:=c6_share hl6
  generalize pE l.length l=e1 at*
  generalize pE 2 l=e2 at*
  generalize shE l=e3 at*
  generalize dq l=q1 at*
  generalize q1 / h100=q3 at*
  have k1:(e1==e1)=true:=beq_self_eq_true e1
  have k2:(e2==e2)=true:=beq_self_eq_true e2
  have k3:(e3==e3)=true:=beq_self_eq_true e3
  refine ctr Tryz.func7 rfl Tryz.ntmps7 qE (fun _ _=>by kernel_rfl) fun X w hE=> ?_
  simp only [argE,Nat.zero_add,Nat.reduceAdd]
  repeat' first|kernel_rfl|apply g_seq|apply g_reg|apply g_nil|apply g_box|apply g_all|apply g_stf|apply g_stw|apply g_sto|apply g_asg|refine g_run rfl inferInstance (by first|exact sc hE l6_works|exact sc hE a1|exact sc hE a2|exact sc hE a3|exact sc trivial b1|exact sc trivial b2|exact sc trivial b3|exact sc hE.tab (l6_same qO)|exact st_seq qG|exact st_move'|exact st_load'|exact st_eq' qG|exact st_loadE') qK ?_|refine g_sk rfl inferInstance rfl qK ?_|refine g_un rfl inferInstance qK ?_|apply g_st|apply g_skip|apply g_ct|apply g_cf|apply g_ret|refine r_1 rfl ?_|apply g_cl|exact sc hE l6_works|exact sc hE a1|exact sc hE a2|exact sc hE a3|exact sc trivial b1|exact sc trivial b2|exact sc trivial b3|exact sc hE.tab (l6_same qO)|exact st_slen|exact st_seq qG|exact st_move'|exact st_assign'|exact st_load'|exact st_extract'|exact st_and_t'|exact st_and_f'|exact st_eq' qG|exact st_gtr' qG|exact st_len'|exact st_loadE'|exact Cv.rfl'|intro _
end Go.Proofs.YtfepenpngklogaaGreatDoor
