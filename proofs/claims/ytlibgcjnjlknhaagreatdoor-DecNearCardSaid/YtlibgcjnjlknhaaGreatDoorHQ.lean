/- tallagelaw06: plain, ref, is, same, by, works. -/
import Derived.Test.YtlibgcjnjlknhaaGreatDoorGN
import Derived.Test.YtlibgcjnjlknhaaGreatDoorGI
import Derived.Test.YtlibgcjnjlknhaaGreatDoorGB
import Derived.Test.YtlibgcjnjlknhaaGreatDoorGL
import Derived.Test.YtlibgcjnjlknhaaGreatDoorGJ
set_option maxHeartbeats 4000000
set_option maxRecDepth 20000
set_option synthInstance.maxHeartbeats 400000
set_option synthInstance.maxSize 4000
set_option linter.unusedSimpArgs false
set_option linter.unusedVariables false
namespace Go.Proofs.YtlibgcjnjlknhaaGreatDoor
open Go Go.RowKit
theorem t10_next (i:Nat):t10 i*((10:Int):Rat)=t10 (i+1):=by
 show ((10^i:Int):Rat)*_=((10^(i+1):Int):Rat)
 rw [←Rat.intCast_mul,←Int.pow_succ]
theorem divInt_div (a b:Int):Rat.divInt a b=(a:Rat) / (b:Rat):=Rat.divInt_eq_div a b
theorem l6_by {n d:Int} (hn: -9223372036854775808≤n∧n≤9223372036854775807) (hd: -9223372036854775808≤d∧d≤9223372036854775807) (h0:d≠0):Ctr Tryz.prog Tab 30 [0,0] [.is (.int .i64 n), .is (.int .i64 d)] (fun _=> .qc (Rat.divInt n d) 2):=by
 refine ctr Tryz.func30 rfl Tryz.ntmps30 (by simp) (fun _ _=>by kernel_rfl) fun X w hE=> ?_
 simp only [argE,Nat.zero_add,Nat.reduceAdd]
 repeat' first|kernel_rfl|apply g_seq|apply g_reg|apply g_nil|apply g_box|apply g_all|apply g_stf|apply g_stw|apply g_sto|apply g_asg|apply g_st|apply g_skip|apply g_ct|apply g_cf|apply g_ret|refine r_1 rfl ?_|apply g_cl|exact sr_of hE hn hd h0|exact st_move'|exact st_assign'|exact st_load'|exact st_extract'|exact st_loadE'|exact Cv.rfl'|intro _
theorem wk_p0:Ctr Tryz.prog Env 8 [0] [.is (Tx [45,49,50,46,53,48])] (fun _=> .tup [.qc (Rat.divInt (-25) 2) 5, .is (.int .i64 0)]):=by
 have h:=c_parse (l:=[45,49,50,46,53,48]) (by decide)
 rw [show pE ([45,49,50,46,53,48]:List UInt8).length [45,49,50,46,53,48]=0 by decide +kernel] at h
 rw [show dq [45,49,50,46,53,48]=Rat.divInt (-25) 2 by decide +kernel] at h
 exact h
theorem wk_p1:Ctr Tryz.prog Env 9 [0] [.is (Tx [48,46,48,53])] (fun _=> .tup [.qc (Rat.divInt (1) 20) 5, .is (.int .i64 0)]):=by
 have h:=c_amount (l:=[48,46,48,53]) (by decide)
 rw [show pE 2 [48,46,48,53]=0 by decide +kernel] at h
 rw [show dq [48,46,48,53]=Rat.divInt (1) 20 by decide +kernel] at h
 exact h
theorem wk_p2:Ctr Tryz.prog Env 9 [0] [.is (Tx [49,46,48,48,53])] (fun _=> .tup [.q0, .is (.int .i64 60)]):=by
 have h:=c_amount (l:=[49,46,48,48,53]) (by decide)
 rw [show pE 2 [49,46,48,48,53]=60 by decide +kernel] at h
 exact h
theorem wk_p3:Ctr Tryz.prog Env 10 [0] [.is (Tx [51,55,46,53,37])] (fun _=> .tup [.qc (Rat.divInt (3) 8) 7, .is (.int .i64 0)]):=by
 have h:=c_share (l:=[51,55,46,53,37]) (by decide)
 rw [show shE [51,55,46,53,37]=0 by decide +kernel] at h
 rw [show dq [51,55,46,53,37] / h100=Rat.divInt (3) 8 by decide +kernel] at h
 exact h
theorem wk_p4:Ctr Tryz.prog Env 10 [0] [.is (Tx [49,48,48,37])] (fun _=> .tup [.qc (Rat.divInt (1) 1) 7, .is (.int .i64 0)]):=by
 have h:=c_share (l:=[49,48,48,37]) (by decide)
 rw [show shE [49,48,48,37]=0 by decide +kernel] at h
 rw [show dq [49,48,48,37] / h100=Rat.divInt (1) 1 by decide +kernel] at h
 exact h
theorem wk_p5:Ctr Tryz.prog Env 10 [0] [.is (Tx [49,48,48,46,49,37])] (fun _=> .tup [.q0, .is (.int .i64 60)]):=by
 have h:=c_share (l:=[49,48,48,46,49,37]) (by decide)
 rw [show shE [49,48,48,46,49,37]=60 by decide +kernel] at h
 exact h
theorem wk_p6:Ctr Tryz.prog Env 10 [0] [.is (Tx [53])] (fun _=> .tup [.q0, .is (.int .i64 60)]):=by
 have h:=c_share (l:=[53]) (by decide)
 rw [show shE [53]=60 by decide +kernel] at h
 exact h
theorem dec_put (n:Nat):putL n=Lib.decDigits n:=(decDigits_putL n).symm
theorem wk_q0:Ctr Tryz.prog Env 18 [1] [.qa (Rat.divInt (1) 8) 2] (fun _=> .is (Tx [48,46,49,50])):=by
 have h:=c_money (q:=(Rat.divInt (1) 8)) (L:=2) (by decide)
 rw [show hf ((Rat.divInt (1) 8)*t10 2)=12 by decide +kernel,show putD 12 2=[48,46,49,50] by unfold putD ptL pdL;rw [dec_put];decide +kernel] at h
 exact h
theorem wk_q1:Ctr Tryz.prog Env 18 [1] [.qa (Rat.divInt (3) 8) 2] (fun _=> .is (Tx [48,46,51,56])):=by
 have h:=c_money (q:=(Rat.divInt (3) 8)) (L:=2) (by decide)
 rw [show hf ((Rat.divInt (3) 8)*t10 2)=38 by decide +kernel,show putD 38 2=[48,46,51,56] by unfold putD ptL pdL;rw [dec_put];decide +kernel] at h
 exact h
theorem wk_q2:Ctr Tryz.prog Env 18 [1] [.qa (Rat.divInt (-1) 1000) 2] (fun _=> .is (Tx [48,46,48,48])):=by
 have h:=c_money (q:=(Rat.divInt (-1) 1000)) (L:=2) (by decide)
 rw [show hf ((Rat.divInt (-1) 1000)*t10 2)=0 by decide +kernel,show putD 0 2=[48,46,48,48] by unfold putD ptL pdL;rw [dec_put];decide +kernel] at h
 exact h
theorem wk_q3:Ctr Tryz.prog Env 16 [1,0] [.qa (Rat.divInt (7) 2) 2, .is (.int .i64 0)] (fun _=> .is (Tx [52])):=by
 have h:=c_put (q:=(Rat.divInt (7) 2)) (L:=2) (n:=0) (by decide)
 rw [show plN 0=0 by decide,show hf ((Rat.divInt (7) 2)*t10 0)=4 by decide +kernel,show putD 4 0=[52] by unfold putD ptL pdL;rw [dec_put];decide +kernel] at h
 exact h
theorem wk_q4:Ctr Tryz.prog Env 19 [1] [.qa (Rat.divInt (3) 8) 2] (fun _=> .is (Tx [51,55,46,53,37])):=by
 have h:=c_putshare (q:=(Rat.divInt (3) 8)) (L:=2) (by decide)
 rw [show putSh (Rat.divInt (3) 8)=[51,55,46,53,37] by unfold putSh shT;rw [show hf ((Rat.divInt (3) 8)*h100*t10 4)=375000 by decide +kernel];unfold putD ptL pdL;rw [dec_put];decide +kernel] at h
 exact h
theorem wk_q5:Ctr Tryz.prog Env 19 [1] [.qa (Rat.divInt (1) 3) 2] (fun _=> .is (Tx ([]:List UInt8))):=by
 have h:=c_putshare (q:=(Rat.divInt (1) 3)) (L:=2) (by decide)
 rw [show putSh (Rat.divInt (1) 3)=([]:List UInt8) by unfold putSh;rw [show shN (Rat.divInt (1) 3)=false by decide +kernel];rfl] at h
 exact h
theorem l6_works:Ctr Tryz.prog Env 7 [] [] (fun _=> .is (.bool true)):=by
 have k0:(cmpQ (Rat.divInt (-25) 2) (Rat.divInt (-25) 2)==0)=true:=by rw [beq_iff_eq,cmpQ_zero]
 have k1:(cmpQ (Rat.divInt (1) 20) (Rat.divInt (1) 20)==0)=true:=by rw [beq_iff_eq,cmpQ_zero]
 have k3:(cmpQ (Rat.divInt (3) 8) (Rat.divInt (3) 8)==0)=true:=by rw [beq_iff_eq,cmpQ_zero]
 have k4:(cmpQ (Rat.divInt (1) 1) (Rat.divInt (1) 1)==0)=true:=by rw [beq_iff_eq,cmpQ_zero]
 refine ctr Tryz.func7 rfl Tryz.ntmps7 (by simp) (fun _ _=>by kernel_rfl) fun X w hE=> ?_
 simp only [argE,Nat.zero_add,Nat.reduceAdd]
 repeat' first|kernel_rfl|apply g_seq|apply g_reg|apply g_nil|apply g_draw (id:=8) [(45,true),(51,true),(55,true),(61,true),(65,true),(69,true),(75,true),(79,true),(85,true),(89,true),(93,true),(98,true),(103,true),(108,true),(113,true),(118,true)] [] 79|apply o_all|apply o_go|exact OpsT.nil|exact GuardC.nil|exact UndefC.nil|refine @GuardC.cons _ _ _ _ inferInstance ?_|refine @UndefC.cons _ _ _ inferInstance ?_|apply g_box|apply g_all|apply g_stf|apply g_stw|apply g_sto|apply g_asg|refine g_run rfl inferInstance (by first|fail) (by kernel_rfl) ?_|refine g_sk rfl inferInstance rfl (by kernel_rfl) ?_|refine g_un rfl inferInstance (by kernel_rfl) ?_|apply g_st|apply g_skip|apply g_ct|apply g_cf|apply g_ret|refine r_1 rfl ?_|apply g_cl|exact sc hE wk_p0|exact sc hE wk_p1|exact sc hE wk_p2|exact sc hE wk_p3|exact sc hE wk_p4|exact sc hE wk_p5|exact sc hE wk_p6|exact sc hE wk_q0|exact sc hE wk_q1|exact sc hE wk_q2|exact sc hE wk_q3|exact sc hE wk_q4|exact sc hE wk_q5|exact sc hE.tab (l6_by (by decide) (by decide) (by decide))|exact sr_cmp hE.tab (by omega)|exact st_seq (u:=true) rfl|exact st_move'|exact st_assign'|exact st_load'|exact st_extract'|exact st_and_t'|exact st_and_f'|exact st_eq' (by first|assumption|rfl)|exact st_loadE'|exact Cv.rfl'|(intro _;simp only[newX,newL,ptrs,List.map,List.cons_append,List.nil_append])|intro _
theorem arg_len {s:ByteArray} (h:s.size≤maxLen):s.data.toList.length≤9223372036854775807:=by
 rw [←size_toList]
 unfold maxLen at h
 omega
theorem arg_tx (s:ByteArray) (X:List Nat) (w:World):(VTy.is (Tx s.data.toList)).holds X w (.string s):=congrArg Value.string (tx_of s)
theorem hf_nonneg {q:Rat} (h:0≤q):0≤hf q:=by
 have h1:=Rat.le_floor_iff.2 (show ((0:Int):Rat)≤q from h)
 have hh:hf q=q.floor∨hf q=q.floor+1:=by
  unfold hf
  cases (decide (2*fr q<1) || (decide (2*fr q=1)&&decide (q.floor%2=0)))<;>simp
 omega
section
variable {P:Program} {w00:World} {X:List Nat} {L L':List Loc} {E E':List (Nat×VTy)} {n:Nat} {cs:List Code} {Q:Exit→Act→World→Prop}
end
theorem plN_nat {p:Nat} (h:p≤40):plN (p:Int)=p:=by unfold plN;omega
theorem t10_pos (p:Nat):0<t10 p:=by
 have:(0:Int)<10^p:=Int.pow_pos (by decide)
 exact Rat.intCast_lt_intCast.2 this
theorem dq_put {M:Int} {p:Nat} {t l:List UInt8} (h:PutOf M p t l):dq l=(M:Rat) / t10 p:=by
 unfold dq dqv
 have e:sgv (ng l) (dval (wh l++pc l))=M:=put_dn h
 rw [e,h.pc,divInt_div]
theorem pct_tail:∀ (x:UInt8) (r:List UInt8),[37]=x::r→isD x=false∧x≠46:=fun x r e=>by
 injection e with e _;rw [←e];exact ⟨by decide,by decide⟩
theorem div_le {a b c:Rat} (hb:0<b) (h:a≤c*b):a / b≤c:=by
 rw [Rat.div_def]
 have h1:=Rat.mul_le_mul_of_nonneg_right h (Rat.le_of_lt (Rat.inv_pos.2 hb))
 rw [Rat.mul_assoc,Rat.mul_inv_cancel _ (fun e=>by rw [e] at hb;exact absurd hb (by decide)),Rat.mul_one] at h1
 exact h1
theorem shE_put {M:Int} {p:Nat} (h0:0≤M) (h1:M≤100*10^p) (hp:p≤4):shE (putD M p++[37])=0∧dq (putD M p++[37])=(M:Rat) / t10 p:=by
 have hP:=put_parts M p pct_tail
 have hdq:=dq_put hP
 refine ⟨?_,hdq⟩
 have hM7:M<10^7:=by
  have:(10:Int)^p≤10^4:=pow_mono (by decide) hp
  have e:(10:Int)^4=10000:=by decide
  have e7:(10:Int)^7=10000000:=by decide
  omega
 have hl:=putL_len_of (N:=M) 7 hM7
 have hl':(putL M.natAbs).length≤8:=by rw [show M.natAbs=M.toNat by omega];exact hl
 have hc:decide (0<cmpQ (dq (putD M p++[37])) h100)=false:=by
  rw [hdq]
  refine decide_eq_false fun h=> ?_
  have h2:=cmpQ_gt.1 h
  have h3:(M:Rat) / t10 p≤h100:=div_le (t10_pos p) (by
   show (M:Rat)≤((100:Int):Rat)*((10^p:Int):Rat)
   rw [←Rat.intCast_mul]
   exact Rat.intCast_le_intCast.2 h1)
  exact absurd h2 (Rat.not_lt.2 h3)
 unfold shE
 rw [hP.dok,hP.r3,hP.ng,hc,hP.pc,hP.wh,decide_eq_false (show ¬ M<0 by omega),decide_eq_false (show ¬ 4<p by omega),decide_eq_false (show ¬ 40<max (p+1) (putL M.natAbs).length - p+p by omega)]
 rfl
theorem sh_bound {q:Rat} (h0:0≤q) (h1:q≤1) (p:Nat):0≤hf (q*h100*t10 p)∧hf (q*h100*t10 p)≤100*10^p:=by
 have ht:=t10_pos p
 have e:h100*t10 p=((100*10^p:Int):Rat):=by rw [Rat.intCast_mul]
 have hpos:0≤h100*t10 p:=Rat.mul_nonneg (by decide) (Rat.le_of_lt ht)
 refine ⟨hf_nonneg (by rw [Rat.mul_assoc];exact Rat.mul_nonneg h0 hpos),?_⟩
 have:q*h100*t10 p≤((100*10^p:Int):Rat):=by
  rw [←e,Rat.mul_assoc]
  have:=Rat.mul_le_mul_of_nonneg_right h1 hpos
  rwa [Rat.one_mul] at this
 have h2:=hf_mono this
 rwa [hf_int] at h2
theorem putD_lenM (M:Int) (p:Nat):(putD M p).length≤max (p+1) (putL M.natAbs).length+2:=by
 have h:=pdL_len (p+1) M.natAbs
 unfold putD ptL sgL
 cases decide (M<0)<;>cases decide (0<p)<;>simp only [cond_true,cond_false,List.length_append,List.length_cons,List.length_nil,List.length_take,List.length_drop]<;>omega
theorem putD_short {M:Int} {p:Nat} (h0:0≤M) (h1:M≤100*10^p) (hp:p≤4):(putD M p).length≤12:=by
 have hM7:M<10^7:=by
  have:(10:Int)^p≤10^4:=pow_mono (by decide) hp
  have e:(10:Int)^4=10000:=by decide
  have e7:(10:Int)^7=10000000:=by decide
  omega
 have hl:=putL_len_of (N:=M) 7 hM7
 have hl':(putL M.natAbs).length≤8:=by rw [show M.natAbs=M.toNat by omega];exact hl
 have:=putD_lenM M p
 omega
def satS (q:Rat) (p:Nat):Bool:=cmpQ q ((hf (q*h100*t10 p):Rat) / t10 p / h100)==0
theorem sat_iff {q:Rat} {p:Nat}:satS q p=true↔((hf (q*h100*t10 p):Int):Rat)=q*h100*t10 p:=by
 unfold satS
 rw [beq_iff_eq,cmpQ_zero]
 have h1:h100≠0:=h100_ne
 have h2:t10 p≠0:=fun e=>by have:=t10_pos p;rw [e] at this;exact absurd this (by decide)
 generalize ((hf (q*h100*t10 p):Int):Rat)=m
 generalize t10 p=t at*
 generalize h100=h at*
 rw [Rat.div_def,Rat.div_def]
 constructor
 ·intro e
  rw [e,Rat.mul_assoc,Rat.mul_assoc,Rat.mul_assoc,←Rat.mul_assoc h⁻¹,Rat.inv_mul_cancel _ h1,Rat.one_mul,Rat.inv_mul_cancel _ h2,Rat.mul_one]
 ·intro e
  rw [e,Rat.mul_assoc (q*h),Rat.mul_inv_cancel _ h2,Rat.mul_one,Rat.mul_assoc,Rat.mul_inv_cancel _ h1,Rat.mul_one]
theorem t10_add (a b:Nat):t10 (a+b)=t10 a*t10 b:=by
 show ((10^(a+b):Int):Rat)=_
 rw [Int.pow_add,Rat.intCast_mul]
theorem int_den (n:Int):((n:Int):Rat).den=1:=rfl
theorem sat_some {q:Rat} {p:Nat} (hp:p≤4) (h:satS q p=true):(q*((1000000:Int):Rat)).den=1:=by
 have e:=sat_iff.1 h
 have e2:q*((1000000:Int):Rat)=((hf (q*h100*t10 p)*10^(4 - p):Int):Rat):=by
  have e3:((1000000:Int):Rat)=h100*(t10 p*t10 (4 - p)):=by
   rw [←t10_add,show p+(4 - p)=4 by omega]
   decide +kernel
  rw [e3,Rat.intCast_mul,e]
  show q*(h100*(t10 p*t10 (4 - p)))=q*h100*t10 p*t10 (4 - p)
  rw [Rat.mul_assoc (q*h100),Rat.mul_assoc]
 rw [e2]
 exact int_den _
theorem mulr_cancel {a b t:Rat} (ht:t≠0) (h:a*t=b*t):a=b:=by
 have h2:a*t*t⁻¹ =b*t*t⁻¹ :=by rw [h]
 rwa [Rat.mul_assoc,Rat.mul_assoc,Rat.mul_inv_cancel _ ht,Rat.mul_one,Rat.mul_one] at h2
theorem sat_few {q:Rat} {T:Nat} (hT:q*((1000000:Int):Rat)=((T:Int):Rat)) {p:Nat} (hp:p≤4):(satS q p=true↔T%10^(4 - p)=0)∧(T%10^(4 - p)=0→hf (q*h100*t10 p)=((T / 10^(4 - p):Nat):Int)):=by
 have e3:((1000000:Int):Rat)=h100*(t10 p*t10 (4 - p)):=by
  rw [←t10_add,show p+(4 - p)=4 by omega]
  decide +kernel
 have hz:q*h100*t10 p*t10 (4 - p)=((T:Int):Rat):=by
  rw [←hT,e3,Rat.mul_assoc (q*h100),Rat.mul_assoc]
 have h2:t10 (4 - p)≠0:=fun e=>by have:=t10_pos (4 - p);rw [e] at this;exact absurd this (by decide)
 have key:T%10^(4 - p)=0→q*h100*t10 p=(((T / 10^(4 - p):Nat):Int):Rat):=fun h=>by
  have h3:((T:Nat):Int)=((T / 10^(4 - p):Nat):Int)*10^(4 - p):=by
   have:=Nat.div_add_mod T (10^(4 - p))
   rw [h,Nat.add_zero,Nat.mul_comm] at this
   rw [nat_pow10,←Int.natCast_mul,this]
  rw [h3,Rat.intCast_mul] at hz
  exact mulr_cancel h2 hz
 refine ⟨⟨fun h=> ?_,fun h=>sat_iff.2 (by rw [key h,hf_int])⟩,fun h=>by rw [key h,hf_int]⟩
 have e:=sat_iff.1 h
 rw [←e] at hz
 have h3:hf (q*h100*t10 p)*10^(4 - p)=((T:Nat):Int):=Rat.intCast_inj.1 (by rw [Rat.intCast_mul];exact hz)
 have h4:(10^(4 - p):Int)∣((T:Nat):Int):=⟨_,by rw [←h3,Int.mul_comm]⟩
 rw [nat_pow10] at h4
 exact Nat.mod_eq_zero_of_dvd (Int.natCast_dvd_natCast.1 h4)
def shG (q:Rat) (i:Nat):Nat→List UInt8
 |0=>[]
 |k+1=>bif satS q i then putD (hf (q*h100*t10 i)) i++[37] else shG q (i+1) k
theorem shG_none {q:Rat}:∀ (k i:Nat),(∀ j,i≤j→j<i+k→satS q j=false)→shG q i k=[]
 |0,_,_=>rfl
 |k+1,i,h=>by
  unfold shG
  rw [h i (Nat.le_refl _) (by omega)]
  exact shG_none k (i+1) fun j a b=>h j (by omega) (by omega)
theorem shG_at {q:Rat} {p:Nat} (hp:satS q p=true):∀ (k i:Nat),i≤p→p<i+k→(∀ j,i≤j→j<p→satS q j=false)→shG q i k=putD (hf (q*h100*t10 p)) p++[37]
 |0,_,_,_,_=>by omega
 |k+1,i,h1,h2,h=>by
  unfold shG
  by_cases e:i=p
  ·rw [e,hp];rfl
  ·rw [h i (Nat.le_refl _) (by omega)]
   exact shG_at hp k (i+1) (by omega) (by omega) fun j a b=>h j (by omega) b
theorem putD_nat (n p:Nat):putD (n:Int) p=ptL p n:=by
 unfold putD
 rw [decide_eq_false (by omega),show ((n:Int)).natAbs=n by omega]
 rfl
theorem shG_all {q:Rat} (h0:0≤q):shG q 0 5=bif decide ((q*((1000000:Int):Rat)).den=1) then shT q++[37] else []:=by
 cases hd:decide ((q*((1000000:Int):Rat)).den=1) with
 |false=>
  refine shG_none 5 0 fun j _ hj=> ?_
  cases hs:satS q j with
  |false=>rfl
  |true=>exact absurd (sat_some (by omega) hs) (of_decide_eq_false hd)
 |true=>
  have hden:=of_decide_eq_true hd
  have hn:0≤q*((1000000:Int):Rat):=Rat.mul_nonneg h0 (by decide)
  have hnum:0≤(q*((1000000:Int):Rat)).num:=Rat.num_nonneg.2 hn
  obtain ⟨T,hT⟩:∃ T:Nat,q*((1000000:Int):Rat)=((T:Int):Rat):=⟨(q*((1000000:Int):Rat)).num.toNat,by
   rw [Int.toNat_of_nonneg hnum]
   exact Rat.ext rfl hden⟩
  obtain ⟨f1,f2⟩:=few_le 4 T
  have f3:=few_least 4 T
  have h4:=(sat_few hT (p:=4) (Nat.le_refl _)).2 (Nat.mod_one _)
  have ht:=trim_put 4 T (by decide)
  have hpos:0<10^(4 - (few 4 T).1):=Nat.pow_pos (by decide)
  have hmod:T%10^(4 - (few 4 T).1)=0:=by
   have:=Nat.mul_mod_left (few 4 T).2 (10^(4 - (few 4 T).1))
   rwa [f2] at this
  have hdiv:T / 10^(4 - (few 4 T).1)=(few 4 T).2:=by
   have:=Nat.mul_div_cancel (few 4 T).2 hpos
   rwa [f2] at this
  obtain ⟨g1,g2⟩:=sat_few hT f1
  have h5:=g2 hmod
  rw [hdiv] at h5
  have e1:shT q=ptL (few 4 T).1 (few 4 T).2:=by
   unfold shT
   rw [h4,show T / 10^(4 - 4)=T from Nat.div_one T,putD_nat,ht]
  rw [shG_at (g1.2 hmod) 5 0 (by omega) (by omega) (fun j _ hj=>by
   cases hs:satS q j with
   |false=>rfl
   |true=>exact absurd ((sat_few hT (p:=j) (by omega)).1.1 hs) (f3 j hj)),h5,putD_nat,e1]
  rfl
def shQ (q:Rat):List UInt8:=bif decide (cmpQ q 0<0) then [] else bif decide (0<cmpQ q ((1:Int):Rat)) then [] else shG q 0 5
theorem shQ_eq (q:Rat):shQ q=putSh q:=by
 unfold shQ putSh shN
 cases h1:decide (cmpQ q 0<0) with
 |true=>rfl
 |false=>
  cases h2:decide (0<cmpQ q ((1:Int):Rat)) with
  |true=>rfl
  |false=>
   have h0:0≤q:=by
    have h:=fun g=>of_decide_eq_false h1 (cmpQ_lt.2 g)
    grind
   exact shG_all h0
end Go.Proofs.YtlibgcjnjlknhaaGreatDoor
