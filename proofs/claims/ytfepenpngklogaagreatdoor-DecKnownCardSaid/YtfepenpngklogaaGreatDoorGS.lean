/- DecNear. -/
import Derived.Test.YtfepenpngklogaaGreatDoorGR
import Derived.Test.YtfepenpngklogaaGreatDoorGQ
import Derived.Test.YtfepenpngklogaaGreatDoorGL
import Derived.Test.YtfepenpngklogaaGreatDoorGJ
set_option maxHeartbeats 4000000
set_option maxRecDepth 20000
set_option synthInstance.maxHeartbeats 400000
set_option synthInstance.maxSize 4000
set_option linter.unusedSimpArgs false
set_option linter.unusedVariables false
namespace Go.Proofs.YtfepenpngklogaaGreatDoor
open Go Go.RowKit
theorem maxR_both {a b:Rat} {c:Rat} (h1:a≤c) (h2:b≤c):maxR [a,b]≤c:=by
 simp only [maxR,bestR,List.foldl_cons,List.foldl_nil]
 cases decide (0<cmpQ b a)<;>assumption
def dcnt (l:List UInt8):Nat:=(l.filter isD).length
theorem dcnt_digs {a:List UInt8} (h:∀ c∈a,isDig c):dcnt a=a.length:=by
 unfold dcnt
 rw [List.filter_eq_self.2 fun c hc=>isD_iff.2 (h c hc)]
theorem dcnt_sg {b:Bool} {c:UInt8} (h:isD c=false):dcnt (sgL b c)=0:=by
 cases b with
 |false=>rfl
 |true=>unfold dcnt sgL;rw [cond_true,List.filter_cons,h];rfl
theorem dcnt_app (a b:List UInt8):dcnt (a++b)=dcnt a+dcnt b:=by unfold dcnt;rw [List.filter_append,List.length_append]
theorem dcnt_parts {l:List UInt8} (h:r3 l=[]):dcnt l=(wh l).length+(pc l).length:=by
 have e:=congrArg dcnt (parts l)
 rw [dcnt_app,dcnt_app,dcnt_app,dcnt_app,h,dcnt_sg qD,dcnt_sg qD,dcnt_digs (wh_dig l),dcnt_digs (pc_dig l)] at e
 rw [e,show dcnt []=0 from rfl]
 omega
theorem dcnt_take {l:List UInt8} {i:Nat} {c:UInt8} (h:l[i]? =some c):dcnt (l.take (i+1))=dcnt (l.take i)+(bif isD c then 1 else 0):=by
 rw [List.take_add_one,h,dcnt_app]
 unfold dcnt
 cases hd:isD c<;>simp [hd]
theorem dcnt_le (l:List UInt8) (i:Nat):dcnt (l.take i)≤i:=by
 unfold dcnt
 have:=List.length_filter_le isD (l.take i)
 rw [List.length_take] at this
 omega
theorem put_nil (M:Int) (p:Nat):PutOf M p [] (putD M p):=by
 have:=put_parts M p (t:=[]) (fun x r e=>by cases e)
 rwa [List.append_nil] at this
theorem pE_put (M:Int) (p:Nat):pE (putD M p).length (putD M p)=bif decide (40<dcnt (putD M p)) then 3 else 0:=by
 have h:=put_nil M p
 have hl:=len_parts (putD M p)
 unfold pE
 rw [dcnt_parts h.r3,h.dok,h.r3,decide_eq_false qO]
 rfl
theorem pE_put40 (M:Int):pE (putD M 40).length (putD M 40)=3:=by
 have h:=put_nil M 40
 rw [pE_put,dcnt_parts h.r3,h.wh,h.pc,decide_eq_true qO]
 rfl
theorem dq_putD (M:Int) (p:Nat):dq (putD M p)=(M:Rat) / t10 p:=dq_put (put_nil M p)
theorem t10_ne (p:Nat):t10 p≠0:=fun e=>by have:=t10_pos p;rw [e] at this;exact absurd this qD
theorem unit_next (i:Nat):(1:Rat) / t10 i / ((10:Int):Rat)=1 / t10 (i+1):=by
 rw [←t10_next]
 have h:=t10_ne i
 generalize t10 i=t at*
 rw [Rat.div_def,Rat.div_def,Rat.div_def,Rat.one_mul,Rat.one_mul,Rat.inv_mul_rev]
 exact Rat.mul_comm _ _
theorem unit_zero:((1:Int):Rat)=1 / t10 0:=by decide +kernel
theorem put_again (M:Int) (p:Nat):putD (hf ((M:Rat) / t10 p*t10 p)) p=putD M p:=by
 rw [Rat.div_mul_cancel (t10_ne p),hf_int]
theorem near_unit (q:Rat) (p:Nat):decide (0<cmpQ (maxR [q - (hf (q*t10 p):Rat) / t10 p, -(q - (hf (q*t10 p):Rat) / t10 p)]+maxR [q - (hf (q*t10 p):Rat) / t10 p, -(q - (hf (q*t10 p):Rat) / t10 p)]) (1 / t10 p))=false:=by
 obtain ⟨h1,h2⟩:=hf_bounds (q*t10 p)
 have hp:=t10_pos p
 have hn:=t10_ne p
 have hu:0≤(t10 p)⁻¹ :=Rat.le_of_lt (Rat.inv_pos.2 hp)
 have hq:q=q*t10 p*(t10 p)⁻¹ :=by rw [Rat.mul_assoc,Rat.mul_inv_cancel _ hn,Rat.mul_one]
 rw [Rat.div_def,Rat.div_def,Rat.one_mul]
 generalize hz:q*t10 p=z at*
 generalize ((hf z:Int):Rat)=m at*
 generalize (t10 p)⁻¹ =u at*
 have g1:=Rat.mul_le_mul_of_nonneg_right h1 hu
 have g2:=Rat.mul_le_mul_of_nonneg_right h2 hu
 subst hq
 have k:maxR [z*u - m*u, -(z*u - m*u)]≤u*(1/2):=maxR_both (by grind) (by grind)
 refine decide_eq_false fun h=> ?_
 have:=cmpQ_gt.1 h
 grind
theorem least_sat {v:Rat}:∀ k,satS v k=true→∃ j,j≤k∧satS v j=true∧∀ i,i<j→satS v i=false:=by
 intro k
 induction k using Nat.strongRecOn with
 |_ k ih=>
  intro h
  by_cases hc:∃ i,i<k∧satS v i=true
  ·obtain ⟨i,hi,hs⟩:=hc
   obtain ⟨j,hj,r⟩:=ih i hi hs
   exact ⟨j,by omega,r⟩
  ·exact ⟨k,Nat.le_refl _,h,fun i hi=>by
    cases hs:satS v i with
    |false=>rfl
    |true=>exact absurd ⟨i,hi,hs⟩ hc⟩
theorem share_back {v:Rat} (h0:0≤v) (h1:v≤1) {k:Nat} (hk:k≤4) (hs:satS v k=true):∃ t,putSh v=t∧t.length≤1000∧shE t=0∧dq t / h100=v:=by
 obtain ⟨j,hj,hsat,hno⟩:=least_sat k hs
 obtain ⟨b0,b1⟩:=sh_bound h0 h1 j
 obtain ⟨e1,e2⟩:=shE_put b0 b1 (p:=j) qO
 refine ⟨putD (hf (v*h100*t10 j)) j++[37],?_,?_,e1,?_⟩
 ·rw [←shQ_eq]
  unfold shQ
  rw [decide_eq_false (fun h=>absurd (cmpQ_lt.1 h) (by grind)),decide_eq_false (fun h=>absurd (cmpQ_gt.1 h) (by
   show ¬ ((1:Int):Rat)<v
   exact Rat.not_lt.2 h1))]
  exact shG_at hsat 5 0 qO qO fun i _ hi=>hno i hi
 ·have:=putD_short b0 b1 (p:=j) qO
  rw [List.length_append,List.length_singleton]
  omega
 ·rw [e2]
  have:=hsat
  unfold satS at this
  rw [beq_iff_eq,cmpQ_zero] at this
  exact this.symm
theorem dval_nonneg {l:List UInt8} (h:∀ c∈l,isDig c):0≤dval l:=(dval_bound l h).1
theorem sh_ok {l:List UInt8} (h:shE l=0):0≤dq l / h100∧dq l / h100≤1∧∃ k,k≤4∧satS (dq l / h100) k=true:=by
 unfold shE at h
 cases h1:(dok l&&(r3 l==[37])) with
 |false=>rw [h1] at h;exact absurd (show (60:Int)=0 from h) qD
 |true=>
  rw [h1] at h
  cases h2:(ng l || decide (4<(pc l).length) || decide (40<(wh l).length+(pc l).length) || decide (0<cmpQ (dq l) h100)) with
  |true=>rw [h2] at h;exact absurd (show (60:Int)=0 from h) qD
  |false=>
   rw [Bool.or_eq_false_iff,Bool.or_eq_false_iff,Bool.or_eq_false_iff] at h2
   obtain ⟨⟨⟨n1,n2⟩,n3⟩,n4⟩:=h2
   have n2:=of_decide_eq_false n2
   have hd:dq l=(dval (wh l++pc l):Rat) / t10 (pc l).length:=by
    unfold dq dqv
    rw [n1,divInt_div]
    rfl
   have hv:0≤dval (wh l++pc l):=dval_nonneg fun c hc=>(List.mem_append.1 hc).elim (wh_dig l c) (pc_dig l c)
   have hd0:0≤dq l:=by
    rw [hd,Rat.div_def]
    exact Rat.mul_nonneg (Rat.intCast_nonneg.2 hv) (Rat.le_of_lt (Rat.inv_pos.2 (t10_pos _)))
   have hle:dq l≤h100:=Rat.not_lt.1 fun h=>of_decide_eq_false n4 (cmpQ_gt.2 h)
   refine ⟨?_,div_le qD (by rw [Rat.one_mul];exact hle),(pc l).length,by omega,sat_iff.2 ?_⟩
   ·rw [Rat.div_def]
    exact Rat.mul_nonneg hd0 (by decide +kernel)
   ·rw [Rat.div_mul_cancel h100_ne,hd,Rat.div_mul_cancel (t10_ne _),hf_int]
theorem lq_dq {l:List UInt8} (hl:l.length≤40):Lq (dq l) 5:=by
 have hp:=len_parts l
 have hd:∀ c∈wh l++pc l,isDig c:=fun c hc=>(List.mem_append.1 hc).elim (wh_dig l c) (pc_dig l c)
 obtain ⟨b0,b1⟩:=dval_bound _ hd
 rw [List.length_append] at b1
 have hk:=pow_mono (β:=10) qD (show (wh l).length+(pc l).length≤40 by omega)
 have h40:=pow10_lt (k:=40) qO
 unfold dq dqv
 refine Lq.divInt ?_ (pow10 qO) qD
 have:(sgv (ng l) (dval (wh l++pc l))).natAbs=(dval (wh l++pc l)).natAbs:=by unfold sgv;cases ng l<;>simp
 rw [this]
 omega
theorem lq_qeV {q:Rat} {e:Int} {L:Nat} (h:Lq q L):Lq (qeV q e) L:=by
 unfold qeV
 cases (e==0) with
 |true=>exact h
 |false=>exact Lq.zero.mono h.pos
theorem put_short {q:Rat} {L:Nat} (h:Lq q L) (hL:L≤30) {p:Nat} (hp:p≤40):(putD (hf (q*t10 p)) p).length≤600:=by
 have hM:=put_len (K:=L+5+2) qO (hf_abs (pow_Lq h hp))
 rw [putL_abs] at hM
 exact putD_len hM hp
theorem sat_zero:satS 0 0=true:=by decide +kernel
theorem share_val {l:List UInt8}:0≤qeV (dq l / h100) (shE l)∧qeV (dq l / h100) (shE l)≤1∧∃ k,k≤4∧satS (qeV (dq l / h100) (shE l)) k=true:=by
 by_cases h:shE l=0
 ·rw [h];exact sh_ok h
 ·have:qeV (dq l / h100) (shE l)=0:=by unfold qeV;rw [show (shE l==0)=false by simpa using h];rfl
  rw [this]
  exact ⟨by decide,by decide,0,by decide,sat_zero⟩
section
variable {w00:World} {N:Nat} {L:List Loc} {E:List (Nat×VTy)} {d:Nat} {t0:TypeId} {pos:String} {af:Array Edge} {gd:Option (Nat×Bool)}
theorem st_rem13 {o:Operand} {x:Int} {p:Nat} {t1:TypeId} [h0:OpC E o (.is (.int .u8 x))] (hx:0≤x∧x%13=(p:Int)):StepT Tryz.prog w00 N L E ⟨some d, .binOp .rem 5 o (.const (.int .u8 13)) t1,t0,pos,af,gd⟩ (.is (.int .u8 (p:Int))):=by
 constructor
 intro X ρ w hc _ hN hm hsl
 have e0:ρ o= .int .u8 x:=h0.get (X:=X) (w:=w) hc fun p hp e=>hsl p hp qS
 have e1:ρ (.const (.int .u8 13))= .int .u8 13:=hc _
 have e2:x.tmod 13=(p:Int):=by rw [Int.tmod_eq_emod_of_nonneg hx.1];exact hx.2
 have hr:IntKind.u8.wrap (p:Int)=(p:Int):=by rw [IntKind.wrap_u8];omega
 clear hc hsl h0
 unfold Yields
 go_simp
 exact ⟨rfl,Below.refl _ _⟩
end
theorem l6_nearX {x:RawQ} {l:List UInt8} {b:Int} (e1:decide ((3:Int)<(x.1.2.length:Int))=false) (e2:decide ((3:Int)<(x.2.2.length:Int))=false) (e3:decide ((40:Int)<(l.length:Int))=false) (hb:0≤b∧b<256):Ctr Tryz.prog Env 6 [4,0,0] [.qx x 3, .is (.int .u8 b), .is (Tx l)] (fun _=> .is (.bool true)):=by
 refine ctrF (F:=Lq (qv x) 3) (fun ha=> ?_) (fun _ _=>by kernel_rfl) fun hlx=> ?_
 ·obtain ⟨v,us,rfl,h1,_⟩:=ha.tail
  exact (qa_Lq ((inferInstance:AsQ (.qx x 3) (qv x) 3).ok h1)).1
 have hl40:l.length≤40:=by have:=of_decide_eq_false e3;omega
 obtain ⟨p,hp⟩:∃ p:Nat,b%13=(p:Int):=⟨(b%13).toNat,by omega⟩
 have hp12:p≤12:=qO
 have hrem:0≤b∧b%13=(p:Int):=⟨hb.1,hp⟩
 have hcv:IntKind.i64.wrap (p:Int)=(p:Int):=i64_small qO qO
 have a1:=c_put (q:=qv x) (L:=3) (n:=(p:Int)) qD
 rw [plN_nat qO] at a1
 have hnear:=near_unit (qv x) p
 have hws:=put_short hlx qD (p:=p) qO
 have a3:=c_put (q:=(hf (qv x*t10 p):Rat) / t10 p) (L:=5) (n:=(p:Int)) qD
 rw [plN_nat qO,put_again] at a3
 have a2:=c_parse (l:=putD (hf (qv x*t10 p)) p) qO
 rw [pE_put,dq_putD] at a2
 have a4:=c_parse (l:=l) qO
 have hz:=lq_qeV (e:=pE l.length l) (lq_dq hl40)
 have a5:=c_put (q:=qeV (dq l) (pE l.length l)) (L:=6) (n:=40) qD
 rw [show plN 40=40 by decide] at a5
 have hus:=put_short hz qD (p:=40) qD
 have a6:=c_parse (l:=putD (hf (qeV (dq l) (pE l.length l)*t10 40)) 40) qO
 rw [pE_put40] at a6
 have a7:=c_share (l:=l) qO
 obtain ⟨v0,v1,k,hk,hsat⟩:=share_val (l:=l)
 obtain ⟨t,ht,htl,hte,htv⟩:=share_back v0 v1 hk hsat
 have a8:=c_putshare (q:=qeV (dq l / h100) (shE l)) (L:=8) qD
 rw [ht] at a8
 have a9:=c_share (l:=t) qO
 rw [hte,htv] at a9
 have hv0:decide (0≤cmpQ (qeV (dq l / h100) (shE l)) 0)=true:=decide_eq_true (cmpQ_ge.2 v0)
 have hv1:decide (cmpQ (qeV (dq l / h100) (shE l)) ((1:Int):Rat)≤0)=true:=decide_eq_true (cmpQ_le.2 v1)
 have hv2:(cmpQ (qeV (dq l / h100) (shE l)) (qeV (dq l / h100) (shE l))==0)=true:=by rw [beq_iff_eq,cmpQ_zero]
 clear hte htv ht v0 v1 hsat hus hz hlx hl40
 generalize putD (hf (qeV (dq l) (pE l.length l)*t10 40)) 40=u at*
 generalize dq u=uq at*
 generalize pE l.length l=f at*
 generalize dq l / h100=sv at*
 generalize shE l=hh at*
 generalize dq l=zq at*
 generalize hw:putD (hf (qv x*t10 p)) p=wl at*
 generalize (hf (qv x*t10 p):Rat) / t10 p=Y at*
 replace a9:Ctr Tryz.prog Env 25 [0] [.is (Tx t)] (fun _=> .tup [.qc (qeV sv hh) 7, .is (.int .i64 0)]):=a9
 have kw:(wl != wl)=false:=bne_self_eq_false wl
 generalize he:(bif decide (40<dcnt wl) then (3:Int) else 0)=e at a2
 refine ctr Tryz.func6 rfl Tryz.ntmps6 qE (fun _ _=>by kernel_rfl) fun X w hE=> ?_
 simp only [argE,Nat.zero_add,Nat.reduceAdd]
 repeat' first|kernel_rfl|apply g_seq|apply g_reg|apply g_nil|apply o_all|apply o_go|exact OpsT.nil|exact GuardC.nil|exact UndefC.nil|refine @GuardC.cons _ _ _ _ inferInstance ?_|refine @UndefC.cons _ _ _ inferInstance ?_|apply g_box|apply g_all|apply g_stf|apply g_stw|apply g_sto|apply g_asg|refine g_run rfl inferInstance (by first|exact sc hE a1|exact sc hE a2|exact sc hE a3|exact sc hE a4|exact sc hE a5|exact sc hE a6|exact sc hE a7|exact sc hE a8|exact sc hE a9|exact sc hE l6_works|exact sr_cmp hE.tab (by omega)|exact st_lenL|exact st_sidx hix|exact st_slen|exact st_seq (by first|assumption|rfl)|exact st_sne (u:=false) (by first|assumption|rfl)|exact st_move'|exact st_load'|exact st_fieldAddr'|exact st_and_t'|exact st_and_f'|exact st_or_f'|exact st_or_t'|exact st_eq' (by first|assumption|rfl)|exact st_neq' (by first|assumption|rfl)|exact st_leq' (by first|assumption|rfl)|exact st_gtr' (by first|assumption|rfl)|exact st_len'|exact st_loadE') qK ?_|refine g_sk rfl inferInstance rfl qK ?_|refine g_un rfl inferInstance qK ?_|apply g_st|apply g_skip|apply g_ct|apply g_cf|apply g_ret|refine r_1 rfl ?_|apply g_blk|apply g_eb|apply g_ex|apply e_t|apply e_h|refine e_o rfl ?_|apply r_t|apply r_b|apply g_cl|exact sc hE a1|exact sc hE a2|exact sc hE a3|exact sc hE a4|exact sc hE a5|exact sc hE a6|exact sc hE a7|exact sc hE a8|exact sc hE a9|exact sc hE l6_works|exact sr_whole hE.tab qD|exact sr_div hE.tab qO qD|exact sr_sub hE.tab qO|exact sr_neg hE.tab qO|exact sr_max hE.tab qO|exact sR_oneQ|exact sr_add hE.tab qO|exact sr_cmp hE.tab qO|exact sr_sign hE.tab qO|exact st_rem13 hrem|exact st_conv2 Tryz.underlying5 Tryz.underlying3 hcv|exact st_lenL|exact st_sidx hix|exact st_sadd qL|exact st_slen|exact st_seq qG|exact st_sne (u:=false) qG|exact st_add' qL|exact st_move'|exact st_assign'|exact st_load'|exact st_fieldAddr'|exact st_extract'|exact st_and_t'|exact st_and_f'|exact st_or_f'|exact st_or_t'|exact st_eq' qG|exact st_neq' qG|exact st_lss' qG|exact st_leq' qG|exact st_gtr' qG|exact st_geq' qG|exact st_len'|exact st_loadE'|exact Cv.rfl'|(intro _;simp only[newX,newL,ptrs,List.map,List.cons_append,List.nil_append])|intro _
 refine g_stop fun a w h=> ?_
 refine cw_loop (fun j a w=>∃ i:Nat,i+j=wl.length∧TS _ _ [(_,VTy.qe Y 5 e),(_,VTy.qx x 3)] [(12, .is (.int .i64 (i:Int))),(11, .is (.int .i64 (dcnt (wl.take i):Int))),(10, .is (.int .i64 e)),(9, .is (.pointer (some ⟨_,0,none⟩))),(8, .is (Tx wl)),(7, .is (.int .i64 (p:Int))),(3, .is (.pointer (some ⟨_,0,none⟩))),(2, .is (Tx l))] _ a w) wl.length ⟨0,by omega,h.keep [12,11,10,9,8,7,3,2]⟩ ?_
 clear h a1 a2 hrem hcv e1 e2 e3 hb hp htl hk
 have HN:=Lib.hid (And.intro hnear (And.intro hv0 (And.intro hv1 (And.intro hv2 kw))))
 clear hnear hv0 hv1 hv2 kw
 rintro j a w ⟨i,hi,h⟩
 by_cases hlt:i<wl.length
 ·have hc:decide ((i:Int)<(wl.length:Int))=true:=decide_eq_true qO
  obtain ⟨c,hx⟩:∃ c,wl[i]? =some c:=⟨_,List.getElem?_eq_getElem hlt⟩
  have hix:0≤(i:Int)∧wl[(i:Int).toNat]? =some c:=⟨by omega,hx⟩
  have hw1:IntKind.i64.wrap ((i:Int)+1)=((i+1:Nat):Int):=i64_small qO qO
  have htk:=dcnt_take hx
  have hle:=dcnt_le wl i
  cases hd:isD c with
  |true=>
   rw [hd] at htk
   have htk:dcnt (wl.take (i+1))=dcnt (wl.take i)+1:=htk
   have hw2:IntKind.i64.wrap ((dcnt (wl.take i):Int)+1)=((dcnt (wl.take (i+1)):Nat):Int):=by rw [htk];exact i64_small qO qO
   obtain ⟨c1,c2⟩:decide ((48:Int)≤(c.toNat:Int))=true∧decide ((c.toNat:Int)≤57)=true:=(isD_two hd).elim (fun h=>by cases h.2) id
   refine g_of h ?_
   clear h
   repeat' first|kernel_rfl|exact g_done fun _ _ h=>⟨j - 1,by omega,i+1,by omega,h.keep [12,11,10,9,8,7,3,2]⟩|apply g_seq|apply g_reg|apply g_nil|apply o_all|apply o_go|exact OpsT.nil|exact GuardC.nil|exact UndefC.nil|refine @GuardC.cons _ _ _ _ inferInstance ?_|refine @UndefC.cons _ _ _ inferInstance ?_|apply g_box|apply g_all|apply g_stf|apply g_stw|apply g_sto|apply g_asg|refine g_run rfl inferInstance (by first|exact sc hE a1|exact sc hE a2|exact sc hE a3|exact sc hE a4|exact sc hE a5|exact sc hE a6|exact sc hE a7|exact sc hE a8|exact sc hE a9|exact sc hE l6_works|exact sr_cmp hE.tab (by omega)|exact st_lenL|exact st_sidx hix|exact st_slen|exact st_seq (by first|assumption|rfl)|exact st_sne (u:=false) (by first|assumption|rfl)|exact st_move'|exact st_load'|exact st_fieldAddr'|exact st_and_t'|exact st_and_f'|exact st_or_f'|exact st_or_t'|exact st_eq' (by first|assumption|rfl)|exact st_neq' (by first|assumption|rfl)|exact st_leq' (by first|assumption|rfl)|exact st_gtr' (by first|assumption|rfl)|exact st_len'|exact st_loadE') qK ?_|refine g_sk rfl inferInstance rfl qK ?_|refine g_un rfl inferInstance qK ?_|apply g_st|apply g_skip|apply g_ct|apply g_cf|apply g_ret|refine r_1 rfl ?_|apply g_blk|apply g_eb|apply g_ex|apply e_t|apply e_h|refine e_o rfl ?_|apply r_t|apply r_b|apply g_cl|exact sc hE a1|exact sc hE a2|exact sc hE a3|exact sc hE a4|exact sc hE a5|exact sc hE a6|exact sc hE a7|exact sc hE a8|exact sc hE a9|exact sc hE l6_works|exact sr_whole hE.tab qD|exact sr_div hE.tab qO qD|exact sr_sub hE.tab qO|exact sr_neg hE.tab qO|exact sr_max hE.tab qO|exact sR_oneQ|exact sr_add hE.tab qO|exact sr_cmp hE.tab qO|exact sr_sign hE.tab qO|exact st_rem13 hrem|exact st_conv2 Tryz.underlying5 Tryz.underlying3 hcv|exact st_lenL|exact st_sidx hix|exact st_sadd qL|exact st_slen|exact st_seq qG|exact st_sne (u:=false) qG|exact st_add' qL|exact st_move'|exact st_assign'|exact st_load'|exact st_fieldAddr'|exact st_extract'|exact st_and_t'|exact st_and_f'|exact st_or_f'|exact st_or_t'|exact st_eq' qG|exact st_neq' qG|exact st_lss' qG|exact st_leq' qG|exact st_gtr' qG|exact st_geq' qG|exact st_len'|exact st_loadE'|exact Cv.rfl'|(intro _;simp only[newX,newL,ptrs,List.map,List.cons_append,List.nil_append])|intro _
  |false=>
   rw [hd] at htk
   have htk:dcnt (wl.take (i+1))=dcnt (wl.take i):=htk
   rcases isD_two hd with ⟨c1,_⟩|⟨c1,c2⟩
   ·skip
    refine g_of h ?_
    clear h
    repeat' first|kernel_rfl|exact g_done fun _ _ h=>⟨j - 1,by omega,i+1,by omega,by rw [htk];exact h.keep [12,11,10,9,8,7,3,2]⟩|apply g_seq|apply g_reg|apply g_nil|apply o_all|apply o_go|exact OpsT.nil|exact GuardC.nil|exact UndefC.nil|refine @GuardC.cons _ _ _ _ inferInstance ?_|refine @UndefC.cons _ _ _ inferInstance ?_|apply g_box|apply g_all|apply g_stf|apply g_stw|apply g_sto|apply g_asg|refine g_run rfl inferInstance (by first|exact sc hE a1|exact sc hE a2|exact sc hE a3|exact sc hE a4|exact sc hE a5|exact sc hE a6|exact sc hE a7|exact sc hE a8|exact sc hE a9|exact sc hE l6_works|exact sr_cmp hE.tab (by omega)|exact st_lenL|exact st_sidx hix|exact st_slen|exact st_seq (by first|assumption|rfl)|exact st_sne (u:=false) (by first|assumption|rfl)|exact st_move'|exact st_load'|exact st_fieldAddr'|exact st_and_t'|exact st_and_f'|exact st_or_f'|exact st_or_t'|exact st_eq' (by first|assumption|rfl)|exact st_neq' (by first|assumption|rfl)|exact st_leq' (by first|assumption|rfl)|exact st_gtr' (by first|assumption|rfl)|exact st_len'|exact st_loadE') qK ?_|refine g_sk rfl inferInstance rfl qK ?_|refine g_un rfl inferInstance qK ?_|apply g_st|apply g_skip|apply g_ct|apply g_cf|apply g_ret|refine r_1 rfl ?_|apply g_blk|apply g_eb|apply g_ex|apply e_t|apply e_h|refine e_o rfl ?_|apply r_t|apply r_b|apply g_cl|exact sc hE a1|exact sc hE a2|exact sc hE a3|exact sc hE a4|exact sc hE a5|exact sc hE a6|exact sc hE a7|exact sc hE a8|exact sc hE a9|exact sc hE l6_works|exact sr_whole hE.tab qD|exact sr_div hE.tab qO qD|exact sr_sub hE.tab qO|exact sr_neg hE.tab qO|exact sr_max hE.tab qO|exact sR_oneQ|exact sr_add hE.tab qO|exact sr_cmp hE.tab qO|exact sr_sign hE.tab qO|exact st_rem13 hrem|exact st_conv2 Tryz.underlying5 Tryz.underlying3 hcv|exact st_lenL|exact st_sidx hix|exact st_sadd qL|exact st_slen|exact st_seq qG|exact st_sne (u:=false) qG|exact st_add' qL|exact st_move'|exact st_assign'|exact st_load'|exact st_fieldAddr'|exact st_extract'|exact st_and_t'|exact st_and_f'|exact st_or_f'|exact st_or_t'|exact st_eq' qG|exact st_neq' qG|exact st_lss' qG|exact st_leq' qG|exact st_gtr' qG|exact st_geq' qG|exact st_len'|exact st_loadE'|exact Cv.rfl'|(intro _;simp only[newX,newL,ptrs,List.map,List.cons_append,List.nil_append])|intro _
   ·skip
    refine g_of h ?_
    clear h
    repeat' first|kernel_rfl|exact g_done fun _ _ h=>⟨j - 1,by omega,i+1,by omega,by rw [htk];exact h.keep [12,11,10,9,8,7,3,2]⟩|apply g_seq|apply g_reg|apply g_nil|apply o_all|apply o_go|exact OpsT.nil|exact GuardC.nil|exact UndefC.nil|refine @GuardC.cons _ _ _ _ inferInstance ?_|refine @UndefC.cons _ _ _ inferInstance ?_|apply g_box|apply g_all|apply g_stf|apply g_stw|apply g_sto|apply g_asg|refine g_run rfl inferInstance (by first|exact sc hE a1|exact sc hE a2|exact sc hE a3|exact sc hE a4|exact sc hE a5|exact sc hE a6|exact sc hE a7|exact sc hE a8|exact sc hE a9|exact sc hE l6_works|exact sr_cmp hE.tab (by omega)|exact st_lenL|exact st_sidx hix|exact st_slen|exact st_seq (by first|assumption|rfl)|exact st_sne (u:=false) (by first|assumption|rfl)|exact st_move'|exact st_load'|exact st_fieldAddr'|exact st_and_t'|exact st_and_f'|exact st_or_f'|exact st_or_t'|exact st_eq' (by first|assumption|rfl)|exact st_neq' (by first|assumption|rfl)|exact st_leq' (by first|assumption|rfl)|exact st_gtr' (by first|assumption|rfl)|exact st_len'|exact st_loadE') qK ?_|refine g_sk rfl inferInstance rfl qK ?_|refine g_un rfl inferInstance qK ?_|apply g_st|apply g_skip|apply g_ct|apply g_cf|apply g_ret|refine r_1 rfl ?_|apply g_blk|apply g_eb|apply g_ex|apply e_t|apply e_h|refine e_o rfl ?_|apply r_t|apply r_b|apply g_cl|exact sc hE a1|exact sc hE a2|exact sc hE a3|exact sc hE a4|exact sc hE a5|exact sc hE a6|exact sc hE a7|exact sc hE a8|exact sc hE a9|exact sc hE l6_works|exact sr_whole hE.tab qD|exact sr_div hE.tab qO qD|exact sr_sub hE.tab qO|exact sr_neg hE.tab qO|exact sr_max hE.tab qO|exact sR_oneQ|exact sr_add hE.tab qO|exact sr_cmp hE.tab qO|exact sr_sign hE.tab qO|exact st_rem13 hrem|exact st_conv2 Tryz.underlying5 Tryz.underlying3 hcv|exact st_lenL|exact st_sidx hix|exact st_sadd qL|exact st_slen|exact st_seq qG|exact st_sne (u:=false) qG|exact st_add' qL|exact st_move'|exact st_assign'|exact st_load'|exact st_fieldAddr'|exact st_extract'|exact st_and_t'|exact st_and_f'|exact st_or_f'|exact st_or_t'|exact st_eq' qG|exact st_neq' qG|exact st_lss' qG|exact st_leq' qG|exact st_gtr' qG|exact st_geq' qG|exact st_len'|exact st_loadE'|exact Cv.rfl'|(intro _;simp only[newX,newL,ptrs,List.map,List.cons_append,List.nil_append])|intro _
 ·obtain rfl:i=wl.length:=qO
  have hc:decide (((wl.length:Nat):Int)<(wl.length:Int))=false:=decide_eq_false qO
  rw [List.take_length] at h
  cases hD:decide (40<dcnt wl) with
  |true=>
   have hD2:decide ((40:Int)<(dcnt wl:Int))=true:=decide_eq_true (by have:=of_decide_eq_true hD;omega)
   rw [hD] at he
   obtain rfl:(3:Int)=e:=he
   refine g_of h ?_
   clear h
   repeat' first|kernel_rfl|apply g_seq|apply g_reg|apply g_nil|apply o_all|apply o_go|exact OpsT.nil|exact GuardC.nil|exact UndefC.nil|refine @GuardC.cons _ _ _ _ inferInstance ?_|refine @UndefC.cons _ _ _ inferInstance ?_|apply g_box|apply g_all|apply g_stf|apply g_stw|apply g_sto|apply g_asg|refine g_run rfl inferInstance (by first|exact sc hE a1|exact sc hE a2|exact sc hE a3|exact sc hE a4|exact sc hE a5|exact sc hE a6|exact sc hE a7|exact sc hE a8|exact sc hE a9|exact sc hE l6_works|exact sr_cmp hE.tab (by omega)|exact st_lenL|exact st_sidx hix|exact st_slen|exact st_seq (by first|assumption|rfl)|exact st_sne (u:=false) (by first|assumption|rfl)|exact st_move'|exact st_load'|exact st_fieldAddr'|exact st_and_t'|exact st_and_f'|exact st_or_f'|exact st_or_t'|exact st_eq' (by first|assumption|rfl)|exact st_neq' (by first|assumption|rfl)|exact st_leq' (by first|assumption|rfl)|exact st_gtr' (by first|assumption|rfl)|exact st_len'|exact st_loadE') qK ?_|refine g_sk rfl inferInstance rfl qK ?_|refine g_un rfl inferInstance qK ?_|apply g_st|apply g_skip|apply g_ct|apply g_cf|apply g_ret|refine r_1 rfl ?_|apply g_blk|apply g_eb|apply g_ex|apply e_t|apply e_h|refine e_o rfl ?_|apply r_t|apply r_b|apply g_cl|exact sc hE a1|exact sc hE a2|exact sc hE a3|exact sc hE a4|exact sc hE a5|exact sc hE a6|exact sc hE a7|exact sc hE a8|exact sc hE a9|exact sc hE l6_works|exact sr_whole hE.tab qD|exact sr_div hE.tab qO qD|exact sr_sub hE.tab qO|exact sr_neg hE.tab qO|exact sr_max hE.tab qO|exact sR_oneQ|exact sr_add hE.tab qO|exact sr_cmp hE.tab qO|exact sr_sign hE.tab qO|exact st_rem13 hrem|exact st_conv2 Tryz.underlying5 Tryz.underlying3 hcv|exact st_lenL|exact st_sidx hix|exact st_sadd qL|exact st_slen|exact st_seq qG|exact st_sne (u:=false) qG|exact st_add' qL|exact st_move'|exact st_assign'|exact st_load'|exact st_fieldAddr'|exact st_extract'|exact st_and_t'|exact st_and_f'|exact st_or_f'|exact st_or_t'|exact st_eq' qG|exact st_neq' qG|exact st_lss' qG|exact st_leq' qG|exact st_gtr' qG|exact st_geq' qG|exact st_len'|exact st_loadE'|exact Cv.rfl'|(intro _;simp only[newX,newL,ptrs,List.map,List.cons_append,List.nil_append])|intro _
  |false=>
   have hD2:decide ((40:Int)<(dcnt wl:Int))=false:=decide_eq_false (by have:=of_decide_eq_false hD;omega)
   rw [hD] at he
   obtain rfl:(0:Int)=e:=he
   have h:TS _ _ [(_,VTy.qc Y 5),(_,VTy.qx x 3)] _ _ a w:=h.locs (.cons (fun _ _ v g=>g) (.same .nil))
   refine g_of h ?_
   clear h
   repeat' first|kernel_rfl|apply g_seq|apply g_reg|apply g_nil|apply o_all|apply o_go|exact OpsT.nil|exact GuardC.nil|exact UndefC.nil|refine @GuardC.cons _ _ _ _ inferInstance ?_|refine @UndefC.cons _ _ _ inferInstance ?_|apply g_box|apply g_all|apply g_stf|apply g_stw|apply g_sto|apply g_asg|refine g_run rfl inferInstance (by first|exact sc hE a1|exact sc hE a2|exact sc hE a3|exact sc hE a4|exact sc hE a5|exact sc hE a6|exact sc hE a7|exact sc hE a8|exact sc hE a9|exact sc hE l6_works|exact sr_cmp hE.tab (by omega)|exact st_lenL|exact st_sidx hix|exact st_slen|exact st_seq (by first|assumption|rfl)|exact st_sne (u:=false) (by first|assumption|rfl)|exact st_move'|exact st_load'|exact st_fieldAddr'|exact st_and_t'|exact st_and_f'|exact st_or_f'|exact st_or_t'|exact st_eq' (by first|assumption|rfl)|exact st_neq' (by first|assumption|rfl)|exact st_leq' (by first|assumption|rfl)|exact st_gtr' (by first|assumption|rfl)|exact st_len'|exact st_loadE') qK ?_|refine g_sk rfl inferInstance rfl qK ?_|refine g_un rfl inferInstance qK ?_|apply g_st|apply g_skip|apply g_ct|apply g_cf|apply g_ret|refine r_1 rfl ?_|apply g_blk|apply g_eb|apply g_ex|apply e_t|apply e_h|refine e_o rfl ?_|apply r_t|apply r_b|apply g_cl|exact sc hE a1|exact sc hE a2|exact sc hE a3|exact sc hE a4|exact sc hE a5|exact sc hE a6|exact sc hE a7|exact sc hE a8|exact sc hE a9|exact sc hE l6_works|exact sr_whole hE.tab qD|exact sr_div hE.tab qO qD|exact sr_sub hE.tab qO|exact sr_neg hE.tab qO|exact sr_max hE.tab qO|exact sR_oneQ|exact sr_add hE.tab qO|exact sr_cmp hE.tab qO|exact sr_sign hE.tab qO|exact st_rem13 hrem|exact st_conv2 Tryz.underlying5 Tryz.underlying3 hcv|exact st_lenL|exact st_sidx hix|exact st_sadd qL|exact st_slen|exact st_seq qG|exact st_sne (u:=false) qG|exact st_add' qL|exact st_move'|exact st_assign'|exact st_load'|exact st_fieldAddr'|exact st_extract'|exact st_and_t'|exact st_and_f'|exact st_or_f'|exact st_or_t'|exact st_eq' qG|exact st_neq' qG|exact st_lss' qG|exact st_leq' qG|exact st_gtr' qG|exact st_geq' qG|exact st_len'|exact st_loadE'|exact Cv.rfl'|(intro _;simp only[newX,newL,ptrs,List.map,List.cons_append,List.nil_append])|intro _
   refine g_stop fun a w h=> ?_
   refine cw_loop (fun j a w=>∃ i:Nat,i+j=p∧TS _ _ [(_,VTy.qc (1 / t10 i) (2+2*i)),(_,VTy.qc Y 5),(_,VTy.qx x 3)] [(14, .is (.int .i64 (i:Int))),(13, .is (.pointer (some ⟨_,0,none⟩))),(10, .is (.int .i64 0)),(9, .is (.pointer (some ⟨_,0,none⟩))),(8, .is (Tx wl)),(7, .is (.int .i64 (p:Int))),(3, .is (.pointer (some ⟨_,0,none⟩))),(2, .is (Tx l))] _ a w) p ⟨0,by omega,(h.keep [14,13,10,9,8,7,3,2]).locs (.cons (fun _ _ v g=>by rw [←unit_zero];exact g) (.same (.same .nil)))⟩ ?_
   clear h
   rintro j a w ⟨i,hi,h⟩
   by_cases hlt:i<p
   ·have hc:decide ((i:Int)<(p:Int))=true:=decide_eq_true qO
    have hw1:IntKind.i64.wrap ((i:Int)+1)=((i+1:Nat):Int):=i64_small qO qO
    refine g_of h ?_
    clear h
    repeat' first|kernel_rfl|exact g_done fun _ _ h=>⟨j - 1,by omega,i+1,by omega,(h.keep [14,13,10,9,8,7,3,2]).locs (.cons (fun _ _ v g=>by rw [←unit_next i];exact g) (.same (.same .nil)))⟩|apply g_seq|apply g_reg|apply g_nil|apply g_drawE (id:=18) [] [] 6 [5]|apply z_sto|apply z_asg|apply z_cl|apply o_all|apply o_go|exact OpsT.nil|exact GuardC.nil|exact UndefC.nil|refine @GuardC.cons _ _ _ _ inferInstance ?_|refine @UndefC.cons _ _ _ inferInstance ?_|apply g_box|apply g_all|apply g_stf|apply g_stw|apply g_sto|apply g_asg|refine g_run rfl inferInstance (by first|exact sc hE a1|exact sc hE a2|exact sc hE a3|exact sc hE a4|exact sc hE a5|exact sc hE a6|exact sc hE a7|exact sc hE a8|exact sc hE a9|exact sc hE l6_works|exact sr_cmp hE.tab (by omega)|exact st_lenL|exact st_sidx hix|exact st_slen|exact st_seq (by first|assumption|rfl)|exact st_sne (u:=false) (by first|assumption|rfl)|exact st_move'|exact st_load'|exact st_fieldAddr'|exact st_and_t'|exact st_and_f'|exact st_or_f'|exact st_or_t'|exact st_eq' (by first|assumption|rfl)|exact st_neq' (by first|assumption|rfl)|exact st_leq' (by first|assumption|rfl)|exact st_gtr' (by first|assumption|rfl)|exact st_len'|exact st_loadE') qK ?_|refine g_sk rfl inferInstance rfl qK ?_|refine g_un rfl inferInstance qK ?_|apply g_st|apply g_skip|apply g_ct|apply g_cf|apply g_ret|refine r_1 rfl ?_|apply g_blk|apply g_eb|apply g_ex|apply e_t|apply e_h|refine e_o rfl ?_|apply r_t|apply r_b|apply g_cl|exact sc hE a1|exact sc hE a2|exact sc hE a3|exact sc hE a4|exact sc hE a5|exact sc hE a6|exact sc hE a7|exact sc hE a8|exact sc hE a9|exact sc hE l6_works|exact sr_whole hE.tab qD|exact sr_div hE.tab qO qD|exact sr_sub hE.tab qO|exact sr_neg hE.tab qO|exact sr_max hE.tab qO|exact sR_oneQ|exact sr_add hE.tab qO|exact sr_cmp hE.tab qO|exact sr_sign hE.tab qO|exact st_rem13 hrem|exact st_conv2 Tryz.underlying5 Tryz.underlying3 hcv|exact st_lenL|exact st_sidx hix|exact st_sadd qL|exact st_slen|exact st_seq qG|exact st_sne (u:=false) qG|exact st_add' qL|exact st_move'|exact st_assign'|exact st_load'|exact st_fieldAddr'|exact st_extract'|exact st_and_t'|exact st_and_f'|exact st_or_f'|exact st_or_t'|exact st_eq' qG|exact st_neq' qG|exact st_lss' qG|exact st_leq' qG|exact st_gtr' qG|exact st_geq' qG|exact st_len'|exact st_loadE'|exact Cv.rfl'|(intro _;simp only[newX,newL,ptrs,List.map,List.cons_append,List.nil_append])|intro _
   ·obtain rfl:i=p:=qO
    have hc:decide ((i:Int)<(i:Int))=false:=decide_eq_false qO
    obtain ⟨hnear,hv0,hv1,hv2,kw⟩:=HN.out
    clear HN
    by_cases hf0:f=0
    ·subst hf0
     by_cases hh0:hh=0
     ·subst hh0
      refine g_of h ?_
      clear h
      repeat' first|kernel_rfl|apply g_seq|apply g_reg|apply g_nil|apply g_draw (id:=20) [] [] 5|apply g_draw (id:=21) [(100,false),(108,false)] [] 16|apply g_draw (id:=29) [(159,false),(162,true),(168,true),(173,true),(180,true)] [] 26|apply o_all|apply o_go|exact OpsT.nil|exact GuardC.nil|exact UndefC.nil|refine @GuardC.cons _ _ _ _ inferInstance ?_|refine @UndefC.cons _ _ _ inferInstance ?_|apply g_box|apply g_all|apply g_stf|apply g_stw|apply g_sto|apply g_asg|refine g_run rfl inferInstance (by first|exact st_gtr' hnear|exact st_leq' hv1|exact sc hE a1|exact sc hE a2|exact sc hE a3|exact sc hE a4|exact sc hE a5|exact sc hE a6|exact sc hE a7|exact sc hE a8|exact sc hE a9|exact sc hE l6_works|exact sr_cmp hE.tab (by omega)|exact st_lenL|exact st_sidx hix|exact st_slen|exact st_seq (by first|assumption|rfl)|exact st_sne (u:=false) (by first|assumption|rfl)|exact st_move'|exact st_load'|exact st_fieldAddr'|exact st_and_t'|exact st_and_f'|exact st_or_f'|exact st_or_t'|exact st_eq' (by first|assumption|rfl)|exact st_neq' (by first|assumption|rfl)|exact st_leq' (by first|assumption|rfl)|exact st_gtr' (by first|assumption|rfl)|exact st_len'|exact st_loadE') qK ?_|refine g_sk rfl inferInstance rfl qK ?_|refine g_un rfl inferInstance qK ?_|apply g_st|apply g_skip|apply g_ct|apply g_cf|apply g_ret|refine r_1 rfl ?_|apply g_blk|apply g_eb|apply g_ex|apply e_t|apply e_h|refine e_o rfl ?_|apply r_t|apply r_b|apply g_cl|exact st_gtr' hnear|exact st_geq' hv0|exact st_leq' hv1|exact sc hE a1|exact sc hE a2|exact sc hE a3|exact sc hE a4|exact sc hE a5|exact sc hE a6|exact sc hE a7|exact sc hE a8|exact sc hE a9|exact sc hE l6_works|exact sr_whole hE.tab qD|exact sr_div hE.tab qO qD|exact sr_sub hE.tab qO|exact sr_neg hE.tab qO|exact sr_max hE.tab qO|exact sR_oneQ|exact sr_add hE.tab qO|exact sr_cmp hE.tab qO|exact sr_sign hE.tab qO|exact st_rem13 hrem|exact st_conv2 Tryz.underlying5 Tryz.underlying3 hcv|exact st_lenL|exact st_sidx hix|exact st_sadd qL|exact st_slen|exact st_seq qG|exact st_sne (u:=false) qG|exact st_add' qL|exact st_move'|exact st_assign'|exact st_load'|exact st_fieldAddr'|exact st_extract'|exact st_and_t'|exact st_and_f'|exact st_or_f'|exact st_or_t'|exact st_eq' qG|exact st_neq' qG|exact st_lss' qG|exact st_leq' qG|exact st_gtr' qG|exact st_geq' qG|exact st_len'|exact st_loadE'|exact Cv.rfl'|(intro _;simp only[newX,newL,ptrs,List.map,List.cons_append,List.nil_append])|intro _
     ·have hh1:(hh != 0)=true:=by simpa using hh0
      refine g_of h ?_
      clear h
      repeat' first|kernel_rfl|apply g_seq|apply g_reg|apply g_nil|apply g_draw (id:=20) [] [] 5|apply g_draw (id:=21) [(100,false),(108,false)] [] 16|apply g_draw (id:=29) [(159,true),(180,true)] [162,168,173] 26|(apply o_un (d:=162);(focus rfl);(focus kernel_rfl))|(apply o_un (d:=168);(focus rfl);(focus kernel_rfl))|(apply o_un (d:=173);(focus rfl);(focus kernel_rfl))|(apply o_sk;(focus rfl);(focus kernel_rfl))|apply o_all|apply o_go|exact OpsT.nil|exact GuardC.nil|exact UndefC.nil|refine @GuardC.cons _ _ _ _ inferInstance ?_|refine @UndefC.cons _ _ _ inferInstance ?_|apply g_box|apply g_all|apply g_stf|apply g_stw|apply g_sto|apply g_asg|refine g_run rfl inferInstance (by first|exact st_gtr' hnear|exact st_leq' hv1|exact sc hE a1|exact sc hE a2|exact sc hE a3|exact sc hE a4|exact sc hE a5|exact sc hE a6|exact sc hE a7|exact sc hE a8|exact sc hE a9|exact sc hE l6_works|exact sr_cmp hE.tab (by omega)|exact st_lenL|exact st_sidx hix|exact st_slen|exact st_seq (by first|assumption|rfl)|exact st_sne (u:=false) (by first|assumption|rfl)|exact st_move'|exact st_load'|exact st_fieldAddr'|exact st_and_t'|exact st_and_f'|exact st_or_f'|exact st_or_t'|exact st_eq' (by first|assumption|rfl)|exact st_neq' (by first|assumption|rfl)|exact st_leq' (by first|assumption|rfl)|exact st_gtr' (by first|assumption|rfl)|exact st_len'|exact st_loadE') qK ?_|refine g_sk rfl inferInstance rfl qK ?_|refine g_un rfl inferInstance qK ?_|apply g_st|apply g_skip|apply g_ct|apply g_cf|apply g_ret|refine r_1 rfl ?_|apply g_blk|apply g_eb|apply g_ex|apply e_t|apply e_h|refine e_o rfl ?_|apply r_t|apply r_b|apply g_cl|exact st_gtr' hnear|exact st_geq' hv0|exact st_leq' hv1|exact sc hE a1|exact sc hE a2|exact sc hE a3|exact sc hE a4|exact sc hE a5|exact sc hE a6|exact sc hE a7|exact sc hE a8|exact sc hE a9|exact sc hE l6_works|exact sr_whole hE.tab qD|exact sr_div hE.tab qO qD|exact sr_sub hE.tab qO|exact sr_neg hE.tab qO|exact sr_max hE.tab qO|exact sR_oneQ|exact sr_add hE.tab qO|exact sr_cmp hE.tab qO|exact sr_sign hE.tab qO|exact st_rem13 hrem|exact st_conv2 Tryz.underlying5 Tryz.underlying3 hcv|exact st_lenL|exact st_sidx hix|exact st_sadd qL|exact st_slen|exact st_seq qG|exact st_sne (u:=false) qG|exact st_add' qL|exact st_move'|exact st_assign'|exact st_load'|exact st_fieldAddr'|exact st_extract'|exact st_and_t'|exact st_and_f'|exact st_or_f'|exact st_or_t'|exact st_eq' qG|exact st_neq' qG|exact st_lss' qG|exact st_leq' qG|exact st_gtr' qG|exact st_geq' qG|exact st_len'|exact st_loadE'|exact Cv.rfl'|(intro _;simp only[newX,newL,ptrs,List.map,List.cons_append,List.nil_append])|intro _
    ·have hf1:(f==0)=false:=by simpa using hf0
     by_cases hh0:hh=0
     ·subst hh0
      refine g_of h ?_
      clear h
      repeat' first|kernel_rfl|apply g_seq|apply g_reg|apply g_nil|apply g_draw (id:=20) [] [] 5|apply g_draw (id:=21) [(100,false),(108,false)] [] 16|apply g_draw (id:=29) [(159,false),(162,true),(168,true),(173,true),(180,true)] [] 26|apply o_all|apply o_go|exact OpsT.nil|exact GuardC.nil|exact UndefC.nil|refine @GuardC.cons _ _ _ _ inferInstance ?_|refine @UndefC.cons _ _ _ inferInstance ?_|apply g_box|apply g_all|apply g_stf|apply g_stw|apply g_sto|apply g_asg|refine g_run rfl inferInstance (by first|exact st_gtr' hnear|exact st_leq' hv1|exact sc hE a1|exact sc hE a2|exact sc hE a3|exact sc hE a4|exact sc hE a5|exact sc hE a6|exact sc hE a7|exact sc hE a8|exact sc hE a9|exact sc hE l6_works|exact sr_cmp hE.tab (by omega)|exact st_lenL|exact st_sidx hix|exact st_slen|exact st_seq (by first|assumption|rfl)|exact st_sne (u:=false) (by first|assumption|rfl)|exact st_move'|exact st_load'|exact st_fieldAddr'|exact st_and_t'|exact st_and_f'|exact st_or_f'|exact st_or_t'|exact st_eq' (by first|assumption|rfl)|exact st_neq' (by first|assumption|rfl)|exact st_leq' (by first|assumption|rfl)|exact st_gtr' (by first|assumption|rfl)|exact st_len'|exact st_loadE') qK ?_|refine g_sk rfl inferInstance rfl qK ?_|refine g_un rfl inferInstance qK ?_|apply g_st|apply g_skip|apply g_ct|apply g_cf|apply g_ret|refine r_1 rfl ?_|apply g_blk|apply g_eb|apply g_ex|apply e_t|apply e_h|refine e_o rfl ?_|apply r_t|apply r_b|apply g_cl|exact st_gtr' hnear|exact st_geq' hv0|exact st_leq' hv1|exact sc hE a1|exact sc hE a2|exact sc hE a3|exact sc hE a4|exact sc hE a5|exact sc hE a6|exact sc hE a7|exact sc hE a8|exact sc hE a9|exact sc hE l6_works|exact sr_whole hE.tab qD|exact sr_div hE.tab qO qD|exact sr_sub hE.tab qO|exact sr_neg hE.tab qO|exact sr_max hE.tab qO|exact sR_oneQ|exact sr_add hE.tab qO|exact sr_cmp hE.tab qO|exact sr_sign hE.tab qO|exact st_rem13 hrem|exact st_conv2 Tryz.underlying5 Tryz.underlying3 hcv|exact st_lenL|exact st_sidx hix|exact st_sadd qL|exact st_slen|exact st_seq qG|exact st_sne (u:=false) qG|exact st_add' qL|exact st_move'|exact st_assign'|exact st_load'|exact st_fieldAddr'|exact st_extract'|exact st_and_t'|exact st_and_f'|exact st_or_f'|exact st_or_t'|exact st_eq' qG|exact st_neq' qG|exact st_lss' qG|exact st_leq' qG|exact st_gtr' qG|exact st_geq' qG|exact st_len'|exact st_loadE'|exact Cv.rfl'|(intro _;simp only[newX,newL,ptrs,List.map,List.cons_append,List.nil_append])|intro _
     ·have hh1:(hh != 0)=true:=by simpa using hh0
      refine g_of h ?_
      clear h
      repeat' first|kernel_rfl|apply g_seq|apply g_reg|apply g_nil|apply g_draw (id:=20) [] [] 5|apply g_draw (id:=21) [(100,false),(108,false)] [] 16|apply g_draw (id:=29) [(159,true),(180,true)] [162,168,173] 26|(apply o_un (d:=162);(focus rfl);(focus kernel_rfl))|(apply o_un (d:=168);(focus rfl);(focus kernel_rfl))|(apply o_un (d:=173);(focus rfl);(focus kernel_rfl))|(apply o_sk;(focus rfl);(focus kernel_rfl))|apply o_all|apply o_go|exact OpsT.nil|exact GuardC.nil|exact UndefC.nil|refine @GuardC.cons _ _ _ _ inferInstance ?_|refine @UndefC.cons _ _ _ inferInstance ?_|apply g_box|apply g_all|apply g_stf|apply g_stw|apply g_sto|apply g_asg|refine g_run rfl inferInstance (by first|exact st_gtr' hnear|exact st_leq' hv1|exact sc hE a1|exact sc hE a2|exact sc hE a3|exact sc hE a4|exact sc hE a5|exact sc hE a6|exact sc hE a7|exact sc hE a8|exact sc hE a9|exact sc hE l6_works|exact sr_cmp hE.tab (by omega)|exact st_lenL|exact st_sidx hix|exact st_slen|exact st_seq (by first|assumption|rfl)|exact st_sne (u:=false) (by first|assumption|rfl)|exact st_move'|exact st_load'|exact st_fieldAddr'|exact st_and_t'|exact st_and_f'|exact st_or_f'|exact st_or_t'|exact st_eq' (by first|assumption|rfl)|exact st_neq' (by first|assumption|rfl)|exact st_leq' (by first|assumption|rfl)|exact st_gtr' (by first|assumption|rfl)|exact st_len'|exact st_loadE') qK ?_|refine g_sk rfl inferInstance rfl qK ?_|refine g_un rfl inferInstance qK ?_|apply g_st|apply g_skip|apply g_ct|apply g_cf|apply g_ret|refine r_1 rfl ?_|apply g_blk|apply g_eb|apply g_ex|apply e_t|apply e_h|refine e_o rfl ?_|apply r_t|apply r_b|apply g_cl|exact st_gtr' hnear|exact st_geq' hv0|exact st_leq' hv1|exact sc hE a1|exact sc hE a2|exact sc hE a3|exact sc hE a4|exact sc hE a5|exact sc hE a6|exact sc hE a7|exact sc hE a8|exact sc hE a9|exact sc hE l6_works|exact sr_whole hE.tab qD|exact sr_div hE.tab qO qD|exact sr_sub hE.tab qO|exact sr_neg hE.tab qO|exact sr_max hE.tab qO|exact sR_oneQ|exact sr_add hE.tab qO|exact sr_cmp hE.tab qO|exact sr_sign hE.tab qO|exact st_rem13 hrem|exact st_conv2 Tryz.underlying5 Tryz.underlying3 hcv|exact st_lenL|exact st_sidx hix|exact st_sadd qL|exact st_slen|exact st_seq qG|exact st_sne (u:=false) qG|exact st_add' qL|exact st_move'|exact st_assign'|exact st_load'|exact st_fieldAddr'|exact st_extract'|exact st_and_t'|exact st_and_f'|exact st_or_f'|exact st_or_t'|exact st_eq' qG|exact st_neq' qG|exact st_lss' qG|exact st_leq' qG|exact st_gtr' qG|exact st_geq' qG|exact st_len'|exact st_loadE'|exact Cv.rfl'|(intro _;simp only[newX,newL,ptrs,List.map,List.cons_append,List.nil_append])|intro _
theorem l6_near {x:RawQ} {l:List UInt8} {b:Int} (hl:l.length≤9223372036854775807) (hb:0≤b∧b<256):Ctr Tryz.prog Env 6 [4,0,0] [.qz x, .is (.int .u8 b), .is (Tx l)] (fun _=> .is (.bool true)):=by
 cases e1:decide ((3:Int)<(x.1.2.length:Int)) with
 |true=>
  refine ctr Tryz.func6 rfl Tryz.ntmps6 qE (fun _ _=>by kernel_rfl) fun X w hE=> ?_
  simp only [argE,Nat.zero_add,Nat.reduceAdd]
  repeat' first|kernel_rfl|apply g_seq|apply g_reg|apply g_nil|apply o_all|apply o_go|exact OpsT.nil|exact GuardC.nil|exact UndefC.nil|refine @GuardC.cons _ _ _ _ inferInstance ?_|refine @UndefC.cons _ _ _ inferInstance ?_|apply g_box|apply g_all|apply g_stf|apply g_stw|apply g_sto|apply g_asg|refine g_run rfl inferInstance (by first|exact sc hE a1|exact sc hE a2|exact sc hE a3|exact sc hE a4|exact sc hE a5|exact sc hE a6|exact sc hE a7|exact sc hE a8|exact sc hE a9|exact sc hE l6_works|exact sr_cmp hE.tab (by omega)|exact st_lenL|exact st_sidx hix|exact st_slen|exact st_seq (by first|assumption|rfl)|exact st_sne (u:=false) (by first|assumption|rfl)|exact st_move'|exact st_load'|exact st_fieldAddr'|exact st_and_t'|exact st_and_f'|exact st_or_f'|exact st_or_t'|exact st_eq' (by first|assumption|rfl)|exact st_neq' (by first|assumption|rfl)|exact st_leq' (by first|assumption|rfl)|exact st_gtr' (by first|assumption|rfl)|exact st_len'|exact st_loadE') qK ?_|refine g_sk rfl inferInstance rfl qK ?_|refine g_un rfl inferInstance qK ?_|apply g_st|apply g_skip|apply g_ct|apply g_cf|apply g_ret|refine r_1 rfl ?_|apply g_cl|exact sc hE a1|exact sc hE a2|exact sc hE a3|exact sc hE a4|exact sc hE a5|exact sc hE a6|exact sc hE a7|exact sc hE a8|exact sc hE a9|exact sc hE l6_works|exact sr_whole hE.tab qD|exact sr_div hE.tab qO qD|exact sr_sub hE.tab qO|exact sr_neg hE.tab qO|exact sr_max hE.tab qO|exact sR_oneQ|exact sr_add hE.tab qO|exact sr_cmp hE.tab qO|exact sr_sign hE.tab qO|exact st_rem13 hrem|exact st_conv2 Tryz.underlying5 Tryz.underlying3 hcv|exact st_lenL|exact st_sidx hix|exact st_sadd qL|exact st_slen|exact st_seq qG|exact st_sne (u:=false) qG|exact st_add' qL|exact st_move'|exact st_assign'|exact st_load'|exact st_fieldAddr'|exact st_extract'|exact st_and_t'|exact st_and_f'|exact st_or_f'|exact st_or_t'|exact st_eq' qG|exact st_neq' qG|exact st_lss' qG|exact st_leq' qG|exact st_gtr' qG|exact st_geq' qG|exact st_len'|exact st_loadE'|exact Cv.rfl'|(intro _;simp only[newX,newL,ptrs,List.map,List.cons_append,List.nil_append])|intro _
 |false=>
  cases e2:decide ((3:Int)<(x.2.2.length:Int)) with
  |true=>
   refine ctr Tryz.func6 rfl Tryz.ntmps6 qE (fun _ _=>by kernel_rfl) fun X w hE=> ?_
   simp only [argE,Nat.zero_add,Nat.reduceAdd]
   repeat' first|kernel_rfl|apply g_seq|apply g_reg|apply g_nil|apply o_all|apply o_go|exact OpsT.nil|exact GuardC.nil|exact UndefC.nil|refine @GuardC.cons _ _ _ _ inferInstance ?_|refine @UndefC.cons _ _ _ inferInstance ?_|apply g_box|apply g_all|apply g_stf|apply g_stw|apply g_sto|apply g_asg|refine g_run rfl inferInstance (by first|exact sc hE a1|exact sc hE a2|exact sc hE a3|exact sc hE a4|exact sc hE a5|exact sc hE a6|exact sc hE a7|exact sc hE a8|exact sc hE a9|exact sc hE l6_works|exact sr_cmp hE.tab (by omega)|exact st_lenL|exact st_sidx hix|exact st_slen|exact st_seq (by first|assumption|rfl)|exact st_sne (u:=false) (by first|assumption|rfl)|exact st_move'|exact st_load'|exact st_fieldAddr'|exact st_and_t'|exact st_and_f'|exact st_or_f'|exact st_or_t'|exact st_eq' (by first|assumption|rfl)|exact st_neq' (by first|assumption|rfl)|exact st_leq' (by first|assumption|rfl)|exact st_gtr' (by first|assumption|rfl)|exact st_len'|exact st_loadE') qK ?_|refine g_sk rfl inferInstance rfl qK ?_|refine g_un rfl inferInstance qK ?_|apply g_st|apply g_skip|apply g_ct|apply g_cf|apply g_ret|refine r_1 rfl ?_|apply g_cl|exact sc hE a1|exact sc hE a2|exact sc hE a3|exact sc hE a4|exact sc hE a5|exact sc hE a6|exact sc hE a7|exact sc hE a8|exact sc hE a9|exact sc hE l6_works|exact sr_whole hE.tab qD|exact sr_div hE.tab qO qD|exact sr_sub hE.tab qO|exact sr_neg hE.tab qO|exact sr_max hE.tab qO|exact sR_oneQ|exact sr_add hE.tab qO|exact sr_cmp hE.tab qO|exact sr_sign hE.tab qO|exact st_rem13 hrem|exact st_conv2 Tryz.underlying5 Tryz.underlying3 hcv|exact st_lenL|exact st_sidx hix|exact st_sadd qL|exact st_slen|exact st_seq qG|exact st_sne (u:=false) qG|exact st_add' qL|exact st_move'|exact st_assign'|exact st_load'|exact st_fieldAddr'|exact st_extract'|exact st_and_t'|exact st_and_f'|exact st_or_f'|exact st_or_t'|exact st_eq' qG|exact st_neq' qG|exact st_lss' qG|exact st_leq' qG|exact st_gtr' qG|exact st_geq' qG|exact st_len'|exact st_loadE'|exact Cv.rfl'|(intro _;simp only[newX,newL,ptrs,List.map,List.cons_append,List.nil_append])|intro _
  |false=>
   cases e3:decide ((40:Int)<(l.length:Int)) with
   |true=>
    refine ctr Tryz.func6 rfl Tryz.ntmps6 qE (fun _ _=>by kernel_rfl) fun X w hE=> ?_
    simp only [argE,Nat.zero_add,Nat.reduceAdd]
    repeat' first|kernel_rfl|apply g_seq|apply g_reg|apply g_nil|apply o_all|apply o_go|exact OpsT.nil|exact GuardC.nil|exact UndefC.nil|refine @GuardC.cons _ _ _ _ inferInstance ?_|refine @UndefC.cons _ _ _ inferInstance ?_|apply g_box|apply g_all|apply g_stf|apply g_stw|apply g_sto|apply g_asg|refine g_run rfl inferInstance (by first|exact sc hE a1|exact sc hE a2|exact sc hE a3|exact sc hE a4|exact sc hE a5|exact sc hE a6|exact sc hE a7|exact sc hE a8|exact sc hE a9|exact sc hE l6_works|exact sr_cmp hE.tab (by omega)|exact st_lenL|exact st_sidx hix|exact st_slen|exact st_seq (by first|assumption|rfl)|exact st_sne (u:=false) (by first|assumption|rfl)|exact st_move'|exact st_load'|exact st_fieldAddr'|exact st_and_t'|exact st_and_f'|exact st_or_f'|exact st_or_t'|exact st_eq' (by first|assumption|rfl)|exact st_neq' (by first|assumption|rfl)|exact st_leq' (by first|assumption|rfl)|exact st_gtr' (by first|assumption|rfl)|exact st_len'|exact st_loadE') qK ?_|refine g_sk rfl inferInstance rfl qK ?_|refine g_un rfl inferInstance qK ?_|apply g_st|apply g_skip|apply g_ct|apply g_cf|apply g_ret|refine r_1 rfl ?_|apply g_cl|exact sc hE a1|exact sc hE a2|exact sc hE a3|exact sc hE a4|exact sc hE a5|exact sc hE a6|exact sc hE a7|exact sc hE a8|exact sc hE a9|exact sc hE l6_works|exact sr_whole hE.tab qD|exact sr_div hE.tab qO qD|exact sr_sub hE.tab qO|exact sr_neg hE.tab qO|exact sr_max hE.tab qO|exact sR_oneQ|exact sr_add hE.tab qO|exact sr_cmp hE.tab qO|exact sr_sign hE.tab qO|exact st_rem13 hrem|exact st_conv2 Tryz.underlying5 Tryz.underlying3 hcv|exact st_lenL|exact st_sidx hix|exact st_sadd qL|exact st_slen|exact st_seq qG|exact st_sne (u:=false) qG|exact st_add' qL|exact st_move'|exact st_assign'|exact st_load'|exact st_fieldAddr'|exact st_extract'|exact st_and_t'|exact st_and_f'|exact st_or_f'|exact st_or_t'|exact st_eq' qG|exact st_neq' qG|exact st_lss' qG|exact st_leq' qG|exact st_gtr' qG|exact st_geq' qG|exact st_len'|exact st_loadE'|exact Cv.rfl'|(intro _;simp only[newX,newL,ptrs,List.map,List.cons_append,List.nil_append])|intro _
   |false=>
    refine ⟨fun _ _=>by kernel_rfl,fun _ h=>h,fun {X w vs} hG hX ha=> ?_⟩
    obtain ⟨v,us,rfl,h1,h2⟩:=ha.tail
    have h1:=few_qa (k:=3) qD h1 (by
     have:=of_decide_eq_false e1
     have:=of_decide_eq_false e2
     rw [decide_eq_true qO,decide_eq_true qO];rfl)
    exact (l6_nearX e1 e2 e3 hb).run hG hX (vs:=v::us) ⟨h1,h2⟩
end Go.Proofs.YtfepenpngklogaaGreatDoor
