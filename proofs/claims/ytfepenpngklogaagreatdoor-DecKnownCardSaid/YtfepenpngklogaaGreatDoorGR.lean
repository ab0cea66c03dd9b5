/- tallageref06: Put. -/
import Derived.Test.YtfepenpngklogaaGreatDoorGQ
import Derived.Test.YtfepenpngklogaaGreatDoorGP
import Derived.Test.YtfepenpngklogaaGreatDoorGJ
import Derived.Test.YtfepenpngklogaaGreatDoorGL
set_option maxHeartbeats 4000000
set_option maxRecDepth 20000
set_option synthInstance.maxHeartbeats 400000
set_option synthInstance.maxSize 4000
set_option linter.unusedSimpArgs false
set_option linter.unusedVariables false
namespace Go.Proofs.YtfepenpngklogaaGreatDoor
open Go Go.RowKit
variable {q:Rat} {p L:Nat} {n M:Int} {x:RawQ}
theorem hf_abs_ref (q:Rat) (h:0≤q):hf q=bif decide (0<cmpI (q.num.fmod (q.den:Int)+q.num.fmod (q.den:Int)) (q.den:Int)) || ((cmpI (q.num.fmod (q.den:Int)+q.num.fmod (q.den:Int)) (q.den:Int)==0)&&(cmpI ((q.num.fdiv (q.den:Int)).fmod 2) 0 != 0)) then q.num.fdiv (q.den:Int)+1 else q.num.fdiv (q.den:Int):=by
 obtain ⟨e1,e2⟩:=fr_parts q
 have hs:=side_half q
 rw [e1,e2] at hs
 rw [hs,fl_fdiv,←up_half]
 rw [side_half]
 congr 2
 have:(cmpI (q.floor.fmod 2) 0 != 0)=(q.floor%2==1):=by
  rw [Bool.eq_iff_iff,bne_iff_ne,beq_iff_eq,Int.fmod_eq_emod_of_nonneg _ qD]
  constructor
  ·intro h;rcases Int.emod_two_eq q.floor with h'|h'
   ·rw [h'] at h;exact absurd rfl h
   ·exact h'
  ·intro h;rw [h];decide
 rw [this]
theorem hf_nonneg(h:0≤q):0≤hf q:=by
 have h1:=Rat.le_floor_iff.2 (show ((0:Int):Rat)≤q from h)
 have hh:hf q=q.floor∨hf q=q.floor+1:=by
  unfold hf
  cases (decide (2*fr q<1) || (decide (2*fr q=1)&&decide (q.floor%2=0)))<;>simp
 omega
theorem putD_neg(h:q<0) (p:Nat):putD (hf q) p=sgL (cmpI (hf (-q)) 0 != 0) 45++ptL p (hf (-q)).toNat:=by
 have h0:0≤hf (-q):=hf_nonneg (by grind)
 have e:=hf_neg q
 rw [hf_neg] at h0 ⊢
 unfold putD
 have h1:(hf q).natAbs=(-hf q).toNat:=qO
 have h2:decide (hf q<0)=(cmpI (-hf q) 0 != 0):=by
  rw [Bool.eq_iff_iff,decide_eq_true_eq,bne_iff_ne]
  unfold cmpI
  constructor
  ·intro h;rw [if_neg qO,if_neg qO];decide
  ·intro h
   by_cases hz:hf q=0
   ·rw [hz] at h;exact absurd qD h
   ·omega
 rw [h1,h2]
theorem putD_pos(h:0≤q) (p:Nat):putD (hf q) p=ptL p (hf q).toNat:=by
 have h0:=hf_nonneg h
 unfold putD
 rw [decide_eq_false qO,show (hf q).natAbs=(hf q).toNat by omega]
 rfl
section
variable {P:Program} {w00:World} {X:List Nat} {L L':List Loc} {E E':List (Nat×VTy)} {n:Nat} {cs:List Code} {Q:Exit→Act→World→Prop}
structure Halt (p:Prop):Prop where
 out:p
theorem g_cutK {id:Nat} {o:Array Oper} {d:Bool} {y:Code} {s r:Nat} {T:VTy} (ss:List Nat) (T':VTy) [k:KeepC E ss E'] [hs:Look E s (.is (.pointer (some ⟨r,0,none⟩)))] [hu:UpdC L r T T' L'] (h1:Halt (GC P w00 X L E n [Code.seq (Code.region id o d) y] (Exit.then (fun a w=>TS w00 X L' E' n a w) Q))) (h2:Halt (GC P w00 X L' E' n cs Q)):GC P w00 X L E n (Code.seq (Code.region id o d) y::cs) Q:=⟨fun a w ht=>by
 have:=h1.out.run a w ht
 unfold CL at this
 rw [show CL P [] (Exit.then (fun a w=>TS w00 X L' E' n a w) Q)=fun a w=>(Exit.then (fun a w=>TS w00 X L' E' n a w) Q) .normal a w from rfl,then_self] at this
 refine Code.wp_mono (fun e a w h=> ?_) this
 cases e with
 |normal=>exact h2.out.run a w h
 |_=>exact h⟩
end
theorem c6_nput {N:Int} {K:Nat} (h0:0≤N) (hK:K≤1000000):Ctr Tryz.prog S1 46 [2] [.na N K] (fun _=> .is (Tx (putL N.toNat))):=
 ⟨fun _ _=>by kernel_rfl,fun _ h=>h,fun {X w vs} _ hX ha=>by
  obtain ⟨v,rfl,h⟩:=ha.one
  obtain ⟨s,A,n,c,xs,rfl,s0,d0,e0,n0⟩:=na_open h
  have:=put3_any (s:=s) s0 (Nat.le_refl _) d0 qO
  rw [e0] at this
  refine this.mono fun e w' g=> ?_
  obtain ⟨t,rfl,ht,hb⟩:=g
  have e:putI N=putL N.toNat:=by unfold putI;rw [if_neg qO,show N.natAbs=N.toNat by omega]
  rw [e] at ht
  exact ⟨_,rfl,by rw [tx_of t,ht];rfl,hb⟩⟩
theorem lfGR {p:Prop} (h:p:=by first|exact st_sadd (by first|omega|(simp only [List.length_append,List.length_take,List.length_drop,List.length_cons,List.length_nil];omega))|exact st_lenL|exact st_slen|exact st_seq (by first|assumption|rfl)|exact st_sne (by first|assumption|rfl)|exact st_sto (by assumption)|exact st_sfrom (by assumption)|exact st_add' (by assumption)|exact st_sub2 (by assumption)|exact st_max (by assumption)|exact st_min (by assumption)|exact st_seq (u:=true) (by first|assumption|rfl)|exact st_move'|exact st_assign'|exact st_load'|exact st_fieldAddr'|exact st_extract'|exact st_and_t'|exact st_and_f'|exact st_or_f'|exact st_or_t'|exact st_eq' (by first|assumption|rfl)|exact st_neq' (by first|assumption|rfl)|exact st_lss' (by first|assumption|rfl)|exact st_leq' (by first|assumption|rfl)|exact st_gtr' (by first|assumption|rfl)|exact st_len'|exact st_loadE'|exact OpsT.nil|exact GuardC.nil|exact UndefC.nil|exact s4_plain (by omega)|exact sc trivial ct|exact s3_div (by omega) hden|exact s3_div (by omega) (by decide)|exact s3_add (by omega)|exact s3_cmp (by omega)|exact s3_of (by decide)|exact s3_sign (by omega)|exact sc trivial cn|exact s4_neg (by omega)|exact s4_mul (by omega)|exact s4_sign (by omega)|exact sc hE.tab (l6_refX (by omega) (by decide))|exact sc hE a1|exact sc hE a2|exact sc hE a3|exact sc trivial b1|exact sc trivial b2|exact sc trivial b3|exact s6_buildI 6 (by omega)|exact s6_buildQ (by decide)|exact sr_sameU hE.tab (by omega) hsame|exact sc hE l6_works|exact ⟨fun _ _=>is_is (by simp)⟩|exact Cv.rfl'):p:=h
theorem c6_put_true(hL:L≤30) (hl:Lq q L) (hp:plN n=p) (hs:decide (cmpQ (q*t10 p) 0<0)=true):Ctr Tryz.prog S1 11 [1,0] [.qa q L, .is (.int .i64 n)] (fun _=> .is (Tx (putD (hf (q*t10 p)) p))):=by
 have hp40:=plN_le n
 rw [hp] at hp40
 obtain ⟨m,hm1,hm2⟩:∃ m,min n 40=m∧max 0 m=(p:Int):=⟨_,rfl,by rw [←hp];unfold plN;omega⟩
 have ct:=c6_ten (n:=(p:Int)) rfl hp40
 have hy0:0≤(-(q*t10 p)):=by
  have:=cmpQ_lt (p:=q*t10 p) (q:=0)
  first
   |(have h:=this.1 (of_decide_eq_true hs);grind)
   |(have h:=fun g=>of_decide_eq_false hs (this.2 g);grind)
 have hlq:=pow_Lq hl hp40
 have hM:=hf_abs hlq
 have hres:putD (hf (q*t10 p)) p=sgL (cmpI (hf (-(q*t10 p))) 0 != 0) 45++ptL p (hf (-(q*t10 p))).toNat:=putD_neg (by have:=cmpQ_lt (p:=q*t10 p) (q:=0);exact this.1 (of_decide_eq_true hs)) p
 have hyl:Lq (-(q*t10 p)) (L+5):=hlq.neg
 rw [hres]
 clear hres hM
 have hN0:=hf_nonneg hy0
 have hNl:=hf_abs hyl
 have hfe:=hf_abs_ref (-(q*t10 p)) hy0
 have hden:(((-(q*t10 p)).den:Nat):Int)≠0:=by have:=den_pos (-(q*t10 p));omega
 generalize hN:hf (-(q*t10 p))=N at*
 have cn:=c6_nput (N:=N) (K:=L+8) hN0 qO
 have hNl8:(N.natAbs:Int)<4294967296^(L+8):=Int.lt_of_lt_of_le hNl (pow_mono qD qO)
 have hlen:=put_len (K:=L+5+2) qO (V:=N) qO
 clear hN hy0 hp hl hNl hlq hyl
 refine ctr Tryz.func11 rfl Tryz.ntmps11 qE (fun _ _=>by kernel_rfl) fun X w hE=> ?_
 simp only [argE,Nat.zero_add,Nat.reduceAdd]
 repeat' first|kernel_rfl|apply g_cutK (s:=6) (id:=9) [6,5,1] (.nc N (L+8))|apply g_seq|apply g_reg|apply g_nil|apply g_draw (id:=7) [] [] 6|apply g_drawE (id:=8) [] [] 9 [5,6]|apply z_sto|apply z_asg|apply z_cl|apply o_all|apply o_go|refine @GuardC.cons _ _ _ _ inferInstance ?_|refine @UndefC.cons _ _ _ inferInstance ?_|apply g_box|apply g_all|apply g_stf|apply g_stw|apply g_sto|apply g_asg|refine g_run rfl inferInstance lfGR qK ?_|refine g_sk rfl inferInstance rfl qK ?_|refine g_un rfl inferInstance qK ?_|apply g_st|apply g_skip|apply g_ct|apply g_cf|apply g_ret|refine r_1 rfl ?_|apply g_blk|apply g_eb|apply g_ex|apply e_t|apply e_h|refine e_o rfl ?_|apply r_t|apply r_b|apply g_cl|exact lfGR|(intro _;simp only[newX,newL,ptrs,List.map,List.cons_append,List.nil_append])|intro _
 ·refine ⟨?_⟩
  cases t1:decide ((0:Int)<cmpI ((-(q*t10 p)).num.fmod ((-(q*t10 p)).den:Int)+(-(q*t10 p)).num.fmod ((-(q*t10 p)).den:Int)) ((-(q*t10 p)).den:Int)) with
  |true=>
   have HE:=Lib.hid (p:=(-(q*t10 p)).num.fdiv ((-(q*t10 p)).den:Int)+1=N) (by rw [hfe,t1];rfl)
   clear hfe
   repeat' first|kernel_rfl|exact g_done fun _ _ h=>(h.keep [6,5,1]).locs (.same (.same (.same (.cons (fun _ _ v g=>nc_nc HE.out hNl8 v g) (.same .nil)))))|apply g_seq|apply g_reg|apply g_nil|apply g_draw (id:=10) [] [] 3|apply o_all|apply o_go|refine @GuardC.cons _ _ _ _ inferInstance ?_|refine @UndefC.cons _ _ _ inferInstance ?_|apply g_box|apply g_all|apply g_stf|apply g_stw|apply g_sto|apply g_asg|refine g_run rfl inferInstance lfGR qK ?_|refine g_sk rfl inferInstance rfl qK ?_|refine g_un rfl inferInstance qK ?_|apply g_st|apply g_skip|apply g_ct|apply g_cf|apply g_ret|refine r_1 rfl ?_|apply g_blk|apply g_eb|apply g_ex|apply e_t|apply e_h|refine e_o rfl ?_|apply r_t|apply r_b|apply g_cl|exact lfGR|(intro _;simp only[newX,newL,ptrs,List.map,List.cons_append,List.nil_append])|intro _
  |false=>
   cases t2:(cmpI ((-(q*t10 p)).num.fmod ((-(q*t10 p)).den:Int)+(-(q*t10 p)).num.fmod ((-(q*t10 p)).den:Int)) ((-(q*t10 p)).den:Int)==0) with
   |true=>
    cases t3:(cmpI (((-(q*t10 p)).num.fdiv ((-(q*t10 p)).den:Int)).fmod 2) 0 != 0) with
    |true=>
     have HE:=Lib.hid (p:=(-(q*t10 p)).num.fdiv ((-(q*t10 p)).den:Int)+1=N) (by rw [hfe,t1,t2,t3];rfl)
     clear hfe
     repeat' first|kernel_rfl|exact g_done fun _ _ h=>(h.keep [6,5,1]).locs (.same (.same (.same (.cons (fun _ _ v g=>nc_nc HE.out hNl8 v g) (.same .nil)))))|apply g_seq|apply g_reg|apply g_nil|apply g_draw (id:=10) [] [] 3|apply o_all|apply o_go|refine @GuardC.cons _ _ _ _ inferInstance ?_|refine @UndefC.cons _ _ _ inferInstance ?_|apply g_box|apply g_all|apply g_stf|apply g_stw|apply g_sto|apply g_asg|refine g_run rfl inferInstance lfGR qK ?_|refine g_sk rfl inferInstance rfl qK ?_|refine g_un rfl inferInstance qK ?_|apply g_st|apply g_skip|apply g_ct|apply g_cf|apply g_ret|refine r_1 rfl ?_|apply g_blk|apply g_eb|apply g_ex|apply e_t|apply e_h|refine e_o rfl ?_|apply r_t|apply r_b|apply g_cl|exact lfGR|(intro _;simp only[newX,newL,ptrs,List.map,List.cons_append,List.nil_append])|intro _
    |false=>
     have HE:=Lib.hid (p:=(-(q*t10 p)).num.fdiv ((-(q*t10 p)).den:Int)=N) (by rw [hfe,t1,t2,t3];rfl)
     clear hfe
     repeat' first|kernel_rfl|exact g_done fun _ _ h=>(h.keep [6,5,1]).locs (.same (.same (.same (.cons (fun _ _ v g=>nc_nc HE.out hNl8 v g) (.same .nil)))))|apply g_seq|apply g_reg|apply g_nil|apply g_draw (id:=10) [] [] 3|apply o_all|apply o_go|refine @GuardC.cons _ _ _ _ inferInstance ?_|refine @UndefC.cons _ _ _ inferInstance ?_|apply g_box|apply g_all|apply g_stf|apply g_stw|apply g_sto|apply g_asg|refine g_run rfl inferInstance lfGR qK ?_|refine g_sk rfl inferInstance rfl qK ?_|refine g_un rfl inferInstance qK ?_|apply g_st|apply g_skip|apply g_ct|apply g_cf|apply g_ret|refine r_1 rfl ?_|apply g_blk|apply g_eb|apply g_ex|apply e_t|apply e_h|refine e_o rfl ?_|apply r_t|apply r_b|apply g_cl|exact lfGR|(intro _;simp only[newX,newL,ptrs,List.map,List.cons_append,List.nil_append])|intro _
   |false=>
    have HE:=Lib.hid (p:=(-(q*t10 p)).num.fdiv ((-(q*t10 p)).den:Int)=N) (by rw [hfe,t1,t2];rfl)
    clear hfe
    repeat' first|kernel_rfl|exact g_done fun _ _ h=>(h.keep [6,5,1]).locs (.same (.same (.same (.cons (fun _ _ v g=>nc_nc HE.out hNl8 v g) (.same .nil)))))|apply g_seq|apply g_reg|apply g_nil|apply g_draw (id:=10) [] [] 3|apply o_all|apply o_go|refine @GuardC.cons _ _ _ _ inferInstance ?_|refine @UndefC.cons _ _ _ inferInstance ?_|apply g_box|apply g_all|apply g_stf|apply g_stw|apply g_sto|apply g_asg|refine g_run rfl inferInstance lfGR qK ?_|refine g_sk rfl inferInstance rfl qK ?_|refine g_un rfl inferInstance qK ?_|apply g_st|apply g_skip|apply g_ct|apply g_cf|apply g_ret|refine r_1 rfl ?_|apply g_blk|apply g_eb|apply g_ex|apply e_t|apply e_h|refine e_o rfl ?_|apply r_t|apply r_b|apply g_cl|exact lfGR|(intro _;simp only[newX,newL,ptrs,List.map,List.cons_append,List.nil_append])|intro _
 ·refine ⟨?_⟩
  clear hfe
  repeat' first|kernel_rfl|apply g_seq|apply g_reg|apply g_nil|apply g_draw (id:=15) [] [] 14|apply o_all|apply o_go|refine @GuardC.cons _ _ _ _ inferInstance ?_|refine @UndefC.cons _ _ _ inferInstance ?_|apply g_box|apply g_all|apply g_stf|apply g_stw|apply g_sto|apply g_asg|refine g_run rfl inferInstance lfGR qK ?_|refine g_sk rfl inferInstance rfl qK ?_|refine g_un rfl inferInstance qK ?_|apply g_st|apply g_skip|apply g_ct|apply g_cf|apply g_ret|refine r_1 rfl ?_|apply g_blk|apply g_eb|apply g_ex|apply e_t|apply e_h|refine e_o rfl ?_|apply r_t|apply r_b|apply g_cl|exact lfGR|(intro _;simp only[newX,newL,ptrs,List.map,List.cons_append,List.nil_append])|intro _
  refine g_stop fun a w h=> ?_
  have hTt:∀ j,j=p+1 - (putL N.toNat).length→List.replicate j 48++putL N.toNat=pdL (p+1) N.toNat:=fun j e=>by rw [e];rfl
  have hT:=pdL_len (p+1) N.toNat
  unfold ptL
  generalize pdL (p+1) N.toNat=T at*
  generalize putL N.toNat=t at*
  refine cw_loop (fun k a w=>∃ j:Nat,j+k=p+1 - t.length∧TS _ _ [(_,_),(_,_),(_,_),(_,VTy.nc N (L+8)),(_,_)] [(13, .is (Tx (List.replicate j 48++t))),(6, .is (.pointer (some ⟨_,0,none⟩))),(5, .is (.bool true)),(1, .is (.int .i64 (p:Int)))] 97 a w) (p+1 - t.length) ⟨0,by omega,by have h2:=h.keep [13,6,5,1];exact h2⟩ ?_
  clear h cn ct
  rintro k a w ⟨j,hj,h⟩
  have hrl:(List.replicate j (48:UInt8)).length=j:=List.length_replicate
  have hrt:(List.replicate j (48:UInt8)++t).length=j+t.length:=by rw [List.length_append,hrl]
  by_cases hlt:j<p+1 - t.length
  ·have hc:decide (((List.replicate j (48:UInt8)++t).length:Int)≤(p:Int))=true:=decide_eq_true qO
   clear hTt
   refine g_of h ?_
   clear h
   repeat' first|kernel_rfl|exact g_done fun _ _ h=>⟨k - 1,by omega,j+1,by omega,h.keep [13,6,5,1]⟩|apply g_seq|apply g_reg|apply g_nil|apply o_all|apply o_go|refine @GuardC.cons _ _ _ _ inferInstance ?_|refine @UndefC.cons _ _ _ inferInstance ?_|apply g_box|apply g_all|apply g_stf|apply g_stw|apply g_sto|apply g_asg|refine g_run rfl inferInstance lfGR qK ?_|refine g_sk rfl inferInstance rfl qK ?_|refine g_un rfl inferInstance qK ?_|apply g_st|apply g_skip|apply g_ct|apply g_cf|apply g_ret|refine r_1 rfl ?_|apply g_blk|apply g_eb|apply g_ex|apply e_t|apply e_h|refine e_o rfl ?_|apply r_t|apply r_b|apply g_cl|exact lfGR|(intro _;simp only[newX,newL,ptrs,List.map,List.cons_append,List.nil_append])|intro _
  ·have hc:decide (((List.replicate j (48:UInt8)++t).length:Int)≤(p:Int))=false:=decide_eq_false qO
   have hTe:=hTt j qO
   have hTl:T.length=j+t.length:=by rw [←hTe,hrt]
   rw [hTe] at h hc
   clear hTt hTe hrl hrt
   have hw4:IntKind.i64.wrap ((T.length:Int) - (p:Int))=((T.length - p:Nat):Int):=by rw [IntKind.wrap_i64];omega
   have hw5:0≤((T.length - p:Nat):Int)∧((T.length - p:Nat):Int)≤(T.length:Int):=qO
   have hw6:decide ((0:Int)<(p:Int))=decide (0<p):=decide_eq_decide.2 qO
   rw [←hw6]
   cases hn0:(cmpI N 0 != 0) with
   |true=>
    cases hp0:decide ((0:Int)<(p:Int)) with
    |true=>
     simp only [sgL,cond_true,cond_false]
     rw [List.append_cons]
     refine g_of h ?_
     clear h
     repeat' first|kernel_rfl|apply g_seq|apply g_reg|apply g_nil|apply g_draw (id:=15) [] [] 14|apply o_all|apply o_go|refine @GuardC.cons _ _ _ _ inferInstance ?_|refine @UndefC.cons _ _ _ inferInstance ?_|apply g_box|apply g_all|apply g_stf|apply g_stw|apply g_sto|apply g_asg|refine g_run rfl inferInstance lfGR qK ?_|refine g_sk rfl inferInstance rfl qK ?_|refine g_un rfl inferInstance qK ?_|apply g_st|apply g_skip|apply g_ct|apply g_cf|apply g_ret|refine r_1 rfl ?_|apply g_blk|apply g_eb|apply g_ex|apply e_t|apply e_h|refine e_o rfl ?_|apply r_t|apply r_b|apply g_cl|exact lfGR|(intro _;simp only[newX,newL,ptrs,List.map,List.cons_append,List.nil_append])|intro _
    |false=>
     simp only [sgL,cond_true,cond_false]
     refine g_of h ?_
     clear h
     repeat' first|kernel_rfl|apply g_seq|apply g_reg|apply g_nil|apply g_draw (id:=15) [] [] 14|apply o_all|apply o_go|refine @GuardC.cons _ _ _ _ inferInstance ?_|refine @UndefC.cons _ _ _ inferInstance ?_|apply g_box|apply g_all|apply g_stf|apply g_stw|apply g_sto|apply g_asg|refine g_run rfl inferInstance lfGR qK ?_|refine g_sk rfl inferInstance rfl qK ?_|refine g_un rfl inferInstance qK ?_|apply g_st|apply g_skip|apply g_ct|apply g_cf|apply g_ret|refine r_1 rfl ?_|apply g_blk|apply g_eb|apply g_ex|apply e_t|apply e_h|refine e_o rfl ?_|apply r_t|apply r_b|apply g_cl|exact lfGR|(intro _;simp only[newX,newL,ptrs,List.map,List.cons_append,List.nil_append])|intro _
   |false=>
    cases hp0:decide ((0:Int)<(p:Int)) with
    |true=>
     simp only [sgL,cond_true,cond_false]
     rw [List.append_cons]
     refine g_of h ?_
     clear h
     repeat' first|kernel_rfl|apply g_seq|apply g_reg|apply g_nil|apply g_draw (id:=15) [] [] 14|apply o_all|apply o_go|refine @GuardC.cons _ _ _ _ inferInstance ?_|refine @UndefC.cons _ _ _ inferInstance ?_|apply g_box|apply g_all|apply g_stf|apply g_stw|apply g_sto|apply g_asg|refine g_run rfl inferInstance lfGR qK ?_|refine g_sk rfl inferInstance rfl qK ?_|refine g_un rfl inferInstance qK ?_|apply g_st|apply g_skip|apply g_ct|apply g_cf|apply g_ret|refine r_1 rfl ?_|apply g_blk|apply g_eb|apply g_ex|apply e_t|apply e_h|refine e_o rfl ?_|apply r_t|apply r_b|apply g_cl|exact lfGR|(intro _;simp only[newX,newL,ptrs,List.map,List.cons_append,List.nil_append])|intro _
    |false=>
     simp only [sgL,cond_true,cond_false]
     refine g_of h ?_
     clear h
     repeat' first|kernel_rfl|apply g_seq|apply g_reg|apply g_nil|apply g_draw (id:=15) [] [] 14|apply o_all|apply o_go|refine @GuardC.cons _ _ _ _ inferInstance ?_|refine @UndefC.cons _ _ _ inferInstance ?_|apply g_box|apply g_all|apply g_stf|apply g_stw|apply g_sto|apply g_asg|refine g_run rfl inferInstance lfGR qK ?_|refine g_sk rfl inferInstance rfl qK ?_|refine g_un rfl inferInstance qK ?_|apply g_st|apply g_skip|apply g_ct|apply g_cf|apply g_ret|refine r_1 rfl ?_|apply g_blk|apply g_eb|apply g_ex|apply e_t|apply e_h|refine e_o rfl ?_|apply r_t|apply r_b|apply g_cl|exact lfGR|(intro _;simp only[newX,newL,ptrs,List.map,List.cons_append,List.nil_append])|intro _
theorem c6_put_false(hL:L≤30) (hl:Lq q L) (hp:plN n=p) (hs:decide (cmpQ (q*t10 p) 0<0)=false):Ctr Tryz.prog S1 11 [1,0] [.qa q L, .is (.int .i64 n)] (fun _=> .is (Tx (putD (hf (q*t10 p)) p))):=by
 have hp40:=plN_le n
 rw [hp] at hp40
 obtain ⟨m,hm1,hm2⟩:∃ m,min n 40=m∧max 0 m=(p:Int):=⟨_,rfl,by rw [←hp];unfold plN;omega⟩
 have ct:=c6_ten (n:=(p:Int)) rfl hp40
 have hy0:0≤(q*t10 p):=by
  have:=cmpQ_lt (p:=q*t10 p) (q:=0)
  first
   |(have h:=this.1 (of_decide_eq_true hs);grind)
   |(have h:=fun g=>of_decide_eq_false hs (this.2 g);grind)
 have hlq:=pow_Lq hl hp40
 have hM:=hf_abs hlq
 have hres:putD (hf (q*t10 p)) p=ptL p (hf (q*t10 p)).toNat:=putD_pos hy0 p
 have hyl:Lq (q*t10 p) (L+5):=hlq
 rw [hres]
 clear hres hM
 have hN0:=hf_nonneg hy0
 have hNl:=hf_abs hyl
 have hfe:=hf_abs_ref (q*t10 p) hy0
 have hden:(((q*t10 p).den:Nat):Int)≠0:=by have:=den_pos (q*t10 p);omega
 generalize hN:hf (q*t10 p)=N at*
 have cn:=c6_nput (N:=N) (K:=L+8) hN0 qO
 have hNl8:(N.natAbs:Int)<4294967296^(L+8):=Int.lt_of_lt_of_le hNl (pow_mono qD qO)
 have hlen:=put_len (K:=L+5+2) qO (V:=N) qO
 clear hN hy0 hp hl hNl hlq hyl
 refine ctr Tryz.func11 rfl Tryz.ntmps11 qE (fun _ _=>by kernel_rfl) fun X w hE=> ?_
 simp only [argE,Nat.zero_add,Nat.reduceAdd]
 repeat' first|kernel_rfl|apply g_cutK (s:=6) (id:=9) [6,5,1] (.nc N (L+8))|apply g_seq|apply g_reg|apply g_nil|apply g_draw (id:=7) [] [] 6|apply g_drawE (id:=8) [] [] 9 [5,6]|apply z_sto|apply z_asg|apply z_cl|apply o_all|apply o_go|refine @GuardC.cons _ _ _ _ inferInstance ?_|refine @UndefC.cons _ _ _ inferInstance ?_|apply g_box|apply g_all|apply g_stf|apply g_stw|apply g_sto|apply g_asg|refine g_run rfl inferInstance lfGR qK ?_|refine g_sk rfl inferInstance rfl qK ?_|refine g_un rfl inferInstance qK ?_|apply g_st|apply g_skip|apply g_ct|apply g_cf|apply g_ret|refine r_1 rfl ?_|apply g_blk|apply g_eb|apply g_ex|apply e_t|apply e_h|refine e_o rfl ?_|apply r_t|apply r_b|apply g_cl|exact lfGR|(intro _;simp only[newX,newL,ptrs,List.map,List.cons_append,List.nil_append])|intro _
 ·refine ⟨?_⟩
  cases t1:decide ((0:Int)<cmpI ((q*t10 p).num.fmod ((q*t10 p).den:Int)+(q*t10 p).num.fmod ((q*t10 p).den:Int)) ((q*t10 p).den:Int)) with
  |true=>
   have HE:=Lib.hid (p:=(q*t10 p).num.fdiv ((q*t10 p).den:Int)+1=N) (by rw [hfe,t1];rfl)
   clear hfe
   repeat' first|kernel_rfl|exact g_done fun _ _ h=>(h.keep [6,5,1]).locs (.same (.same (.same (.cons (fun _ _ v g=>nc_nc HE.out hNl8 v g) (.same .nil)))))|apply g_seq|apply g_reg|apply g_nil|apply g_draw (id:=10) [] [] 3|apply o_all|apply o_go|refine @GuardC.cons _ _ _ _ inferInstance ?_|refine @UndefC.cons _ _ _ inferInstance ?_|apply g_box|apply g_all|apply g_stf|apply g_stw|apply g_sto|apply g_asg|refine g_run rfl inferInstance lfGR qK ?_|refine g_sk rfl inferInstance rfl qK ?_|refine g_un rfl inferInstance qK ?_|apply g_st|apply g_skip|apply g_ct|apply g_cf|apply g_ret|refine r_1 rfl ?_|apply g_blk|apply g_eb|apply g_ex|apply e_t|apply e_h|refine e_o rfl ?_|apply r_t|apply r_b|apply g_cl|exact lfGR|(intro _;simp only[newX,newL,ptrs,List.map,List.cons_append,List.nil_append])|intro _
  |false=>
   cases t2:(cmpI ((q*t10 p).num.fmod ((q*t10 p).den:Int)+(q*t10 p).num.fmod ((q*t10 p).den:Int)) ((q*t10 p).den:Int)==0) with
   |true=>
    cases t3:(cmpI (((q*t10 p).num.fdiv ((q*t10 p).den:Int)).fmod 2) 0 != 0) with
    |true=>
     have HE:=Lib.hid (p:=(q*t10 p).num.fdiv ((q*t10 p).den:Int)+1=N) (by rw [hfe,t1,t2,t3];rfl)
     clear hfe
     repeat' first|kernel_rfl|exact g_done fun _ _ h=>(h.keep [6,5,1]).locs (.same (.same (.same (.cons (fun _ _ v g=>nc_nc HE.out hNl8 v g) (.same .nil)))))|apply g_seq|apply g_reg|apply g_nil|apply g_draw (id:=10) [] [] 3|apply o_all|apply o_go|refine @GuardC.cons _ _ _ _ inferInstance ?_|refine @UndefC.cons _ _ _ inferInstance ?_|apply g_box|apply g_all|apply g_stf|apply g_stw|apply g_sto|apply g_asg|refine g_run rfl inferInstance lfGR qK ?_|refine g_sk rfl inferInstance rfl qK ?_|refine g_un rfl inferInstance qK ?_|apply g_st|apply g_skip|apply g_ct|apply g_cf|apply g_ret|refine r_1 rfl ?_|apply g_blk|apply g_eb|apply g_ex|apply e_t|apply e_h|refine e_o rfl ?_|apply r_t|apply r_b|apply g_cl|exact lfGR|(intro _;simp only[newX,newL,ptrs,List.map,List.cons_append,List.nil_append])|intro _
    |false=>
     have HE:=Lib.hid (p:=(q*t10 p).num.fdiv ((q*t10 p).den:Int)=N) (by rw [hfe,t1,t2,t3];rfl)
     clear hfe
     repeat' first|kernel_rfl|exact g_done fun _ _ h=>(h.keep [6,5,1]).locs (.same (.same (.same (.cons (fun _ _ v g=>nc_nc HE.out hNl8 v g) (.same .nil)))))|apply g_seq|apply g_reg|apply g_nil|apply g_draw (id:=10) [] [] 3|apply o_all|apply o_go|refine @GuardC.cons _ _ _ _ inferInstance ?_|refine @UndefC.cons _ _ _ inferInstance ?_|apply g_box|apply g_all|apply g_stf|apply g_stw|apply g_sto|apply g_asg|refine g_run rfl inferInstance lfGR qK ?_|refine g_sk rfl inferInstance rfl qK ?_|refine g_un rfl inferInstance qK ?_|apply g_st|apply g_skip|apply g_ct|apply g_cf|apply g_ret|refine r_1 rfl ?_|apply g_blk|apply g_eb|apply g_ex|apply e_t|apply e_h|refine e_o rfl ?_|apply r_t|apply r_b|apply g_cl|exact lfGR|(intro _;simp only[newX,newL,ptrs,List.map,List.cons_append,List.nil_append])|intro _
   |false=>
    have HE:=Lib.hid (p:=(q*t10 p).num.fdiv ((q*t10 p).den:Int)=N) (by rw [hfe,t1,t2];rfl)
    clear hfe
    repeat' first|kernel_rfl|exact g_done fun _ _ h=>(h.keep [6,5,1]).locs (.same (.same (.same (.cons (fun _ _ v g=>nc_nc HE.out hNl8 v g) (.same .nil)))))|apply g_seq|apply g_reg|apply g_nil|apply g_draw (id:=10) [] [] 3|apply o_all|apply o_go|refine @GuardC.cons _ _ _ _ inferInstance ?_|refine @UndefC.cons _ _ _ inferInstance ?_|apply g_box|apply g_all|apply g_stf|apply g_stw|apply g_sto|apply g_asg|refine g_run rfl inferInstance lfGR qK ?_|refine g_sk rfl inferInstance rfl qK ?_|refine g_un rfl inferInstance qK ?_|apply g_st|apply g_skip|apply g_ct|apply g_cf|apply g_ret|refine r_1 rfl ?_|apply g_blk|apply g_eb|apply g_ex|apply e_t|apply e_h|refine e_o rfl ?_|apply r_t|apply r_b|apply g_cl|exact lfGR|(intro _;simp only[newX,newL,ptrs,List.map,List.cons_append,List.nil_append])|intro _
 ·refine ⟨?_⟩
  clear hfe
  repeat' first|kernel_rfl|apply g_seq|apply g_reg|apply g_nil|apply g_draw (id:=15) [] [] 14|apply o_all|apply o_go|refine @GuardC.cons _ _ _ _ inferInstance ?_|refine @UndefC.cons _ _ _ inferInstance ?_|apply g_box|apply g_all|apply g_stf|apply g_stw|apply g_sto|apply g_asg|refine g_run rfl inferInstance lfGR qK ?_|refine g_sk rfl inferInstance rfl qK ?_|refine g_un rfl inferInstance qK ?_|apply g_st|apply g_skip|apply g_ct|apply g_cf|apply g_ret|refine r_1 rfl ?_|apply g_blk|apply g_eb|apply g_ex|apply e_t|apply e_h|refine e_o rfl ?_|apply r_t|apply r_b|apply g_cl|exact lfGR|(intro _;simp only[newX,newL,ptrs,List.map,List.cons_append,List.nil_append])|intro _
  refine g_stop fun a w h=> ?_
  have hTt:∀ j,j=p+1 - (putL N.toNat).length→List.replicate j 48++putL N.toNat=pdL (p+1) N.toNat:=fun j e=>by rw [e];rfl
  have hT:=pdL_len (p+1) N.toNat
  unfold ptL
  generalize pdL (p+1) N.toNat=T at*
  generalize putL N.toNat=t at*
  refine cw_loop (fun k a w=>∃ j:Nat,j+k=p+1 - t.length∧TS _ _ [(_,_),(_,_),(_,_),(_,VTy.nc N (L+8)),(_,_)] [(13, .is (Tx (List.replicate j 48++t))),(6, .is (.pointer (some ⟨_,0,none⟩))),(5, .is (.bool false)),(1, .is (.int .i64 (p:Int)))] 97 a w) (p+1 - t.length) ⟨0,by omega,by have h2:=h.keep [13,6,5,1];exact h2⟩ ?_
  clear h cn ct
  rintro k a w ⟨j,hj,h⟩
  have hrl:(List.replicate j (48:UInt8)).length=j:=List.length_replicate
  have hrt:(List.replicate j (48:UInt8)++t).length=j+t.length:=by rw [List.length_append,hrl]
  by_cases hlt:j<p+1 - t.length
  ·have hc:decide (((List.replicate j (48:UInt8)++t).length:Int)≤(p:Int))=true:=decide_eq_true qO
   clear hTt
   refine g_of h ?_
   clear h
   repeat' first|kernel_rfl|exact g_done fun _ _ h=>⟨k - 1,by omega,j+1,by omega,h.keep [13,6,5,1]⟩|apply g_seq|apply g_reg|apply g_nil|apply o_all|apply o_go|refine @GuardC.cons _ _ _ _ inferInstance ?_|refine @UndefC.cons _ _ _ inferInstance ?_|apply g_box|apply g_all|apply g_stf|apply g_stw|apply g_sto|apply g_asg|refine g_run rfl inferInstance lfGR qK ?_|refine g_sk rfl inferInstance rfl qK ?_|refine g_un rfl inferInstance qK ?_|apply g_st|apply g_skip|apply g_ct|apply g_cf|apply g_ret|refine r_1 rfl ?_|apply g_blk|apply g_eb|apply g_ex|apply e_t|apply e_h|refine e_o rfl ?_|apply r_t|apply r_b|apply g_cl|exact lfGR|(intro _;simp only[newX,newL,ptrs,List.map,List.cons_append,List.nil_append])|intro _
  ·have hc:decide (((List.replicate j (48:UInt8)++t).length:Int)≤(p:Int))=false:=decide_eq_false qO
   have hTe:=hTt j qO
   have hTl:T.length=j+t.length:=by rw [←hTe,hrt]
   rw [hTe] at h hc
   clear hTt hTe hrl hrt
   have hw4:IntKind.i64.wrap ((T.length:Int) - (p:Int))=((T.length - p:Nat):Int):=by rw [IntKind.wrap_i64];omega
   have hw5:0≤((T.length - p:Nat):Int)∧((T.length - p:Nat):Int)≤(T.length:Int):=qO
   have hw6:decide ((0:Int)<(p:Int))=decide (0<p):=decide_eq_decide.2 qO
   rw [←hw6]
   cases hp0:decide ((0:Int)<(p:Int)) with
   |true=>
    simp only [sgL,cond_true,cond_false]
    rw [List.append_cons]
    refine g_of h ?_
    clear h
    repeat' first|kernel_rfl|apply g_seq|apply g_reg|apply g_nil|apply g_draw (id:=15) [] [] 14|apply o_all|apply o_go|refine @GuardC.cons _ _ _ _ inferInstance ?_|refine @UndefC.cons _ _ _ inferInstance ?_|apply g_box|apply g_all|apply g_stf|apply g_stw|apply g_sto|apply g_asg|refine g_run rfl inferInstance lfGR qK ?_|refine g_sk rfl inferInstance rfl qK ?_|refine g_un rfl inferInstance qK ?_|apply g_st|apply g_skip|apply g_ct|apply g_cf|apply g_ret|refine r_1 rfl ?_|apply g_blk|apply g_eb|apply g_ex|apply e_t|apply e_h|refine e_o rfl ?_|apply r_t|apply r_b|apply g_cl|exact lfGR|(intro _;simp only[newX,newL,ptrs,List.map,List.cons_append,List.nil_append])|intro _
   |false=>
    simp only [sgL,cond_true,cond_false]
    refine g_of h ?_
    clear h
    repeat' first|kernel_rfl|apply g_seq|apply g_reg|apply g_nil|apply g_draw (id:=15) [] [] 14|apply o_all|apply o_go|refine @GuardC.cons _ _ _ _ inferInstance ?_|refine @UndefC.cons _ _ _ inferInstance ?_|apply g_box|apply g_all|apply g_stf|apply g_stw|apply g_sto|apply g_asg|refine g_run rfl inferInstance lfGR qK ?_|refine g_sk rfl inferInstance rfl qK ?_|refine g_un rfl inferInstance qK ?_|apply g_st|apply g_skip|apply g_ct|apply g_cf|apply g_ret|refine r_1 rfl ?_|apply g_blk|apply g_eb|apply g_ex|apply e_t|apply e_h|refine e_o rfl ?_|apply r_t|apply r_b|apply g_cl|exact lfGR|(intro _;simp only[newX,newL,ptrs,List.map,List.cons_append,List.nil_append])|intro _
theorem c6_put(hL:L≤30):Ctr Tryz.prog S1 11 [1,0] [.qa q L, .is (.int .i64 n)] (fun _=> .is (Tx (putD (hf (q*t10 (plN n))) (plN n)))):=by
 refine ctrF (F:=Lq q L) (fun ha=> ?_) (fun _ _=>by kernel_rfl) fun hl=> ?_
 ·obtain ⟨v,us,rfl,h1,_⟩:=ha.tail
  exact (qa_Lq h1).1
 cases hs:decide (cmpQ (q*t10 (plN n)) 0<0) with
 |true=>exact c6_put_true hL hl rfl hs
 |false=>exact c6_put_false hL hl rfl hs
theorem plN_nat(h:p≤40):plN (p:Int)=p:=by unfold plN;omega
theorem t10_pos (p:Nat):0<t10 p:=by
 have:(0:Int)<10^p:=Int.pow_pos qD
 exact Rat.intCast_lt_intCast.2 this
theorem dq_put{t l:List UInt8} (h:PutOf M p t l):dq l=(M:Rat) / t10 p:=by
 unfold dq dqv
 have e:sgv (ng l) (dval (wh l++pc l))=M:=put_dn h
 rw [e,h.pc,divInt_div]
theorem pct_tail:∀ (x:UInt8) (r:List UInt8),[37]=x::r→isD x=false∧x≠46:=fun x r e=>by
 injection e with e _;rw [←e];exact ⟨by decide,by decide⟩
theorem div_le {a b c:Rat} (hb:0<b) (h:a≤c*b):a / b≤c:=by
 rw [Rat.div_def]
 have h1:=Rat.mul_le_mul_of_nonneg_right h (Rat.le_of_lt (Rat.inv_pos.2 hb))
 rw [Rat.mul_assoc,Rat.mul_inv_cancel _ (fun e=>by rw [e] at hb;exact absurd hb qD),Rat.mul_one] at h1
 exact h1
theorem shE_put(h0:0≤M) (h1:M≤100*10^p) (hp:p≤4):shE (putD M p++[37])=0∧dq (putD M p++[37])=(M:Rat) / t10 p:=by
 have hP:=put_parts M p pct_tail
 have hdq:=dq_put hP
 refine ⟨?_,hdq⟩
 have hM7:M<10^7:=by
  have:(10:Int)^p≤10^4:=pow_mono qD hp
  have e:(10:Int)^4=10000:=by decide
  have e7:(10:Int)^7=10000000:=by decide
  omega
 have hl:=putL_len_of (N:=M) 7 hM7
 have hl':(putL M.natAbs).length≤8:=by rw [show M.natAbs=M.toNat by omega];exact hl
 have hc:decide (0<cmpQ (dq (putD M p++[37])) h100)=false:=by
  rw [hdq]
  refine decide_eq_false fun h=> ?_
  have h2:=cmpQ_gt.1 h
  have h3:(M:Rat) / t10 p≤h100:=div_le (t10_pos p) (by
   show (M:Rat)≤((100:Int):Rat)*((10^p:Int):Rat)
   rw [←Rat.intCast_mul]
   exact Rat.intCast_le_intCast.2 h1)
  exact absurd h2 (Rat.not_lt.2 h3)
 unfold shE
 rw [hP.dok,hP.r3,hP.ng,hc,hP.pc,hP.wh,decide_eq_false (show ¬ M<0 by omega),decide_eq_false (show ¬ 4<p by omega),decide_eq_false (show ¬ 40<max (p+1) (putL M.natAbs).length - p+p by omega)]
 rfl
theorem sh_bound(h0:0≤q) (h1:q≤1) (p:Nat):0≤hf (q*h100*t10 p)∧hf (q*h100*t10 p)≤100*10^p:=by
 have ht:=t10_pos p
 have e:h100*t10 p=((100*10^p:Int):Rat):=by rw [Rat.intCast_mul]
 have hpos:0≤h100*t10 p:=Rat.mul_nonneg qD (Rat.le_of_lt ht)
 refine ⟨hf_nonneg (by rw [Rat.mul_assoc];exact Rat.mul_nonneg h0 hpos),?_⟩
 have:q*h100*t10 p≤((100*10^p:Int):Rat):=by
  rw [←e,Rat.mul_assoc]
  have:=Rat.mul_le_mul_of_nonneg_right h1 hpos
  rwa [Rat.one_mul] at this
 have h2:=hf_mono this
 rwa [hf_int] at h2
theorem putD_lenM (M:Int) (p:Nat):(putD M p).length≤max (p+1) (putL M.natAbs).length+2:=by
 have h:=pdL_len (p+1) M.natAbs
 unfold putD ptL sgL
 cases decide (M<0)<;>cases decide (0<p)<;>simp only [cond_true,cond_false,List.length_append,List.length_cons,List.length_nil,List.length_take,List.length_drop]<;>omega
theorem putD_short(h0:0≤M) (h1:M≤100*10^p) (hp:p≤4):(putD M p).length≤12:=by
 have hM7:M<10^7:=by
  have:(10:Int)^p≤10^4:=pow_mono qD hp
  have e:(10:Int)^4=10000:=by decide
  have e7:(10:Int)^7=10000000:=by decide
  omega
 have hl:=putL_len_of (N:=M) 7 hM7
 have hl':(putL M.natAbs).length≤8:=by rw [show M.natAbs=M.toNat by omega];exact hl
 have:=putD_lenM M p
 omega
def satS (q:Rat) (p:Nat):Bool:=cmpQ q ((hf (q*h100*t10 p):Rat) / t10 p / h100)==0
theorem sat_iff:satS q p=true↔((hf (q*h100*t10 p):Int):Rat)=q*h100*t10 p:=by
 unfold satS
 rw [beq_iff_eq,cmpQ_zero]
 have h1:h100≠0:=h100_ne
 have h2:t10 p≠0:=fun e=>by have:=t10_pos p;rw [e] at this;exact absurd this qD
 generalize ((hf (q*h100*t10 p):Int):Rat)=m
 generalize t10 p=t at*
 generalize h100=h at*
 rw [Rat.div_def,Rat.div_def]
 constructor
 ·intro e
  rw [e,Rat.mul_assoc,Rat.mul_assoc,Rat.mul_assoc,←Rat.mul_assoc h⁻¹,Rat.inv_mul_cancel _ h1,Rat.one_mul,Rat.inv_mul_cancel _ h2,Rat.mul_one]
 ·intro e
  rw [e,Rat.mul_assoc (q*h),Rat.mul_inv_cancel _ h2,Rat.mul_one,Rat.mul_assoc,Rat.mul_inv_cancel _ h1,Rat.mul_one]
theorem t10_add (a b:Nat):t10 (a+b)=t10 a*t10 b:=by
 show ((10^(a+b):Int):Rat)=_
 rw [Int.pow_add,Rat.intCast_mul]
theorem int_den (n:Int):((n:Int):Rat).den=1:=rfl
theorem sat_some(hp:p≤4) (h:satS q p=true):(q*((1000000:Int):Rat)).den=1:=by
 have e:=sat_iff.1 h
 have e2:q*((1000000:Int):Rat)=((hf (q*h100*t10 p)*10^(4 - p):Int):Rat):=by
  have e3:((1000000:Int):Rat)=h100*(t10 p*t10 (4 - p)):=by
   rw [←t10_add,show p+(4 - p)=4 by omega]
   decide +kernel
  rw [e3,Rat.intCast_mul,e]
  show q*(h100*(t10 p*t10 (4 - p)))=q*h100*t10 p*t10 (4 - p)
  rw [Rat.mul_assoc (q*h100),Rat.mul_assoc]
 rw [e2]
 exact int_den _
theorem mulr_cancel {a b t:Rat} (ht:t≠0) (h:a*t=b*t):a=b:=by
 have h2:a*t*t⁻¹ =b*t*t⁻¹ :=by rw [h]
 rwa [Rat.mul_assoc,Rat.mul_assoc,Rat.mul_inv_cancel _ ht,Rat.mul_one,Rat.mul_one] at h2
theorem sat_few{T:Nat} (hT:q*((1000000:Int):Rat)=((T:Int):Rat)) (hp:p≤4):(satS q p=true↔T%10^(4 - p)=0)∧(T%10^(4 - p)=0→hf (q*h100*t10 p)=((T / 10^(4 - p):Nat):Int)):=by
 have e3:((1000000:Int):Rat)=h100*(t10 p*t10 (4 - p)):=by
  rw [←t10_add,show p+(4 - p)=4 by omega]
  decide +kernel
 have hz:q*h100*t10 p*t10 (4 - p)=((T:Int):Rat):=by
  rw [←hT,e3,Rat.mul_assoc (q*h100),Rat.mul_assoc]
 have h2:t10 (4 - p)≠0:=fun e=>by have:=t10_pos (4 - p);rw [e] at this;exact absurd this qD
 have key:T%10^(4 - p)=0→q*h100*t10 p=(((T / 10^(4 - p):Nat):Int):Rat):=fun h=>by
  have h3:((T:Nat):Int)=((T / 10^(4 - p):Nat):Int)*10^(4 - p):=by
   have:=Nat.div_add_mod T (10^(4 - p))
   rw [h,Nat.add_zero,Nat.mul_comm] at this
   rw [nat_pow10,←Int.natCast_mul,this]
  rw [h3,Rat.intCast_mul] at hz
  exact mulr_cancel h2 hz
 refine ⟨⟨fun h=> ?_,fun h=>sat_iff.2 (by rw [key h,hf_int])⟩,fun h=>by rw [key h,hf_int]⟩
 have e:=sat_iff.1 h
 rw [←e] at hz
 have h3:hf (q*h100*t10 p)*10^(4 - p)=((T:Nat):Int):=Rat.intCast_inj.1 (by rw [Rat.intCast_mul];exact hz)
 have h4:(10^(4 - p):Int)∣((T:Nat):Int):=⟨_,by rw [←h3,Int.mul_comm]⟩
 rw [nat_pow10] at h4
 exact Nat.mod_eq_zero_of_dvd (Int.natCast_dvd_natCast.1 h4)
def shG (q:Rat) (i:Nat):Nat→List UInt8
 |0=>[]
 |k+1=>bif satS q i then putD (hf (q*h100*t10 i)) i++[37] else shG q (i+1) k
theorem shG_none {q:Rat}:∀ (k i:Nat),(∀ j,i≤j→j<i+k→satS q j=false)→shG q i k=[]
 |0,_,_=>rfl
 |k+1,i,h=>by
  unfold shG
  rw [h i (Nat.le_refl _) qO]
  exact shG_none k (i+1) fun j a b=>h j qO qO
theorem shG_at {q:Rat} {p:Nat} (hp:satS q p=true):∀ (k i:Nat),i≤p→p<i+k→(∀ j,i≤j→j<p→satS q j=false)→shG q i k=putD (hf (q*h100*t10 p)) p++[37]
 |0,_,_,_,_=>by omega
 |k+1,i,h1,h2,h=>by
  unfold shG
  by_cases e:i=p
  ·rw [e,hp];rfl
  ·rw [h i (Nat.le_refl _) qO]
   exact shG_at hp k (i+1) qO qO fun j a b=>h j qO b
theorem putD_nat (n p:Nat):putD (n:Int) p=ptL p n:=by
 unfold putD
 rw [decide_eq_false qO,show ((n:Int)).natAbs=n by omega]
 rfl
theorem shG_all(h0:0≤q):shG q 0 5=bif decide ((q*((1000000:Int):Rat)).den=1) then shT q++[37] else []:=by
 cases hd:decide ((q*((1000000:Int):Rat)).den=1) with
 |false=>
  refine shG_none 5 0 fun j _ hj=> ?_
  cases hs:satS q j with
  |false=>rfl
  |true=>exact absurd (sat_some qO hs) (of_decide_eq_false hd)
 |true=>
  have hden:=of_decide_eq_true hd
  have hn:0≤q*((1000000:Int):Rat):=Rat.mul_nonneg h0 qD
  have hnum:0≤(q*((1000000:Int):Rat)).num:=Rat.num_nonneg.2 hn
  obtain ⟨T,hT⟩:∃ T:Nat,q*((1000000:Int):Rat)=((T:Int):Rat):=⟨(q*((1000000:Int):Rat)).num.toNat,by
   rw [Int.toNat_of_nonneg hnum]
   exact Rat.ext rfl hden⟩
  obtain ⟨f1,f2⟩:=few_le 4 T
  have f3:=few_least 4 T
  have h4:=(sat_few hT (p:=4) (Nat.le_refl _)).2 (Nat.mod_one _)
  have ht:=trim_put 4 T qD
  have hpos:0<10^(4 - (few 4 T).1):=Nat.pow_pos qD
  have hmod:T%10^(4 - (few 4 T).1)=0:=by
   have:=Nat.mul_mod_left (few 4 T).2 (10^(4 - (few 4 T).1))
   rwa [f2] at this
  have hdiv:T / 10^(4 - (few 4 T).1)=(few 4 T).2:=by
   have:=Nat.mul_div_cancel (few 4 T).2 hpos
   rwa [f2] at this
  obtain ⟨g1,g2⟩:=sat_few hT f1
  have h5:=g2 hmod
  rw [hdiv] at h5
  have e1:shT q=ptL (few 4 T).1 (few 4 T).2:=by
   unfold shT
   rw [h4,show T / 10^(4 - 4)=T from Nat.div_one T,putD_nat,ht]
  rw [shG_at (g1.2 hmod) 5 0 qO qO (fun j _ hj=>by
   cases hs:satS q j with
   |false=>rfl
   |true=>exact absurd ((sat_few hT (p:=j) qO).1.1 hs) (f3 j hj)),h5,putD_nat,e1]
  rfl
def shQ (q:Rat):List UInt8:=bif decide (cmpQ q 0<0) then [] else bif decide (0<cmpQ q ((1:Int):Rat)) then [] else shG q 0 5
theorem shQ_eq (q:Rat):shQ q=putSh q:=by
 unfold shQ putSh shN
 cases h1:decide (cmpQ q 0<0) with
 |true=>rfl
 |false=>
  cases h2:decide (0<cmpQ q ((1:Int):Rat)) with
  |true=>rfl
  |false=>
   have h0:0≤q:=by
    have h:=fun g=>of_decide_eq_false h1 (cmpQ_lt.2 g)
    grind
   exact shG_all h0
theorem c6_putshare(hL:L≤20):Ctr Tryz.prog S1 14 [1] [.qa q L] (fun _=> .is (Tx (shQ q))):=by
 unfold shQ
 cases c1:decide (cmpQ q 0<0) with
 |true=>
  refine ctr Tryz.func14 rfl Tryz.ntmps14 qE (fun _ _=>by kernel_rfl) fun X w hE=> ?_
  simp only [argE,Nat.zero_add,Nat.reduceAdd]
  repeat' first|kernel_rfl|apply g_seq|apply g_reg|apply g_nil|apply g_draw (id:=2) [(12,true)] [] 8|(apply o_sk;(focus rfl);(focus kernel_rfl))|apply o_all|apply o_go|exact OpsT.nil|exact GuardC.nil|exact UndefC.nil|refine @GuardC.cons _ _ _ _ inferInstance ?_|refine @UndefC.cons _ _ _ inferInstance ?_|apply g_box|apply g_all|apply g_stf|apply g_stw|apply g_sto|apply g_asg|refine g_run rfl inferInstance (by first|fail) qK ?_|refine g_sk rfl inferInstance rfl qK ?_|refine g_un rfl inferInstance qK ?_|apply g_st|apply g_skip|apply g_ct|apply g_cf|apply g_ret|refine r_1 rfl ?_|apply g_cl|exact s4_plain qO|exact sc trivial cp|exact sc trivial cs|exact s4_sameU4 qO hsat|exact s4_mul qO|exact s4_cmp qO|exact s4_sign qO|exact s4_whole qD|exact st_sadd qL|exact st_add' qL|exact st_move'|exact st_assign'|exact st_load'|exact st_extract'|exact st_or_f'|exact st_or_t'|exact st_lss' qG|exact st_leq' qG|exact st_gtr' qG|exact st_loadE'|exact Cv.rfl'|(intro _;simp only[newX,newL,ptrs,List.map,List.cons_append,List.nil_append])|intro _
 |false=>
  cases c2:decide (0<cmpQ q ((1:Int):Rat)) with
  |true=>
   refine ctr Tryz.func14 rfl Tryz.ntmps14 qE (fun _ _=>by kernel_rfl) fun X w hE=> ?_
   simp only [argE,Nat.zero_add,Nat.reduceAdd]
   repeat' first|kernel_rfl|apply g_seq|apply g_reg|apply g_nil|apply g_draw (id:=2) [(12,false)] [] 8|apply o_all|apply o_go|exact OpsT.nil|exact GuardC.nil|exact UndefC.nil|refine @GuardC.cons _ _ _ _ inferInstance ?_|refine @UndefC.cons _ _ _ inferInstance ?_|apply g_box|apply g_all|apply g_stf|apply g_stw|apply g_sto|apply g_asg|refine g_run rfl inferInstance (by first|fail) qK ?_|refine g_sk rfl inferInstance rfl qK ?_|refine g_un rfl inferInstance qK ?_|apply g_st|apply g_skip|apply g_ct|apply g_cf|apply g_ret|refine r_1 rfl ?_|apply g_cl|exact s4_plain qO|exact sc trivial cp|exact sc trivial cs|exact s4_sameU4 qO hsat|exact s4_mul qO|exact s4_cmp qO|exact s4_sign qO|exact s4_whole qD|exact st_sadd qL|exact st_add' qL|exact st_move'|exact st_assign'|exact st_load'|exact st_extract'|exact st_or_f'|exact st_or_t'|exact st_lss' qG|exact st_leq' qG|exact st_gtr' qG|exact st_loadE'|exact Cv.rfl'|(intro _;simp only[newX,newL,ptrs,List.map,List.cons_append,List.nil_append])|intro _
  |false=>
   have h0:0≤q:=by
    have h:=fun g=>of_decide_eq_false c1 (cmpQ_lt.2 g)
    grind
   have h1:q≤((1:Int):Rat):=by
    have h:=fun g=>of_decide_eq_false c2 (cmpQ_gt.2 g)
    grind
   simp only [cond_false]
   refine ctr Tryz.func14 rfl Tryz.ntmps14 qE (fun _ _=>by kernel_rfl) fun X w hE=> ?_
   simp only [argE,Nat.zero_add,Nat.reduceAdd]
   repeat' first|kernel_rfl|apply g_seq|apply g_reg|apply g_nil|apply g_draw (id:=2) [(12,false)] [] 8|apply o_all|apply o_go|exact OpsT.nil|exact GuardC.nil|exact UndefC.nil|refine @GuardC.cons _ _ _ _ inferInstance ?_|refine @UndefC.cons _ _ _ inferInstance ?_|apply g_box|apply g_all|apply g_stf|apply g_stw|apply g_sto|apply g_asg|refine g_run rfl inferInstance (by first|fail) qK ?_|refine g_sk rfl inferInstance rfl qK ?_|refine g_un rfl inferInstance qK ?_|apply g_st|apply g_skip|apply g_ct|apply g_cf|apply g_ret|refine r_1 rfl ?_|apply g_blk|apply g_eb|apply g_ex|apply e_t|apply e_h|refine e_o rfl ?_|apply r_t|apply r_b|apply g_cl|exact s4_plain qO|exact sc trivial cp|exact sc trivial cs|exact s4_sameU4 qO hsat|exact s4_mul qO|exact s4_cmp qO|exact s4_sign qO|exact s4_whole qD|exact st_sadd qL|exact st_add' qL|exact st_move'|exact st_assign'|exact st_load'|exact st_extract'|exact st_or_f'|exact st_or_t'|exact st_lss' qG|exact st_leq' qG|exact st_gtr' qG|exact st_loadE'|exact Cv.rfl'|(intro _;simp only[newX,newL,ptrs,List.map,List.cons_append,List.nil_append])|intro _
   refine g_stop fun a w h=> ?_
   refine cw_loop (fun j a w=>∃ i:Nat,i+j=5∧shG q i j=shG q 0 5∧TS _ _ [(_,VTy.qc q L)] [(3, .is (.int .i64 (i:Int))),(1, .is (.pointer (some ⟨_,0,none⟩)))] 38 a w) 5 ⟨0,rfl,rfl,h.keep [3,1]⟩ ?_
   clear h
   rintro j a w ⟨i,hi,hG,h⟩
   rw [←hG]
   cases j with
   |zero=>
    have hc:decide ((i:Int)≤4)=false:=decide_eq_false qO
    refine g_of h ?_
    clear h
    repeat' first|kernel_rfl|apply g_seq|apply g_reg|apply g_nil|apply o_all|apply o_go|exact OpsT.nil|exact GuardC.nil|exact UndefC.nil|refine @GuardC.cons _ _ _ _ inferInstance ?_|refine @UndefC.cons _ _ _ inferInstance ?_|apply g_box|apply g_all|apply g_stf|apply g_stw|apply g_sto|apply g_asg|refine g_run rfl inferInstance (by first|fail) qK ?_|refine g_sk rfl inferInstance rfl qK ?_|refine g_un rfl inferInstance qK ?_|apply g_st|apply g_skip|apply g_ct|apply g_cf|apply g_ret|refine r_1 rfl ?_|apply g_blk|apply g_eb|apply g_ex|apply e_t|apply e_h|refine e_o rfl ?_|apply r_t|apply r_b|apply g_cl|exact s4_plain qO|exact sc trivial cp|exact sc trivial cs|exact s4_sameU4 qO hsat|exact s4_mul qO|exact s4_cmp qO|exact s4_sign qO|exact s4_whole qD|exact st_sadd qL|exact st_add' qL|exact st_move'|exact st_assign'|exact st_load'|exact st_extract'|exact st_or_f'|exact st_or_t'|exact st_lss' qG|exact st_leq' qG|exact st_gtr' qG|exact st_loadE'|exact Cv.rfl'|(intro _;simp only[newX,newL,ptrs,List.map,List.cons_append,List.nil_append])|intro _
   |succ j=>
    have hc:decide ((i:Int)≤4)=true:=decide_eq_true qO
    have hw:IntKind.i64.wrap ((i:Int)+1)=((i+1:Nat):Int):=i64_small qO qO
    have cp:=c6_put (q:=q*h100) (L:=L+2) (n:=(i:Int)) qO
    rw [plN_nat qO] at cp
    obtain ⟨b0,b1⟩:=sh_bound h0 h1 i
    have hsl:=putD_short b0 b1 qO
    obtain ⟨e1,e2⟩:=shE_put b0 b1 qO
    have hlen:(putD (hf (q*h100*t10 i)) i++[37]).length≤1000000:=by rw [List.length_append,List.length_singleton];omega
    have hadd:(putD (hf (q*h100*t10 i)) i).length+[(37:UInt8)].length≤9223372036854775807:=by rw [List.length_singleton];omega
    have cs:=c6_share hlen
    rw [e1,e2] at cs
    clear e1 e2 hlen hsl b0 b1 hG
    replace cs:Ctr Tryz.prog S1 30 [0] [.is (Tx (putD (hf (q*h100*t10 i)) i++[37]))] (fun _=> .tup [.qc ((hf (q*h100*t10 i):Rat) / t10 i / h100) 12, .is (.int .i64 0)]):=cs
    cases hs:satS q i with
    |true=>
     have hsat:=hs
     unfold satS at hsat
     have hres:shG q i (j+1)=putD (hf (q*h100*t10 i)) i++[37]:=by unfold shG;rw [hs];rfl
     rw [hres]
     clear hres hs
     generalize putD (hf (q*h100*t10 i)) i=pt at*
     generalize hf (q*h100*t10 i)=M at*
     refine g_of h ?_
     clear h
     repeat' first|kernel_rfl|apply g_seq|apply g_reg|apply g_nil|apply g_draw (id:=7) [] [] 5|apply o_all|apply o_go|exact OpsT.nil|exact GuardC.nil|exact UndefC.nil|refine @GuardC.cons _ _ _ _ inferInstance ?_|refine @UndefC.cons _ _ _ inferInstance ?_|apply g_box|apply g_all|apply g_stf|apply g_stw|apply g_sto|apply g_asg|refine g_run rfl inferInstance (by first|fail) qK ?_|refine g_sk rfl inferInstance rfl qK ?_|refine g_un rfl inferInstance qK ?_|apply g_st|apply g_skip|apply g_ct|apply g_cf|apply g_ret|refine r_1 rfl ?_|apply g_blk|apply g_eb|apply g_ex|apply e_t|apply e_h|refine e_o rfl ?_|apply r_t|apply r_b|apply g_cl|exact s4_plain qO|exact sc trivial cp|exact sc trivial cs|exact s4_sameU4 qO hsat|exact s4_mul qO|exact s4_cmp qO|exact s4_sign qO|exact s4_whole qD|exact st_sadd qL|exact st_add' qL|exact st_move'|exact st_assign'|exact st_load'|exact st_extract'|exact st_or_f'|exact st_or_t'|exact st_lss' qG|exact st_leq' qG|exact st_gtr' qG|exact st_loadE'|exact Cv.rfl'|(intro _;simp only[newX,newL,ptrs,List.map,List.cons_append,List.nil_append])|intro _
    |false=>
     have hsat:=hs
     unfold satS at hsat
     have hres:shG q i (j+1)=shG q (i+1) j:=by conv=>{ lhs;unfold shG };rw [hs];rfl
     rw [hres]
     clear hres hs
     generalize putD (hf (q*h100*t10 i)) i=pt at*
     generalize hf (q*h100*t10 i)=M at*
     refine g_of h ?_
     clear h
     repeat' first|kernel_rfl|exact g_done fun _ _ h=>⟨j,by omega,i+1,by omega,rfl,((h.keep [3,1]).tail).less (fun b hb=>List.mem_cons_of_mem _ hb) qE⟩|apply g_seq|apply g_reg|apply g_nil|apply g_draw (id:=7) [] [] 5|apply o_all|apply o_go|exact OpsT.nil|exact GuardC.nil|exact UndefC.nil|refine @GuardC.cons _ _ _ _ inferInstance ?_|refine @UndefC.cons _ _ _ inferInstance ?_|apply g_box|apply g_all|apply g_stf|apply g_stw|apply g_sto|apply g_asg|refine g_run rfl inferInstance (by first|fail) qK ?_|refine g_sk rfl inferInstance rfl qK ?_|refine g_un rfl inferInstance qK ?_|apply g_st|apply g_skip|apply g_ct|apply g_cf|apply g_ret|refine r_1 rfl ?_|apply g_blk|apply g_eb|apply g_ex|apply e_t|apply e_h|refine e_o rfl ?_|apply r_t|apply r_b|apply g_cl|exact s4_plain qO|exact sc trivial cp|exact sc trivial cs|exact s4_sameU4 qO hsat|exact s4_mul qO|exact s4_cmp qO|exact s4_sign qO|exact s4_whole qD|exact st_sadd qL|exact st_add' qL|exact st_move'|exact st_assign'|exact st_load'|exact st_extract'|exact st_or_f'|exact st_or_t'|exact st_lss' qG|exact st_leq' qG|exact st_gtr' qG|exact st_loadE'|exact Cv.rfl'|(intro _;simp only[newX,newL,ptrs,List.map,List.cons_append,List.nil_append])|intro _
instance:FieldC Tryz.prog 34 0 0 1 false:=⟨⟨_,_,Tryz.underlying34,rfl,rfl,by kernel_rfl,by decide,_,Tryz.underlying4,rfl⟩⟩
instance:FieldC Tryz.prog 34 1 1 1 false:=⟨⟨_,_,Tryz.underlying34,rfl,rfl,by kernel_rfl,by decide,_,Tryz.underlying23,rfl⟩⟩
instance {x:RawQ} {L:Nat}:PartC (.qx x L) 0 1 false (.is (.bool x.1.1)):=⟨fun _=>rfl,fun {X w v} hv=>by
 obtain ⟨y,⟨rfl,_⟩,cs,rfl,c1,c2,rfl,h1,h2⟩:=hv
 obtain ⟨A,n,c,rfl,_⟩:=num_rd.1 h1
 refine ⟨[.bool y.1.1],rfl,fun j u hj=> ?_,fun u _ hu=> ?_⟩
 ·cases j with
  |zero=>simpa [Value.cells] using hj
  |succ j=>simp at hj
 ·have:=hu rfl
  simp at this
  rw [←this]
  rfl⟩
instance {x:RawQ} {L:Nat}:PartC (.qx x L) 2 1 false (.is (.bool x.2.1)):=⟨fun _=>rfl,fun {X w v} hv=>by
 obtain ⟨y,⟨rfl,_⟩,cs,rfl,c1,c2,rfl,h1,h2⟩:=hv
 have hl:c1.length=2:=Rp.num.len h1
 obtain ⟨A,n,c,rfl,_⟩:=num_rd.1 h2
 refine ⟨[.bool y.2.1],rfl,fun j u hj=> ?_,fun u _ hu=> ?_⟩
 ·cases j with
  |zero=>
   have:(c1++[Value.bool y.2.1, .slice A n c])[2+0]? =some (.bool y.2.1):=by rw [List.getElem?_append_right qO,hl];rfl
   simp only [List.getElem?_cons_zero,Option.some.injEq] at hj
   subst hj
   simpa [Value.cells] using this
  |succ j=>simp at hj
 ·have:=hu rfl
  simp at this
  rw [←this]
  rfl⟩
section
variable {w00:World} {N:Nat} {L:List Loc} {E:List (Nat×VTy)} {d:Nat} {t0:TypeId} {pos:String} {af:Array Edge} {gd:Option (Nat×Bool)}
theorem s6_buildI {o0 o1:Operand} {b:Bool} {xs:List Int} (L0:Nat) [h0:OpC E o0 (.is (.bool b))] [h1:OpC E o1 (.rc Rp.limbs xs)] (hl:xs.length≤L0):StepT Tryz.prog w00 N L E ⟨some d, .build 25 #[(0,o0),(1,o1)],t0,pos,af,gd⟩ (.nx (b,xs) L0):=by
 constructor
 intro X ρ w hc _ hN hm hsl
 have e0:ρ o0= .bool b:=h0.get (X:=X) (w:=w) hc fun p hp e=>hsl p hp qS
 obtain ⟨A,n,c,e1,hs,hd⟩:=h1.get (X:=X) (w:=w) hc fun p hp e=>hsl p hp qS
 have e1':ρ o1= .slice A n c:=(List.cons.inj e1).1
 have hT:(VTy.nx (b,xs) L0).holds X w (.agg #[.bool b, .slice A n c]):=
  ⟨(b,xs),⟨rfl,hl⟩,[.bool b, .slice A n c],rfl,num_rd.2 ⟨A,n,c,rfl,hs,hd⟩⟩
 have HT:=Lib.hid hT
 clear hT hsl hm hc hs hd h0 h1 e1
 unfold Yields
 go_simp
 exact ⟨HT.out,Below.refl _ _⟩
theorem s6_buildQ {o0 o1:Operand} {a b:RawI} {L0:Nat} [h0:OpC E o0 (.nx a L0)] [h1:OpC E o1 (.nx b L0)] (hl:0<L0):StepT Tryz.prog w00 N L E ⟨some d, .build 27 #[(0,o0),(1,o1)],t0,pos,af,gd⟩ (.qx (a,b) L0):=by
 constructor
 intro X ρ w hc _ hN hm hsl
 obtain ⟨y,⟨rfl,a2⟩,cs,e0,g0⟩:=h0.get (X:=X) (w:=w) hc fun p hp e=>hsl p hp qS
 obtain ⟨z,⟨rfl,b2⟩,ds,e1,g1⟩:=h1.get (X:=X) (w:=w) hc fun p hp e=>hsl p hp qS
 obtain ⟨A,n,c,rfl,_⟩:=num_rd.1 g0
 obtain ⟨A2,n2,c2,rfl,_⟩:=num_rd.1 g1
 have hT:(VTy.qx (y,z) L0).holds X w (.agg #[.bool y.1, .slice A n c, .bool z.1, .slice A2 n2 c2]):=
  ⟨(y,z),⟨rfl,a2,b2,hl⟩,[.bool y.1, .slice A n c]++[.bool z.1, .slice A2 n2 c2],rfl,_,_,rfl,g0,g1⟩
 have HT:=Lib.hid hT
 clear hT hsl hm hc a2 b2 g0 g1 h0 h1
 unfold Yields
 go_simp
 exact ⟨HT.out,Below.refl _ _⟩
end
theorem l6_refX(hL:L≤1000) (h0:0<L):Ctr Tryz.prog Tab 9 [4] [.qx x L] (fun _=> .qx x L):=
 ⟨(l6_ref (x:=x) hL h0).ent,fun _ h=>h,fun hG hX ha=>((l6_ref hL h0).run hG hX ha).mono fun _ _ g=>g.imp fun _ h=>kx_ex h⟩
theorem l6_putsX(e1:decide ((6:Int)<(x.1.2.length:Int))=false) (e2:decide ((6:Int)<(x.2.2.length:Int))=false):Ctr Tryz.prog Env 4 [4,0] [.qx x 6, .is (.int .i64 n)] (fun _=> .is (.bool true)):=by
 have a1:=c_put (q:=qv x) (L:=6) (n:=n) qD
 have a2:=c_money (q:=qv x) (L:=6) qD
 have a3:=c_putshare (q:=qv x) (L:=6) qD
 have b1:=c6_put (q:=qv x) (L:=6) (n:=n) qD
 have b2:=c6_put (q:=qv x) (L:=6) (n:=2) qD
 have b3:=c6_putshare (q:=qv x) (L:=6) qD
 rw [show plN 2=2 by decide] at b2
 rw [shQ_eq] at b3
 have hsame:(cmpQ (qv x) (qv (x.1,x.2))==0)=true:=by rw [beq_iff_eq,cmpQ_zero]
 have l1:x.1.2.length≤6:=by have:=of_decide_eq_false e1;omega
 have l2:x.2.2.length≤6:=by have:=of_decide_eq_false e2;omega
 generalize putD (hf (qv x*t10 (plN n))) (plN n)=s1 at*
 generalize putD (hf (qv x*t10 2)) 2=s2 at*
 generalize putSh (qv x)=s3 at*
 have k1:(s1==s1)=true:=beq_self_eq_true s1
 have k2:(s2==s2)=true:=beq_self_eq_true s2
 have k3:(s3==s3)=true:=beq_self_eq_true s3
 refine ctr Tryz.func4 rfl Tryz.ntmps4 qE (fun _ _=>by kernel_rfl) fun X w hE=> ?_
 simp only [argE,Nat.zero_add,Nat.reduceAdd]
 repeat' first|kernel_rfl|apply g_seq|apply g_reg|apply g_nil|apply g_draw (id:=4) [(28,true),(35,true),(42,true),(61,true)] [] 43|apply o_all|apply o_go|refine @GuardC.cons _ _ _ _ inferInstance ?_|refine @UndefC.cons _ _ _ inferInstance ?_|apply g_box|apply g_all|apply g_stf|apply g_stw|apply g_sto|apply g_asg|refine g_run rfl inferInstance lfGR qK ?_|refine g_sk rfl inferInstance rfl qK ?_|refine g_un rfl inferInstance qK ?_|apply g_st|apply g_skip|apply g_ct|apply g_cf|apply g_ret|refine r_1 rfl ?_|apply g_cl|exact lfGR|(intro _;simp only[newX,newL,ptrs,List.map,List.cons_append,List.nil_append])|intro _
theorem l6_puts:Ctr Tryz.prog Env 4 [4,0] [.qz x, .is (.int .i64 n)] (fun _=> .is (.bool true)):=by
 cases e1:decide ((6:Int)<(x.1.2.length:Int)) with
 |true=>
  refine ctr Tryz.func4 rfl Tryz.ntmps4 qE (fun _ _=>by kernel_rfl) fun X w hE=> ?_
  simp only [argE,Nat.zero_add,Nat.reduceAdd]
  repeat' first|kernel_rfl|apply g_seq|apply g_reg|apply g_nil|apply g_draw (id:=4) [(28,true),(35,true),(42,true),(61,true)] [] 43|apply o_all|apply o_go|refine @GuardC.cons _ _ _ _ inferInstance ?_|refine @UndefC.cons _ _ _ inferInstance ?_|apply g_box|apply g_all|apply g_stf|apply g_stw|apply g_sto|apply g_asg|refine g_run rfl inferInstance lfGR qK ?_|refine g_sk rfl inferInstance rfl qK ?_|refine g_un rfl inferInstance qK ?_|apply g_st|apply g_skip|apply g_ct|apply g_cf|apply g_ret|refine r_1 rfl ?_|apply g_cl|exact lfGR|(intro _;simp only[newX,newL,ptrs,List.map,List.cons_append,List.nil_append])|intro _
 |false=>
  cases e2:decide ((6:Int)<(x.2.2.length:Int)) with
  |true=>
   refine ctr Tryz.func4 rfl Tryz.ntmps4 qE (fun _ _=>by kernel_rfl) fun X w hE=> ?_
   simp only [argE,Nat.zero_add,Nat.reduceAdd]
   repeat' first|kernel_rfl|apply g_seq|apply g_reg|apply g_nil|apply g_draw (id:=4) [(28,true),(35,true),(42,true),(61,true)] [] 43|apply o_all|apply o_go|refine @GuardC.cons _ _ _ _ inferInstance ?_|refine @UndefC.cons _ _ _ inferInstance ?_|apply g_box|apply g_all|apply g_stf|apply g_stw|apply g_sto|apply g_asg|refine g_run rfl inferInstance lfGR qK ?_|refine g_sk rfl inferInstance rfl qK ?_|refine g_un rfl inferInstance qK ?_|apply g_st|apply g_skip|apply g_ct|apply g_cf|apply g_ret|refine r_1 rfl ?_|apply g_cl|exact lfGR|(intro _;simp only[newX,newL,ptrs,List.map,List.cons_append,List.nil_append])|intro _
  |false=>
   refine ⟨fun _ _=>by kernel_rfl,fun _ h=>h,fun {X w vs} hG hX ha=> ?_⟩
   obtain ⟨v,u,rfl,h1,h2⟩:=ha.two
   have h1:=few_qa (k:=6) qD h1 (by
    have:=of_decide_eq_false e1
    have:=of_decide_eq_false e2
    rw [decide_eq_true qO,decide_eq_true qO];rfl)
   exact (l6_putsX e1 e2).run hG hX (vs:=[v,u]) ⟨h1,h2,trivial⟩
end Go.Proofs.YtfepenpngklogaaGreatDoor
