/- Package rat: rows: sums, products, the least and the greatest. -/
import Derived.Test.YtfepenpngklogaaGreatDoorGI
import Derived.Test.YtfepenpngklogaaGreatDoorGG
set_option maxHeartbeats 4000000
set_option maxRecDepth 20000
set_option linter.unusedSimpArgs false
set_option linter.unusedVariables false
namespace Go.Proofs.YtfepenpngklogaaGreatDoor
open Go Go.RowKit
variable {L0 K0 n M J0:Nat} {q p:Rat} {w:World} {X:List Nat} {v0 v1:Value} {o0 o1:Operand} {T0 T1:VTy} {l:List RawQ} {k0 z:Int} {x:RawQ}
theorem SlR.front{α:Type} {r:Rp α} {S:Nat→Prop} {A:Option Addr} {c m:Nat} {l:List α} (h:SlR r w S A n c l) (hm:m≤n):SlR r w S A m c (l.take m):=by
 obtain ⟨h1,h2,h3,h4,h5⟩:=h
 refine ⟨by rw [List.length_take];omega,by omega,h3,h4,fun hn=> ?_⟩
 obtain ⟨b,off,hA,hb,hc⟩:=h5 qO
 refine ⟨b,off,hA,hb,fun j a ha=>hc j a ?_⟩
 rw [List.getElem?_take] at ha
 split at ha
 ·exact ha
 ·cases ha
theorem SlR.back{α:Type} {r:Rp α} {S:Nat→Prop} {A:Option Addr} {c m:Nat} {l:List α} (h:SlR r w S A n c l) (hm:m≤n):SlR r w S (if c=m then A else A.map (·.add (m*r.k))) (n - m) (c - m) (l.drop m):=by
 obtain ⟨h1,h2,h3,h4,h5⟩:=h
 refine ⟨by rw [List.length_drop];omega,by omega,by omega,fun hA=> ?_,fun hn=> ?_⟩
 ·split at hA
  ·omega
  ·have h0:=h4 (by cases A<;>simp_all)
   omega
 ·obtain ⟨b,off,rfl,hb,hc⟩:=h5 qO
  rw [if_neg qO]
  refine ⟨b,off+m*r.k,by simp [Addr.add_lit],hb,fun j a ha=> ?_⟩
  rw [Nat.add_assoc,←Nat.add_mul]
  exact hc _ a (by rw [←ha,List.getElem?_drop])
def bestF (c:Rat→Rat→Bool) (q:Rat) (l:List RawQ):Rat:=l.foldl (fun m y=>bif c (qv y) m then qv y else m) q
theorem bestF_next{c:Rat→Rat→Bool} {i:Nat} (hx:l[i]? =some x):bestF c q (l.take (i+1))=bif c (qv x) (bestF c q (l.take i)) then qv x else bestF c q (l.take i):=by
 rw [take_one hx]
 unfold bestF
 rw [List.foldl_append]
 rfl
theorem bestF_R (c:Rat→Rat→Bool) (q:Rat) (l:List RawQ):bestR c (q::l.map qv)=bestF c q l:=by
 show (l.map qv).foldl (fun m y=>bif c y m then y else m) q=_
 rw [List.foldl_map]
 rfl
theorem cmpQ_over (p q:Rat):(cmpQ p q==1)=decide (0<cmpQ p q):=by
 unfold cmpQ
 split
 ·rfl
 ·split<;>rfl
theorem Keeps.rfl' (X:List Nat) (w:World):Keeps X w w:=⟨Nat.le_refl _,fun _ _ _=>rfl⟩
theorem qa_mono{v:Value} {L:Nat} (hl:L≤M) (h:(VTy.qa q L).holds X w v):(VTy.qa q M).holds X w v:=by
 obtain ⟨x,⟨h1,h2,h3,h4⟩,g⟩:=h
 exact ⟨x,⟨h1,by omega,by omega,by omega⟩,g⟩
theorem TS.less{w00:World} {X':List Nat} {L:List Loc} {E:List (Nat×VTy)} {a:Act} (h:TS w00 X' L E n a w) (hX:∀ b∈X,b∈X') (hL:∀ p∈L,p.1∈X):TS w00 X L E n a w:=
 ⟨h.size,h.df,fun p hp=>p.2.stable (h.slots p hp) (Keeps.rfl' _ _) (fun b hb _=>hX b hb),⟨fun p hp=>by
  obtain ⟨_,g2,v,ty,g3,g4⟩:=h.mem.loc p hp
  exact ⟨hL p hp,g2,v,ty,p.2.stable g3 (Keeps.rfl' _ _) (fun b hb _=>hX b hb),g4⟩,fun b hb=>h.mem.far b (hX b hb),h.mem.nodup,h.mem.below⟩⟩
theorem TS.tail{w00:World} {L:List Loc} {E:List (Nat×VTy)} {a:Act} {p:Loc} (h:TS w00 X (p::L) E n a w):TS w00 X L E n a w:=
 ⟨h.size,h.df,h.slots,⟨fun p hp=>h.mem.loc p (List.mem_cons_of_mem _ hp),h.mem.far,by have:=h.mem.nodup;rw [List.map_cons,List.nodup_cons] at this;exact this.2,h.mem.below⟩⟩
instance {p:RawQ→Prop} {a:RawQ}:SizeV (.el Rp.frac p a) 4 true:=inferInstanceAs (SizeV (.ex Rp.frac _) Rp.frac.k true)
instance {p:RawQ→Prop} {a:RawQ}:PartC (.el Rp.frac p a) 0 4 true (.el Rp.frac p a):= .whole inferInstance
instance:SliceC Tryz.prog 87 4:=⟨⟨_,Tryz.underlying87,by kernel_rfl⟩⟩
section
variable {w00:World} {N:Nat} {L:List Loc} {E:List (Nat×VTy)} {d:Nat} {t0:TypeId} {pos:String} {af:Array Edge} {gd:Option (Nat×Bool)} {ats:Array TypeId}
theorem st_negK{o:Operand} {x:Int} {k:IntKind} {ty:TypeId} [h0:OpC E o (.is (.int k x))] (hz:k.wrap (-x)=z):StepT Tryz.prog w00 N L E ⟨some d, .unOp .neg ty o,t0,pos,af,gd⟩ (.is (.int k z)):=by
 constructor
 intro X ρ w hc _ hN hm hsl
 have e0:ρ o= .int k x:=h0.get (X:=X) (w:=w) hc fun p hp e=>hsl p hp qS
 clear hc hsl h0
 unfold Yields
 go_simp
 exact ⟨rfl,Below.refl _ _⟩
end
section
variable {w00:World} {N:Nat} {L:List Loc} {E:List (Nat×VTy)} {d:Nat} {t0:TypeId} {pos:String} {af:Array Edge} {gd:Option (Nat×Bool)} {ats:Array TypeId}
end
section
variable {w00:World} {N:Nat} {L:List Loc} {E:List (Nat×VTy)} {d:Nat} {t0:TypeId} {pos:String} {af:Array Edge} {gd:Option (Nat×Bool)} {ats:Array TypeId}
end
theorem lfGJ {p:Prop} (h:p:=by first|exact st_len'|exact st_indexAddr' hx|exact st_add' hw|exact st_lss' hc1|exact st_fn1|exact st_move'|exact st_assign'|exact st_load'|exact st_eq' (by first|assumption|rfl)|exact st_loadE'|exact st_lss' (by first|assumption|rfl)|exact st_indexAddr' (by assumption)|exact si_compared hE (by omega)|exact si_counted hE (by omega)|exact si_ahead hE (by omega) (by decide) hcc|exact si_copied hE (by omega)|exact Cv.rfl'):p:=h
theorem crn_ahead(hE:Tab w) (hX:∀ b∈X,b<w.heap.size) {v2:Value} {k:Int} (h0:(VTy.is (.int .i64 k)).holds X w v0) (h1:(VTy.qc p L0).holds X w v1) (h2:(VTy.qc q K0).holds X w v2) (hb:L0≤450∧K0≤450) (hz:IntKind.i64.wrap (-k)=z):
 Calls Tryz.prog 67 #[v0,v1,v2] w (Gives X w (.is (.bool (cmpQ p q==z)))):=by
 refine g_enter (Ts:=[.is (.int .i64 k), .qc p L0, .qc q K0]) (vs:=[v0,v1,v2]) Tryz.func67 rfl Tryz.ntmps67 qE hX ⟨h0,h1,h2,trivial⟩ ?_
 clear h0 h1 h2 hX
 simp only [argE,Nat.zero_add,Nat.reduceAdd]
 repeat' first|kernel_rfl|apply g_seq|apply g_reg|apply g_nil|apply g_box|apply g_all|apply g_sto|apply g_asg|apply g_st|apply g_skip|apply g_ct|apply g_cf|apply g_ret|refine r_1 rfl ?_|apply g_cl|exact st_negK hz|exact lfGJ|intro _
theorem ei_ahead:Enters Tryz.prog 67:=fun _ _=>by kernel_rfl
section
variable {w00:World} {N:Nat} {L:List Loc} {E:List (Nat×VTy)} {d:Nat} {t0:TypeId} {pos:String} {af:Array Edge} {gd:Option (Nat×Bool)} {ats:Array TypeId}
theorem si_ahead{s:Nat} {k:Int} {u:Bool} [hs:Look E s (.fv 67 [.is (.int .i64 k)] [])] [OpC E o0 T0] [a0:AsC T0 p L0] [OpC E o1 T1] [a1:AsC T1 q K0] (hE:Tab w00) (hb:L0≤450∧K0≤450) (hz:IntKind.i64.wrap (-k)=z) (hu:(cmpQ p q==z)=u):
 StepT Tryz.prog w00 N L E ⟨some d, .call { callee:= .value (.tmp s),args:= #[o0,o1],argTypes:=ats },t0,pos,af,gd⟩ (.is (.bool u)):=by
 rw [←hu]
 exact sm2 ei_ahead fun X w v v0 v1 hX _ hB g h0 h1=>crn_ahead (hE.below hB) hX g (a0.ok h0) (a1.ok h1) hb hz
end
theorem crn_frontmax(hE:Tab w) (hX:∀ b∈X,b<w.heap.size) {v2:Value} (h0:(VTy.fv 67 [.is (.int .i64 (-1))] []).holds X w v0) (h1:(VTy.qa q M).holds X w v1) (h2:(VTy.rq J0 l).holds X w v2) (hJ:J0≤M) (hM:M≤450):
 Calls Tryz.prog 66 #[v0,v1,v2] w (Gives X w (.qc (bestF (fun a b=>cmpQ a b==1) q l) M)):=by
 obtain ⟨hmx,hfw⟩:=rq_max h2
 have hq0:=(qa_Lq h1).1
 refine g_enter (Ts:=[.fv 67 [.is (.int .i64 (-1))] [], .qa q M, .rq J0 l]) (vs:=[v0,v1,v2]) Tryz.func66 rfl Tryz.ntmps66 qE hX ⟨h0,h1,h2,trivial⟩ ?_
 clear h0 h1 h2 hX
 simp only [argE,Nat.zero_add,Nat.reduceAdd]
 repeat' first|kernel_rfl|apply g_seq|apply g_reg|apply g_nil|apply g_box|apply g_all|apply g_sto|apply g_asg|apply g_st|apply g_skip|apply g_ct|apply g_cf|apply g_ret|refine r_1 rfl ?_|apply g_cl|exact lfGJ|intro _
 refine g_stop fun a w h=> ?_
 have e0:bestF (fun a b=>cmpQ a b==1) q (l.take 0)=q:=rfl
 refine cw_block ?_
 refine cw_loop (fun k a w=>∃ i:Nat,i+k=l.length∧Lq (bestF (fun a b=>cmpQ a b==1) q (l.take i)) M∧TS _ _ [(_,VTy.qc (bestF (fun a b=>cmpQ a b==1) q (l.take i)) M),(_,VTy.q0),(_,VTy.qa q M)] [(14, .is (.int .i64 (i:Int))),(13, .is (.int .i64 l.length)),(12, .rq J0 l),(7,VTy.is (.pointer (some ⟨_,0,none⟩))),(6,VTy.is (.pointer (some ⟨_,0,none⟩))),(0,VTy.fv 67 [.is (.int .i64 (-1))] [])] 27 a w) l.length ⟨0,by omega,hq0,h.keep [14,13,12,7,6,0]⟩ ?_
 clear h
 rintro k a w ⟨i,hi,hq,h⟩
 by_cases hlt:i<l.length
 ·obtain ⟨x,hx⟩:∃ x,l[i]? =some x:=⟨_,List.getElem?_eq_getElem hlt⟩
  have hc1:decide ((i:Int)<(l.length:Int))=true:=decide_eq_true qO
  have hw:=i64_next hlt hmx
  have hlx:=(hfw x (List.mem_of_getElem? hx)).mono hJ
  cases hcc:(cmpQ (qv x) (bestF (fun a b=>cmpQ a b==1) q (l.take i))==1) with
  |true=>
   have en:bestF (fun a b=>cmpQ a b==1) q (l.take (i+1))=qv x:=by rw [bestF_next hx];simp only [hcc,cond_true]
   refine g_of h ?_
   clear h
   repeat' first|kernel_rfl|exact g_done fun _ _ h=>⟨k - 1,by omega,i+1,by omega,by rw [en];exact hlx,(((h.keep [14,13,12,7,6,0]).tail).less (fun b hb=>List.mem_cons_of_mem _ hb) qE).locs (.cons (fun _ _=>qc_qc en.symm (by rw [en];exact hlx)) (.same (.same .nil)))⟩|apply g_seq|apply g_reg|apply g_nil|apply g_mv (s:=14)|apply g_box|apply g_all|apply g_sto|apply g_asg|apply g_st|apply g_skip|apply g_ct|apply g_cf|apply g_ret|refine r_1 rfl ?_|apply g_blk|apply g_eb|apply g_ex|apply e_t|apply e_h|refine e_o rfl ?_|apply r_t|apply r_b|apply g_cl|exact lfGJ|intro _
  |false=>
   have en:bestF (fun a b=>cmpQ a b==1) q (l.take (i+1))=bestF (fun a b=>cmpQ a b==1) q (l.take i):=by rw [bestF_next hx];simp only [hcc,cond_false]
   refine g_of h ?_
   clear h
   repeat' first|kernel_rfl|exact g_done fun _ _ h=>⟨k - 1,by omega,i+1,by omega,by rw [en];exact hq,(((h.keep [14,13,12,7,6,0]).tail).less (fun b hb=>List.mem_cons_of_mem _ hb) qE).locs (.cons (fun _ _=>qc_qc en.symm (by rw [en];exact hq)) (.same (.same .nil)))⟩|apply g_seq|apply g_reg|apply g_nil|apply g_mv (s:=14)|apply g_box|apply g_all|apply g_sto|apply g_asg|apply g_st|apply g_skip|apply g_ct|apply g_cf|apply g_ret|refine r_1 rfl ?_|apply g_blk|apply g_eb|apply g_ex|apply e_t|apply e_h|refine e_o rfl ?_|apply r_t|apply r_b|apply g_cl|exact lfGJ|intro _
 ·have hc1:decide ((i:Int)<(l.length:Int))=false:=decide_eq_false qO
  have ei:l.take i=l:=List.take_of_length_le qO
  rw [ei] at h
  refine g_of h ?_
  clear h
  repeat' first|kernel_rfl|apply g_seq|apply g_reg|apply g_nil|apply g_box|apply g_all|apply g_sto|apply g_asg|apply g_st|apply g_skip|apply g_ct|apply g_cf|apply g_ret|refine r_1 rfl ?_|apply g_blk|apply g_eb|apply g_ex|apply e_t|apply e_h|refine e_o rfl ?_|apply r_t|apply r_b|apply g_cl|exact lfGJ|intro _
theorem ei_foremost:Enters Tryz.prog 66:=fun _ _=>by kernel_rfl
section
variable {w00:World} {N:Nat} {L:List Loc} {E:List (Nat×VTy)} {d:Nat} {t0:TypeId} {pos:String} {af:Array Edge} {gd:Option (Nat×Bool)} {ats:Array TypeId}
end
section
variable {w00:World} {N:Nat} {L:List Loc} {E:List (Nat×VTy)} {d:Nat} {t0:TypeId} {pos:String} {af:Array Edge} {gd:Option (Nat×Bool)} {ats:Array TypeId}
theorem si_frontmax{o2:Operand} [OpC E o0 (.fv 67 [.is (.int .i64 (-1))] [])] [OpC E o1 T1] [a1:AsQ T1 q L0] [OpC E o2 (.rq J0 l)] (hE:Tab w00) (hL:L0≤M) (hJ:J0≤M) (hM:M≤450):
 StepT Tryz.prog w00 N L E ⟨some d, .call { callee:= .value (.func 66),args:= #[o0,o1,o2],argTypes:=ats },t0,pos,af,gd⟩ (.qc (bestF (fun a b=>cmpQ a b==1) q l) M):=
 sc3 ei_foremost fun X w v0 v1 v2 hX _ hB h0 h1 h2=>crn_frontmax (hE.below hB) hX h0 (qa_mono hL (a1.ok h1)) h2 hJ hM
end
theorem crn_max(hE:Tab w) (hX:∀ b∈X,b<w.heap.size) (h0:(VTy.qa q L0).holds X w v0) (h1:(VTy.rq J0 l).holds X w v1) (hb:L0≤60∧J0≤60):
 Calls Tryz.prog 21 #[v0,v1] w (Gives X w (.qn (maxR (q::l.map qv)) (max L0 J0) w.heap.size)):=by
 have ev:bestF (fun a b=>cmpQ a b==1) q l=maxR (q::l.map qv):=by
  unfold maxR
  rw [bestF_R]
  congr 1
  funext a b
  exact cmpQ_over a b
 refine g_enter (Ts:=[.qa q L0, .rq J0 l]) (vs:=[v0,v1]) Tryz.func21 rfl Tryz.ntmps21 qE hX ⟨h0,h1,trivial⟩ ?_
 clear h0 h1 hX
 simp only [argE,Nat.zero_add,Nat.reduceAdd]
 repeat' first|kernel_rfl|apply g_seq|apply g_reg|apply g_nil|apply g_box|apply g_all|apply g_sto|apply g_asg|apply g_st|apply g_skip|apply g_ct|apply g_cf|apply g_ret|refine r_1 rfl ?_|apply g_cl|exact si_frontmax (M:=max L0 J0) hE qO qO qO|exact ⟨fun _ _=>(qn_eq ev)⟩|exact lfGJ|intro _
section
variable {w00:World} {N:Nat} {L:List Loc} {E:List (Nat×VTy)} {d:Nat} {t0:TypeId} {pos:String} {af:Array Edge} {gd:Option (Nat×Bool)} {ats:Array TypeId}
theorem er_new:Enters Tryz.prog 56:=fun _ _=>by kernel_rfl
theorem cr_new{N0:Int} {M0:Int} (hE:Tab w) (hX:∀ b∈X,b<w.heap.size) (h0:(VTy.na N0 L0).holds X w v0) (h1:(VTy.na M0 K0).holds X w v1) (hb:L0≤90∧K0≤90) (hD:M0≠0):Calls Tryz.prog 56 #[v0,v1] w (Gives X w (.tup [.qc (Rat.divInt N0 M0) (max L0 K0), .is (.int .i64 0)])):=by
 exact (crn_new hE hX h0 h1 qO hD).mono fun e w' h=>h.imp (tup_imp (fun _ g=>nw_ex g) fun _ h=>h)
theorem sr_new{N0:Int} {M0:Int} [OpC E o0 T0] [a0:AsN T0 N0 L0] [OpC E o1 T1] [a1:AsN T1 M0 K0] (hE:Tab w00) (hb:L0≤90∧K0≤90) (hD:M0≠0):
 StepT Tryz.prog w00 N L E ⟨some d, .call { callee:= .value (.func 56),args:= #[o0,o1],argTypes:=ats },t0,pos,af,gd⟩ (.tup [.qc (Rat.divInt N0 M0) (max L0 K0), .is (.int .i64 0)]):=
 sc2 er_new fun X w v0 v1 hX _ hB h0 h1=>cr_new (hE.below hB) hX (a0.ok h0) (a1.ok h1) hb hD
theorem er_of:Enters Tryz.prog 16:=fun _ _=>by kernel_rfl
theorem cr_of{k1:Int} (hE:Tab w) (hX:∀ b∈X,b<w.heap.size) (h0:(VTy.is (.int .i64 k0)).holds X w v0) (h1:(VTy.is (.int .i64 k1)).holds X w v1) (hk: -9223372036854775808≤k0∧k0≤9223372036854775807) (hm: -9223372036854775808≤k1∧k1≤9223372036854775807) (hD:k1≠0):Calls Tryz.prog 16 #[v0,v1] w (Gives X w (.tup [.qc (Rat.divInt k0 k1) 2, .is (.int .i64 0)])):=by
 exact (crn_of hE hX h0 h1 hk hm hD).mono fun e w' h=>h.imp (tup_imp (fun _ g=>nw_ex g) fun _ h=>h)
theorem sr_of{k1:Int} [OpC E o0 (.is (.int .i64 k0))] [OpC E o1 (.is (.int .i64 k1))] (hE:Tab w00) (hk: -9223372036854775808≤k0∧k0≤9223372036854775807) (hm: -9223372036854775808≤k1∧k1≤9223372036854775807) (hD:k1≠0):
 StepT Tryz.prog w00 N L E ⟨some d, .call { callee:= .value (.func 16),args:= #[o0,o1],argTypes:=ats },t0,pos,af,gd⟩ (.tup [.qc (Rat.divInt k0 k1) 2, .is (.int .i64 0)]):=
 sc2 er_of fun X w v0 v1 hX _ hB h0 h1=>cr_of (hE.below hB) hX h0 h1 hk hm hD
theorem er_whole:Enters Tryz.prog 18:=fun _ _=>by kernel_rfl
theorem cr_whole(hE:Tab w) (hX:∀ b∈X,b<w.heap.size) (h0:(VTy.is (.int .i64 k0)).holds X w v0) (hk: -9223372036854775808≤k0∧k0≤9223372036854775807):Calls Tryz.prog 18 #[v0] w (Gives X w (.qc (k0:Rat) 2)):=by
 exact (crn_whole hE hX h0 hk).mono fun e w' h=>h.imp fun _ g=>nw_ex g
theorem sr_whole[OpC E o0 (.is (.int .i64 k0))] (hE:Tab w00) (hk: -9223372036854775808≤k0∧k0≤9223372036854775807):
 StepT Tryz.prog w00 N L E ⟨some d, .call { callee:= .value (.func 18),args:= #[o0],argTypes:=ats },t0,pos,af,gd⟩ (.qc (k0:Rat) 2):=
 sc1 er_whole fun X w v0 hX _ hB h0=>cr_whole (hE.below hB) hX h0 hk
theorem er_add:Enters Tryz.prog 24:=fun _ _=>by kernel_rfl
theorem cr_add(hE:Tab w) (hX:∀ b∈X,b<w.heap.size) (h0:(VTy.qa p L0).holds X w v0) (h1:(VTy.qa q K0).holds X w v1) (hb:L0≤90∧K0≤90):Calls Tryz.prog 24 #[v0,v1] w (Gives X w (.qc (p+q) (L0+K0+1))):=by
 exact (crn_add hE hX h0 h1 hb).mono fun e w' h=>h.imp fun _ g=>nw_ex g
theorem sr_add[OpC E o0 T0] [a0:AsQ T0 p L0] [OpC E o1 T1] [a1:AsQ T1 q K0] (hE:Tab w00) (hb:L0≤90∧K0≤90):
 StepT Tryz.prog w00 N L E ⟨some d, .call { callee:= .value (.func 24),args:= #[o0,o1],argTypes:=ats },t0,pos,af,gd⟩ (.qc (p+q) (L0+K0+1)):=
 sc2 er_add fun X w v0 v1 hX _ hB h0 h1=>cr_add (hE.below hB) hX (a0.ok h0) (a1.ok h1) hb
theorem er_sub:Enters Tryz.prog 20:=fun _ _=>by kernel_rfl
theorem cr_sub(hE:Tab w) (hX:∀ b∈X,b<w.heap.size) (h0:(VTy.qa p L0).holds X w v0) (h1:(VTy.qa q K0).holds X w v1) (hb:L0≤90∧K0≤90):Calls Tryz.prog 20 #[v0,v1] w (Gives X w (.qc (p - q) (L0+K0+1))):=by
 exact (crn_sub hE hX h0 h1 hb).mono fun e w' h=>h.imp fun _ g=>nw_ex g
theorem sr_sub[OpC E o0 T0] [a0:AsQ T0 p L0] [OpC E o1 T1] [a1:AsQ T1 q K0] (hE:Tab w00) (hb:L0≤90∧K0≤90):
 StepT Tryz.prog w00 N L E ⟨some d, .call { callee:= .value (.func 20),args:= #[o0,o1],argTypes:=ats },t0,pos,af,gd⟩ (.qc (p - q) (L0+K0+1)):=
 sc2 er_sub fun X w v0 v1 hX _ hB h0 h1=>cr_sub (hE.below hB) hX (a0.ok h0) (a1.ok h1) hb
theorem er_mul:Enters Tryz.prog 48:=fun _ _=>by kernel_rfl
theorem cr_mul(hE:Tab w) (hX:∀ b∈X,b<w.heap.size) (h0:(VTy.qa p L0).holds X w v0) (h1:(VTy.qa q K0).holds X w v1) (hb:L0≤90∧K0≤90):Calls Tryz.prog 48 #[v0,v1] w (Gives X w (.qc (p*q) (L0+K0))):=by
 exact (crn_mul hE hX h0 h1 hb).mono fun e w' h=>h.imp fun _ g=>nw_ex g
theorem sr_mul[OpC E o0 T0] [a0:AsQ T0 p L0] [OpC E o1 T1] [a1:AsQ T1 q K0] (hE:Tab w00) (hb:L0≤90∧K0≤90):
 StepT Tryz.prog w00 N L E ⟨some d, .call { callee:= .value (.func 48),args:= #[o0,o1],argTypes:=ats },t0,pos,af,gd⟩ (.qc (p*q) (L0+K0)):=
 sc2 er_mul fun X w v0 v1 hX _ hB h0 h1=>cr_mul (hE.below hB) hX (a0.ok h0) (a1.ok h1) hb
theorem er_div:Enters Tryz.prog 19:=fun _ _=>by kernel_rfl
theorem cr_div(hE:Tab w) (hX:∀ b∈X,b<w.heap.size) (h0:(VTy.qa p L0).holds X w v0) (h1:(VTy.qa q K0).holds X w v1) (hb:L0≤90∧K0≤90) (hq:q≠0):Calls Tryz.prog 19 #[v0,v1] w (Gives X w (.tup [.qc (p / q) (L0+K0), .is (.int .i64 0)])):=by
 exact (crn_div hE hX h0 h1 hb hq).mono fun e w' h=>h.imp (tup_imp (fun _ g=>nw_ex g) fun _ h=>h)
theorem sr_div[OpC E o0 T0] [a0:AsQ T0 p L0] [OpC E o1 T1] [a1:AsQ T1 q K0] (hE:Tab w00) (hb:L0≤90∧K0≤90) (hq:q≠0):
 StepT Tryz.prog w00 N L E ⟨some d, .call { callee:= .value (.func 19),args:= #[o0,o1],argTypes:=ats },t0,pos,af,gd⟩ (.tup [.qc (p / q) (L0+K0), .is (.int .i64 0)]):=
 sc2 er_div fun X w v0 v1 hX _ hB h0 h1=>cr_div (hE.below hB) hX (a0.ok h0) (a1.ok h1) hb hq
theorem er_neg:Enters Tryz.prog 22:=fun _ _=>by kernel_rfl
theorem cr_neg(hE:Tab w) (hX:∀ b∈X,b<w.heap.size) (h0:(VTy.qa p L0).holds X w v0) (hb:L0≤90):Calls Tryz.prog 22 #[v0] w (Gives X w (.qc (-p) L0)):=by
 exact (crn_neg hE hX h0 hb).mono fun e w' h=>h.imp fun _ g=>nw_ex g
theorem sr_neg[OpC E o0 T0] [a0:AsQ T0 p L0] (hE:Tab w00) (hb:L0≤90):
 StepT Tryz.prog w00 N L E ⟨some d, .call { callee:= .value (.func 22),args:= #[o0],argTypes:=ats },t0,pos,af,gd⟩ (.qc (-p) L0):=
 sc1 er_neg fun X w v0 hX _ hB h0=>cr_neg (hE.below hB) hX (a0.ok h0) hb
theorem er_cmp:Enters Tryz.prog 23:=fun _ _=>by kernel_rfl
theorem cr_cmp(hE:Tab w) (hX:∀ b∈X,b<w.heap.size) (h0:(VTy.qa p L0).holds X w v0) (h1:(VTy.qa q K0).holds X w v1) (hb:L0≤90∧K0≤90):Calls Tryz.prog 23 #[v0,v1] w (Gives X w (.is (.int .i64 (cmpQ p q)))):=by
 exact crn_cmp hE hX h0 h1 hb
theorem sr_cmp[OpC E o0 T0] [a0:AsQ T0 p L0] [OpC E o1 T1] [a1:AsQ T1 q K0] (hE:Tab w00) (hb:L0≤90∧K0≤90):
 StepT Tryz.prog w00 N L E ⟨some d, .call { callee:= .value (.func 23),args:= #[o0,o1],argTypes:=ats },t0,pos,af,gd⟩ (.is (.int .i64 (cmpQ p q))):=
 sc2 er_cmp fun X w v0 v1 hX _ hB h0 h1=>cr_cmp (hE.below hB) hX (a0.ok h0) (a1.ok h1) hb
theorem er_sign:Enters Tryz.prog 26:=fun _ _=>by kernel_rfl
theorem cr_sign(hE:Tab w) (hX:∀ b∈X,b<w.heap.size) (h0:(VTy.qa p L0).holds X w v0) (hb:L0≤90):Calls Tryz.prog 26 #[v0] w (Gives X w (.is (.int .i64 (cmpQ p 0)))):=by
 exact crn_sign hE hX h0 hb
theorem sr_sign[OpC E o0 T0] [a0:AsQ T0 p L0] (hE:Tab w00) (hb:L0≤90):
 StepT Tryz.prog w00 N L E ⟨some d, .call { callee:= .value (.func 26),args:= #[o0],argTypes:=ats },t0,pos,af,gd⟩ (.is (.int .i64 (cmpQ p 0))):=
 sc1 er_sign fun X w v0 hX _ hB h0=>cr_sign (hE.below hB) hX (a0.ok h0) hb
theorem er_same:Enters Tryz.prog 15:=fun _ _=>by kernel_rfl
theorem cr_same(hE:Tab w) (hX:∀ b∈X,b<w.heap.size) (h0:(VTy.qa p L0).holds X w v0) (h1:(VTy.qa q K0).holds X w v1) (hb:L0≤90∧K0≤90):Calls Tryz.prog 15 #[v0,v1] w (Gives X w (.is (.bool (cmpQ p q==0)))):=by
 exact crn_same hE hX h0 h1 hb
theorem sr_same[OpC E o0 T0] [a0:AsQ T0 p L0] [OpC E o1 T1] [a1:AsQ T1 q K0] (hE:Tab w00) (hb:L0≤90∧K0≤90):
 StepT Tryz.prog w00 N L E ⟨some d, .call { callee:= .value (.func 15),args:= #[o0,o1],argTypes:=ats },t0,pos,af,gd⟩ (.is (.bool (cmpQ p q==0))):=
 sc2 er_same fun X w v0 v1 hX _ hB h0 h1=>cr_same (hE.below hB) hX (a0.ok h0) (a1.ok h1) hb
theorem er_right:Enters Tryz.prog 103:=fun _ _=>by kernel_rfl
theorem cr_right(hE:Tab w) (hX:∀ b∈X,b<w.heap.size) (h0:(VTy.qx x L0).holds X w v0) (hb:L0≤90):Calls Tryz.prog 103 #[v0] w (Gives X w (.is (.bool (qrt x)))):=by
 exact crn_right hE hX h0 qO
theorem er_max:Enters Tryz.prog 21:=fun _ _=>by kernel_rfl
theorem cr_max{l:List Rat} (hE:Tab w) (hX:∀ b∈X,b<w.heap.size) (h0:(VTy.qa p L0).holds X w v0) (h1:(VTy.rv l K0).holds X w v1) (hb:L0≤60∧K0≤60):Calls Tryz.prog 21 #[v0,v1] w (Gives X w (.qc (maxR (p::l)) (max L0 K0))):=by
 obtain ⟨l,rfl,h1⟩:=h1
 exact (crn_max hE hX h0 h1 hb).mono fun e w' h=>h.imp fun _ g=>nw_ex g
theorem sr_max{l:List Rat} [OpC E o0 T0] [a0:AsQ T0 p L0] [OpC E o1 T1] [a1:AsR T1 l K0] (hE:Tab w00) (hb:L0≤60∧K0≤60):
 StepT Tryz.prog w00 N L E ⟨some d, .call { callee:= .value (.func 21),args:= #[o0,o1],argTypes:=ats },t0,pos,af,gd⟩ (.qc (maxR (p::l)) (max L0 K0)):=
 sc2 er_max fun X w v0 v1 hX _ hB h0 h1=>cr_max (hE.below hB) hX (a0.ok h0) (a1.ok h1) hb
end
section
variable {w00:World} {N:Nat} {L:List Loc} {E:List (Nat×VTy)} {d:Nat} {t0:TypeId} {pos:String} {af:Array Edge} {gd:Option (Nat×Bool)} {ats:Array TypeId}
theorem sr_sameU{u:Bool} [OpC E o0 T0] [a0:AsQ T0 p L0] [OpC E o1 T1] [a1:AsQ T1 q K0] (hE:Tab w00) (hb:L0≤90∧K0≤90) (hu:(cmpQ p q==0)=u):
 StepT Tryz.prog w00 N L E ⟨some d, .call { callee:= .value (.func 15),args:= #[o0,o1],argTypes:=ats },t0,pos,af,gd⟩ (.is (.bool u)):=by
 rw [←hu]
 exact sr_same hE hb
end
theorem cmpQ_le {p q:Rat}:cmpQ p q≤0↔p≤q:=by
 unfold cmpQ
 split
 ·rename_i h;exact ⟨fun _=>Rat.le_of_lt h,fun _=>by decide⟩
 ·rename_i h
  split
  ·rename_i e;exact ⟨fun _=>e▸Rat.le_refl,fun _=>by decide⟩
  ·rename_i e
   refine ⟨fun h=>absurd h qD,fun hle=> ?_⟩
   exact absurd (Rat.lt_of_le_of_ne hle e) h
theorem cmpQ_zero:cmpQ p q=0↔p=q:=by
 unfold cmpQ
 split
 ·rename_i h;exact ⟨fun h=>absurd h qD,fun e=>absurd h (e▸Rat.lt_irrefl)⟩
 ·split
  ·rename_i e;exact ⟨fun _=>e,fun _=>rfl⟩
  ·rename_i e;exact ⟨fun h=>absurd h qD,fun h=>absurd h e⟩
theorem cmpQ_anti (p q:Rat): -(cmpQ q p)=cmpQ p q:=by
 unfold cmpQ
 by_cases h:p<q
 ·have h1:¬ q<p:=fun h'=>Rat.not_le.2 h (Rat.le_of_lt h')
  have h2:¬ q=p:=fun e=>Rat.lt_irrefl (e▸h)
  rw [if_pos h,if_neg h1,if_neg h2]
 ·rw [if_neg h]
  by_cases e:p=q
  ·subst e;simp [h]
  ·have h1:q<p:=Rat.lt_of_le_of_ne (Rat.not_lt.1 h) (fun h=>e h.symm)
   rw [if_pos h1,if_neg e];rfl
theorem cmpQ_ge {p q:Rat}:0≤cmpQ p q↔q≤p:=by
 have:=cmpQ_anti p q
 rw [←cmpQ_le]
 omega
theorem cmpQ_lt:cmpQ p q<0↔p<q:=by
 have h1:= @cmpQ_ge p q
 rw [←Rat.not_le,←h1]
 omega
theorem cmpQ_gt:0<cmpQ p q↔q<p:=by
 have h1:= @cmpQ_le p q
 rw [←Rat.not_le,←h1]
 omega
class AsZ (T:VTy) (x:outParam RawQ):Prop where
 ok:∀ {X w v},T.holds X w v→(VTy.qz x).holds X w v
instance {x:RawQ}:AsZ (.qz x) x:=⟨fun h=>h⟩
instance {x:RawQ} {L:Nat}:AsZ (.qx x L) x:=⟨fun ⟨y,h,g⟩=>⟨y,h.1,g⟩⟩
instance {L:Nat} {x:RawQ}:AsZ (.el Rp.frac (fewQ L) x) x:=⟨fun ⟨y,h,g⟩=>⟨y,h.1,g⟩⟩
section
variable {w00:World} {N:Nat} {L:List Loc} {E:List (Nat×VTy)} {d:Nat} {t0:TypeId} {pos:String} {af:Array Edge} {gd:Option (Nat×Bool)} {ats:Array TypeId}
theorem sr_rightc[OpC E o0 (.qc q L0)] (hE:Tab w00) (hb:L0≤90):StepT Tryz.prog w00 N L E ⟨some d, .call { callee:= .value (.func 103),args:= #[o0],argTypes:=ats },t0,pos,af,gd⟩ (.is (.bool true)):=
 sc1 er_right fun X w v0 hX _ hB h0=>by
  obtain ⟨x,⟨hf,hl⟩,g⟩:=h0
  have:=cr_right (L0:=L0) (hE.below hB) hX (x:=x) ⟨x,⟨rfl,(hf.len hl).1,(hf.len hl).2,hl.pos⟩,g⟩ hb
  rwa [hf.right] at this
end
theorem few_qa{v:Value} {k:Nat} (hk:0<k) (h:(VTy.qz x).holds X w v) (e:(decide ((x.1.2.length:Int)≤(k:Int))&&decide ((x.2.2.length:Int)≤(k:Int)))=true):(VTy.qx x k).holds X w v:=by
 obtain ⟨y,rfl,g⟩:=h
 rw [Bool.and_eq_true,decide_eq_true_eq,decide_eq_true_eq] at e
 exact ⟨y,⟨rfl,by omega,by omega,hk⟩,g⟩
def VTy.nz (x:RawI):VTy:=VTy.ex Rp.num fun y=>y=x
instance {x:RawI}:SizeV (.nz x) 2 true:=inferInstanceAs (SizeV (.ex Rp.num _) Rp.num.k true)
instance {x:RawI}:PartC (.nz x) 0 2 true (.nz x):= .whole inferInstance
theorem PartC.limbsI {p:RawI→Prop} {xs:List Int} (h:∀ x,p x→x.2=xs):PartC (.ex Rp.num p) 1 1 false (.rc Rp.limbs xs):=⟨fun _=>rfl,fun {X w v} hv=>by
 obtain ⟨x,hp,cs,rfl,h1⟩:=hv
 obtain ⟨A,n,c,rfl,hs,hd⟩:=num_rd.1 h1
 refine ⟨[.slice A n c],rfl,fun j u hj=> ?_,fun u _ hu=> ?_⟩
 ·have hj0:j=0:=by have:=(List.getElem?_eq_some_iff.1 hj).1;simpa using this
  subst hj0
  simpa [Value.cells] using hj
 ·have:=hu rfl
  simp at this
  subst this
  exact ⟨A,n,c,rfl,by rw [←h x hp];exact hs,by rw [←h x hp];exact hd⟩⟩
instance {x:RawI}:PartC (.nz x) 1 1 false (.rc Rp.limbs x.2):= .limbsI fun _ h=>by rw [h]
instance {x:RawI} {L:Nat}:PartC (.nx x L) 1 1 false (.rc Rp.limbs x.2):= .limbsI fun _ h=>by rw [h.1]
section
variable {w00:World} {N:Nat} {L:List Loc} {E:List (Nat×VTy)} {d:Nat} {t0:TypeId} {pos:String} {af:Array Edge} {gd:Option (Nat×Bool)} {ats:Array TypeId}
end
end Go.Proofs.YtfepenpngklogaaGreatDoor
