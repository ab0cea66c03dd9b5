/- DecKnown. -/
import Derived.Test.YtfepenpngklogaaGreatDoorGS
import Derived.Test.YtfepenpngklogaaGreatDoorGR
set_option maxHeartbeats 4000000
set_option maxRecDepth 20000
set_option synthInstance.maxHeartbeats 400000
set_option synthInstance.maxSize 4000
set_option linter.unusedSimpArgs false
set_option linter.unusedVariables false
namespace Go.Proofs.YtfepenpngklogaaGreatDoor
open Go Go.RowKit
instance:TyC Tryz.prog 3 1 false:=⟨⟨_,Tryz.underlying3,rfl⟩,by kernel_rfl⟩
def sK:List (List UInt8):=[[],[48],[45,48],[45,48,46,48],[45,48,46,48,49],[48,48],[48,46],[46,53],[49,46],[49,46,48],[48,49],[49,46,50,46,51],[45,45,49],[45],[43,49],[49,37],[49,48,48,37],[49,48,48,46,48,48,48,48,37],[49,48,48,46,48,48,48,49,37],[48,46,48,48,48,48,49,37],[49,46,50,51,52,53,37],[45,49,37],[37],[48,37],[51,55,46,53,37],[49,44,53],[32,49],[57,57,57,57,57,57,57,57,57,57,57,57,57,57,57,57,57,57,57,57,57,57,57,57,57,57,57,57,57,57,57,57,57,57,57,57,57,57,57,57],[57,57,57,57,57,57,57,57,57,57,57,57,57,57,57,57,57,57,57,57,57,57,57,57,57,57,57,57,57,57,57,57,57,57,57,57,57,57,57,57,57],[48,46,48,48,48,48,48,48,48,48,48,48,48,48,48,48,48,48,48,48,48,48,48,48,48,48,48,48,48,48,48,48,48,48,48,48,48,48,48,48,49],[48,46,48,48,48,48,48,48,48,48,48,48,48,48,48,48,48,48,48,48,48,48,48,48,48,48,48,48,48,48,48,48,48,48,48,48,48,48,48,48,48,49],[49,46,48,48,53],[57,57,57,57,57,57,57,57,57,57,57,57,57,57,57,57,57,57,57,57,57,57,57,57,57,57,57,57,57,57,57,57,57,57,57,57,57,57,57,57,57,46,48,48,53],[48,48,37]]
def iK:List Int:=[(-1),0,39,40,41,1099511627776]
abbrev sV:List Value:=sK.map Tx
abbrev iV:List Value:=iK.map (Value.int .i64)
theorem sV_mem:∀ u∈sV,∃ l:List UInt8,u=Tx l∧l.length≤100:=fun u hu=>by
 obtain ⟨l,hl,rfl⟩:=List.mem_map.1 hu
 exact ⟨l,rfl,(by decide:∀ l∈sK,l.length≤100) l hl⟩
theorem iV_mem:∀ u∈iV,∃ n:Int,u= .int .i64 n:=fun u hu=>by
 obtain ⟨n,_,rfl⟩:=List.mem_map.1 hu
 exact ⟨n,rfl⟩
theorem l6_putsA {T:VTy} {n:Int} (hT:∀ {X:List Nat} {w:World} {v:Value},T.holds X w v→∃ x,(VTy.qz x).holds X w v):Ctr Tryz.prog Env 4 [0,0] [T, .is (.int .i64 n)] (fun _=> .is (.bool true)):=
 ⟨fun _ _=>by kernel_rfl,fun _ h=>h,fun {X w vs} hG hX ha=>by
  obtain ⟨v,u,rfl,h1,h2⟩:=ha.two
  obtain ⟨x,h1⟩:=hT h1
  exact (l6_puts (x:=x)).run hG hX (vs:=[v,u]) ⟨h1,h2,trivial⟩⟩
theorem l6_nearA {T:VTy} {l:List UInt8} {b:Int} (hT:∀ {X:List Nat} {w:World} {v:Value},T.holds X w v→∃ x,(VTy.qz x).holds X w v) (hl:l.length≤9223372036854775807) (hb:0≤b∧b<256):Ctr Tryz.prog Env 6 [0,0,0] [T, .is (.int .u8 b), .is (Tx l)] (fun _=> .is (.bool true)):=
 ⟨fun _ _=>by kernel_rfl,fun _ h=>h,fun {X w vs} hG hX ha=>by
  obtain ⟨v,us,rfl,h1,h2⟩:=ha.tail
  obtain ⟨x,h1⟩:=hT h1
  exact (l6_near (x:=x) hl hb).run hG hX (vs:=v::us) ⟨h1,h2⟩⟩
theorem qc_any {q:Rat} {L:Nat} {X:List Nat} {w:World} {v:Value} (h:(VTy.qc q L).holds X w v):∃ x,(VTy.qz x).holds X w v:=by
 obtain ⟨x,_,g⟩:=h
 exact ⟨x,x,rfl,g⟩
theorem q0_any {X:List Nat} {w:World} {v:Value} (h:VTy.q0.holds X w v):∃ x,(VTy.qz x).holds X w v:=by
 obtain ⟨x,_,g⟩:=h
 exact ⟨x,x,rfl,g⟩
section
variable {w00:World} {N:Nat} {L:List Loc} {E:List (Nat×VTy)} {d:Nat} {t0:TypeId} {pos:String} {af:Array Edge} {gd:Option (Nat×Bool)}
theorem st_remK4 {o:Operand} {x z:Int} {t1:TypeId} [h0:OpC E o (.is (.int .i64 x))] (hx:x.tmod 4=z):StepT Tryz.prog w00 N L E ⟨some d, .binOp .rem 2 o (.const (.int .i64 4)) t1,t0,pos,af,gd⟩ (.is (.int .i64 z)):=by
 constructor
 intro X ρ w hc _ hN hm hsl
 have e0:ρ o= .int .i64 x:=h0.get (X:=X) (w:=w) hc fun p hp e=>hsl p hp qS
 have e1:ρ (.const (.int .i64 4))= .int .i64 4:=hc _
 subst hx
 clear hc hsl h0
 unfold Yields
 go_simp
 exact ⟨rfl,Below.refl _ _⟩
theorem st_mulK31 {o:Operand} {x z:Int} {t1:TypeId} [h0:OpC E o (.is (.int .i64 x))] (hx:IntKind.i64.wrap (x*31)=z):StepT Tryz.prog w00 N L E ⟨some d, .binOp .mul 2 o (.const (.int .i64 31)) t1,t0,pos,af,gd⟩ (.is (.int .i64 z)):=by
 constructor
 intro X ρ w hc _ hN hm hsl
 have e0:ρ o= .int .i64 x:=h0.get (X:=X) (w:=w) hc fun p hp e=>hsl p hp qS
 have e1:ρ (.const (.int .i64 31))= .int .i64 31:=hc _
 subst hx
 clear hc hsl h0
 unfold Yields
 go_simp
 exact ⟨rfl,Below.refl _ _⟩
end
theorem lfGT {p:Prop} (h:p:=by first|exact st_remK4 hr4|exact st_mulK31 hm31|exact st_conv2 Tryz.underlying2 Tryz.underlying5 hcu|exact st_rowV rfl rfl rfl|exact st_lenV|exact st_idxV hu|exact st_loadV|exact st_sadd (by assumption)|exact st_slen|exact st_add' (by assumption)|exact st_move'|exact st_assign'|exact st_load'|exact st_or_f'|exact st_or_t'|exact st_not' (b:=true) (u:=false) rfl|exact st_not' (b:=false) (u:=true) rfl|exact st_not' rfl|exact st_lss' (by first|assumption|rfl)|exact st_len'|exact st_indexAddr' (by assumption)|exact st_loadE'|exact sc hE p1|exact sc hE p2|exact sc hE p3|exact sc hE p4|exact sc hE p5|exact sc hE.tab (l6_by (by omega) (by decide) (by decide))|exact sc hE l6_works|exact sr_build0|exact Cv.rfl'):p:=h
theorem l6_known:Ctr Tryz.prog Env 3 [] [] (fun _=> .is (.bool true)):=by
 refine ctr Tryz.func3 rfl Tryz.ntmps3 qE (fun _ _=>by kernel_rfl) fun X w hE=> ?_
 simp only [argE]
 repeat' first|kernel_rfl|apply g_seq|apply g_reg|apply g_nil|apply g_box|apply g_all|apply g_stf|apply g_stw|apply g_sto|apply g_asg|refine g_run rfl inferInstance lfGT qK ?_|refine g_sk rfl inferInstance rfl qK ?_|refine g_un rfl inferInstance qK ?_|apply g_st|apply g_skip|apply g_ct|apply g_cf|apply g_ret|refine r_1 rfl ?_|apply g_blk|apply g_eb|apply g_ex|apply e_t|apply e_h|refine e_o rfl ?_|apply r_t|apply r_b|apply g_cl|exact lfGT|intro _
 refine g_stop fun a w h=> ?_
 refine cw_loop (fun k a w=>∃ n:Int, -40≤n∧n+(k:Int)=41∧TS _ _ [] [(1, .is (.int .i64 n)),(0, .is (.bool false))] _ a w) 81 ⟨-40,by decide,by decide,h.keep [1,0]⟩ ?_
 clear h
 rintro k a w ⟨n,hn0,hn,h⟩
 have hkn:0≤(k:Int):=qO
 by_cases hlt:n<41
 ·have hc:decide (n<41)=true:=decide_eq_true hlt
  have hw1:IntKind.i64.wrap (n+1)=n+1:=by rw [IntKind.wrap_i64];omega
  have hw2:IntKind.i64.wrap (n+40)=n+40:=by rw [IntKind.wrap_i64];omega
  have hcu:IntKind.u8.wrap (n+40)=n+40:=by rw [IntKind.wrap_u8];omega
  have hm31:IntKind.i64.wrap (n*31)=n*31:=by rw [IntKind.wrap_i64];omega
  obtain ⟨z,hr4⟩:∃ z,n.tmod 4=z:=⟨_,rfl⟩
  have p1:=l6_putsA (n:=z) (qc_any (q:=Rat.divInt n 8) (L:=2))
  have p2:=l6_putsA (n:=2) (qc_any (q:=Rat.divInt n 2000) (L:=2))
  have p3:=l6_putsA (n:=3) (qc_any (q:=Rat.divInt n 40) (L:=2))
  have p4:=l6_nearA (b:=n+40) (l:=[49,50,46,53]) (qc_any (q:=Rat.divInt n 7) (L:=2)) qD qO
  have p5:=l6_putsA (n:=5) (qc_any (q:=Rat.divInt (n*31) 1000000) (L:=2))
  refine g_of h ?_
  clear h
  repeat' first|kernel_rfl|exact g_done fun _ _ h=>⟨k - 1,by omega,n+1,by omega,by omega,h.keep [1,0]⟩|apply g_seq|apply g_reg|apply g_nil|apply g_box|apply g_all|apply g_stf|apply g_stw|apply g_sto|apply g_asg|refine g_run rfl inferInstance lfGT qK ?_|refine g_sk rfl inferInstance rfl qK ?_|refine g_un rfl inferInstance qK ?_|apply g_st|apply g_skip|apply g_ct|apply g_cf|apply g_ret|refine r_1 rfl ?_|apply g_blk|apply g_eb|apply g_ex|apply e_t|apply e_h|refine e_o rfl ?_|apply r_t|apply r_b|apply g_cl|exact lfGT|intro _
 ·have hc:decide (n<41)=false:=decide_eq_false hlt
  clear hn hn0 hkn
  refine g_of h ?_
  clear h
  repeat' first|kernel_rfl|apply g_seq|apply g_reg|apply g_nil|apply g_box|apply g_all|apply g_stf|apply g_stw|apply g_sto|apply g_asg|refine g_run rfl inferInstance lfGT qK ?_|refine g_sk rfl inferInstance rfl qK ?_|refine g_un rfl inferInstance qK ?_|apply g_st|apply g_skip|apply g_ct|apply g_cf|apply g_ret|refine r_1 rfl ?_|apply g_blk|apply g_eb|apply g_ex|apply e_t|apply e_h|refine e_o rfl ?_|apply r_t|apply r_b|apply g_cl|exact lfGT|intro _
  refine g_stop fun a w h=> ?_
  have h:TS _ _ [] [(46, .is (.int .i64 ((0:Nat):Int))),(45, .is (.int .i64 (sV.length:Int))),(44, .vs sV),(0, .is (.bool false))] _ a w:=h.keep [46,45,44,0]
  have hsv:=sV_mem
  have hsl:sV.length≤1000:=by decide
  generalize sV=vs at*
  refine cw_loop (fun k a w=>∃ j:Nat,j+k=vs.length∧TS _ _ [] [(46, .is (.int .i64 (j:Int))),(45, .is (.int .i64 (vs.length:Int))),(44, .vs vs),(0, .is (.bool false))] _ a w) vs.length ⟨0,by omega,h⟩ ?_
  clear h
  rintro k2 a w ⟨j,hj,h⟩
  by_cases hlt2:j<vs.length
  ·have hc2:decide ((j:Int)<(vs.length:Int))=true:=decide_eq_true qO
   obtain ⟨u,hu⟩:∃ u,vs[j]? =some u:=⟨_,List.getElem?_eq_getElem hlt2⟩
   obtain ⟨l,rfl,hl⟩:=hsv u (List.mem_of_getElem? hu)
   have hw:IntKind.i64.wrap ((j:Int)+1)=((j+1:Nat):Int):=i64_small qO qO
   have p1:=l6_reads (l:=l) qO
   have p2:=l6_reads (l:=l++[48]) (by rw [List.length_append,List.length_singleton];omega)
   have p3:=l6_reads (l:=[45]++l) (by rw [List.length_append,List.length_singleton];omega)
   have p4:=l6_nearA (b:=5) (l:=l) (qc_any (q:=Rat.divInt 1 3) (L:=2)) qO qD
   have hadd1:l.length+[(48:UInt8)].length≤9223372036854775807:=by rw [List.length_singleton];omega
   have hadd2:[(45:UInt8)].length+l.length≤9223372036854775807:=by rw [List.length_singleton];omega
   clear hsv
   refine g_of h ?_
   clear h
   repeat' first|kernel_rfl|exact g_done fun _ _ h=>⟨k2 - 1,by omega,j+1,by omega,h.keep [46,45,44,0]⟩|apply g_seq|apply g_reg|apply g_nil|apply g_mv (s:=46)|apply g_box|apply g_all|apply g_stf|apply g_stw|apply g_sto|apply g_asg|refine g_run rfl inferInstance lfGT qK ?_|refine g_sk rfl inferInstance rfl qK ?_|refine g_un rfl inferInstance qK ?_|apply g_st|apply g_skip|apply g_ct|apply g_cf|apply g_ret|refine r_1 rfl ?_|apply g_blk|apply g_eb|apply g_ex|apply e_t|apply e_h|refine e_o rfl ?_|apply r_t|apply r_b|apply g_cl|exact lfGT|intro _
  ·have hc2:decide ((j:Int)<(vs.length:Int))=false:=decide_eq_false qO
   clear hsv
   refine g_of h ?_
   clear h
   repeat' first|kernel_rfl|apply g_seq|apply g_reg|apply g_nil|apply g_mv (s:=46)|apply g_box|apply g_all|apply g_stf|apply g_stw|apply g_sto|apply g_asg|refine g_run rfl inferInstance lfGT qK ?_|refine g_sk rfl inferInstance rfl qK ?_|refine g_un rfl inferInstance qK ?_|apply g_st|apply g_skip|apply g_ct|apply g_cf|apply g_ret|refine r_1 rfl ?_|apply g_blk|apply g_eb|apply g_ex|apply e_t|apply e_h|refine e_o rfl ?_|apply r_t|apply r_b|apply g_cl|exact lfGT|intro _
   refine g_stop fun a w h=> ?_
   have h:TS _ _ [] [(74, .is (.int .i64 ((0:Nat):Int))),(73, .is (.int .i64 (iV.length:Int))),(72, .vs iV),(0, .is (.bool false))] _ a w:=h.keep [74,73,72,0]
   have hsv:=iV_mem
   have hsl2:iV.length≤1000:=by decide
   generalize iV=us at*
   refine cw_loop (fun k a w=>∃ j:Nat,j+k=us.length∧TS _ _ [] [(74, .is (.int .i64 (j:Int))),(73, .is (.int .i64 (us.length:Int))),(72, .vs us),(0, .is (.bool false))] _ a w) us.length ⟨0,by omega,h⟩ ?_
   clear h hc2 hlt2 hj
   rintro k3 a w ⟨j,hj,h⟩
   by_cases hlt2:j<us.length
   ·have hc2:decide ((j:Int)<(us.length:Int))=true:=decide_eq_true qO
    obtain ⟨u,hu⟩:∃ u,us[j]? =some u:=⟨_,List.getElem?_eq_getElem hlt2⟩
    obtain ⟨n,rfl⟩:=hsv u (List.mem_of_getElem? hu)
    have hw:IntKind.i64.wrap ((j:Int)+1)=((j+1:Nat):Int):=i64_small qO qO
    have p1:=l6_putsA (n:=n) (qc_any (q:=Rat.divInt (-2) 3) (L:=2))
    have p2:=l6_putsA (n:=n) q0_any
    clear hsv
    refine g_of h ?_
    clear h
    repeat' first|kernel_rfl|exact g_done fun _ _ h=>⟨k3 - 1,by omega,j+1,by omega,h.keep [74,73,72,0]⟩|apply g_seq|apply g_reg|apply g_nil|apply g_mv (s:=74)|apply g_box|apply g_all|apply g_stf|apply g_stw|apply g_sto|apply g_asg|refine g_run rfl inferInstance lfGT qK ?_|refine g_sk rfl inferInstance rfl qK ?_|refine g_un rfl inferInstance qK ?_|apply g_st|apply g_skip|apply g_ct|apply g_cf|apply g_ret|refine r_1 rfl ?_|apply g_blk|apply g_eb|apply g_ex|apply e_t|apply e_h|refine e_o rfl ?_|apply r_t|apply r_b|apply g_cl|exact lfGT|intro _
   ·have hc2:decide ((j:Int)<(us.length:Int))=false:=decide_eq_false qO
    clear hsv
    refine g_of h ?_
    clear h
    repeat' first|kernel_rfl|apply g_seq|apply g_reg|apply g_nil|apply g_mv (s:=74)|apply g_box|apply g_all|apply g_stf|apply g_stw|apply g_sto|apply g_asg|refine g_run rfl inferInstance lfGT qK ?_|refine g_sk rfl inferInstance rfl qK ?_|refine g_un rfl inferInstance qK ?_|apply g_st|apply g_skip|apply g_ct|apply g_cf|apply g_ret|refine r_1 rfl ?_|apply g_blk|apply g_eb|apply g_ex|apply e_t|apply e_h|refine e_o rfl ?_|apply r_t|apply r_b|apply g_cl|exact lfGT|intro _
end Go.Proofs.YtfepenpngklogaaGreatDoor
