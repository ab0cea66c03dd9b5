/- Package ast: names, money, shares. -/
import Derived.Test.YtgnggldjjjkogaaGreatDoorGN
import Derived.Test.YtgnggldjjjkogaaGreatDoorShelf
import Derived.Test.YtgnggldjjjkogaaGreatDoorGM
import Derived.Test.YtgnggldjjjkogaaGreatDoorGK
import Derived.Test.YtgnggldjjjkogaaGreatDoorGL
import Derived.Test.YtgnggldjjjkogaaGreatDoorGJ
import Derived.Test.YtgnggldjjjkogaaGreatDoorGG
set_option maxHeartbeats 4000000
set_option maxRecDepth 20000
set_option synthInstance.maxHeartbeats 400000
set_option synthInstance.maxSize 4000
set_option linter.unusedSimpArgs false
set_option linter.unusedVariables false
namespace Go.Proofs.YtgnggldjjjkogaaGreatDoor
open Go Go.RowKit
theorem all_u8 (p:UInt8→Prop) (h:∀ n:Fin 256,p (UInt8.ofNat n.val)) (c:UInt8):p c:=by
 have:=h ⟨c.toNat,UInt8.toNat_lt c⟩
 simpa using this
def LETL:List UInt8:=[65,66,67,68,69,70,71,72,73,74,75,76,77,78,79,80,81,82,83,84,85,86,87,88,89,90,97,98,99,100,101,102,103,104,105,106,107,108,109,110,111,112,113,114,115,116,117,118,119,120,121,122]
def INNL:List UInt8:=[65,66,67,68,69,70,71,72,73,74,75,76,77,78,79,80,81,82,83,84,85,86,87,88,89,90,97,98,99,100,101,102,103,104,105,106,107,108,109,110,111,112,113,114,115,116,117,118,119,120,121,122,48,49,50,51,52,53,54,55,56,57,95,45]
theorem let_B (c:UInt8):decide ((0:Int)≤Lib.indexByte LETL c)=letB c:=all_u8 (fun c=>decide ((0:Int)≤Lib.indexByte LETL c)=letB c) (by decide +kernel) c
theorem in_B (c:UInt8):INNL.contains c=inB c:=all_u8 (fun c=>INNL.contains c=inB c) (by decide +kernel) c
theorem dropS_nil {p:UInt8→Bool}:∀ (l:List UInt8),l.dropWhile p=[]↔l.all p=true
 |[]=>by simp
 |c::l=>by
  rw [List.dropWhile_cons,List.all_cons]
  cases h:p c
  ·simp
  ·simpa using dropS_nil l
theorem dropS_all {p:UInt8→Bool}:∀ (l:List UInt8),(l.dropWhile p).all p=true↔l.all p=true
 |[]=>by simp
 |c::l=>by
  rw [List.dropWhile_cons,List.all_cons]
  cases h:p c
  ·simp [h]
  ·simpa using dropS_all l
theorem trimS_nil (l:List UInt8):(Lib.trimS l INNL==[])=l.all inB:=by
 have e:(fun b=>INNL.contains b)=inB:=funext in_B
 rw [Bool.eq_iff_iff,beq_iff_eq]
 show List.dropWhile (fun b=>INNL.contains b) (List.reverse (List.dropWhile (fun b=>INNL.contains b) l.reverse))=[]↔_
 rw [e,dropS_nil,List.all_reverse,dropS_all,List.all_reverse]
def nameP (l:List UInt8):Bool:=((!(l==[]))&&decide ((l.length:Int)≤32))&&(match l with|[]=>false|c::_=>decide ((0:Int)≤Lib.indexByte LETL c))&&(Lib.trimS l INNL==[])
theorem nameP_eq (l:List UInt8):nameP l=nameB l:=by
 unfold nameP nameB
 rw [trimS_nil,Bool.eq_iff_iff]
 cases l with
 |nil=>simp
 |cons c l=>
  dsimp only
  rw [let_B]
  simp only [Bool.and_eq_true,decide_eq_true_eq]
  constructor
  ·rintro ⟨⟨⟨_,h1⟩,h2⟩,h3⟩;exact ⟨⟨h2,h3⟩,by omega⟩
  ·rintro ⟨⟨h2,h3⟩,h1⟩;exact ⟨⟨⟨rfl,by omega⟩,h2⟩,h3⟩
theorem c_trimset {l:List UInt8} (hl:l.length≤9223372036854775807):Ctr Tryz.prog S1 36 [0,0] [.is (Tx l), .is (Tx INNL)] (fun _=> .is (Tx (Lib.trimS l INNL))):=
 ctr_v2 (fun _ _=>by kernel_rfl) fun w _=>(Any.strings_Trim_laid Tryz.lays160 (by kernel_rfl) ⟨l.toArray⟩ ⟨INNL.toArray⟩ w (by rw [bs_size];exact hl) (by decide) (ascii_of_all (by decide))).mono fun e w' h=>by
  rw [data_mk,data_mk] at h
  exact h
theorem c_isname {l:List UInt8}:Ctr Tryz.prog S1 11 [0] [.is (Tx l)] (fun _=> .is (.bool (nameB l))):=by
 rw [←nameP_eq]
 unfold nameP
 have hci:∀ {c:UInt8},Ctr Tryz.prog S1 35 [0,0] [.is (Tx LETL), .is (.int .u8 (c.toNat:Int))] (fun _=> .is (.int .i64 (Lib.indexByte LETL c))):=c_index
 cases h0:(!(l==[]))
 ·simp only [Bool.false_and]
  refine ctr Tryz.func11 rfl Tryz.ntmps11 (by simp) (fun _ _=>by kernel_rfl) fun X w hE=> ?_
  simp only [argE,Nat.zero_add,Nat.reduceAdd]
  repeat' first|kernel_rfl|apply g_seq|apply g_reg|apply g_nil|apply g_box|apply g_all|apply g_stf|apply g_stw|apply g_sto|apply g_asg|refine g_run rfl inferInstance (by first|exact sc trivial hci|exact sc trivial (c_trimset (by omega))|exact st_sidx (by assumption)|exact st_slen|exact st_seq (by first|assumption|rfl)|exact st_sidx (by assumption)|exact st_move'|exact st_eq' (by first|assumption|rfl)|exact st_leq' (by first|assumption|rfl)|exact st_geq' (by first|assumption|rfl)|exact st_len') (by kernel_rfl) ?_|refine g_sk rfl inferInstance rfl (by kernel_rfl) ?_|refine g_un rfl inferInstance (by kernel_rfl) ?_|apply g_st|apply g_skip|apply g_ct|apply g_cf|apply g_ret|refine r_1 rfl ?_|apply g_cl|exact sc trivial hci|exact sc trivial (c_trimset (by omega))|exact st_sidx (by assumption)|exact st_slen|exact st_seq (by first|assumption|rfl)|exact st_sne (by first|assumption|rfl)|exact st_sidx (by assumption)|exact st_move'|exact st_assign'|exact st_and_t'|exact st_and_f'|exact st_eq' (by first|assumption|rfl)|exact st_neq' (by first|assumption|rfl)|exact st_leq' (by first|assumption|rfl)|exact st_geq' (by first|assumption|rfl)|exact st_len'|exact Cv.rfl'|intro _
 cases l with
 |nil=>cases h0
 |cons c t=>
 dsimp only
 cases h1:decide (((c::t).length:Int)≤32)
 ·simp only [Bool.true_and,Bool.false_and]
  refine ctr Tryz.func11 rfl Tryz.ntmps11 (by simp) (fun _ _=>by kernel_rfl) fun X w hE=> ?_
  simp only [argE,Nat.zero_add,Nat.reduceAdd]
  repeat' first|kernel_rfl|apply g_seq|apply g_reg|apply g_nil|apply g_box|apply g_all|apply g_stf|apply g_stw|apply g_sto|apply g_asg|refine g_run rfl inferInstance (by first|exact sc trivial hci|exact sc trivial (c_trimset (by omega))|exact st_sidx (by assumption)|exact st_slen|exact st_seq (by first|assumption|rfl)|exact st_sidx (by assumption)|exact st_move'|exact st_eq' (by first|assumption|rfl)|exact st_leq' (by first|assumption|rfl)|exact st_geq' (by first|assumption|rfl)|exact st_len') (by kernel_rfl) ?_|refine g_sk rfl inferInstance rfl (by kernel_rfl) ?_|refine g_un rfl inferInstance (by kernel_rfl) ?_|apply g_st|apply g_skip|apply g_ct|apply g_cf|apply g_ret|refine r_1 rfl ?_|apply g_cl|exact sc trivial hci|exact sc trivial (c_trimset (by omega))|exact st_sidx (by assumption)|exact st_slen|exact st_seq (by first|assumption|rfl)|exact st_sne (by first|assumption|rfl)|exact st_sidx (by assumption)|exact st_move'|exact st_assign'|exact st_and_t'|exact st_and_f'|exact st_eq' (by first|assumption|rfl)|exact st_neq' (by first|assumption|rfl)|exact st_leq' (by first|assumption|rfl)|exact st_geq' (by first|assumption|rfl)|exact st_len'|exact Cv.rfl'|intro _
 have hx:0≤(0:Int)∧(c::t)[(0:Int).toNat]? =some c:=⟨by omega,rfl⟩
 have hlen:=of_decide_eq_true h1
 cases h2:decide ((0:Int)≤Lib.indexByte LETL c)
 ·simp only [Bool.true_and,Bool.false_and]
  refine ctr Tryz.func11 rfl Tryz.ntmps11 (by simp) (fun _ _=>by kernel_rfl) fun X w hE=> ?_
  simp only [argE,Nat.zero_add,Nat.reduceAdd]
  repeat' first|kernel_rfl|apply g_seq|apply g_reg|apply g_nil|apply g_box|apply g_all|apply g_stf|apply g_stw|apply g_sto|apply g_asg|refine g_run rfl inferInstance (by first|exact sc trivial hci|exact sc trivial (c_trimset (by omega))|exact st_sidx (by assumption)|exact st_slen|exact st_seq (by first|assumption|rfl)|exact st_sidx (by assumption)|exact st_move'|exact st_eq' (by first|assumption|rfl)|exact st_leq' (by first|assumption|rfl)|exact st_geq' (by first|assumption|rfl)|exact st_len') (by kernel_rfl) ?_|refine g_sk rfl inferInstance rfl (by kernel_rfl) ?_|refine g_un rfl inferInstance (by kernel_rfl) ?_|apply g_st|apply g_skip|apply g_ct|apply g_cf|apply g_ret|refine r_1 rfl ?_|apply g_cl|exact sc trivial hci|exact sc trivial (c_trimset (by omega))|exact st_sidx (by assumption)|exact st_slen|exact st_seq (by first|assumption|rfl)|exact st_sne (by first|assumption|rfl)|exact st_sidx (by assumption)|exact st_move'|exact st_assign'|exact st_and_t'|exact st_and_f'|exact st_eq' (by first|assumption|rfl)|exact st_neq' (by first|assumption|rfl)|exact st_leq' (by first|assumption|rfl)|exact st_geq' (by first|assumption|rfl)|exact st_len'|exact Cv.rfl'|intro _
 simp only [Bool.true_and]
 refine ctr Tryz.func11 rfl Tryz.ntmps11 (by simp) (fun _ _=>by kernel_rfl) fun X w hE=> ?_
 simp only [argE,Nat.zero_add,Nat.reduceAdd]
 repeat' first|kernel_rfl|apply g_seq|apply g_reg|apply g_nil|apply g_box|apply g_all|apply g_stf|apply g_stw|apply g_sto|apply g_asg|refine g_run rfl inferInstance (by first|exact sc trivial hci|exact sc trivial (c_trimset (by omega))|exact st_sidx (by assumption)|exact st_slen|exact st_seq (by first|assumption|rfl)|exact st_sidx (by assumption)|exact st_move'|exact st_eq' (by first|assumption|rfl)|exact st_leq' (by first|assumption|rfl)|exact st_geq' (by first|assumption|rfl)|exact st_len') (by kernel_rfl) ?_|refine g_sk rfl inferInstance rfl (by kernel_rfl) ?_|refine g_un rfl inferInstance (by kernel_rfl) ?_|apply g_st|apply g_skip|apply g_ct|apply g_cf|apply g_ret|refine r_1 rfl ?_|apply g_cl|exact sc trivial hci|exact sc trivial (c_trimset (by omega))|exact st_sidx (by assumption)|exact st_slen|exact st_seq (by first|assumption|rfl)|exact st_sne (by first|assumption|rfl)|exact st_sidx (by assumption)|exact st_move'|exact st_assign'|exact st_and_t'|exact st_and_f'|exact st_eq' (by first|assumption|rfl)|exact st_neq' (by first|assumption|rfl)|exact st_leq' (by first|assumption|rfl)|exact st_geq' (by first|assumption|rfl)|exact st_len'|exact Cv.rfl'|intro _
theorem unit_len {k:Nat} {x:RawQ} (hx:Dg 4294967296 x.1.2) (hy:Dg 4294967296 x.2.2) (hk:0<k∧k<4294967296) (h:unitB k x=true):∃ m,x.2.2=[m]∧0<m∧(k:Int).tmod m=0:=by
 unfold unitB at h
 simp only [Bool.and_eq_true,decide_eq_true_eq] at h
 obtain ⟨h1,h2⟩:=h
 obtain ⟨hf,_,_⟩:=Frac.of hx hy h1
 have hd:=(qv x).den_pos
 have hle:(qv x).den≤k:=Nat.le_of_dvd hk.1 (Nat.dvd_of_mod_eq_zero h2)
 have hw:=hf.den
 have hl:x.2.2.length≤1:=hw.row.len_le (by decide) (by have:(4294967296:Int)^1=4294967296:=rfl;omega)
 have hv:=hw.row.val
 match hq:x.2.2,hl with
 |[],_=>
  rw [hq] at hv
  have:(0:Int)=(((qv x).den:Int).natAbs:Int):=hv
  omega
 |[m],_=>
  rw [hq] at hv
  have e:m+4294967296*0=(((qv x).den:Int).natAbs:Int):=hv
  have e':m=((qv x).den:Int):=by omega
  refine ⟨m,rfl,by omega,?_⟩
  rw [e']
  have:((k:Int)%((qv x).den:Int))=0:=by exact_mod_cast congrArg (Nat.cast:Nat→Int) h2
  rw [Int.tmod_eq_emod_of_nonneg (by omega)]
  exact this
theorem unit_one {k:Nat} {x:RawQ} {m:Int} (hx:Dg 4294967296 x.1.2) (hy:Dg 4294967296 x.2.2) (hq:x.2.2=[m]) (hm:0<m) (hr:(k:Int).tmod m=0):unitB k x=qrt x:=by
 unfold unitB
 cases h1:qrt x with
 |false=>rfl
 |true=>
  obtain ⟨hf,_,_⟩:=Frac.of hx hy h1
  have hv:=hf.den.row.val
  rw [hq] at hv
  have e:m+4294967296*0=(((qv x).den:Int).natAbs:Int):=hv
  have e':m=((qv x).den:Int):=by omega
  rw [e',Int.tmod_eq_emod_of_nonneg (by omega)] at hr
  have:k%(qv x).den=0:=by exact_mod_cast hr
  simp [this]
theorem qx_dg {X:List Nat} {w:World} {v:Value} {x:RawQ} {L:Nat} (h:(VTy.qx x L).holds X w v):(Dg 4294967296 x.1.2∧Dg 4294967296 x.2.2)∧x.1.2.length≤L∧x.2.2.length≤L∧0<L:=by
 obtain ⟨y,⟨rfl,hl⟩,cs,e,c1,c2,e2,h1,h2⟩:=h
 obtain ⟨_,_,_,_,_,d1⟩:=num_rd.1 h1
 obtain ⟨_,_,_,_,_,d2⟩:=num_rd.1 h2
 exact ⟨⟨d1,d2⟩,hl⟩
section
variable {w00:World} {N:Nat} {L:List Loc} {E:List (Nat×VTy)} {d:Nat} {t0:TypeId} {pos:String} {af:Array Edge} {gd:Option (Nat×Bool)} {ats:Array TypeId}
theorem st_remU {o o1:Operand} {x y:Int} {t1:TypeId} [h0:OpC E o (.is (.int .u32 x))] [h1:OpC E o1 (.is (.int .u32 y))] (hx:y≠0∧IntKind.u32.wrap (x.tmod y)=x.tmod y):StepT Tryz.prog w00 N L E ⟨some d, .binOp .rem 76 o o1 t1,t0,pos,af,gd⟩ (.is (.int .u32 (x.tmod y))):=by
 constructor
 intro X ρ w hc _ hN hm hsl
 have e0:ρ o= .int .u32 x:=h0.get (X:=X) (w:=w) hc fun p hp e=>hsl p hp (by simp [Op.operands,e])
 have e1:ρ o1= .int .u32 y:=h1.get (X:=X) (w:=w) hc fun p hp e=>hsl p hp (by simp [Op.operands,e])
 obtain ⟨hy,hz⟩:=hx
 clear hc hsl h0 h1
 unfold Yields
 go_simp
 exact ⟨rfl,Below.refl _ _⟩
end
theorem c_wholein {x:RawQ} {L k:Nat} {u:Bool} (hL:L≤90) (hk:0<k∧k<4294967296) (hu:unitB k x=u):Ctr Tryz.prog Tab 37 [4,0] [.qx x L, .is (.int .u32 (k:Int))] (fun _=> .is (.bool u)):=by
 subst hu
 refine ctrF (F:=(Dg 4294967296 x.1.2∧Dg 4294967296 x.2.2)∧x.1.2.length≤L∧x.2.2.length≤L∧0<L) (fun ha=> ?_) (fun _ _=>by kernel_rfl) fun ⟨⟨hx,hy⟩,_⟩=> ?_
 ·obtain ⟨v,us,rfl,h,_⟩:=ha.tail
  exact qx_dg h
 cases h1:((x.2.2.length:Int)==1)
 ·rw [show unitB k x=false by
   cases h:unitB k x with
   |false=>rfl
   |true=>
    obtain ⟨m,e,_⟩:=unit_len hx hy hk h
    rw [e] at h1;cases h1]
  refine ctr Tryz.func37 rfl Tryz.ntmps37 (by simp) (fun _ _=>by kernel_rfl) fun X w hE=> ?_
  simp only [argE,Nat.zero_add,Nat.reduceAdd]
  repeat' first|kernel_rfl|apply g_seq|apply g_reg|apply g_nil|apply g_box|apply g_all|apply g_stf|apply g_stw|apply g_sto|apply g_asg|refine g_run rfl inferInstance (by first|exact st_limbAt (by assumption)|exact st_limb|exact st_remU (by assumption)|exact sr_rightX hE (by omega)|exact st_move'|exact st_load'|exact st_eq' (by first|assumption|rfl)|exact st_gtr' (by first|assumption|rfl)|exact st_indexAddr' (by assumption)|exact st_loadE') (by kernel_rfl) ?_|refine g_sk rfl inferInstance rfl (by kernel_rfl) ?_|refine g_un rfl inferInstance (by kernel_rfl) ?_|apply g_st|apply g_skip|apply g_ct|apply g_cf|apply g_ret|refine r_1 rfl ?_|apply g_cl|exact st_lenL|exact st_limbAt (by assumption)|exact st_limb|exact st_remU (by assumption)|exact sr_rightX hE (by omega)|exact st_move'|exact st_assign'|exact st_load'|exact st_fieldAddr'|exact st_and_t'|exact st_and_f'|exact st_eq' (by first|assumption|rfl)|exact st_gtr' (by first|assumption|rfl)|exact st_len'|exact st_indexAddr' (by assumption)|exact st_loadE'|exact Cv.rfl'|intro _
 obtain ⟨m,hm⟩:∃ m,x.2.2=[m]:=List.length_eq_one_iff.1 (by have:=eq_of_beq h1;omega)
 have hx0:x.2.2[0]? =some m:=by rw [hm];rfl
 have hmr:0≤m∧m<4294967296:=hy m (by rw [hm];exact List.mem_singleton.2 rfl)
 cases h2:decide (0<m)
 ·rw [show unitB k x=false by
   cases h:unitB k x with
   |false=>rfl
   |true=>
    obtain ⟨m',e,h0,_⟩:=unit_len hx hy hk h
    rw [hm] at e
    have e:m=m':=List.head_eq_of_cons_eq e
    rw [e,decide_eq_true h0] at h2;cases h2]
  refine ctr Tryz.func37 rfl Tryz.ntmps37 (by simp) (fun _ _=>by kernel_rfl) fun X w hE=> ?_
  simp only [argE,Nat.zero_add,Nat.reduceAdd]
  repeat' first|kernel_rfl|apply g_seq|apply g_reg|apply g_nil|apply g_box|apply g_all|apply g_stf|apply g_stw|apply g_sto|apply g_asg|refine g_run rfl inferInstance (by first|exact st_limbAt (by assumption)|exact st_limb|exact st_remU (by assumption)|exact sr_rightX hE (by omega)|exact st_move'|exact st_load'|exact st_eq' (by first|assumption|rfl)|exact st_gtr' (by first|assumption|rfl)|exact st_indexAddr' (by assumption)|exact st_loadE') (by kernel_rfl) ?_|refine g_sk rfl inferInstance rfl (by kernel_rfl) ?_|refine g_un rfl inferInstance (by kernel_rfl) ?_|apply g_st|apply g_skip|apply g_ct|apply g_cf|apply g_ret|refine r_1 rfl ?_|apply g_cl|exact st_lenL|exact st_limbAt (by assumption)|exact st_limb|exact st_remU (by assumption)|exact sr_rightX hE (by omega)|exact st_move'|exact st_assign'|exact st_load'|exact st_fieldAddr'|exact st_and_t'|exact st_and_f'|exact st_eq' (by first|assumption|rfl)|exact st_gtr' (by first|assumption|rfl)|exact st_len'|exact st_indexAddr' (by assumption)|exact st_loadE'|exact Cv.rfl'|intro _
 have hm0:=of_decide_eq_true h2
 have hrm:m≠0∧IntKind.u32.wrap ((k:Int).tmod m)=(k:Int).tmod m:=⟨by omega,by
  rw [IntKind.wrap_u32]
  have h1:=Int.tmod_lt_of_pos (k:Int) hm0
  have h2:=Int.tmod_nonneg m (a:=(k:Int)) (by omega)
  omega⟩
 cases h3:((k:Int).tmod m==0)
 ·rw [show unitB k x=false by
   cases h:unitB k x with
   |false=>rfl
   |true=>
    obtain ⟨m',e,h0,h4⟩:=unit_len hx hy hk h
    rw [hm] at e
    have e:m=m':=List.head_eq_of_cons_eq e
    rw [e,h4] at h3;cases h3]
  refine ctr Tryz.func37 rfl Tryz.ntmps37 (by simp) (fun _ _=>by kernel_rfl) fun X w hE=> ?_
  simp only [argE,Nat.zero_add,Nat.reduceAdd]
  repeat' first|kernel_rfl|apply g_seq|apply g_reg|apply g_nil|apply g_box|apply g_all|apply g_stf|apply g_stw|apply g_sto|apply g_asg|refine g_run rfl inferInstance (by first|exact st_limbAt (by assumption)|exact st_limb|exact st_remU (by assumption)|exact sr_rightX hE (by omega)|exact st_move'|exact st_load'|exact st_eq' (by first|assumption|rfl)|exact st_gtr' (by first|assumption|rfl)|exact st_indexAddr' (by assumption)|exact st_loadE') (by kernel_rfl) ?_|refine g_sk rfl inferInstance rfl (by kernel_rfl) ?_|refine g_un rfl inferInstance (by kernel_rfl) ?_|apply g_st|apply g_skip|apply g_ct|apply g_cf|apply g_ret|refine r_1 rfl ?_|apply g_cl|exact st_lenL|exact st_limbAt (by assumption)|exact st_limb|exact st_remU (by assumption)|exact sr_rightX hE (by omega)|exact st_move'|exact st_assign'|exact st_load'|exact st_fieldAddr'|exact st_and_t'|exact st_and_f'|exact st_eq' (by first|assumption|rfl)|exact st_gtr' (by first|assumption|rfl)|exact st_len'|exact st_indexAddr' (by assumption)|exact st_loadE'|exact Cv.rfl'|intro _
 rw [unit_one hx hy hm hm0 (eq_of_beq h3)]
 refine ctr Tryz.func37 rfl Tryz.ntmps37 (by simp) (fun _ _=>by kernel_rfl) fun X w hE=> ?_
 simp only [argE,Nat.zero_add,Nat.reduceAdd]
 repeat' first|kernel_rfl|apply g_seq|apply g_reg|apply g_nil|apply g_box|apply g_all|apply g_stf|apply g_stw|apply g_sto|apply g_asg|refine g_run rfl inferInstance (by first|exact st_limbAt (by assumption)|exact st_limb|exact st_remU (by assumption)|exact sr_rightX hE (by omega)|exact st_move'|exact st_load'|exact st_eq' (by first|assumption|rfl)|exact st_gtr' (by first|assumption|rfl)|exact st_indexAddr' (by assumption)|exact st_loadE') (by kernel_rfl) ?_|refine g_sk rfl inferInstance rfl (by kernel_rfl) ?_|refine g_un rfl inferInstance (by kernel_rfl) ?_|apply g_st|apply g_skip|apply g_ct|apply g_cf|apply g_ret|refine r_1 rfl ?_|apply g_cl|exact st_lenL|exact st_limbAt (by assumption)|exact st_limb|exact st_remU (by assumption)|exact sr_rightX hE (by omega)|exact st_move'|exact st_assign'|exact st_load'|exact st_fieldAddr'|exact st_and_t'|exact st_and_f'|exact st_eq' (by first|assumption|rfl)|exact st_gtr' (by first|assumption|rfl)|exact st_len'|exact st_indexAddr' (by assumption)|exact st_loadE'|exact Cv.rfl'|intro _
theorem c_within_i64 {n a b:Int}:Ctr Tryz.prog S1 186 [0,0,0] [.is (.int .i64 n), .is (.int .i64 a), .is (.int .i64 b)] (fun _=> .is (.bool (withB n a b))):=by
 unfold withB
 cases h0:decide (a≤n)
 ·simp only [Bool.false_and]
  refine ctr Tryz.func186 rfl Tryz.ntmps186 (by simp) (fun _ _=>by kernel_rfl) fun X w hE=> ?_
  simp only [argE,Nat.zero_add,Nat.reduceAdd]
  repeat' first|kernel_rfl|apply g_seq|apply g_reg|apply g_nil|apply g_box|apply g_all|apply g_stf|apply g_stw|apply g_sto|apply g_asg|refine g_run rfl inferInstance (by first|exact st_move'|exact st_leq' (by first|assumption|rfl)) (by kernel_rfl) ?_|refine g_sk rfl inferInstance rfl (by kernel_rfl) ?_|refine g_un rfl inferInstance (by kernel_rfl) ?_|apply g_st|apply g_skip|apply g_ct|apply g_cf|apply g_ret|refine r_1 rfl ?_|apply g_cl|exact st_move'|exact st_assign'|exact st_and_t'|exact st_and_f'|exact st_leq' (by first|assumption|rfl)|exact st_geq' (by first|assumption|rfl)|exact Cv.rfl'|intro _
 simp only [Bool.true_and]
 refine ctr Tryz.func186 rfl Tryz.ntmps186 (by simp) (fun _ _=>by kernel_rfl) fun X w hE=> ?_
 simp only [argE,Nat.zero_add,Nat.reduceAdd]
 repeat' first|kernel_rfl|apply g_seq|apply g_reg|apply g_nil|apply g_box|apply g_all|apply g_stf|apply g_stw|apply g_sto|apply g_asg|refine g_run rfl inferInstance (by first|exact st_move'|exact st_leq' (by first|assumption|rfl)) (by kernel_rfl) ?_|refine g_sk rfl inferInstance rfl (by kernel_rfl) ?_|refine g_un rfl inferInstance (by kernel_rfl) ?_|apply g_st|apply g_skip|apply g_ct|apply g_cf|apply g_ret|refine r_1 rfl ?_|apply g_cl|exact st_move'|exact st_assign'|exact st_and_t'|exact st_and_f'|exact st_leq' (by first|assumption|rfl)|exact st_geq' (by first|assumption|rfl)|exact Cv.rfl'|intro _
theorem c_within_u8 {n a b:Int}:Ctr Tryz.prog S1 223 [0,0,0] [.is (.int .u8 n), .is (.int .u8 a), .is (.int .u8 b)] (fun _=> .is (.bool (withB n a b))):=by
 unfold withB
 cases h0:decide (a≤n)
 ·simp only [Bool.false_and]
  refine ctr Tryz.func223 rfl Tryz.ntmps223 (by simp) (fun _ _=>by kernel_rfl) fun X w hE=> ?_
  simp only [argE,Nat.zero_add,Nat.reduceAdd]
  repeat' first|kernel_rfl|apply g_seq|apply g_reg|apply g_nil|apply g_box|apply g_all|apply g_stf|apply g_stw|apply g_sto|apply g_asg|refine g_run rfl inferInstance (by first|exact st_move'|exact st_leq' (by first|assumption|rfl)) (by kernel_rfl) ?_|refine g_sk rfl inferInstance rfl (by kernel_rfl) ?_|refine g_un rfl inferInstance (by kernel_rfl) ?_|apply g_st|apply g_skip|apply g_ct|apply g_cf|apply g_ret|refine r_1 rfl ?_|apply g_cl|exact st_move'|exact st_assign'|exact st_and_t'|exact st_and_f'|exact st_leq' (by first|assumption|rfl)|exact st_geq' (by first|assumption|rfl)|exact Cv.rfl'|intro _
 simp only [Bool.true_and]
 refine ctr Tryz.func223 rfl Tryz.ntmps223 (by simp) (fun _ _=>by kernel_rfl) fun X w hE=> ?_
 simp only [argE,Nat.zero_add,Nat.reduceAdd]
 repeat' first|kernel_rfl|apply g_seq|apply g_reg|apply g_nil|apply g_box|apply g_all|apply g_stf|apply g_stw|apply g_sto|apply g_asg|refine g_run rfl inferInstance (by first|exact st_move'|exact st_leq' (by first|assumption|rfl)) (by kernel_rfl) ?_|refine g_sk rfl inferInstance rfl (by kernel_rfl) ?_|refine g_un rfl inferInstance (by kernel_rfl) ?_|apply g_st|apply g_skip|apply g_ct|apply g_cf|apply g_ret|refine r_1 rfl ?_|apply g_cl|exact st_move'|exact st_assign'|exact st_and_t'|exact st_and_f'|exact st_leq' (by first|assumption|rfl)|exact st_geq' (by first|assumption|rfl)|exact Cv.rfl'|intro _
theorem c_upto {x:RawQ} {L:Nat} {k:Int} (hL:L≤90) (hk: -9223372036854775808≤k∧k≤9223372036854775807):Ctr Tryz.prog Tab 46 [4,0] [.qx x L, .is (.int .i64 k)] (fun _=> .is (.bool (uptoB k x))):=by
 unfold uptoB
 cases h0:decide (0≤cmpQ (qv x) 0)
 ·simp only [Bool.false_and]
  refine ctr Tryz.func46 rfl Tryz.ntmps46 (by simp) (fun _ _=>by kernel_rfl) fun X w hE=> ?_
  simp only [argE,Nat.zero_add,Nat.reduceAdd]
  repeat' first|kernel_rfl|apply g_seq|apply g_reg|apply g_nil|apply g_draw (id:=1) [(8,false)] [] 10|(apply o_sk;(focus rfl);(focus kernel_rfl))|apply o_all|apply o_go|exact OpsT.nil|exact GuardC.nil|exact UndefC.nil|refine @GuardC.cons _ _ _ _ inferInstance ?_|refine @UndefC.cons _ _ _ inferInstance ?_|apply g_box|apply g_all|apply g_stf|apply g_stw|apply g_sto|apply g_asg|refine g_run rfl inferInstance (by first|fail) (by kernel_rfl) ?_|refine g_sk rfl inferInstance rfl (by kernel_rfl) ?_|refine g_un rfl inferInstance (by kernel_rfl) ?_|apply g_st|apply g_skip|apply g_ct|apply g_cf|apply g_ret|refine r_1 rfl ?_|apply g_cl|exact sr_cmp hE (by omega)|exact sr_sign hE (by omega)|exact sr_whole hE (by decide)|exact st_move'|exact st_assign'|exact st_load'|exact st_and_t'|exact st_and_f'|exact st_leq' (by first|assumption|rfl)|exact st_geq' (by first|assumption|rfl)|exact st_loadE'|exact Cv.rfl'|(intro _;simp only[newX,newL,ptrs,List.map,List.cons_append,List.nil_append])|intro _
 simp only [Bool.true_and]
 refine ctr Tryz.func46 rfl Tryz.ntmps46 (by simp) (fun _ _=>by kernel_rfl) fun X w hE=> ?_
 simp only [argE,Nat.zero_add,Nat.reduceAdd]
 repeat' first|kernel_rfl|apply g_seq|apply g_reg|apply g_nil|apply g_draw (id:=1) [(8,true)] [] 10|apply o_all|apply o_go|exact OpsT.nil|exact GuardC.nil|exact UndefC.nil|refine @GuardC.cons _ _ _ _ inferInstance ?_|refine @UndefC.cons _ _ _ inferInstance ?_|apply g_box|apply g_all|apply g_stf|apply g_stw|apply g_sto|apply g_asg|refine g_run rfl inferInstance (by first|fail) (by kernel_rfl) ?_|refine g_sk rfl inferInstance rfl (by kernel_rfl) ?_|refine g_un rfl inferInstance (by kernel_rfl) ?_|apply g_st|apply g_skip|apply g_ct|apply g_cf|apply g_ret|refine r_1 rfl ?_|apply g_cl|exact sr_cmp hE (by omega)|exact sr_sign hE (by omega)|exact sr_whole hE hk|exact st_move'|exact st_assign'|exact st_load'|exact st_and_t'|exact st_and_f'|exact st_leq' (by first|assumption|rfl)|exact st_geq' (by first|assumption|rfl)|exact st_loadE'|exact Cv.rfl'|(intro _;simp only[newX,newL,ptrs,List.map,List.cons_append,List.nil_append])|intro _
theorem c_whole100 {x:RawQ} {L:Nat} {u:Bool} (hL:L≤90) (hu:unitB 100 x=u):Ctr Tryz.prog Tab 37 [4,0] [.qx x L, .is (.int .u32 100)] (fun _=> .is (.bool u)):=c_wholein (k:=100) hL (by decide) hu
theorem c_wholeM {x:RawQ} {L:Nat} {u:Bool} (hL:L≤90) (hu:unitB 1000000 x=u):Ctr Tryz.prog Tab 37 [4,0] [.qx x L, .is (.int .u32 1000000)] (fun _=> .is (.bool u)):=c_wholein (k:=1000000) hL (by decide) hu
theorem c_isshareX {x:RawQ} {L:Nat} (hL:L≤90):Ctr Tryz.prog Tab 15 [4] [.qx x L] (fun _=> .is (.bool (shrB x))):=by
 unfold shrB
 cases h0:unitB 1000000 x
 ·simp only [Bool.false_and]
  refine ctr Tryz.func15 rfl Tryz.ntmps15 (by simp) (fun _ _=>by kernel_rfl) fun X w hE=> ?_
  simp only [argE,Nat.zero_add,Nat.reduceAdd]
  repeat' first|kernel_rfl|apply g_seq|apply g_reg|apply g_nil|apply g_box|apply g_all|apply g_stf|apply g_stw|apply g_sto|apply g_asg|refine g_run rfl inferInstance (by first|exact sc hE (c_wholeM hL h0)|exact st_load'|exact st_loadE') (by kernel_rfl) ?_|refine g_sk rfl inferInstance rfl (by kernel_rfl) ?_|refine g_un rfl inferInstance (by kernel_rfl) ?_|apply g_st|apply g_skip|apply g_ct|apply g_cf|apply g_ret|refine r_1 rfl ?_|apply g_cl|exact sc hE (c_wholeM hL h0)|exact st_move'|exact st_assign'|exact st_load'|exact st_and_t'|exact st_and_f'|exact st_loadE'|exact Cv.rfl'|intro _
 simp only [Bool.true_and]
 refine ctr Tryz.func15 rfl Tryz.ntmps15 (by simp) (fun _ _=>by kernel_rfl) fun X w hE=> ?_
 simp only [argE,Nat.zero_add,Nat.reduceAdd]
 repeat' first|kernel_rfl|apply g_seq|apply g_reg|apply g_nil|apply g_box|apply g_all|apply g_stf|apply g_stw|apply g_sto|apply g_asg|refine g_run rfl inferInstance (by first|exact sc hE (c_wholeM hL h0)|exact sc hE (c_upto hL (by decide))|exact st_load'|exact st_loadE') (by kernel_rfl) ?_|refine g_sk rfl inferInstance rfl (by kernel_rfl) ?_|refine g_un rfl inferInstance (by kernel_rfl) ?_|apply g_st|apply g_skip|apply g_ct|apply g_cf|apply g_ret|refine r_1 rfl ?_|apply g_cl|exact sc hE (c_wholeM hL h0)|exact sc hE (c_upto hL (by decide))|exact st_move'|exact st_assign'|exact st_load'|exact st_and_t'|exact st_and_f'|exact st_loadE'|exact Cv.rfl'|intro _
theorem top_pos:(0:Rat)<topQ:=by unfold topQ;decide +kernel
theorem mon_neg {p:Rat} (h:cmpQ p 0<0):(decide (cmpQ p topQ<0)&&decide (cmpQ (-p) topQ<0))=decide (cmpQ (-p) topQ<0):=by
 have h':=cmpQ_lt.1 h
 have:=top_pos
 rw [decide_eq_true (cmpQ_lt.2 (by grind)),Bool.true_and]
theorem mon_pos {p:Rat} (h:¬ cmpQ p 0<0):(decide (cmpQ p topQ<0)&&decide (cmpQ (-p) topQ<0))=decide (cmpQ p topQ<0):=by
 have h':¬ p<0:=fun g=>h (cmpQ_lt.2 g)
 have:=top_pos
 rw [decide_eq_true (p:=cmpQ (-p) topQ<0) (cmpQ_lt.2 (by grind)),Bool.and_true]
theorem c_ismoneyX {x:RawQ} {L:Nat} (hL:L≤80):Ctr Tryz.prog Tab 13 [4] [.qx x L] (fun _=> .is (.bool (monB x))):=by
 unfold monB
 rw [Bool.and_assoc]
 cases h0:unitB 100 x
 ·simp only [Bool.false_and]
  refine ctr Tryz.func13 rfl Tryz.ntmps13 (by simp) (fun _ _=>by kernel_rfl) fun X w hE=> ?_
  simp only [argE,Nat.zero_add,Nat.reduceAdd]
  repeat' first|kernel_rfl|apply g_seq|apply g_reg|apply g_nil|apply o_all|apply o_go|exact OpsT.nil|exact GuardC.nil|exact UndefC.nil|apply g_box|apply g_all|apply g_stf|apply g_stw|apply g_sto|apply g_asg|apply g_st|apply g_skip|apply g_ct|apply g_cf|apply g_ret|refine r_1 rfl ?_|apply g_cl|exact sc hE (c_whole100 (by omega) h0)|exact st_assign'|exact st_load'|exact st_not' (b:=true) (u:=false) rfl|exact st_not' (b:=false) (u:=true) rfl|exact st_not' rfl|exact st_lss' (by first|assumption|rfl)|exact st_loadE'|exact Cv.rfl'|(intro _;simp only[newX,newL,ptrs,List.map,List.cons_append,List.nil_append])|intro _
 simp only [Bool.true_and]
 cases h1:decide (cmpQ (qv x) 0<0)
 ·rw [mon_pos (of_decide_eq_false h1)]
  unfold topQ
  refine ctr Tryz.func13 rfl Tryz.ntmps13 (by simp) (fun _ _=>by kernel_rfl) fun X w hE=> ?_
  simp only [argE,Nat.zero_add,Nat.reduceAdd]
  repeat' first|kernel_rfl|apply g_seq|apply g_reg|apply g_nil|apply g_draw (id:=6) [] [] 6|apply o_all|apply o_go|exact OpsT.nil|exact GuardC.nil|exact UndefC.nil|apply g_box|apply g_all|apply g_stf|apply g_stw|apply g_sto|apply g_asg|apply g_st|apply g_skip|apply g_ct|apply g_cf|apply g_ret|refine r_1 rfl ?_|apply g_cl|exact sc hE (c_whole100 (by omega) h0)|exact sr_neg hE (by omega)|exact sr_mul hE (by omega)|exact sr_cmp hE (by omega)|exact sr_sign hE (by omega)|exact sr_whole hE (by decide)|exact st_assign'|exact st_load'|exact st_not' (b:=true) (u:=false) rfl|exact st_not' (b:=false) (u:=true) rfl|exact st_not' rfl|exact st_lss' (by first|assumption|rfl)|exact st_loadE'|exact Cv.rfl'|(intro _;simp only[newX,newL,ptrs,List.map,List.cons_append,List.nil_append])|intro _
 ·rw [mon_neg (of_decide_eq_true h1)]
  unfold topQ
  refine ctr Tryz.func13 rfl Tryz.ntmps13 (by simp) (fun _ _=>by kernel_rfl) fun X w hE=> ?_
  simp only [argE,Nat.zero_add,Nat.reduceAdd]
  repeat' first|kernel_rfl|apply g_seq|apply g_reg|apply g_nil|apply g_draw (id:=6) [] [] 6|apply o_all|apply o_go|exact OpsT.nil|exact GuardC.nil|exact UndefC.nil|apply g_box|apply g_all|apply g_stf|apply g_stw|apply g_sto|apply g_asg|apply g_st|apply g_skip|apply g_ct|apply g_cf|apply g_ret|refine r_1 rfl ?_|apply g_cl|exact sc hE (c_whole100 (by omega) h0)|exact sr_neg hE (by omega)|exact sr_mul hE (by omega)|exact sr_cmp hE (by omega)|exact sr_sign hE (by omega)|exact sr_whole hE (by decide)|exact st_assign'|exact st_load'|exact st_not' (b:=true) (u:=false) rfl|exact st_not' (b:=false) (u:=true) rfl|exact st_not' rfl|exact st_lss' (by first|assumption|rfl)|exact st_loadE'|exact Cv.rfl'|(intro _;simp only[newX,newL,ptrs,List.map,List.cons_append,List.nil_append])|intro _
theorem ra_qx {X:List Nat} {w:World} {v:Value} {x:RawQ} {L:Nat} (hf:fewQ L x) (h:(VTy.ra Rp.frac x).holds X w v):(VTy.qx x L).holds X w v:=⟨x,⟨rfl,hf⟩,h⟩
theorem c_ismoney {x:RawQ} {L:Nat} (hL:L≤80) (hf:fewQ L x):Ctr Tryz.prog Tab 13 [0] [.ra Rp.frac x] (fun _=> .is (.bool (monB x))):=(c_ismoneyX hL).args fun h=>by
 obtain ⟨v,rfl,h⟩:=h.one
 exact ⟨ra_qx hf h.1,trivial⟩
theorem c_isshare {x:RawQ} {L:Nat} (hL:L≤90) (hf:fewQ L x):Ctr Tryz.prog Tab 15 [0] [.ra Rp.frac x] (fun _=> .is (.bool (shrB x))):=(c_isshareX hL).args fun h=>by
 obtain ⟨v,rfl,h⟩:=h.one
 exact ⟨ra_qx hf h.1,trivial⟩
theorem c_wholeR {x:RawQ} {L k:Nat} {z:Int} {u:Bool} (hL:L≤90) (hf:fewQ L x) (hz:z=(k:Int)) (hk:0<k∧k<4294967296) (hu:unitB k x=u):Ctr Tryz.prog Tab 37 [0,0] [.ra Rp.frac x, .is (.int .u32 z)] (fun _=> .is (.bool u)):=by
 subst hz
 exact (c_wholein hL hk hu).args fun h=>by
  obtain ⟨v,us,rfl,h,h'⟩:=h.tail
  exact ⟨ra_qx hf h,h'⟩
theorem c_uptoR {x:RawQ} {L:Nat} {k:Int} (hL:L≤90) (hf:fewQ L x) (hk: -9223372036854775808≤k∧k≤9223372036854775807):Ctr Tryz.prog Tab 46 [0,0] [.ra Rp.frac x, .is (.int .i64 k)] (fun _=> .is (.bool (uptoB k x))):=(c_upto hL hk).args fun h=>by
 obtain ⟨v,us,rfl,h,h'⟩:=h.tail
 exact ⟨ra_qx hf h,h'⟩
theorem c_signR {x:RawQ} {L:Nat} (hL:L≤90) (hf:fewQ L x):Ctr Tryz.prog Tab 38 [0] [.ra Rp.frac x] (fun _=> .is (.int .i64 (cmpQ (qv x) 0))):=⟨fun _ _=>by kernel_rfl,DownC.const.down,fun hG hX h=>by
 obtain ⟨v,rfl,h⟩:=h.one
 exact cr_sign hG hX ⟨x,⟨rfl,hf⟩,h.1⟩ hL⟩
section
variable {P:Program} {w00:World} {N:Nat} {L:List Loc} {E:List (Nat×VTy)} {d:Nat} {t0:TypeId} {pos:String} {af:Array Edge} {gd:Option (Nat×Bool)} {ats:Array TypeId}
theorem st_idxR {α:Type} {r:Rp α} {p:α→Prop} {l:List α} {a:α} {o oi:Operand} {ty:TypeId} {j k:Nat} [ho:OpC E o (.rw r p l)] [hi:OpC E oi (.is (.int .i64 (j:Int)))] [kc:KC r k] [ht:SliceC P ty k] (ha:l[j]? =some a):StepT P w00 N L E ⟨some d, .indexAddr ty o oi,t0,pos,af,gd⟩ (.pe r p a):=by
 have e:=kc.ok
 subst e
 exact st_indexAddr' ha
theorem st_loadR {α:Type} {r:Rp α} {p:α→Prop} {a:α} {ty:TypeId} {s k:Nat} [ho:Look E s (.pe r p a)] [kc:KC r k] [ht:TyC P ty k true]:StepT P w00 N L E ⟨some d, .load ty (.tmp s),t0,pos,af,gd⟩ (.ra r a):=by
 have e:=kc.ok
 subst e
 constructor
 intro X ρ w hc _ hN hm hsl
 obtain ⟨hp,b,o,cs,e,hb,h1,h2⟩:=hsl _ ho.mem (by simp [Op.operands])
 have e':ρ (.tmp s)= .pointer (some ⟨b,o,none⟩):=e
 obtain ⟨dd,hu,hd⟩:=ht.row
 have hi:(P.info? ty).map (·.size)=some cs.length:=by rw [r.len h2];exact ht.size
 have hrun:(execOp ρ ⟨some d, .load ty (.tmp s),t0,pos,af,gd⟩).run P w= .ok (.value (.agg cs.toArray)) w:=by
  unfold execOp
  simp only [e',run_loadAt_mid w b o ty cs dd h1 hu hd hi,Sem.run_bind,Sem.run_pure,Result.andThen_ok]
 unfold Yields
 rw [hrun]
 exact ⟨⟨cs,rfl,h2⟩,Below.refl _ _⟩
end
instance SizeV.raK {α:Type} {r:Rp α} {a:α} {k:Nat} [kc:KC r k]:SizeV (.ra r a) k true:=by
 have e:=kc.ok
 subst e
 infer_instance
instance (priority:=low) PartC.raw {α:Type} {r:Rp α} {a:α} {k:Nat} [kc:KC r k]:PartC (.ra r a) 0 k true (.ra r a):=by
 have e:=kc.ok
 subst e
 exact .whole inferInstance
theorem rw_max {α:Type} {r:Rp α} {p:α→Prop} {X:List Nat} {w:World} {l:List α} {v:Value} (h:(VTy.rw r p l).holds X w v):l.length≤9223372036854775807:=by
 obtain ⟨_,A,n,c,_,h⟩:=h
 have hm:=h.lenMax
 rw [h.1];exact hm
def Rp.fnc:Rp FuncId:=⟨1,fun _ _ f cs=>cs=[.func (.func f) #[] #[]],fun h=>by rw [h];rfl,fun h v hv=>by rw [h,List.mem_singleton] at hv;rw [hv];rfl,fun h _=>h,fun h _=>h⟩
instance {f:FuncId}:ScalC Rp.fnc f (.fv f [] []):=⟨fun h=>by
 injection (show [_]=[_] from h) with e _
 exact ⟨[],[],e,trivial,trivial⟩⟩
instance:KC Rp.fnc 1:=⟨rfl⟩
abbrev rpNum:Rp (Int×FuncId):=(Rp.int .u8).pair Rp.fnc
instance:KC rpNum 2:=⟨rfl⟩
instance {a:Int×FuncId}:PartC (.ra rpNum a) 0 1 false (.is (.int .u8 a.1)):=PartC.cell (r':=Rp.int .u8) (g:=fun (a:Int×FuncId)=>a.1) FaC.fst ⟨rfl⟩ inferInstance
instance {a:Int×FuncId}:PartC (.ra rpNum a) 1 1 false (.fv a.2 [] []):=PartC.cell (r':=Rp.fnc) (g:=fun (a:Int×FuncId)=>a.2) (FaC.tail (n:=1) ⟨rfl⟩ FaC.self rfl) ⟨rfl⟩ inferInstance
def VTy.sz (k:Nat):VTy:=⟨fun _ _ v=>v.cells.size=k∧v.cells.all (·.oneCell')=true∧v= .agg v.cells,fun h _ _=>h⟩
instance {k:Nat}:SizeV (.sz k) k true:=⟨fun h=>⟨h.1,h.2.1,fun _=>h.2.2,fun h=>by cases h⟩⟩
def aggB:Value→Bool
 | .agg _=>true
 |_=>false
theorem zero_sz {P:Program} {ty:TypeId} {k:Nat} (h:((P.info? ty).bind (·.zero)).map (fun z=>(z.cells.size,z.cells.all (·.oneCell'),aggB z))=some (k,true,true)):ZeroC P ty (.sz k):=by
 cases hi:P.info? ty with
 |none=>rw [hi] at h;cases h
 |some i=>
 cases hz:i.zero with
 |none=>simp [hi,hz] at h
 |some z=>
 simp [hi,hz] at h
 refine ⟨z,fun X w=>⟨h.1,by simpa using h.2.1,by
  have:=h.2.2
  cases z<;>first|rfl|cases this⟩,fun o ρ w e=> ?_⟩
 have hze:(zeroValue ty).run P w= .ok z w:=by simp [zeroValue,typeInfo,hi,hz]
 cases o with
 |mk dst op t pos af gd=>
  have e':op=_:=e
  subst e'
  unfold execOp
  simp [Instr.alloc,newVar,newRow,Sem.run_bind,hze,Result.andThen_ok]
instance:TyC Tryz.prog 186 2 true:=⟨⟨_,Tryz.underlying186,rfl⟩,by kernel_rfl⟩
instance:ZeroC Tryz.prog 186 (.sz 2):=zero_sz (by kernel_rfl)
instance:SliceC Tryz.prog 114 2:=⟨⟨_,Tryz.underlying114,by kernel_rfl⟩⟩
instance:TyC Tryz.prog 184 1 false:=⟨⟨_,Tryz.underlying184,rfl⟩,by kernel_rfl⟩
instance:FieldC Tryz.prog 186 0 0 1 false:=⟨⟨_,_,Tryz.underlying186,rfl,rfl,by kernel_rfl,by decide,_,Tryz.underlying5,rfl⟩⟩
instance:FieldC Tryz.prog 186 1 1 1 false:=⟨⟨_,_,Tryz.underlying186,rfl,rfl,by kernel_rfl,by decide,_,Tryz.underlying184,rfl⟩⟩
theorem els_numFiling:∃ z,Tryz.prog.underlying 114=some (.slice 186)∧∃ i,Tryz.prog.info? 186=some i∧i.zero=some z∧i.size=2∧z.cells.size=2:=by
 have h:((Tryz.prog.info? 186).bind (·.zero)).map (fun z=>z.cells.size)=some 2:=by kernel_rfl
 have h2:(Tryz.prog.info? 186).map (·.size)=some 2:=by kernel_rfl
 cases hi:Tryz.prog.info? 186 with
 |none=>rw [hi] at h;cases h
 |some i=>
 cases hz:i.zero with
 |none=>simp [hi,hz] at h
 |some z=>
 simp [hi,hz] at h
 simp [hi] at h2
 exact ⟨z,Tryz.underlying114,i,rfl,hz,h2,h⟩
theorem elsnFiling:ElS Tryz.prog 114 186 rpNum.k:=⟨(els_numFiling).choose_spec.1,let ⟨i,h⟩:=(els_numFiling).choose_spec.2;⟨i,_,h⟩⟩
section
variable {w00:World} {N:Nat} {L:List Loc} {E:List (Nat×VTy)} {d:Nat} {t0:TypeId} {pos:String} {af:Array Edge} {gd:Option (Nat×Bool)}
theorem st_numFiling {k:Int} {f:FuncId}:StepT Tryz.prog w00 N L E ⟨some d, .build 186 #[(0, .const (.int .u8 k)),(1, .func f)],t0,pos,af,gd⟩ (.ra rpNum (k,f)):=by
 constructor
 intro X ρ w hc hf hN hm hsl
 have e0:=hc (.int .u8 k)
 have e1:=hf f
 clear hc hf hsl hm
 unfold Yields
 go_simp
 exact ⟨⟨[.int .u8 k, .func (.func f) #[] #[]],rfl,[.int .u8 k],[.func (.func f) #[] #[]],rfl,rfl,rfl⟩,Below.refl _ _⟩
end
instance:TyC Tryz.prog 191 2 true:=⟨⟨_,Tryz.underlying191,rfl⟩,by kernel_rfl⟩
instance:ZeroC Tryz.prog 191 (.sz 2):=zero_sz (by kernel_rfl)
instance:SliceC Tryz.prog 117 2:=⟨⟨_,Tryz.underlying117,by kernel_rfl⟩⟩
instance:TyC Tryz.prog 189 1 false:=⟨⟨_,Tryz.underlying189,rfl⟩,by kernel_rfl⟩
instance:FieldC Tryz.prog 191 0 0 1 false:=⟨⟨_,_,Tryz.underlying191,rfl,rfl,by kernel_rfl,by decide,_,Tryz.underlying5,rfl⟩⟩
instance:FieldC Tryz.prog 191 1 1 1 false:=⟨⟨_,_,Tryz.underlying191,rfl,rfl,by kernel_rfl,by decide,_,Tryz.underlying189,rfl⟩⟩
theorem els_numYear:∃ z,Tryz.prog.underlying 117=some (.slice 191)∧∃ i,Tryz.prog.info? 191=some i∧i.zero=some z∧i.size=2∧z.cells.size=2:=by
 have h:((Tryz.prog.info? 191).bind (·.zero)).map (fun z=>z.cells.size)=some 2:=by kernel_rfl
 have h2:(Tryz.prog.info? 191).map (·.size)=some 2:=by kernel_rfl
 cases hi:Tryz.prog.info? 191 with
 |none=>rw [hi] at h;cases h
 |some i=>
 cases hz:i.zero with
 |none=>simp [hi,hz] at h
 |some z=>
 simp [hi,hz] at h
 simp [hi] at h2
 exact ⟨z,Tryz.underlying117,i,rfl,hz,h2,h⟩
theorem elsnYear:ElS Tryz.prog 117 191 rpNum.k:=⟨(els_numYear).choose_spec.1,let ⟨i,h⟩:=(els_numYear).choose_spec.2;⟨i,_,h⟩⟩
section
variable {w00:World} {N:Nat} {L:List Loc} {E:List (Nat×VTy)} {d:Nat} {t0:TypeId} {pos:String} {af:Array Edge} {gd:Option (Nat×Bool)}
theorem st_numYear {k:Int} {f:FuncId}:StepT Tryz.prog w00 N L E ⟨some d, .build 191 #[(0, .const (.int .u8 k)),(1, .func f)],t0,pos,af,gd⟩ (.ra rpNum (k,f)):=by
 constructor
 intro X ρ w hc hf hN hm hsl
 have e0:=hc (.int .u8 k)
 have e1:=hf f
 clear hc hf hsl hm
 unfold Yields
 go_simp
 exact ⟨⟨[.int .u8 k, .func (.func f) #[] #[]],rfl,[.int .u8 k],[.func (.func f) #[] #[]],rfl,rfl,rfl⟩,Below.refl _ _⟩
end
abbrev z0Bracket:TyBracket:=(((false,[]),(false,[])),((false,[]),(false,[])))
instance:ZeroC Tryz.prog 98 (.ra rpBracket z0Bracket):=zero_astBracket.al
abbrev z0Class:TyClass:=([],0,((false,[]),(false,[])))
instance:ZeroC Tryz.prog 102 (.ra rpClass z0Class):=zero_astClass.al
abbrev z0Hold:TyHold:=([],[],((false,[]),(false,[])))
instance:ZeroC Tryz.prog 147 (.ra rpHold z0Hold):=zero_astHold.al
abbrev z0Book:TyBook:=([],[],((false,[]),(false,[])))
instance:ZeroC Tryz.prog 149 (.ra rpBook z0Book):=zero_astBook.al
abbrev z0Deal:TyDeal:=(false,[],0,[],[],[],((false,[]),(false,[])))
instance:ZeroC Tryz.prog 151 (.ra rpDeal z0Deal):=zero_astDeal.al
abbrev z0Stock:TyStock:=([],((false,[]),(false,[])),((false,[]),(false,[])))
instance:ZeroC Tryz.prog 153 (.ra rpStock z0Stock):=zero_astStock.al
abbrev z0Sold:TySold:=([],((false,[]),(false,[])))
instance:ZeroC Tryz.prog 155 (.ra rpSold z0Sold):=zero_astSold.al
abbrev z0Year:TyYear:=(0,[],[],[],[],[])
instance:ZeroC Tryz.prog 92 (.ra rpYear z0Year):=zero_astYear.al
abbrev z0Filing:TyFiling:=([],[],[],((false,[]),(false,[])),((false,[]),(false,[])),0,0,((false,[]),(false,[])),((false,[]),(false,[])),0,[],[],[])
instance:ZeroC Tryz.prog 41 (.ra rpFiling z0Filing):=zero_astFiling.al
abbrev z0Place:TyPlace:=(0,0,0)
instance:ZeroC Tryz.prog 50 (.ra rpPlace z0Place):=zero_astPlace.al
theorem c_rBracket {a:TyBracket} (hf:fewQ 6 a.1∧fewQ 6 a.2):Ctr Tryz.prog Tab 185 [0] [.ra rpBracket a] (fun _=> .is (.bool (brackB a))):=by
 unfold brackB
 have k0:=c_ismoney (x:=a.1) (L:=6) (by decide) hf.1
 cases h0:monB a.1
 ·rw [h0] at k0
  simp only [Bool.false_and]
  refine ctr Tryz.func185 rfl Tryz.ntmps185 (by simp) (fun _ _=>by kernel_rfl) fun X w hE=> ?_
  simp only [argE,Nat.zero_add,Nat.reduceAdd]
  repeat' first|kernel_rfl|apply g_seq|apply g_reg|apply g_nil|apply g_box|apply g_all|apply g_stf|apply g_stw|apply g_sto|apply g_asg|refine g_run rfl inferInstance (by first|exact sc hE k0|exact st_load'|exact st_fieldAddr'|exact st_loadE') (by kernel_rfl) ?_|refine g_sk rfl inferInstance rfl (by kernel_rfl) ?_|refine g_un rfl inferInstance (by kernel_rfl) ?_|apply g_st|apply g_skip|apply g_ct|apply g_cf|apply g_ret|refine r_1 rfl ?_|apply g_cl|exact sc hE k0|exact st_move'|exact st_assign'|exact st_load'|exact st_fieldAddr'|exact st_and_t'|exact st_and_f'|exact st_loadE'|exact Cv.rfl'|intro _
 rw [h0] at k0
 simp only [Bool.true_and]
 have k1:=c_isshare (x:=a.2) (L:=6) (by decide) hf.2
 refine ctr Tryz.func185 rfl Tryz.ntmps185 (by simp) (fun _ _=>by kernel_rfl) fun X w hE=> ?_
 simp only [argE,Nat.zero_add,Nat.reduceAdd]
 repeat' first|kernel_rfl|apply g_seq|apply g_reg|apply g_nil|apply g_box|apply g_all|apply g_stf|apply g_stw|apply g_sto|apply g_asg|refine g_run rfl inferInstance (by first|exact sc hE k0|exact sc hE k1|exact st_load'|exact st_fieldAddr'|exact st_loadE') (by kernel_rfl) ?_|refine g_sk rfl inferInstance rfl (by kernel_rfl) ?_|refine g_un rfl inferInstance (by kernel_rfl) ?_|apply g_st|apply g_skip|apply g_ct|apply g_cf|apply g_ret|refine r_1 rfl ?_|apply g_cl|exact sc hE k0|exact sc hE k1|exact st_move'|exact st_assign'|exact st_load'|exact st_fieldAddr'|exact st_and_t'|exact st_and_f'|exact st_loadE'|exact Cv.rfl'|intro _
theorem c_rYear {a:TyYear}:Ctr Tryz.prog Tab 191 [0] [.ra rpYear a] (fun _=> .is (.bool (yearB a))):=by
 unfold yearB
 have k0:=c_within_i64 (n:=a.1) (a:=1) (b:=9999)
 refine ctr Tryz.func191 rfl Tryz.ntmps191 (by simp) (fun _ _=>by kernel_rfl) fun X w hE=> ?_
 simp only [argE,Nat.zero_add,Nat.reduceAdd]
 repeat' first|kernel_rfl|apply g_seq|apply g_reg|apply g_nil|apply g_box|apply g_all|apply g_stf|apply g_stw|apply g_sto|apply g_asg|apply g_st|apply g_skip|apply g_ct|apply g_cf|apply g_ret|refine r_1 rfl ?_|apply g_cl|exact sc trivial k0|exact st_assign'|exact st_load'|exact st_fieldAddr'|exact st_loadE'|exact Cv.rfl'|intro _
theorem c_rHold {a:TyHold} (hf:fewQ 6 a.2.2):Ctr Tryz.prog Tab 193 [0] [.ra rpHold a] (fun _=> .is (.bool (holdB a))):=by
 unfold holdB
 simp only [Bool.and_assoc]
 have k0:=c_isname (l:=a.1)
 cases h0:nameB a.1
 ·rw [h0] at k0
  simp only [Bool.false_and]
  refine ctr Tryz.func193 rfl Tryz.ntmps193 (by simp) (fun _ _=>by kernel_rfl) fun X w hE=> ?_
  simp only [argE,Nat.zero_add,Nat.reduceAdd]
  repeat' first|kernel_rfl|apply g_seq|apply g_reg|apply g_nil|apply g_box|apply g_all|apply g_stf|apply g_stw|apply g_sto|apply g_asg|refine g_run rfl inferInstance (by first|exact sc trivial k0|exact st_load'|exact st_fieldAddr'|exact st_loadE') (by kernel_rfl) ?_|refine g_sk rfl inferInstance rfl (by kernel_rfl) ?_|refine g_un rfl inferInstance (by kernel_rfl) ?_|apply g_st|apply g_skip|apply g_ct|apply g_cf|apply g_ret|refine r_1 rfl ?_|apply g_cl|exact sc trivial k0|exact st_move'|exact st_assign'|exact st_load'|exact st_fieldAddr'|exact st_and_t'|exact st_and_f'|exact st_loadE'|exact Cv.rfl'|intro _
 rw [h0] at k0
 simp only [Bool.true_and]
 have k1:=c_isname (l:=a.2.1)
 cases h1:nameB a.2.1
 ·rw [h1] at k1
  simp only [Bool.false_and]
  refine ctr Tryz.func193 rfl Tryz.ntmps193 (by simp) (fun _ _=>by kernel_rfl) fun X w hE=> ?_
  simp only [argE,Nat.zero_add,Nat.reduceAdd]
  repeat' first|kernel_rfl|apply g_seq|apply g_reg|apply g_nil|apply g_box|apply g_all|apply g_stf|apply g_stw|apply g_sto|apply g_asg|refine g_run rfl inferInstance (by first|exact sc trivial k0|exact sc trivial k1|exact st_load'|exact st_fieldAddr'|exact st_loadE') (by kernel_rfl) ?_|refine g_sk rfl inferInstance rfl (by kernel_rfl) ?_|refine g_un rfl inferInstance (by kernel_rfl) ?_|apply g_st|apply g_skip|apply g_ct|apply g_cf|apply g_ret|refine r_1 rfl ?_|apply g_cl|exact sc trivial k0|exact sc trivial k1|exact st_move'|exact st_assign'|exact st_load'|exact st_fieldAddr'|exact st_and_t'|exact st_and_f'|exact st_loadE'|exact Cv.rfl'|intro _
 rw [h1] at k1
 simp only [Bool.true_and]
 have k2:=c_isshare (x:=a.2.2) (L:=6) (by decide) hf
 refine ctr Tryz.func193 rfl Tryz.ntmps193 (by simp) (fun _ _=>by kernel_rfl) fun X w hE=> ?_
 simp only [argE,Nat.zero_add,Nat.reduceAdd]
 repeat' first|kernel_rfl|apply g_seq|apply g_reg|apply g_nil|apply g_box|apply g_all|apply g_stf|apply g_stw|apply g_sto|apply g_asg|refine g_run rfl inferInstance (by first|exact sc trivial k0|exact sc trivial k1|exact sc hE k2|exact st_load'|exact st_fieldAddr'|exact st_loadE') (by kernel_rfl) ?_|refine g_sk rfl inferInstance rfl (by kernel_rfl) ?_|refine g_un rfl inferInstance (by kernel_rfl) ?_|apply g_st|apply g_skip|apply g_ct|apply g_cf|apply g_ret|refine r_1 rfl ?_|apply g_cl|exact sc trivial k0|exact sc trivial k1|exact sc hE k2|exact st_move'|exact st_assign'|exact st_load'|exact st_fieldAddr'|exact st_and_t'|exact st_and_f'|exact st_loadE'|exact Cv.rfl'|intro _
theorem c_rBook {a:TyBook} (hf:fewQ 6 a.2.2):Ctr Tryz.prog Tab 195 [0] [.ra rpBook a] (fun _=> .is (.bool (bookB a))):=by
 unfold bookB
 simp only [Bool.and_assoc]
 have k0:=c_isname (l:=a.1)
 cases h0:nameB a.1
 ·rw [h0] at k0
  simp only [Bool.false_and]
  refine ctr Tryz.func195 rfl Tryz.ntmps195 (by simp) (fun _ _=>by kernel_rfl) fun X w hE=> ?_
  simp only [argE,Nat.zero_add,Nat.reduceAdd]
  repeat' first|kernel_rfl|apply g_seq|apply g_reg|apply g_nil|apply g_box|apply g_all|apply g_stf|apply g_stw|apply g_sto|apply g_asg|refine g_run rfl inferInstance (by first|exact sc trivial k0|exact st_load'|exact st_fieldAddr'|exact st_loadE') (by kernel_rfl) ?_|refine g_sk rfl inferInstance rfl (by kernel_rfl) ?_|refine g_un rfl inferInstance (by kernel_rfl) ?_|apply g_st|apply g_skip|apply g_ct|apply g_cf|apply g_ret|refine r_1 rfl ?_|apply g_cl|exact sc trivial k0|exact st_move'|exact st_assign'|exact st_load'|exact st_fieldAddr'|exact st_and_t'|exact st_and_f'|exact st_loadE'|exact Cv.rfl'|intro _
 rw [h0] at k0
 simp only [Bool.true_and]
 have k1:=c_isname (l:=a.2.1)
 cases h1:nameB a.2.1
 ·rw [h1] at k1
  simp only [Bool.false_and]
  refine ctr Tryz.func195 rfl Tryz.ntmps195 (by simp) (fun _ _=>by kernel_rfl) fun X w hE=> ?_
  simp only [argE,Nat.zero_add,Nat.reduceAdd]
  repeat' first|kernel_rfl|apply g_seq|apply g_reg|apply g_nil|apply g_box|apply g_all|apply g_stf|apply g_stw|apply g_sto|apply g_asg|refine g_run rfl inferInstance (by first|exact sc trivial k0|exact sc trivial k1|exact st_load'|exact st_fieldAddr'|exact st_loadE') (by kernel_rfl) ?_|refine g_sk rfl inferInstance rfl (by kernel_rfl) ?_|refine g_un rfl inferInstance (by kernel_rfl) ?_|apply g_st|apply g_skip|apply g_ct|apply g_cf|apply g_ret|refine r_1 rfl ?_|apply g_cl|exact sc trivial k0|exact sc trivial k1|exact st_move'|exact st_assign'|exact st_load'|exact st_fieldAddr'|exact st_and_t'|exact st_and_f'|exact st_loadE'|exact Cv.rfl'|intro _
 rw [h1] at k1
 simp only [Bool.true_and]
 have k2:=c_ismoney (x:=a.2.2) (L:=6) (by decide) hf
 refine ctr Tryz.func195 rfl Tryz.ntmps195 (by simp) (fun _ _=>by kernel_rfl) fun X w hE=> ?_
 simp only [argE,Nat.zero_add,Nat.reduceAdd]
 repeat' first|kernel_rfl|apply g_seq|apply g_reg|apply g_nil|apply g_box|apply g_all|apply g_stf|apply g_stw|apply g_sto|apply g_asg|refine g_run rfl inferInstance (by first|exact sc trivial k0|exact sc trivial k1|exact sc hE k2|exact st_load'|exact st_fieldAddr'|exact st_loadE') (by kernel_rfl) ?_|refine g_sk rfl inferInstance rfl (by kernel_rfl) ?_|refine g_un rfl inferInstance (by kernel_rfl) ?_|apply g_st|apply g_skip|apply g_ct|apply g_cf|apply g_ret|refine r_1 rfl ?_|apply g_cl|exact sc trivial k0|exact sc trivial k1|exact sc hE k2|exact st_move'|exact st_assign'|exact st_load'|exact st_fieldAddr'|exact st_and_t'|exact st_and_f'|exact st_loadE'|exact Cv.rfl'|intro _
theorem c_rDeal {a:TyDeal} (hf:fewQ 6 a.2.2.2.2.2.2):Ctr Tryz.prog Tab 197 [0] [.ra rpDeal a] (fun _=> .is (.bool (dealB a))):=by
 unfold dealB
 simp only [Bool.and_assoc]
 have k0:=c_isname (l:=a.2.1)
 cases h0:nameB a.2.1
 ·rw [h0] at k0
  simp only [Bool.false_and]
  refine ctr Tryz.func197 rfl Tryz.ntmps197 (by simp) (fun _ _=>by kernel_rfl) fun X w hE=> ?_
  simp only [argE,Nat.zero_add,Nat.reduceAdd]
  repeat' first|kernel_rfl|apply g_seq|apply g_reg|apply g_nil|apply g_box|apply g_all|apply g_stf|apply g_stw|apply g_sto|apply g_asg|refine g_run rfl inferInstance (by first|exact sc trivial k0|exact st_load'|exact st_fieldAddr'|exact st_loadE') (by kernel_rfl) ?_|refine g_sk rfl inferInstance rfl (by kernel_rfl) ?_|refine g_un rfl inferInstance (by kernel_rfl) ?_|apply g_st|apply g_skip|apply g_ct|apply g_cf|apply g_ret|refine r_1 rfl ?_|apply g_cl|exact sc trivial k0|exact st_move'|exact st_assign'|exact st_load'|exact st_fieldAddr'|exact st_and_t'|exact st_and_f'|exact st_loadE'|exact Cv.rfl'|intro _
 rw [h0] at k0
 simp only [Bool.true_and]
 have k1:=c_within_u8 (n:=a.2.2.1) (a:=1) (b:=4)
 cases h1:withB a.2.2.1 1 4
 ·rw [h1] at k1
  simp only [Bool.false_and]
  refine ctr Tryz.func197 rfl Tryz.ntmps197 (by simp) (fun _ _=>by kernel_rfl) fun X w hE=> ?_
  simp only [argE,Nat.zero_add,Nat.reduceAdd]
  repeat' first|kernel_rfl|apply g_seq|apply g_reg|apply g_nil|apply g_box|apply g_all|apply g_stf|apply g_stw|apply g_sto|apply g_asg|refine g_run rfl inferInstance (by first|exact sc trivial k0|exact sc trivial k1|exact st_load'|exact st_fieldAddr'|exact st_loadE') (by kernel_rfl) ?_|refine g_sk rfl inferInstance rfl (by kernel_rfl) ?_|refine g_un rfl inferInstance (by kernel_rfl) ?_|apply g_st|apply g_skip|apply g_ct|apply g_cf|apply g_ret|refine r_1 rfl ?_|apply g_cl|exact sc trivial k0|exact sc trivial k1|exact st_move'|exact st_assign'|exact st_load'|exact st_fieldAddr'|exact st_and_t'|exact st_and_f'|exact st_loadE'|exact Cv.rfl'|intro _
 rw [h1] at k1
 simp only [Bool.true_and]
 have k2:=c_isname (l:=a.2.2.2.1)
 cases h2:nameB a.2.2.2.1
 ·rw [h2] at k2
  simp only [Bool.false_and]
  refine ctr Tryz.func197 rfl Tryz.ntmps197 (by simp) (fun _ _=>by kernel_rfl) fun X w hE=> ?_
  simp only [argE,Nat.zero_add,Nat.reduceAdd]
  repeat' first|kernel_rfl|apply g_seq|apply g_reg|apply g_nil|apply g_box|apply g_all|apply g_stf|apply g_stw|apply g_sto|apply g_asg|refine g_run rfl inferInstance (by first|exact sc trivial k0|exact sc trivial k1|exact sc trivial k2|exact st_load'|exact st_fieldAddr'|exact st_loadE') (by kernel_rfl) ?_|refine g_sk rfl inferInstance rfl (by kernel_rfl) ?_|refine g_un rfl inferInstance (by kernel_rfl) ?_|apply g_st|apply g_skip|apply g_ct|apply g_cf|apply g_ret|refine r_1 rfl ?_|apply g_cl|exact sc trivial k0|exact sc trivial k1|exact sc trivial k2|exact st_move'|exact st_assign'|exact st_load'|exact st_fieldAddr'|exact st_and_t'|exact st_and_f'|exact st_loadE'|exact Cv.rfl'|intro _
 rw [h2] at k2
 simp only [Bool.true_and]
 have k3:=c_isname (l:=a.2.2.2.2.1)
 cases h3:nameB a.2.2.2.2.1
 ·rw [h3] at k3
  simp only [Bool.false_and]
  refine ctr Tryz.func197 rfl Tryz.ntmps197 (by simp) (fun _ _=>by kernel_rfl) fun X w hE=> ?_
  simp only [argE,Nat.zero_add,Nat.reduceAdd]
  repeat' first|kernel_rfl|apply g_seq|apply g_reg|apply g_nil|apply g_box|apply g_all|apply g_stf|apply g_stw|apply g_sto|apply g_asg|refine g_run rfl inferInstance (by first|exact sc trivial k0|exact sc trivial k1|exact sc trivial k2|exact sc trivial k3|exact st_load'|exact st_fieldAddr'|exact st_loadE') (by kernel_rfl) ?_|refine g_sk rfl inferInstance rfl (by kernel_rfl) ?_|refine g_un rfl inferInstance (by kernel_rfl) ?_|apply g_st|apply g_skip|apply g_ct|apply g_cf|apply g_ret|refine r_1 rfl ?_|apply g_cl|exact sc trivial k0|exact sc trivial k1|exact sc trivial k2|exact sc trivial k3|exact st_move'|exact st_assign'|exact st_load'|exact st_fieldAddr'|exact st_and_t'|exact st_and_f'|exact st_loadE'|exact Cv.rfl'|intro _
 rw [h3] at k3
 simp only [Bool.true_and]
 have k4:=c_isname (l:=a.2.2.2.2.2.1)
 cases h4:nameB a.2.2.2.2.2.1
 ·rw [h4] at k4
  simp only [Bool.false_and]
  refine ctr Tryz.func197 rfl Tryz.ntmps197 (by simp) (fun _ _=>by kernel_rfl) fun X w hE=> ?_
  simp only [argE,Nat.zero_add,Nat.reduceAdd]
  repeat' first|kernel_rfl|apply g_seq|apply g_reg|apply g_nil|apply g_box|apply g_all|apply g_stf|apply g_stw|apply g_sto|apply g_asg|refine g_run rfl inferInstance (by first|exact sc trivial k0|exact sc trivial k1|exact sc trivial k2|exact sc trivial k3|exact sc trivial k4|exact st_load'|exact st_fieldAddr'|exact st_loadE') (by kernel_rfl) ?_|refine g_sk rfl inferInstance rfl (by kernel_rfl) ?_|refine g_un rfl inferInstance (by kernel_rfl) ?_|apply g_st|apply g_skip|apply g_ct|apply g_cf|apply g_ret|refine r_1 rfl ?_|apply g_cl|exact sc trivial k0|exact sc trivial k1|exact sc trivial k2|exact sc trivial k3|exact sc trivial k4|exact st_move'|exact st_assign'|exact st_load'|exact st_fieldAddr'|exact st_and_t'|exact st_and_f'|exact st_loadE'|exact Cv.rfl'|intro _
 rw [h4] at k4
 simp only [Bool.true_and]
 have k5:=c_ismoney (x:=a.2.2.2.2.2.2) (L:=6) (by decide) hf
 refine ctr Tryz.func197 rfl Tryz.ntmps197 (by simp) (fun _ _=>by kernel_rfl) fun X w hE=> ?_
 simp only [argE,Nat.zero_add,Nat.reduceAdd]
 repeat' first|kernel_rfl|apply g_seq|apply g_reg|apply g_nil|apply g_box|apply g_all|apply g_stf|apply g_stw|apply g_sto|apply g_asg|refine g_run rfl inferInstance (by first|exact sc trivial k0|exact sc trivial k1|exact sc trivial k2|exact sc trivial k3|exact sc trivial k4|exact sc hE k5|exact st_load'|exact st_fieldAddr'|exact st_loadE') (by kernel_rfl) ?_|refine g_sk rfl inferInstance rfl (by kernel_rfl) ?_|refine g_un rfl inferInstance (by kernel_rfl) ?_|apply g_st|apply g_skip|apply g_ct|apply g_cf|apply g_ret|refine r_1 rfl ?_|apply g_cl|exact sc trivial k0|exact sc trivial k1|exact sc trivial k2|exact sc trivial k3|exact sc trivial k4|exact sc hE k5|exact st_move'|exact st_assign'|exact st_load'|exact st_fieldAddr'|exact st_and_t'|exact st_and_f'|exact st_loadE'|exact Cv.rfl'|intro _
theorem c_rStock {a:TyStock} (hf:fewQ 6 a.2.1∧fewQ 6 a.2.2):Ctr Tryz.prog Tab 199 [0] [.ra rpStock a] (fun _=> .is (.bool (stockB a))):=by
 unfold stockB
 simp only [Bool.and_assoc]
 have k0:=c_isname (l:=a.1)
 cases h0:nameB a.1
 ·rw [h0] at k0
  simp only [Bool.false_and]
  refine ctr Tryz.func199 rfl Tryz.ntmps199 (by simp) (fun _ _=>by kernel_rfl) fun X w hE=> ?_
  simp only [argE,Nat.zero_add,Nat.reduceAdd]
  repeat' first|kernel_rfl|apply g_seq|apply g_reg|apply g_nil|apply g_box|apply g_all|apply g_stf|apply g_stw|apply g_sto|apply g_asg|refine g_run rfl inferInstance (by first|exact sc trivial k0|exact st_load'|exact st_fieldAddr'|exact st_loadE') (by kernel_rfl) ?_|refine g_sk rfl inferInstance rfl (by kernel_rfl) ?_|refine g_un rfl inferInstance (by kernel_rfl) ?_|apply g_st|apply g_skip|apply g_ct|apply g_cf|apply g_ret|refine r_1 rfl ?_|apply g_cl|exact sc trivial k0|exact st_move'|exact st_assign'|exact st_load'|exact st_fieldAddr'|exact st_and_t'|exact st_and_f'|exact st_loadE'|exact Cv.rfl'|intro _
 rw [h0] at k0
 simp only [Bool.true_and]
 have k1:=c_ismoney (x:=a.2.1) (L:=6) (by decide) hf.1
 cases h1:monB a.2.1
 ·rw [h1] at k1
  simp only [Bool.false_and]
  refine ctr Tryz.func199 rfl Tryz.ntmps199 (by simp) (fun _ _=>by kernel_rfl) fun X w hE=> ?_
  simp only [argE,Nat.zero_add,Nat.reduceAdd]
  repeat' first|kernel_rfl|apply g_seq|apply g_reg|apply g_nil|apply g_box|apply g_all|apply g_stf|apply g_stw|apply g_sto|apply g_asg|refine g_run rfl inferInstance (by first|exact sc trivial k0|exact sc hE k1|exact st_load'|exact st_fieldAddr'|exact st_loadE') (by kernel_rfl) ?_|refine g_sk rfl inferInstance rfl (by kernel_rfl) ?_|refine g_un rfl inferInstance (by kernel_rfl) ?_|apply g_st|apply g_skip|apply g_ct|apply g_cf|apply g_ret|refine r_1 rfl ?_|apply g_cl|exact sc trivial k0|exact sc hE k1|exact st_move'|exact st_assign'|exact st_load'|exact st_fieldAddr'|exact st_and_t'|exact st_and_f'|exact st_loadE'|exact Cv.rfl'|intro _
 rw [h1] at k1
 simp only [Bool.true_and]
 have k2:=c_isshare (x:=a.2.2) (L:=6) (by decide) hf.2
 refine ctr Tryz.func199 rfl Tryz.ntmps199 (by simp) (fun _ _=>by kernel_rfl) fun X w hE=> ?_
 simp only [argE,Nat.zero_add,Nat.reduceAdd]
 repeat' first|kernel_rfl|apply g_seq|apply g_reg|apply g_nil|apply g_box|apply g_all|apply g_stf|apply g_stw|apply g_sto|apply g_asg|refine g_run rfl inferInstance (by first|exact sc trivial k0|exact sc hE k1|exact sc hE k2|exact st_load'|exact st_fieldAddr'|exact st_loadE') (by kernel_rfl) ?_|refine g_sk rfl inferInstance rfl (by kernel_rfl) ?_|refine g_un rfl inferInstance (by kernel_rfl) ?_|apply g_st|apply g_skip|apply g_ct|apply g_cf|apply g_ret|refine r_1 rfl ?_|apply g_cl|exact sc trivial k0|exact sc hE k1|exact sc hE k2|exact st_move'|exact st_assign'|exact st_load'|exact st_fieldAddr'|exact st_and_t'|exact st_and_f'|exact st_loadE'|exact Cv.rfl'|intro _
theorem c_rSold {a:TySold} (hf:fewQ 6 a.2):Ctr Tryz.prog Tab 201 [0] [.ra rpSold a] (fun _=> .is (.bool (soldB a))):=by
 unfold soldB
 have k0:=c_isname (l:=a.1)
 cases h0:nameB a.1
 ·rw [h0] at k0
  simp only [Bool.false_and]
  refine ctr Tryz.func201 rfl Tryz.ntmps201 (by simp) (fun _ _=>by kernel_rfl) fun X w hE=> ?_
  simp only [argE,Nat.zero_add,Nat.reduceAdd]
  repeat' first|kernel_rfl|apply g_seq|apply g_reg|apply g_nil|apply g_box|apply g_all|apply g_stf|apply g_stw|apply g_sto|apply g_asg|refine g_run rfl inferInstance (by first|exact sc trivial k0|exact st_load'|exact st_fieldAddr'|exact st_loadE') (by kernel_rfl) ?_|refine g_sk rfl inferInstance rfl (by kernel_rfl) ?_|refine g_un rfl inferInstance (by kernel_rfl) ?_|apply g_st|apply g_skip|apply g_ct|apply g_cf|apply g_ret|refine r_1 rfl ?_|apply g_cl|exact sc trivial k0|exact st_move'|exact st_assign'|exact st_load'|exact st_fieldAddr'|exact st_and_t'|exact st_and_f'|exact st_loadE'|exact Cv.rfl'|intro _
 rw [h0] at k0
 simp only [Bool.true_and]
 have k1:=c_isshare (x:=a.2) (L:=6) (by decide) hf
 refine ctr Tryz.func201 rfl Tryz.ntmps201 (by simp) (fun _ _=>by kernel_rfl) fun X w hE=> ?_
 simp only [argE,Nat.zero_add,Nat.reduceAdd]
 repeat' first|kernel_rfl|apply g_seq|apply g_reg|apply g_nil|apply g_box|apply g_all|apply g_stf|apply g_stw|apply g_sto|apply g_asg|refine g_run rfl inferInstance (by first|exact sc trivial k0|exact sc hE k1|exact st_load'|exact st_fieldAddr'|exact st_loadE') (by kernel_rfl) ?_|refine g_sk rfl inferInstance rfl (by kernel_rfl) ?_|refine g_un rfl inferInstance (by kernel_rfl) ?_|apply g_st|apply g_skip|apply g_ct|apply g_cf|apply g_ret|refine r_1 rfl ?_|apply g_cl|exact sc trivial k0|exact sc hE k1|exact st_move'|exact st_assign'|exact st_load'|exact st_fieldAddr'|exact st_and_t'|exact st_and_f'|exact st_loadE'|exact Cv.rfl'|intro _
theorem c_rightArg {a:TyClass} (hf:fewQ 6 a.2.2):Ctr Tryz.prog Tab 224 [0] [.ra rpClass a] (fun _=> .is (.bool (argB a.2.1 a.2.2))):=by
 unfold argB
 have ks:=c_isshare (x:=a.2.2) (L:=6) (by decide) hf
 have km:=c_ismoney (x:=a.2.2) (L:=6) (by decide) hf
 have ku:=c_uptoR (x:=a.2.2) (L:=6) (k:=40) (by decide) hf (by decide)
 have kg:=c_signR (x:=a.2.2) (L:=6) (by decide) hf
 cases h4:(a.2.1==4)
 rotate_left
 ·simp only [cond_true]
  refine ctr Tryz.func224 rfl Tryz.ntmps224 (by simp) (fun _ _=>by kernel_rfl) fun X w hE=> ?_
  simp only [argE,Nat.zero_add,Nat.reduceAdd]
  repeat' first|kernel_rfl|apply g_seq|apply g_reg|apply g_nil|apply g_box|apply g_all|apply g_stf|apply g_stw|apply g_sto|apply g_asg|refine g_run rfl inferInstance (by first|exact sc hE ks|exact sc hE km|exact sc hE kw|exact sc hE ku|exact sc hE kg|exact st_load'|exact st_fieldAddr'|exact st_loadE') (by kernel_rfl) ?_|refine g_sk rfl inferInstance rfl (by kernel_rfl) ?_|refine g_un rfl inferInstance (by kernel_rfl) ?_|apply g_st|apply g_skip|apply g_ct|apply g_cf|apply g_ret|refine r_1 rfl ?_|apply g_blk|apply g_eb|apply g_ex|apply e_t|apply e_h|refine e_o rfl ?_|apply r_t|apply r_b|apply g_cl|exact sc hE ks|exact sc hE km|exact sc hE kw|exact sc hE ku|exact sc hE kg|exact st_move'|exact st_assign'|exact st_load'|exact st_fieldAddr'|exact st_and_t'|exact st_and_f'|exact st_eq' (by first|assumption|rfl)|exact st_loadE'|exact Cv.rfl'|intro _
 simp only [cond_false]
 cases h5:(a.2.1==5)
 rotate_left
 ·simp only [cond_true]
  refine ctr Tryz.func224 rfl Tryz.ntmps224 (by simp) (fun _ _=>by kernel_rfl) fun X w hE=> ?_
  simp only [argE,Nat.zero_add,Nat.reduceAdd]
  repeat' first|kernel_rfl|apply g_seq|apply g_reg|apply g_nil|apply g_box|apply g_all|apply g_stf|apply g_stw|apply g_sto|apply g_asg|refine g_run rfl inferInstance (by first|exact sc hE ks|exact sc hE km|exact sc hE kw|exact sc hE ku|exact sc hE kg|exact st_load'|exact st_fieldAddr'|exact st_loadE') (by kernel_rfl) ?_|refine g_sk rfl inferInstance rfl (by kernel_rfl) ?_|refine g_un rfl inferInstance (by kernel_rfl) ?_|apply g_st|apply g_skip|apply g_ct|apply g_cf|apply g_ret|refine r_1 rfl ?_|apply g_blk|apply g_eb|apply g_ex|apply e_t|apply e_h|refine e_o rfl ?_|apply r_t|apply r_b|apply g_cl|exact sc hE ks|exact sc hE km|exact sc hE kw|exact sc hE ku|exact sc hE kg|exact st_move'|exact st_assign'|exact st_load'|exact st_fieldAddr'|exact st_and_t'|exact st_and_f'|exact st_eq' (by first|assumption|rfl)|exact st_loadE'|exact Cv.rfl'|intro _
 simp only [cond_false]
 cases h6:(a.2.1==6)
 ·simp only [cond_false]
  refine ctr Tryz.func224 rfl Tryz.ntmps224 (by simp) (fun _ _=>by kernel_rfl) fun X w hE=> ?_
  simp only [argE,Nat.zero_add,Nat.reduceAdd]
  repeat' first|kernel_rfl|apply g_seq|apply g_reg|apply g_nil|apply g_box|apply g_all|apply g_stf|apply g_stw|apply g_sto|apply g_asg|refine g_run rfl inferInstance (by first|exact sc hE ks|exact sc hE km|exact sc hE kw|exact sc hE ku|exact sc hE kg|exact st_load'|exact st_fieldAddr'|exact st_loadE') (by kernel_rfl) ?_|refine g_sk rfl inferInstance rfl (by kernel_rfl) ?_|refine g_un rfl inferInstance (by kernel_rfl) ?_|apply g_st|apply g_skip|apply g_ct|apply g_cf|apply g_ret|refine r_1 rfl ?_|apply g_blk|apply g_eb|apply g_ex|apply e_t|apply e_h|refine e_o rfl ?_|apply r_t|apply r_b|apply g_cl|exact sc hE ks|exact sc hE km|exact sc hE kw|exact sc hE ku|exact sc hE kg|exact st_move'|exact st_assign'|exact st_load'|exact st_fieldAddr'|exact st_and_t'|exact st_and_f'|exact st_eq' (by first|assumption|rfl)|exact st_loadE'|exact Cv.rfl'|intro _
 simp only [cond_true]
 cases hw:unitB 1 a.2.2
 ·have kw:=c_wholeR (x:=a.2.2) (L:=6) (k:=1) (z:=1) (by decide) hf rfl (by decide) hw
  simp only [Bool.false_and]
  refine ctr Tryz.func224 rfl Tryz.ntmps224 (by simp) (fun _ _=>by kernel_rfl) fun X w hE=> ?_
  simp only [argE,Nat.zero_add,Nat.reduceAdd]
  repeat' first|kernel_rfl|apply g_seq|apply g_reg|apply g_nil|apply g_box|apply g_all|apply g_stf|apply g_stw|apply g_sto|apply g_asg|refine g_run rfl inferInstance (by first|exact sc hE ks|exact sc hE km|exact sc hE kw|exact sc hE ku|exact sc hE kg|exact st_load'|exact st_fieldAddr'|exact st_loadE') (by kernel_rfl) ?_|refine g_sk rfl inferInstance rfl (by kernel_rfl) ?_|refine g_un rfl inferInstance (by kernel_rfl) ?_|apply g_st|apply g_skip|apply g_ct|apply g_cf|apply g_ret|refine r_1 rfl ?_|apply g_blk|apply g_eb|apply g_ex|apply e_t|apply e_h|refine e_o rfl ?_|apply r_t|apply r_b|apply g_cl|exact sc hE ks|exact sc hE km|exact sc hE kw|exact sc hE ku|exact sc hE kg|exact st_move'|exact st_assign'|exact st_load'|exact st_fieldAddr'|exact st_and_t'|exact st_and_f'|exact st_eq' (by first|assumption|rfl)|exact st_loadE'|exact Cv.rfl'|intro _
 have kw:=c_wholeR (x:=a.2.2) (L:=6) (k:=1) (z:=1) (by decide) hf rfl (by decide) hw
 simp only [Bool.true_and]
 refine ctr Tryz.func224 rfl Tryz.ntmps224 (by simp) (fun _ _=>by kernel_rfl) fun X w hE=> ?_
 simp only [argE,Nat.zero_add,Nat.reduceAdd]
 repeat' first|kernel_rfl|apply g_seq|apply g_reg|apply g_nil|apply g_box|apply g_all|apply g_stf|apply g_stw|apply g_sto|apply g_asg|refine g_run rfl inferInstance (by first|exact sc hE ks|exact sc hE km|exact sc hE kw|exact sc hE ku|exact sc hE kg|exact st_load'|exact st_fieldAddr'|exact st_loadE') (by kernel_rfl) ?_|refine g_sk rfl inferInstance rfl (by kernel_rfl) ?_|refine g_un rfl inferInstance (by kernel_rfl) ?_|apply g_st|apply g_skip|apply g_ct|apply g_cf|apply g_ret|refine r_1 rfl ?_|apply g_blk|apply g_eb|apply g_ex|apply e_t|apply e_h|refine e_o rfl ?_|apply r_t|apply r_b|apply g_cl|exact sc hE ks|exact sc hE km|exact sc hE kw|exact sc hE ku|exact sc hE kg|exact st_move'|exact st_assign'|exact st_load'|exact st_fieldAddr'|exact st_and_t'|exact st_and_f'|exact st_eq' (by first|assumption|rfl)|exact st_loadE'|exact Cv.rfl'|intro _
theorem c_rClass {a:TyClass} (hf:fewQ 6 a.2.2):Ctr Tryz.prog Tab 189 [0] [.ra rpClass a] (fun _=> .is (.bool (classB a))):=by
 unfold classB
 simp only [Bool.and_assoc]
 have k0:=c_isname (l:=a.1)
 cases h0:nameB a.1
 ·rw [h0] at k0
  simp only [Bool.false_and]
  refine ctr Tryz.func189 rfl Tryz.ntmps189 (by simp) (fun _ _=>by kernel_rfl) fun X w hE=> ?_
  simp only [argE,Nat.zero_add,Nat.reduceAdd]
  repeat' first|kernel_rfl|apply g_seq|apply g_reg|apply g_nil|apply g_box|apply g_all|apply g_stf|apply g_stw|apply g_sto|apply g_asg|refine g_run rfl inferInstance (by first|exact sc trivial k0|exact st_load'|exact st_fieldAddr'|exact st_loadE') (by kernel_rfl) ?_|refine g_sk rfl inferInstance rfl (by kernel_rfl) ?_|refine g_un rfl inferInstance (by kernel_rfl) ?_|apply g_st|apply g_skip|apply g_ct|apply g_cf|apply g_ret|refine r_1 rfl ?_|apply g_cl|exact sc trivial k0|exact st_move'|exact st_assign'|exact st_load'|exact st_fieldAddr'|exact st_and_t'|exact st_and_f'|exact st_loadE'|exact Cv.rfl'|intro _
 rw [h0] at k0
 simp only [Bool.true_and]
 have k1:=c_within_u8 (n:=a.2.1) (a:=1) (b:=11)
 cases h1:withB a.2.1 1 11
 ·rw [h1] at k1
  simp only [Bool.false_and]
  refine ctr Tryz.func189 rfl Tryz.ntmps189 (by simp) (fun _ _=>by kernel_rfl) fun X w hE=> ?_
  simp only [argE,Nat.zero_add,Nat.reduceAdd]
  repeat' first|kernel_rfl|apply g_seq|apply g_reg|apply g_nil|apply g_box|apply g_all|apply g_stf|apply g_stw|apply g_sto|apply g_asg|refine g_run rfl inferInstance (by first|exact sc trivial k0|exact sc trivial k1|exact st_load'|exact st_fieldAddr'|exact st_loadE') (by kernel_rfl) ?_|refine g_sk rfl inferInstance rfl (by kernel_rfl) ?_|refine g_un rfl inferInstance (by kernel_rfl) ?_|apply g_st|apply g_skip|apply g_ct|apply g_cf|apply g_ret|refine r_1 rfl ?_|apply g_cl|exact sc trivial k0|exact sc trivial k1|exact st_move'|exact st_assign'|exact st_load'|exact st_fieldAddr'|exact st_and_t'|exact st_and_f'|exact st_loadE'|exact Cv.rfl'|intro _
 rw [h1] at k1
 simp only [Bool.true_and]
 have k2:=c_rightArg hf
 refine ctr Tryz.func189 rfl Tryz.ntmps189 (by simp) (fun _ _=>by kernel_rfl) fun X w hE=> ?_
 simp only [argE,Nat.zero_add,Nat.reduceAdd]
 repeat' first|kernel_rfl|apply g_seq|apply g_reg|apply g_nil|apply g_box|apply g_all|apply g_stf|apply g_stw|apply g_sto|apply g_asg|refine g_run rfl inferInstance (by first|exact sc trivial k0|exact sc trivial k1|exact sc hE k2|exact st_load'|exact st_fieldAddr'|exact st_loadE') (by kernel_rfl) ?_|refine g_sk rfl inferInstance rfl (by kernel_rfl) ?_|refine g_un rfl inferInstance (by kernel_rfl) ?_|apply g_st|apply g_skip|apply g_ct|apply g_cf|apply g_ret|refine r_1 rfl ?_|apply g_cl|exact sc trivial k0|exact sc trivial k1|exact sc hE k2|exact st_move'|exact st_assign'|exact st_load'|exact st_fieldAddr'|exact st_and_t'|exact st_and_f'|exact st_loadE'|exact Cv.rfl'|intro _
end Go.Proofs.YtgnggldjjjkogaaGreatDoor
