/- Package rat: rows: sums, products, the least and the greatest. -/
import Derived.Test.YtlibgcjnjlknhaaGreatDoorGI
import Derived.Test.YtlibgcjnjlknhaaGreatDoorGG
set_option linter.unusedSimpArgs false
set_option linter.unusedVariables false
namespace Go.Proofs.YtlibgcjnjlknhaaGreatDoor
open Go Go.RowKit
theorem SlR.front {α:Type} {r:Rp α} {w:World} {S:Nat→Prop} {A:Option Addr} {n c m:Nat} {l:List α} (h:SlR r w S A n c l) (hm:m≤n):SlR r w S A m c (l.take m):=by
 obtain ⟨h1,h2,h3,h4,h5⟩:=h
 refine ⟨by rw [List.length_take];omega,by omega,h3,h4,fun hn=> ?_⟩
 obtain ⟨b,off,hA,hb,hc⟩:=h5 (by omega)
 refine ⟨b,off,hA,hb,fun j a ha=>hc j a ?_⟩
 rw [List.getElem?_take] at ha
 split at ha
 ·exact ha
 ·cases ha
theorem SlR.back {α:Type} {r:Rp α} {w:World} {S:Nat→Prop} {A:Option Addr} {n c m:Nat} {l:List α} (h:SlR r w S A n c l) (hm:m≤n):SlR r w S (if c=m then A else A.map (·.add (m*r.k))) (n - m) (c - m) (l.drop m):=by
 obtain ⟨h1,h2,h3,h4,h5⟩:=h
 refine ⟨by rw [List.length_drop];omega,by omega,by omega,fun hA=> ?_,fun hn=> ?_⟩
 ·split at hA
  ·omega
  ·have h0:=h4 (by cases A<;>simp_all)
   omega
 ·obtain ⟨b,off,rfl,hb,hc⟩:=h5 (by omega)
  rw [if_neg (by omega)]
  refine ⟨b,off+m*r.k,by simp [Addr.add_lit],hb,fun j a ha=> ?_⟩
  rw [Nat.add_assoc,←Nat.add_mul]
  exact hc _ a (by rw [←ha,List.getElem?_drop])
theorem Keeps.rfl' (X:List Nat) (w:World):Keeps X w w:=⟨Nat.le_refl _,fun _ _ _=>rfl⟩
theorem qa_mono {X:List Nat} {w:World} {v:Value} {q:Rat} {L M:Nat} (hl:L≤M) (h:(VTy.qa q L).holds X w v):(VTy.qa q M).holds X w v:=by
 obtain ⟨x,⟨h1,h2,h3,h4⟩,g⟩:=h
 exact ⟨x,⟨h1,by omega,by omega,by omega⟩,g⟩
theorem TS.less {w00 w:World} {X X':List Nat} {L:List Loc} {E:List (Nat×VTy)} {n:Nat} {a:Act} (h:TS w00 X' L E n a w) (hX:∀ b∈X,b∈X') (hL:∀ p∈L,p.1∈X):TS w00 X L E n a w:=
 ⟨h.size,h.df,fun p hp=>p.2.stable (h.slots p hp) (Keeps.rfl' _ _) (fun b hb _=>hX b hb),⟨fun p hp=>by
  obtain ⟨_,g2,v,ty,g3,g4⟩:=h.mem.loc p hp
  exact ⟨hL p hp,g2,v,ty,p.2.stable g3 (Keeps.rfl' _ _) (fun b hb _=>hX b hb),g4⟩,fun b hb=>h.mem.far b (hX b hb),h.mem.nodup,h.mem.below⟩⟩
theorem TS.tail {w00 w:World} {X:List Nat} {L:List Loc} {E:List (Nat×VTy)} {n:Nat} {a:Act} {p:Loc} (h:TS w00 X (p::L) E n a w):TS w00 X L E n a w:=
 ⟨h.size,h.df,h.slots,⟨fun p hp=>h.mem.loc p (List.mem_cons_of_mem _ hp),h.mem.far,by have:=h.mem.nodup;rw [List.map_cons,List.nodup_cons] at this;exact this.2,h.mem.below⟩⟩
instance {p:RawQ→Prop} {a:RawQ}:SizeV (.el Rp.frac p a) 4 true:=inferInstanceAs (SizeV (.ex Rp.frac _) Rp.frac.k true)
instance {p:RawQ→Prop} {a:RawQ}:PartC (.el Rp.frac p a) 0 4 true (.el Rp.frac p a):= .whole inferInstance
instance:SliceC Tryz.prog 89 4:=⟨⟨_,Tryz.underlying89,by kernel_rfl⟩⟩
section
variable {w00:World} {N:Nat} {L:List Loc} {E:List (Nat×VTy)} {d:Nat} {t0:TypeId} {pos:String} {af:Array Edge} {gd:Option (Nat×Bool)} {ats:Array TypeId}
end
section
variable {w00:World} {N:Nat} {L:List Loc} {E:List (Nat×VTy)} {d:Nat} {t0:TypeId} {pos:String} {af:Array Edge} {gd:Option (Nat×Bool)} {ats:Array TypeId}
end
section
variable {w00:World} {N:Nat} {L:List Loc} {E:List (Nat×VTy)} {d:Nat} {t0:TypeId} {pos:String} {af:Array Edge} {gd:Option (Nat×Bool)} {ats:Array TypeId}
end
section
variable {w00:World} {N:Nat} {L:List Loc} {E:List (Nat×VTy)} {d:Nat} {t0:TypeId} {pos:String} {af:Array Edge} {gd:Option (Nat×Bool)} {ats:Array TypeId}
end
section
variable {w00:World} {N:Nat} {L:List Loc} {E:List (Nat×VTy)} {d:Nat} {t0:TypeId} {pos:String} {af:Array Edge} {gd:Option (Nat×Bool)} {ats:Array TypeId}
end
section
variable {w00:World} {N:Nat} {L:List Loc} {E:List (Nat×VTy)} {d:Nat} {t0:TypeId} {pos:String} {af:Array Edge} {gd:Option (Nat×Bool)} {ats:Array TypeId}
end
section
variable {w00:World} {N:Nat} {L:List Loc} {E:List (Nat×VTy)} {d:Nat} {t0:TypeId} {pos:String} {af:Array Edge} {gd:Option (Nat×Bool)} {ats:Array TypeId}
theorem er_new:Enters Tryz.prog 123:=fun _ _=>by kernel_rfl
theorem cr_new {X:List Nat} {w:World} {v0 v1:Value} {N0:Int} {L0:Nat} {M0:Int} {K0:Nat} (hE:Tab w) (hX:∀ b∈X,b<w.heap.size) (h0:(VTy.na N0 L0).holds X w v0) (h1:(VTy.na M0 K0).holds X w v1) (hb:L0≤90∧K0≤90) (hD:M0≠0):Calls Tryz.prog 123 #[v0,v1] w (Gives X w (.tup [.qc (Rat.divInt N0 M0) (max L0 K0), .is (.int .i64 0)])):=by
 exact (crn_new hE hX h0 h1 (by omega) hD).mono fun e w' h=>h.imp (tup_imp (fun _ g=>nw_ex g) fun _ h=>h)
theorem sr_new {o0:Operand} {T0:VTy} {N0:Int} {L0:Nat} {o1:Operand} {T1:VTy} {M0:Int} {K0:Nat} [OpC E o0 T0] [a0:AsN T0 N0 L0] [OpC E o1 T1] [a1:AsN T1 M0 K0] (hE:Tab w00) (hb:L0≤90∧K0≤90) (hD:M0≠0):
 StepT Tryz.prog w00 N L E ⟨some d, .call { callee:= .value (.func 123),args:= #[o0,o1],argTypes:=ats },t0,pos,af,gd⟩ (.tup [.qc (Rat.divInt N0 M0) (max L0 K0), .is (.int .i64 0)]):=
 sc2 er_new fun X w v0 v1 hX _ hB h0 h1=>cr_new (hE.below hB) hX (a0.ok h0) (a1.ok h1) hb hD
theorem er_of:Enters Tryz.prog 71:=fun _ _=>by kernel_rfl
theorem cr_of {X:List Nat} {w:World} {v0 v1:Value} {k0:Int} {k1:Int} (hE:Tab w) (hX:∀ b∈X,b<w.heap.size) (h0:(VTy.is (.int .i64 k0)).holds X w v0) (h1:(VTy.is (.int .i64 k1)).holds X w v1) (hk: -9223372036854775808≤k0∧k0≤9223372036854775807) (hm: -9223372036854775808≤k1∧k1≤9223372036854775807) (hD:k1≠0):Calls Tryz.prog 71 #[v0,v1] w (Gives X w (.tup [.qc (Rat.divInt k0 k1) 2, .is (.int .i64 0)])):=by
 exact (crn_of hE hX h0 h1 hk hm hD).mono fun e w' h=>h.imp (tup_imp (fun _ g=>nw_ex g) fun _ h=>h)
theorem sr_of {o0:Operand} {k0:Int} {o1:Operand} {k1:Int} [OpC E o0 (.is (.int .i64 k0))] [OpC E o1 (.is (.int .i64 k1))] (hE:Tab w00) (hk: -9223372036854775808≤k0∧k0≤9223372036854775807) (hm: -9223372036854775808≤k1∧k1≤9223372036854775807) (hD:k1≠0):
 StepT Tryz.prog w00 N L E ⟨some d, .call { callee:= .value (.func 71),args:= #[o0,o1],argTypes:=ats },t0,pos,af,gd⟩ (.tup [.qc (Rat.divInt k0 k1) 2, .is (.int .i64 0)]):=
 sc2 er_of fun X w v0 v1 hX _ hB h0 h1=>cr_of (hE.below hB) hX h0 h1 hk hm hD
theorem er_whole:Enters Tryz.prog 22:=fun _ _=>by kernel_rfl
theorem cr_whole {X:List Nat} {w:World} {v0:Value} {k0:Int} (hE:Tab w) (hX:∀ b∈X,b<w.heap.size) (h0:(VTy.is (.int .i64 k0)).holds X w v0) (hk: -9223372036854775808≤k0∧k0≤9223372036854775807):Calls Tryz.prog 22 #[v0] w (Gives X w (.qc (k0:Rat) 2)):=by
 exact (crn_whole hE hX h0 hk).mono fun e w' h=>h.imp fun _ g=>nw_ex g
theorem sr_whole {o0:Operand} {k0:Int} [OpC E o0 (.is (.int .i64 k0))] (hE:Tab w00) (hk: -9223372036854775808≤k0∧k0≤9223372036854775807):
 StepT Tryz.prog w00 N L E ⟨some d, .call { callee:= .value (.func 22),args:= #[o0],argTypes:=ats },t0,pos,af,gd⟩ (.qc (k0:Rat) 2):=
 sc1 er_whole fun X w v0 hX _ hB h0=>cr_whole (hE.below hB) hX h0 hk
theorem er_mul:Enters Tryz.prog 55:=fun _ _=>by kernel_rfl
theorem cr_mul {X:List Nat} {w:World} {v0 v1:Value} {p:Rat} {L0:Nat} {q:Rat} {K0:Nat} (hE:Tab w) (hX:∀ b∈X,b<w.heap.size) (h0:(VTy.qa p L0).holds X w v0) (h1:(VTy.qa q K0).holds X w v1) (hb:L0≤90∧K0≤90):Calls Tryz.prog 55 #[v0,v1] w (Gives X w (.qc (p*q) (L0+K0))):=by
 exact (crn_mul hE hX h0 h1 hb).mono fun e w' h=>h.imp fun _ g=>nw_ex g
theorem sr_mul {o0:Operand} {T0:VTy} {p:Rat} {L0:Nat} {o1:Operand} {T1:VTy} {q:Rat} {K0:Nat} [OpC E o0 T0] [a0:AsQ T0 p L0] [OpC E o1 T1] [a1:AsQ T1 q K0] (hE:Tab w00) (hb:L0≤90∧K0≤90):
 StepT Tryz.prog w00 N L E ⟨some d, .call { callee:= .value (.func 55),args:= #[o0,o1],argTypes:=ats },t0,pos,af,gd⟩ (.qc (p*q) (L0+K0)):=
 sc2 er_mul fun X w v0 v1 hX _ hB h0 h1=>cr_mul (hE.below hB) hX (a0.ok h0) (a1.ok h1) hb
theorem er_div:Enters Tryz.prog 23:=fun _ _=>by kernel_rfl
theorem cr_div {X:List Nat} {w:World} {v0 v1:Value} {p:Rat} {L0:Nat} {q:Rat} {K0:Nat} (hE:Tab w) (hX:∀ b∈X,b<w.heap.size) (h0:(VTy.qa p L0).holds X w v0) (h1:(VTy.qa q K0).holds X w v1) (hb:L0≤90∧K0≤90) (hq:q≠0):Calls Tryz.prog 23 #[v0,v1] w (Gives X w (.tup [.qc (p / q) (L0+K0), .is (.int .i64 0)])):=by
 exact (crn_div hE hX h0 h1 hb hq).mono fun e w' h=>h.imp (tup_imp (fun _ g=>nw_ex g) fun _ h=>h)
theorem sr_div {o0:Operand} {T0:VTy} {p:Rat} {L0:Nat} {o1:Operand} {T1:VTy} {q:Rat} {K0:Nat} [OpC E o0 T0] [a0:AsQ T0 p L0] [OpC E o1 T1] [a1:AsQ T1 q K0] (hE:Tab w00) (hb:L0≤90∧K0≤90) (hq:q≠0):
 StepT Tryz.prog w00 N L E ⟨some d, .call { callee:= .value (.func 23),args:= #[o0,o1],argTypes:=ats },t0,pos,af,gd⟩ (.tup [.qc (p / q) (L0+K0), .is (.int .i64 0)]):=
 sc2 er_div fun X w v0 v1 hX _ hB h0 h1=>cr_div (hE.below hB) hX (a0.ok h0) (a1.ok h1) hb hq
theorem er_cmp:Enters Tryz.prog 27:=fun _ _=>by kernel_rfl
theorem cr_cmp {X:List Nat} {w:World} {v0 v1:Value} {p:Rat} {L0:Nat} {q:Rat} {K0:Nat} (hE:Tab w) (hX:∀ b∈X,b<w.heap.size) (h0:(VTy.qa p L0).holds X w v0) (h1:(VTy.qa q K0).holds X w v1) (hb:L0≤90∧K0≤90):Calls Tryz.prog 27 #[v0,v1] w (Gives X w (.is (.int .i64 (cmpQ p q)))):=by
 exact crn_cmp hE hX h0 h1 hb
theorem sr_cmp {o0:Operand} {T0:VTy} {p:Rat} {L0:Nat} {o1:Operand} {T1:VTy} {q:Rat} {K0:Nat} [OpC E o0 T0] [a0:AsQ T0 p L0] [OpC E o1 T1] [a1:AsQ T1 q K0] (hE:Tab w00) (hb:L0≤90∧K0≤90):
 StepT Tryz.prog w00 N L E ⟨some d, .call { callee:= .value (.func 27),args:= #[o0,o1],argTypes:=ats },t0,pos,af,gd⟩ (.is (.int .i64 (cmpQ p q))):=
 sc2 er_cmp fun X w v0 v1 hX _ hB h0 h1=>cr_cmp (hE.below hB) hX (a0.ok h0) (a1.ok h1) hb
theorem er_sign:Enters Tryz.prog 29:=fun _ _=>by kernel_rfl
theorem cr_sign {X:List Nat} {w:World} {v0:Value} {p:Rat} {L0:Nat} (hE:Tab w) (hX:∀ b∈X,b<w.heap.size) (h0:(VTy.qa p L0).holds X w v0) (hb:L0≤90):Calls Tryz.prog 29 #[v0] w (Gives X w (.is (.int .i64 (cmpQ p 0)))):=by
 exact crn_sign hE hX h0 hb
theorem sr_sign {o0:Operand} {T0:VTy} {p:Rat} {L0:Nat} [OpC E o0 T0] [a0:AsQ T0 p L0] (hE:Tab w00) (hb:L0≤90):
 StepT Tryz.prog w00 N L E ⟨some d, .call { callee:= .value (.func 29),args:= #[o0],argTypes:=ats },t0,pos,af,gd⟩ (.is (.int .i64 (cmpQ p 0))):=
 sc1 er_sign fun X w v0 hX _ hB h0=>cr_sign (hE.below hB) hX (a0.ok h0) hb
theorem er_right:Enters Tryz.prog 107:=fun _ _=>by kernel_rfl
theorem cr_right {X:List Nat} {w:World} {v0:Value} {x:RawQ} {L0:Nat} (hE:Tab w) (hX:∀ b∈X,b<w.heap.size) (h0:(VTy.qx x L0).holds X w v0) (hb:L0≤90):Calls Tryz.prog 107 #[v0] w (Gives X w (.is (.bool (qrt x)))):=by
 exact crn_right hE hX h0 (by omega)
end
section
variable {w00:World} {N:Nat} {L:List Loc} {E:List (Nat×VTy)} {d:Nat} {t0:TypeId} {pos:String} {af:Array Edge} {gd:Option (Nat×Bool)} {ats:Array TypeId}
end
theorem cmpQ_le {p q:Rat}:cmpQ p q≤0↔p≤q:=by
 unfold cmpQ
 split
 ·rename_i h;exact ⟨fun _=>Rat.le_of_lt h,fun _=>by decide⟩
 ·rename_i h
  split
  ·rename_i e;exact ⟨fun _=>e▸Rat.le_refl,fun _=>by decide⟩
  ·rename_i e
   refine ⟨fun h=>absurd h (by decide),fun hle=> ?_⟩
   exact absurd (Rat.lt_of_le_of_ne hle e) h
theorem cmpQ_zero {p q:Rat}:cmpQ p q=0↔p=q:=by
 unfold cmpQ
 split
 ·rename_i h;exact ⟨fun h=>absurd h (by decide),fun e=>absurd h (e▸Rat.lt_irrefl)⟩
 ·split
  ·rename_i e;exact ⟨fun _=>e,fun _=>rfl⟩
  ·rename_i e;exact ⟨fun h=>absurd h (by decide),fun h=>absurd h e⟩
theorem cmpQ_gt {p q:Rat}:0<cmpQ p q↔q<p:=by
 have h1:= @cmpQ_le p q
 rw [←Rat.not_le,←h1]
 omega
class AsZ (T:VTy) (x:outParam RawQ):Prop where
 ok:∀ {X w v},T.holds X w v→(VTy.qz x).holds X w v
instance {x:RawQ}:AsZ (.qz x) x:=⟨fun h=>h⟩
instance {x:RawQ} {L:Nat}:AsZ (.qx x L) x:=⟨fun ⟨y,h,g⟩=>⟨y,h.1,g⟩⟩
instance {L:Nat} {x:RawQ}:AsZ (.el Rp.frac (fewQ L) x) x:=⟨fun ⟨y,h,g⟩=>⟨y,h.1,g⟩⟩
section
variable {w00:World} {N:Nat} {L:List Loc} {E:List (Nat×VTy)} {d:Nat} {t0:TypeId} {pos:String} {af:Array Edge} {gd:Option (Nat×Bool)} {ats:Array TypeId}
theorem sr_rightc {o0:Operand} {q:Rat} {L0:Nat} [OpC E o0 (.qc q L0)] (hE:Tab w00) (hb:L0≤90):StepT Tryz.prog w00 N L E ⟨some d, .call { callee:= .value (.func 107),args:= #[o0],argTypes:=ats },t0,pos,af,gd⟩ (.is (.bool true)):=
 sc1 er_right fun X w v0 hX _ hB h0=>by
  obtain ⟨x,⟨hf,hl⟩,g⟩:=h0
  have:=cr_right (L0:=L0) (hE.below hB) hX (x:=x) ⟨x,⟨rfl,(hf.len hl).1,(hf.len hl).2,hl.pos⟩,g⟩ hb
  rwa [hf.right] at this
end
def VTy.nz (x:RawI):VTy:=VTy.ex Rp.num fun y=>y=x
instance {x:RawI}:SizeV (.nz x) 2 true:=inferInstanceAs (SizeV (.ex Rp.num _) Rp.num.k true)
instance {x:RawI}:PartC (.nz x) 0 2 true (.nz x):= .whole inferInstance
theorem PartC.limbsI {p:RawI→Prop} {xs:List Int} (h:∀ x,p x→x.2=xs):PartC (.ex Rp.num p) 1 1 false (.rc Rp.limbs xs):=⟨fun _=>rfl,fun {X w v} hv=>by
 obtain ⟨x,hp,cs,rfl,h1⟩:=hv
 obtain ⟨A,n,c,rfl,hs,hd⟩:=num_rd.1 h1
 refine ⟨[.slice A n c],rfl,fun j u hj=> ?_,fun u _ hu=> ?_⟩
 ·have hj0:j=0:=by have:=(List.getElem?_eq_some_iff.1 hj).1;simpa using this
  subst hj0
  simpa [Value.cells] using hj
 ·have:=hu rfl
  simp at this
  subst this
  exact ⟨A,n,c,rfl,by rw [←h x hp];exact hs,by rw [←h x hp];exact hd⟩⟩
instance {x:RawI}:PartC (.nz x) 1 1 false (.rc Rp.limbs x.2):= .limbsI fun _ h=>by rw [h]
instance {x:RawI} {L:Nat}:PartC (.nx x L) 1 1 false (.rc Rp.limbs x.2):= .limbsI fun _ h=>by rw [h.1]
section
variable {w00:World} {N:Nat} {L:List Loc} {E:List (Nat×VTy)} {d:Nat} {t0:TypeId} {pos:String} {af:Array Edge} {gd:Option (Nat×Bool)} {ats:Array TypeId}
end
end Go.Proofs.YtlibgcjnjlknhaaGreatDoor
