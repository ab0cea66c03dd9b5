/- Package rat: rows: sums, products, the least and the greatest. -/
import Derived.Test.YtgnggldjjjkogaaGreatDoorGI
import Derived.Test.YtgnggldjjjkogaaGreatDoorGG
set_option linter.unusedSimpArgs false
set_option linter.unusedVariables false
namespace Go.Proofs.YtgnggldjjjkogaaGreatDoor
open Go Go.RowKit
theorem SlR.front {α:Type} {r:Rp α} {w:World} {S:Nat→Prop} {A:Option Addr} {n c m:Nat} {l:List α} (h:SlR r w S A n c l) (hm:m≤n):SlR r w S A m c (l.take m):=by
 obtain ⟨h1,h2,h3,h4,h5⟩:=h
 refine ⟨by rw [List.length_take];omega,by omega,h3,h4,fun hn=> ?_⟩
 obtain ⟨b,off,hA,hb,hc⟩:=h5 (by omega)
 refine ⟨b,off,hA,hb,fun j a ha=>hc j a ?_⟩
 rw [List.getElem?_take] at ha
 split at ha
 ·exact ha
 ·cases ha
theorem SlR.back {α:Type} {r:Rp α} {w:World} {S:Nat→Prop} {A:Option Addr} {n c m:Nat} {l:List α} (h:SlR r w S A n c l) (hm:m≤n):SlR r w S (if c=m then A else A.map (·.add (m*r.k))) (n - m) (c - m) (l.drop m):=by
 obtain ⟨h1,h2,h3,h4,h5⟩:=h
 refine ⟨by rw [List.length_drop];omega,by omega,by omega,fun hA=> ?_,fun hn=> ?_⟩
 ·split at hA
  ·omega
  ·have h0:=h4 (by cases A<;>simp_all)
   omega
 ·obtain ⟨b,off,rfl,hb,hc⟩:=h5 (by omega)
  rw [if_neg (by omega)]
  refine ⟨b,off+m*r.k,by simp [Addr.add_lit],hb,fun j a ha=> ?_⟩
  rw [Nat.add_assoc,←Nat.add_mul]
  exact hc _ a (by rw [←ha,List.getElem?_drop])
theorem Keeps.rfl' (X:List Nat) (w:World):Keeps X w w:=⟨Nat.le_refl _,fun _ _ _=>rfl⟩
theorem TS.less {w00 w:World} {X X':List Nat} {L:List Loc} {E:List (Nat×VTy)} {n:Nat} {a:Act} (h:TS w00 X' L E n a w) (hX:∀ b∈X,b∈X') (hL:∀ p∈L,p.1∈X):TS w00 X L E n a w:=
 ⟨h.size,h.df,fun p hp=>p.2.stable (h.slots p hp) (Keeps.rfl' _ _) (fun b hb _=>hX b hb),⟨fun p hp=>by
  obtain ⟨_,g2,v,ty,g3,g4⟩:=h.mem.loc p hp
  exact ⟨hL p hp,g2,v,ty,p.2.stable g3 (Keeps.rfl' _ _) (fun b hb _=>hX b hb),g4⟩,fun b hb=>h.mem.far b (hX b hb),h.mem.nodup,h.mem.below⟩⟩
theorem TS.tail {w00 w:World} {X:List Nat} {L:List Loc} {E:List (Nat×VTy)} {n:Nat} {a:Act} {p:Loc} (h:TS w00 X (p::L) E n a w):TS w00 X L E n a w:=
 ⟨h.size,h.df,h.slots,⟨fun p hp=>h.mem.loc p (List.mem_cons_of_mem _ hp),h.mem.far,by have:=h.mem.nodup;rw [List.map_cons,List.nodup_cons] at this;exact this.2,h.mem.below⟩⟩
instance {p:RawQ→Prop} {a:RawQ}:SizeV (.el Rp.frac p a) 4 true:=inferInstanceAs (SizeV (.ex Rp.frac _) Rp.frac.k true)
instance {p:RawQ→Prop} {a:RawQ}:PartC (.el Rp.frac p a) 0 4 true (.el Rp.frac p a):= .whole inferInstance
instance:SliceC Tryz.prog 70 4:=⟨⟨_,Tryz.underlying70,by kernel_rfl⟩⟩
section
variable {w00:World} {N:Nat} {L:List Loc} {E:List (Nat×VTy)} {d:Nat} {t0:TypeId} {pos:String} {af:Array Edge} {gd:Option (Nat×Bool)} {ats:Array TypeId}
end
section
variable {w00:World} {N:Nat} {L:List Loc} {E:List (Nat×VTy)} {d:Nat} {t0:TypeId} {pos:String} {af:Array Edge} {gd:Option (Nat×Bool)} {ats:Array TypeId}
end
section
variable {w00:World} {N:Nat} {L:List Loc} {E:List (Nat×VTy)} {d:Nat} {t0:TypeId} {pos:String} {af:Array Edge} {gd:Option (Nat×Bool)} {ats:Array TypeId}
end
section
variable {w00:World} {N:Nat} {L:List Loc} {E:List (Nat×VTy)} {d:Nat} {t0:TypeId} {pos:String} {af:Array Edge} {gd:Option (Nat×Bool)} {ats:Array TypeId}
end
section
variable {w00:World} {N:Nat} {L:List Loc} {E:List (Nat×VTy)} {d:Nat} {t0:TypeId} {pos:String} {af:Array Edge} {gd:Option (Nat×Bool)} {ats:Array TypeId}
end
section
variable {w00:World} {N:Nat} {L:List Loc} {E:List (Nat×VTy)} {d:Nat} {t0:TypeId} {pos:String} {af:Array Edge} {gd:Option (Nat×Bool)} {ats:Array TypeId}
end
section
variable {w00:World} {N:Nat} {L:List Loc} {E:List (Nat×VTy)} {d:Nat} {t0:TypeId} {pos:String} {af:Array Edge} {gd:Option (Nat×Bool)} {ats:Array TypeId}
theorem er_whole:Enters Tryz.prog 39:=fun _ _=>by kernel_rfl
theorem cr_whole {X:List Nat} {w:World} {v0:Value} {k0:Int} (hE:Tab w) (hX:∀ b∈X,b<w.heap.size) (h0:(VTy.is (.int .i64 k0)).holds X w v0) (hk: -9223372036854775808≤k0∧k0≤9223372036854775807):Calls Tryz.prog 39 #[v0] w (Gives X w (.qc (k0:Rat) 2)):=by
 exact (crn_whole hE hX h0 hk).mono fun e w' h=>h.imp fun _ g=>nw_ex g
theorem sr_whole {o0:Operand} {k0:Int} [OpC E o0 (.is (.int .i64 k0))] (hE:Tab w00) (hk: -9223372036854775808≤k0∧k0≤9223372036854775807):
 StepT Tryz.prog w00 N L E ⟨some d, .call { callee:= .value (.func 39),args:= #[o0],argTypes:=ats },t0,pos,af,gd⟩ (.qc (k0:Rat) 2):=
 sc1 er_whole fun X w v0 hX _ hB h0=>cr_whole (hE.below hB) hX h0 hk
theorem er_mul:Enters Tryz.prog 41:=fun _ _=>by kernel_rfl
theorem cr_mul {X:List Nat} {w:World} {v0 v1:Value} {p:Rat} {L0:Nat} {q:Rat} {K0:Nat} (hE:Tab w) (hX:∀ b∈X,b<w.heap.size) (h0:(VTy.qa p L0).holds X w v0) (h1:(VTy.qa q K0).holds X w v1) (hb:L0≤90∧K0≤90):Calls Tryz.prog 41 #[v0,v1] w (Gives X w (.qc (p*q) (L0+K0))):=by
 exact (crn_mul hE hX h0 h1 hb).mono fun e w' h=>h.imp fun _ g=>nw_ex g
theorem sr_mul {o0:Operand} {T0:VTy} {p:Rat} {L0:Nat} {o1:Operand} {T1:VTy} {q:Rat} {K0:Nat} [OpC E o0 T0] [a0:AsQ T0 p L0] [OpC E o1 T1] [a1:AsQ T1 q K0] (hE:Tab w00) (hb:L0≤90∧K0≤90):
 StepT Tryz.prog w00 N L E ⟨some d, .call { callee:= .value (.func 41),args:= #[o0,o1],argTypes:=ats },t0,pos,af,gd⟩ (.qc (p*q) (L0+K0)):=
 sc2 er_mul fun X w v0 v1 hX _ hB h0 h1=>cr_mul (hE.below hB) hX (a0.ok h0) (a1.ok h1) hb
theorem er_neg:Enters Tryz.prog 31:=fun _ _=>by kernel_rfl
theorem cr_neg {X:List Nat} {w:World} {v0:Value} {p:Rat} {L0:Nat} (hE:Tab w) (hX:∀ b∈X,b<w.heap.size) (h0:(VTy.qa p L0).holds X w v0) (hb:L0≤90):Calls Tryz.prog 31 #[v0] w (Gives X w (.qc (-p) L0)):=by
 exact (crn_neg hE hX h0 hb).mono fun e w' h=>h.imp fun _ g=>nw_ex g
theorem sr_neg {o0:Operand} {T0:VTy} {p:Rat} {L0:Nat} [OpC E o0 T0] [a0:AsQ T0 p L0] (hE:Tab w00) (hb:L0≤90):
 StepT Tryz.prog w00 N L E ⟨some d, .call { callee:= .value (.func 31),args:= #[o0],argTypes:=ats },t0,pos,af,gd⟩ (.qc (-p) L0):=
 sc1 er_neg fun X w v0 hX _ hB h0=>cr_neg (hE.below hB) hX (a0.ok h0) hb
theorem er_cmp:Enters Tryz.prog 40:=fun _ _=>by kernel_rfl
theorem cr_cmp {X:List Nat} {w:World} {v0 v1:Value} {p:Rat} {L0:Nat} {q:Rat} {K0:Nat} (hE:Tab w) (hX:∀ b∈X,b<w.heap.size) (h0:(VTy.qa p L0).holds X w v0) (h1:(VTy.qa q K0).holds X w v1) (hb:L0≤90∧K0≤90):Calls Tryz.prog 40 #[v0,v1] w (Gives X w (.is (.int .i64 (cmpQ p q)))):=by
 exact crn_cmp hE hX h0 h1 hb
theorem sr_cmp {o0:Operand} {T0:VTy} {p:Rat} {L0:Nat} {o1:Operand} {T1:VTy} {q:Rat} {K0:Nat} [OpC E o0 T0] [a0:AsQ T0 p L0] [OpC E o1 T1] [a1:AsQ T1 q K0] (hE:Tab w00) (hb:L0≤90∧K0≤90):
 StepT Tryz.prog w00 N L E ⟨some d, .call { callee:= .value (.func 40),args:= #[o0,o1],argTypes:=ats },t0,pos,af,gd⟩ (.is (.int .i64 (cmpQ p q))):=
 sc2 er_cmp fun X w v0 v1 hX _ hB h0 h1=>cr_cmp (hE.below hB) hX (a0.ok h0) (a1.ok h1) hb
theorem er_sign:Enters Tryz.prog 38:=fun _ _=>by kernel_rfl
theorem cr_sign {X:List Nat} {w:World} {v0:Value} {p:Rat} {L0:Nat} (hE:Tab w) (hX:∀ b∈X,b<w.heap.size) (h0:(VTy.qa p L0).holds X w v0) (hb:L0≤90):Calls Tryz.prog 38 #[v0] w (Gives X w (.is (.int .i64 (cmpQ p 0)))):=by
 exact crn_sign hE hX h0 hb
theorem sr_sign {o0:Operand} {T0:VTy} {p:Rat} {L0:Nat} [OpC E o0 T0] [a0:AsQ T0 p L0] (hE:Tab w00) (hb:L0≤90):
 StepT Tryz.prog w00 N L E ⟨some d, .call { callee:= .value (.func 38),args:= #[o0],argTypes:=ats },t0,pos,af,gd⟩ (.is (.int .i64 (cmpQ p 0))):=
 sc1 er_sign fun X w v0 hX _ hB h0=>cr_sign (hE.below hB) hX (a0.ok h0) hb
theorem er_right:Enters Tryz.prog 105:=fun _ _=>by kernel_rfl
theorem cr_right {X:List Nat} {w:World} {v0:Value} {x:RawQ} {L0:Nat} (hE:Tab w) (hX:∀ b∈X,b<w.heap.size) (h0:(VTy.qx x L0).holds X w v0) (hb:L0≤90):Calls Tryz.prog 105 #[v0] w (Gives X w (.is (.bool (qrt x)))):=by
 exact crn_right hE hX h0 (by omega)
end
section
variable {w00:World} {N:Nat} {L:List Loc} {E:List (Nat×VTy)} {d:Nat} {t0:TypeId} {pos:String} {af:Array Edge} {gd:Option (Nat×Bool)} {ats:Array TypeId}
end
theorem cmpQ_le {p q:Rat}:cmpQ p q≤0↔p≤q:=by
 unfold cmpQ
 split
 ·rename_i h;exact ⟨fun _=>Rat.le_of_lt h,fun _=>by decide⟩
 ·rename_i h
  split
  ·rename_i e;exact ⟨fun _=>e▸Rat.le_refl,fun _=>by decide⟩
  ·rename_i e
   refine ⟨fun h=>absurd h (by decide),fun hle=> ?_⟩
   exact absurd (Rat.lt_of_le_of_ne hle e) h
theorem cmpQ_anti (p q:Rat): -(cmpQ q p)=cmpQ p q:=by
 unfold cmpQ
 by_cases h:p<q
 ·have h1:¬ q<p:=fun h'=>Rat.not_le.2 h (Rat.le_of_lt h')
  have h2:¬ q=p:=fun e=>Rat.lt_irrefl (e▸h)
  rw [if_pos h,if_neg h1,if_neg h2]
 ·rw [if_neg h]
  by_cases e:p=q
  ·subst e;simp [h]
  ·have h1:q<p:=Rat.lt_of_le_of_ne (Rat.not_lt.1 h) (fun h=>e h.symm)
   rw [if_pos h1,if_neg e];rfl
theorem cmpQ_ge {p q:Rat}:0≤cmpQ p q↔q≤p:=by
 have:=cmpQ_anti p q
 rw [←cmpQ_le]
 omega
theorem cmpQ_lt {p q:Rat}:cmpQ p q<0↔p<q:=by
 have h1:= @cmpQ_ge p q
 rw [←Rat.not_le,←h1]
 omega
class AsZ (T:VTy) (x:outParam RawQ):Prop where
 ok:∀ {X w v},T.holds X w v→(VTy.qz x).holds X w v
instance {x:RawQ}:AsZ (.qz x) x:=⟨fun h=>h⟩
instance {x:RawQ} {L:Nat}:AsZ (.qx x L) x:=⟨fun ⟨y,h,g⟩=>⟨y,h.1,g⟩⟩
instance {L:Nat} {x:RawQ}:AsZ (.el Rp.frac (fewQ L) x) x:=⟨fun ⟨y,h,g⟩=>⟨y,h.1,g⟩⟩
section
variable {w00:World} {N:Nat} {L:List Loc} {E:List (Nat×VTy)} {d:Nat} {t0:TypeId} {pos:String} {af:Array Edge} {gd:Option (Nat×Bool)} {ats:Array TypeId}
end
def VTy.nz (x:RawI):VTy:=VTy.ex Rp.num fun y=>y=x
instance {x:RawI}:SizeV (.nz x) 2 true:=inferInstanceAs (SizeV (.ex Rp.num _) Rp.num.k true)
instance {x:RawI}:PartC (.nz x) 0 2 true (.nz x):= .whole inferInstance
theorem PartC.limbsI {p:RawI→Prop} {xs:List Int} (h:∀ x,p x→x.2=xs):PartC (.ex Rp.num p) 1 1 false (.rc Rp.limbs xs):=⟨fun _=>rfl,fun {X w v} hv=>by
 obtain ⟨x,hp,cs,rfl,h1⟩:=hv
 obtain ⟨A,n,c,rfl,hs,hd⟩:=num_rd.1 h1
 refine ⟨[.slice A n c],rfl,fun j u hj=> ?_,fun u _ hu=> ?_⟩
 ·have hj0:j=0:=by have:=(List.getElem?_eq_some_iff.1 hj).1;simpa using this
  subst hj0
  simpa [Value.cells] using hj
 ·have:=hu rfl
  simp at this
  subst this
  exact ⟨A,n,c,rfl,by rw [←h x hp];exact hs,by rw [←h x hp];exact hd⟩⟩
instance {x:RawI}:PartC (.nz x) 1 1 false (.rc Rp.limbs x.2):= .limbsI fun _ h=>by rw [h]
instance {x:RawI} {L:Nat}:PartC (.nx x L) 1 1 false (.rc Rp.limbs x.2):= .limbsI fun _ h=>by rw [h.1]
section
variable {w00:World} {N:Nat} {L:List Loc} {E:List (Nat×VTy)} {d:Nat} {t0:TypeId} {pos:String} {af:Array Edge} {gd:Option (Nat×Bool)} {ats:Array TypeId}
end
end Go.Proofs.YtgnggldjjjkogaaGreatDoor
