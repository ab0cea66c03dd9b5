/- Package rat: rows: sums, products, the least and the greatest. -/
import Derived.Test.YtjjkikchncfekaaGreatDoorCI
import Derived.Test.YtjjkikchncfekaaGreatDoorCG
set_option linter.unusedSimpArgs false
set_option linter.unusedVariables false
namespace Go.Proofs.YtjjkikchncfekaaGreatDoor
open Go Go.RowKit
variable {w:World} {p q:Rat} {L0 n K0:Nat} {X:List Nat} {v0:Value} {o0:Operand} {T0:aa}
theorem qY.front{α:Type} {r:Rp α} {S:Nat→Prop} {A:Option Addr} {c m:Nat} {l:List α} (h:qY r w S A n c l) (hm:m≤n):qY r w S A m c (l.take m):=by
 obtain ⟨h1,h2,h3,h4,h5⟩:=h
 refine ⟨by rw [List.length_take];omega,by omega,h3,h4,fun hn=> ?_⟩
 obtain ⟨b,off,hA,hb,hc⟩:=h5 qO
 refine ⟨b,off,hA,hb,fun j a ha=>hc j a ?_⟩
 rw [List.getElem?_take] at ha
 split at ha
 ·exact ha
 ·cases ha
theorem qY.back{α:Type} {r:Rp α} {S:Nat→Prop} {A:Option Addr} {c m:Nat} {l:List α} (h:qY r w S A n c l) (hm:m≤n):qY r w S (if c=m then A else A.map (·.add (m*r.k))) (n - m) (c - m) (l.drop m):=by
 obtain ⟨h1,h2,h3,h4,h5⟩:=h
 refine ⟨by rw [List.length_drop];omega,by omega,by omega,fun hA=> ?_,fun hn=> ?_⟩
 ·split at hA
  ·omega
  ·have h0:=h4 (by cases A<;>simp_all)
   omega
 ·obtain ⟨b,off,rfl,hb,hc⟩:=h5 qO
  rw [if_neg qO]
  refine ⟨b,off+m*r.k,by simp [Addr.add_lit],hb,fun j a ha=> ?_⟩
  rw [Nat.add_assoc,←Nat.add_mul]
  exact hc _ a (by rw [←ha,List.getElem?_drop])
theorem eZ.rfl' (X:List Nat) (w:World):eZ X w w:=⟨Nat.le_refl _,fun _ _ _=>rfl⟩
theorem TS.less{w00:World} {X':List Nat} {L:List Loc} {E:List (Nat×aa)} {a:Act} (h:TS w00 X' L E n a w) (hX:∀ b∈X,b∈X') (hL:∀ p∈L,p.1∈X):TS w00 X L E n a w:=
 ⟨h.size,h.df,fun p hp=>p.2.stable (h.slots p hp) (eZ.rfl' _ _) (fun b hb _=>hX b hb),⟨fun p hp=>by
  obtain ⟨_,g2,v,ty,g3,g4⟩:=h.mem.loc p hp
  exact ⟨hL p hp,g2,v,ty,p.2.stable g3 (eZ.rfl' _ _) (fun b hb _=>hX b hb),g4⟩,fun b hb=>h.mem.far b (hX b hb),h.mem.nodup,h.mem.below⟩⟩
theorem TS.tail{w00:World} {L:List Loc} {E:List (Nat×aa)} {a:Act} {p:Loc} (h:TS w00 X (p::L) E n a w):TS w00 X L E n a w:=
 ⟨h.size,h.df,h.slots,⟨fun p hp=>h.mem.loc p (List.mem_cons_of_mem _ hp),h.mem.far,by have:=h.mem.nodup;rw [List.map_cons,List.nodup_cons] at this;exact this.2,h.mem.below⟩⟩
instance {p:aP→Prop} {a:aP}:aJ (.el Rp.frac p a) 4 true:=inferInstanceAs (aJ (.ex Rp.frac _) Rp.frac.k true)
instance {p:aP→Prop} {a:aP}:ai (.el Rp.frac p a) 0 4 true (.el Rp.frac p a):= .whole inferInstance
instance:ca Tryz.prog 57 4:=⟨⟨_,Tryz.underlying57,by kernel_rfl⟩⟩
section
variable {w00:World} {N:Nat} {L:List Loc} {E:List (Nat×aa)} {d:Nat} {t0:TypeId} {pos:String} {af:Array Edge} {gd:Option (Nat×Bool)} {ats:Array TypeId}
end
section
variable {w00:World} {N:Nat} {L:List Loc} {E:List (Nat×aa)} {d:Nat} {t0:TypeId} {pos:String} {af:Array Edge} {gd:Option (Nat×Bool)} {ats:Array TypeId}
end
section
variable {w00:World} {N:Nat} {L:List Loc} {E:List (Nat×aa)} {d:Nat} {t0:TypeId} {pos:String} {af:Array Edge} {gd:Option (Nat×Bool)} {ats:Array TypeId}
end
section
variable {w00:World} {N:Nat} {L:List Loc} {E:List (Nat×aa)} {d:Nat} {t0:TypeId} {pos:String} {af:Array Edge} {gd:Option (Nat×Bool)} {ats:Array TypeId}
end
section
variable {w00:World} {N:Nat} {L:List Loc} {E:List (Nat×aa)} {d:Nat} {t0:TypeId} {pos:String} {af:Array Edge} {gd:Option (Nat×Bool)} {ats:Array TypeId}
end
section
variable {w00:World} {N:Nat} {L:List Loc} {E:List (Nat×aa)} {d:Nat} {t0:TypeId} {pos:String} {af:Array Edge} {gd:Option (Nat×Bool)} {ats:Array TypeId}
end
section
variable {w00:World} {N:Nat} {L:List Loc} {E:List (Nat×aa)} {d:Nat} {t0:TypeId} {pos:String} {af:Array Edge} {gd:Option (Nat×Bool)} {ats:Array TypeId}
theorem AV:a7 Tryz.prog 85:=fun _ _=>by kernel_rfl
theorem Au{k0:Int} (hE:dk w) (hX:∀ b∈X,b<w.heap.size) (h0:(aa.is (.int .i64 k0)).holds X w v0) (hk: -9223372036854775808≤k0∧k0≤9223372036854775807):Calls Tryz.prog 85 #[v0] w (bL X w (.qc (k0:Rat) 2)):=by
 exact (qU hE hX h0 hk).mono fun e w' h=>h.imp fun _ g=>nr g
theorem u_{k0:Int} [cb E o0 (.is (.int .i64 k0))] (hE:dk w00) (hk: -9223372036854775808≤k0∧k0≤9223372036854775807):
 ay Tryz.prog w00 N L E ⟨some d, .call { callee:= .value (.func 85),args:= #[o0],argTypes:=ats },t0,pos,af,gd⟩ (.qc (k0:Rat) 2):=
 tC AV fun X w v0 hX _ hB h0=>Au (hE.below hB) hX h0 hk
theorem GI:a7 Tryz.prog 87:=fun _ _=>by kernel_rfl
theorem Hp{v1:Value} (hE:dk w) (hX:∀ b∈X,b<w.heap.size) (h0:(aa.qa p L0).holds X w v0) (h1:(aa.qa q K0).holds X w v1) (hb:L0≤90∧K0≤90):Calls Tryz.prog 87 #[v0,v1] w (bL X w (.qc (p*q) (L0+K0))):=by
 exact (Eg hE hX h0 h1 hb).mono fun e w' h=>h.imp fun _ g=>nr g
theorem Hn{o1:Operand} {T1:aa} [cb E o0 T0] [a0:tk T0 p L0] [cb E o1 T1] [a1:tk T1 q K0] (hE:dk w00) (hb:L0≤90∧K0≤90):
 ay Tryz.prog w00 N L E ⟨some d, .call { callee:= .value (.func 87),args:= #[o0,o1],argTypes:=ats },t0,pos,af,gd⟩ (.qc (p*q) (L0+K0)):=
 xC GI fun X w v0 v1 hX _ hB h0 h1=>Hp (hE.below hB) hX (a0.ok h0) (a1.ok h1) hb
theorem FQ:a7 Tryz.prog 21:=fun _ _=>by kernel_rfl
theorem FX(hE:dk w) (hX:∀ b∈X,b<w.heap.size) (h0:(aa.qa p L0).holds X w v0) (hb:L0≤90):Calls Tryz.prog 21 #[v0] w (bL X w (.qc (-p) L0)):=by
 exact (Eo hE hX h0 hb).mono fun e w' h=>h.imp fun _ g=>nr g
theorem F8[cb E o0 T0] [a0:tk T0 p L0] (hE:dk w00) (hb:L0≤90):
 ay Tryz.prog w00 N L E ⟨some d, .call { callee:= .value (.func 21),args:= #[o0],argTypes:=ats },t0,pos,af,gd⟩ (.qc (-p) L0):=
 tC FQ fun X w v0 hX _ hB h0=>FX (hE.below hB) hX (a0.ok h0) hb
theorem FM:a7 Tryz.prog 86:=fun _ _=>by kernel_rfl
theorem GK{v1:Value} (hE:dk w) (hX:∀ b∈X,b<w.heap.size) (h0:(aa.qa p L0).holds X w v0) (h1:(aa.qa q K0).holds X w v1) (hb:L0≤90∧K0≤90):Calls Tryz.prog 86 #[v0,v1] w (bL X w (.is (.int .i64 (ee p q)))):=by
 exact C9 hE hX h0 h1 hb
theorem Gz{o1:Operand} {T1:aa} [cb E o0 T0] [a0:tk T0 p L0] [cb E o1 T1] [a1:tk T1 q K0] (hE:dk w00) (hb:L0≤90∧K0≤90):
 ay Tryz.prog w00 N L E ⟨some d, .call { callee:= .value (.func 86),args:= #[o0,o1],argTypes:=ats },t0,pos,af,gd⟩ (.is (.int .i64 (ee p q))):=
 xC FM fun X w v0 v1 hX _ hB h0 h1=>GK (hE.below hB) hX (a0.ok h0) (a1.ok h1) hb
theorem ED:a7 Tryz.prog 84:=fun _ _=>by kernel_rfl
theorem x6(hE:dk w) (hX:∀ b∈X,b<w.heap.size) (h0:(aa.qa p L0).holds X w v0) (hb:L0≤90):Calls Tryz.prog 84 #[v0] w (bL X w (.is (.int .i64 (ee p 0)))):=by
 exact Cp hE hX h0 hb
theorem Ez[cb E o0 T0] [a0:tk T0 p L0] (hE:dk w00) (hb:L0≤90):
 ay Tryz.prog w00 N L E ⟨some d, .call { callee:= .value (.func 84),args:= #[o0],argTypes:=ats },t0,pos,af,gd⟩ (.is (.int .i64 (ee p 0))):=
 tC ED fun X w v0 hX _ hB h0=>x6 (hE.below hB) hX (a0.ok h0) hb
theorem Bn:a7 Tryz.prog 133:=fun _ _=>by kernel_rfl
theorem Bd{x:aP} (hE:dk w) (hX:∀ b∈X,b<w.heap.size) (h0:(aa.qx x L0).holds X w v0) (hb:L0≤90):Calls Tryz.prog 133 #[v0] w (bL X w (.is (.bool (oJ x)))):=by
 exact ql hE hX h0 qO
end
section
variable {w00:World} {N:Nat} {L:List Loc} {E:List (Nat×aa)} {d:Nat} {t0:TypeId} {pos:String} {af:Array Edge} {gd:Option (Nat×Bool)} {ats:Array TypeId}
end
theorem Dk:ee p q≤0↔p≤q:=by
 unfold ee
 split
 ·rename_i h;exact ⟨fun _=>Rat.le_of_lt h,fun _=>by decide⟩
 ·rename_i h
  split
  ·rename_i e;exact ⟨fun _=>e▸Rat.le_refl,fun _=>by decide⟩
  ·rename_i e
   refine ⟨fun h=>absurd h qD,fun hle=> ?_⟩
   exact absurd (Rat.lt_of_le_of_ne hle e) h
theorem ye (p q:Rat): -(ee q p)=ee p q:=by
 unfold ee
 by_cases h:p<q
 ·have h1:¬ q<p:=fun h'=>Rat.not_le.2 h (Rat.le_of_lt h')
  have h2:¬ q=p:=fun e=>Rat.lt_irrefl (e▸h)
  rw [if_pos h,if_neg h1,if_neg h2]
 ·rw [if_neg h]
  by_cases e:p=q
  ·subst e;simp [h]
  ·have h1:q<p:=Rat.lt_of_le_of_ne (Rat.not_lt.1 h) (fun h=>e h.symm)
   rw [if_pos h1,if_neg e];rfl
theorem C3 {p q:Rat}:0≤ee p q↔q≤p:=by
 have:=ye p q
 rw [←Dk]
 omega
theorem oF:ee p q<0↔p<q:=by
 have h1:= @C3 p q
 rw [←Rat.not_le,←h1]
 omega
class GM (T:aa) (x:outParam aP):Prop where
 ok:∀ {X w v},T.holds X w v→(aa.qz x).holds X w v
instance {x:aP}:GM (.qz x) x:=⟨fun h=>h⟩
instance {x:aP} {L:Nat}:GM (.qx x L) x:=⟨fun ⟨y,h,g⟩=>⟨y,h.1,g⟩⟩
instance {L:Nat} {x:aP}:GM (.el Rp.frac (cD L) x) x:=⟨fun ⟨y,h,g⟩=>⟨y,h.1,g⟩⟩
section
variable {w00:World} {N:Nat} {L:List Loc} {E:List (Nat×aa)} {d:Nat} {t0:TypeId} {pos:String} {af:Array Edge} {gd:Option (Nat×Bool)} {ats:Array TypeId}
end
def aa.nz (x:eS):aa:=aa.ex Rp.num fun y=>y=x
instance {x:eS}:aJ (.nz x) 2 true:=inferInstanceAs (aJ (.ex Rp.num _) Rp.num.k true)
instance {x:eS}:ai (.nz x) 0 2 true (.nz x):= .whole inferInstance
theorem ai.limbsI {p:eS→Prop} {xs:List Int} (h:∀ x,p x→x.2=xs):ai (.ex Rp.num p) 1 1 false (.rc Rp.limbs xs):=⟨fun _=>rfl,fun {X w v} hv=>by
 obtain ⟨x,hp,cs,rfl,h1⟩:=hv
 obtain ⟨A,n,c,rfl,hs,hd⟩:=cC.1 h1
 refine ⟨[.slice A n c],rfl,fun j u hj=> ?_,fun u _ hu=> ?_⟩
 ·have hj0:j=0:=by have:=(List.getElem?_eq_some_iff.1 hj).1;simpa using this
  subst hj0
  simpa [Value.cells] using hj
 ·have:=hu rfl
  simp at this
  subst this
  exact ⟨A,n,c,rfl,by rw [←h x hp];exact hs,by rw [←h x hp];exact hd⟩⟩
instance {x:eS}:ai (.nz x) 1 1 false (.rc Rp.limbs x.2):= .limbsI fun _ h=>by rw [h]
instance {x:eS} {L:Nat}:ai (.nx x L) 1 1 false (.rc Rp.limbs x.2):= .limbsI fun _ h=>by rw [h.1]
section
variable {w00:World} {N:Nat} {L:List Loc} {E:List (Nat×aa)} {d:Nat} {t0:TypeId} {pos:String} {af:Array Edge} {gd:Option (Nat×Bool)} {ats:Array TypeId}
end
end Go.Proofs.YtjjkikchncfekaaGreatDoor
