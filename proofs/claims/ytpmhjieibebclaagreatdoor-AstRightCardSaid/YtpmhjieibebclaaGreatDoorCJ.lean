/- Package rat: rows: sums, products, the least and the greatest. -/
import Derived.Test.YtpmhjieibebclaaGreatDoorCI
import Derived.Test.YtpmhjieibebclaaGreatDoorCG
set_option linter.unusedSimpArgs false
set_option linter.unusedVariables false
namespace Go.Proofs.YtpmhjieibebclaaGreatDoor
open Go Go.RowKit
variable {w:World} {p q:Rat} {L0 n K0:Nat} {X:List Nat} {v0:Value} {o0:Operand} {T0:aa}
theorem su.front{α:Type} {r:Rp α} {S:Nat→Prop} {A:Option Addr} {c m:Nat} {l:List α} (h:su r w S A n c l) (hm:m≤n):su r w S A m c (l.take m):=by
 obtain ⟨h1,h2,h3,h4,h5⟩:=h
 refine ⟨by rw [List.length_take];omega,by omega,h3,h4,fun hn=> ?_⟩
 obtain ⟨b,off,hA,hb,hc⟩:=h5 qO
 refine ⟨b,off,hA,hb,fun j a ha=>hc j a ?_⟩
 rw [List.getElem?_take] at ha
 split at ha
 ·exact ha
 ·cases ha
theorem su.back{α:Type} {r:Rp α} {S:Nat→Prop} {A:Option Addr} {c m:Nat} {l:List α} (h:su r w S A n c l) (hm:m≤n):su r w S (if c=m then A else A.map (·.add (m*r.k))) (n - m) (c - m) (l.drop m):=by
 obtain ⟨h1,h2,h3,h4,h5⟩:=h
 refine ⟨by rw [List.length_drop];omega,by omega,by omega,fun hA=> ?_,fun hn=> ?_⟩
 ·split at hA
  ·omega
  ·have h0:=h4 (by cases A<;>simp_all)
   omega
 ·obtain ⟨b,off,rfl,hb,hc⟩:=h5 qO
  rw [if_neg qO]
  refine ⟨b,off+m*r.k,by simp [Addr.add_lit],hb,fun j a ha=> ?_⟩
  rw [Nat.add_assoc,←Nat.add_mul]
  exact hc _ a (by rw [←ha,List.getElem?_drop])
theorem gr.rfl' (X:List Nat) (w:World):gr X w w:=⟨Nat.le_refl _,fun _ _ _=>rfl⟩
theorem TS.less{w00:World} {X':List Nat} {L:List Loc} {E:List (Nat×aa)} {a:Act} (h:TS w00 X' L E n a w) (hX:∀ b∈X,b∈X') (hL:∀ p∈L,p.1∈X):TS w00 X L E n a w:=
 ⟨h.size,h.df,fun p hp=>p.2.stable (h.slots p hp) (gr.rfl' _ _) (fun b hb _=>hX b hb),⟨fun p hp=>by
  obtain ⟨_,g2,v,ty,g3,g4⟩:=h.mem.loc p hp
  exact ⟨hL p hp,g2,v,ty,p.2.stable g3 (gr.rfl' _ _) (fun b hb _=>hX b hb),g4⟩,fun b hb=>h.mem.far b (hX b hb),h.mem.nodup,h.mem.below⟩⟩
theorem TS.tail{w00:World} {L:List Loc} {E:List (Nat×aa)} {a:Act} {p:Loc} (h:TS w00 X (p::L) E n a w):TS w00 X L E n a w:=
 ⟨h.size,h.df,h.slots,⟨fun p hp=>h.mem.loc p (List.mem_cons_of_mem _ hp),h.mem.far,by have:=h.mem.nodup;rw [List.map_cons,List.nodup_cons] at this;exact this.2,h.mem.below⟩⟩
instance {p:aR→Prop} {a:aR}:aL (.el Rp.frac p a) 4 true:=inferInstanceAs (aL (.ex Rp.frac _) Rp.frac.k true)
instance {p:aR→Prop} {a:aR}:ai (.el Rp.frac p a) 0 4 true (.el Rp.frac p a):= .whole inferInstance
instance:cP Tryz.prog 62 4:=⟨⟨_,Tryz.underlying62,by kernel_rfl⟩⟩
section
variable {w00:World} {N:Nat} {L:List Loc} {E:List (Nat×aa)} {d:Nat} {t0:TypeId} {pos:String} {af:Array Edge} {gd:Option (Nat×Bool)} {ats:Array TypeId}
end
section
variable {w00:World} {N:Nat} {L:List Loc} {E:List (Nat×aa)} {d:Nat} {t0:TypeId} {pos:String} {af:Array Edge} {gd:Option (Nat×Bool)} {ats:Array TypeId}
end
section
variable {w00:World} {N:Nat} {L:List Loc} {E:List (Nat×aa)} {d:Nat} {t0:TypeId} {pos:String} {af:Array Edge} {gd:Option (Nat×Bool)} {ats:Array TypeId}
end
section
variable {w00:World} {N:Nat} {L:List Loc} {E:List (Nat×aa)} {d:Nat} {t0:TypeId} {pos:String} {af:Array Edge} {gd:Option (Nat×Bool)} {ats:Array TypeId}
end
section
variable {w00:World} {N:Nat} {L:List Loc} {E:List (Nat×aa)} {d:Nat} {t0:TypeId} {pos:String} {af:Array Edge} {gd:Option (Nat×Bool)} {ats:Array TypeId}
end
section
variable {w00:World} {N:Nat} {L:List Loc} {E:List (Nat×aa)} {d:Nat} {t0:TypeId} {pos:String} {af:Array Edge} {gd:Option (Nat×Bool)} {ats:Array TypeId}
end
section
variable {w00:World} {N:Nat} {L:List Loc} {E:List (Nat×aa)} {d:Nat} {t0:TypeId} {pos:String} {af:Array Edge} {gd:Option (Nat×Bool)} {ats:Array TypeId}
theorem Cb:aJ Tryz.prog 44:=fun _ _=>by kernel_rfl
theorem Bk{k0:Int} (hE:cK w) (hX:∀ b∈X,b<w.heap.size) (h0:(aa.is (.int .i64 k0)).holds X w v0) (hk: -9223372036854775808≤k0∧k0≤9223372036854775807):Calls Tryz.prog 44 #[v0] w (bj X w (.qc (k0:Rat) 2)):=by
 exact (si hE hX h0 hk).mono fun e w' h=>h.imp fun _ g=>oE g
theorem v7{k0:Int} [bD E o0 (.is (.int .i64 k0))] (hE:cK w00) (hk: -9223372036854775808≤k0∧k0≤9223372036854775807):
 au Tryz.prog w00 N L E ⟨some d, .call { callee:= .value (.func 44),args:= #[o0],argTypes:=ats },t0,pos,af,gd⟩ (.qc (k0:Rat) 2):=
 pm Cb fun X w v0 hX _ hB h0=>Bk (hE.below hB) hX h0 hk
theorem Hp:aJ Tryz.prog 46:=fun _ _=>by kernel_rfl
theorem Iq{v1:Value} (hE:cK w) (hX:∀ b∈X,b<w.heap.size) (h0:(aa.qa p L0).holds X w v0) (h1:(aa.qa q K0).holds X w v1) (hb:L0≤90∧K0≤90):Calls Tryz.prog 46 #[v0,v1] w (bj X w (.qc (p*q) (L0+K0))):=by
 exact (EN hE hX h0 h1 hb).mono fun e w' h=>h.imp fun _ g=>oE g
theorem Ip{o1:Operand} {T1:aa} [bD E o0 T0] [a0:mq T0 p L0] [bD E o1 T1] [a1:mq T1 q K0] (hE:cK w00) (hb:L0≤90∧K0≤90):
 au Tryz.prog w00 N L E ⟨some d, .call { callee:= .value (.func 46),args:= #[o0,o1],argTypes:=ats },t0,pos,af,gd⟩ (.qc (p*q) (L0+K0)):=
 qi Hp fun X w v0 v1 hX _ hB h0 h1=>Iq (hE.below hB) hX (a0.ok h0) (a1.ok h1) hb
theorem Gk:aJ Tryz.prog 43:=fun _ _=>by kernel_rfl
theorem Gz(hE:cK w) (hX:∀ b∈X,b<w.heap.size) (h0:(aa.qa p L0).holds X w v0) (hb:L0≤90):Calls Tryz.prog 43 #[v0] w (bj X w (.qc (-p) L0)):=by
 exact (EY hE hX h0 hb).mono fun e w' h=>h.imp fun _ g=>oE g
theorem GL[bD E o0 T0] [a0:mq T0 p L0] (hE:cK w00) (hb:L0≤90):
 au Tryz.prog w00 N L E ⟨some d, .call { callee:= .value (.func 43),args:= #[o0],argTypes:=ats },t0,pos,af,gd⟩ (.qc (-p) L0):=
 pm Gk fun X w v0 hX _ hB h0=>Gz (hE.below hB) hX (a0.ok h0) hb
theorem Gg:aJ Tryz.prog 45:=fun _ _=>by kernel_rfl
theorem Hr{v1:Value} (hE:cK w) (hX:∀ b∈X,b<w.heap.size) (h0:(aa.qa p L0).holds X w v0) (h1:(aa.qa q K0).holds X w v1) (hb:L0≤90∧K0≤90):Calls Tryz.prog 45 #[v0,v1] w (bj X w (.is (.int .i64 (de p q)))):=by
 exact DU hE hX h0 h1 hb
theorem Hn{o1:Operand} {T1:aa} [bD E o0 T0] [a0:mq T0 p L0] [bD E o1 T1] [a1:mq T1 q K0] (hE:cK w00) (hb:L0≤90∧K0≤90):
 au Tryz.prog w00 N L E ⟨some d, .call { callee:= .value (.func 45),args:= #[o0,o1],argTypes:=ats },t0,pos,af,gd⟩ (.is (.int .i64 (de p q))):=
 qi Gg fun X w v0 v1 hX _ hB h0 h1=>Hr (hE.below hB) hX (a0.ok h0) (a1.ok h1) hb
theorem Fd:aJ Tryz.prog 42:=fun _ _=>by kernel_rfl
theorem FB(hE:cK w) (hX:∀ b∈X,b<w.heap.size) (h0:(aa.qa p L0).holds X w v0) (hb:L0≤90):Calls Tryz.prog 42 #[v0] w (bj X w (.is (.int .i64 (de p 0)))):=by
 exact Da hE hX h0 hb
theorem E_[bD E o0 T0] [a0:mq T0 p L0] (hE:cK w00) (hb:L0≤90):
 au Tryz.prog w00 N L E ⟨some d, .call { callee:= .value (.func 42),args:= #[o0],argTypes:=ats },t0,pos,af,gd⟩ (.is (.int .i64 (de p 0))):=
 pm Fd fun X w v0 hX _ hB h0=>FB (hE.below hB) hX (a0.ok h0) hb
theorem Cz:aJ Tryz.prog 75:=fun _ _=>by kernel_rfl
theorem Cm{x:aR} (hE:cK w) (hX:∀ b∈X,b<w.heap.size) (h0:(aa.qx x L0).holds X w v0) (hb:L0≤90):Calls Tryz.prog 75 #[v0] w (bj X w (.is (.bool (jB x)))):=by
 exact rK hE hX h0 qO
end
section
variable {w00:World} {N:Nat} {L:List Loc} {E:List (Nat×aa)} {d:Nat} {t0:TypeId} {pos:String} {af:Array Edge} {gd:Option (Nat×Bool)} {ats:Array TypeId}
end
theorem D4:de p q≤0↔p≤q:=by
 unfold de
 split
 ·rename_i h;exact ⟨fun _=>Rat.le_of_lt h,fun _=>by decide⟩
 ·rename_i h
  split
  ·rename_i e;exact ⟨fun _=>e▸Rat.le_refl,fun _=>by decide⟩
  ·rename_i e
   refine ⟨fun h=>absurd h qD,fun hle=> ?_⟩
   exact absurd (Rat.lt_of_le_of_ne hle e) h
theorem yP (p q:Rat): -(de q p)=de p q:=by
 unfold de
 by_cases h:p<q
 ·have h1:¬ q<p:=fun h'=>Rat.not_le.2 h (Rat.le_of_lt h')
  have h2:¬ q=p:=fun e=>Rat.lt_irrefl (e▸h)
  rw [if_pos h,if_neg h1,if_neg h2]
 ·rw [if_neg h]
  by_cases e:p=q
  ·subst e;simp [h]
  ·have h1:q<p:=Rat.lt_of_le_of_ne (Rat.not_lt.1 h) (fun h=>e h.symm)
   rw [if_pos h1,if_neg e];rfl
theorem DL {p q:Rat}:0≤de p q↔q≤p:=by
 have:=yP p q
 rw [←D4]
 omega
theorem pz:de p q<0↔p<q:=by
 have h1:= @DL p q
 rw [←Rat.not_le,←h1]
 omega
class Ht (T:aa) (x:outParam aR):Prop where
 ok:∀ {X w v},T.holds X w v→(aa.qz x).holds X w v
instance {x:aR}:Ht (.qz x) x:=⟨fun h=>h⟩
instance {x:aR} {L:Nat}:Ht (.qx x L) x:=⟨fun ⟨y,h,g⟩=>⟨y,h.1,g⟩⟩
instance {L:Nat} {x:aR}:Ht (.el Rp.frac (b6 L) x) x:=⟨fun ⟨y,h,g⟩=>⟨y,h.1,g⟩⟩
section
variable {w00:World} {N:Nat} {L:List Loc} {E:List (Nat×aa)} {d:Nat} {t0:TypeId} {pos:String} {af:Array Edge} {gd:Option (Nat×Bool)} {ats:Array TypeId}
end
def aa.nz (x:fa):aa:=aa.ex Rp.num fun y=>y=x
instance {x:fa}:aL (.nz x) 2 true:=inferInstanceAs (aL (.ex Rp.num _) Rp.num.k true)
instance {x:fa}:ai (.nz x) 0 2 true (.nz x):= .whole inferInstance
theorem ai.limbsI {p:fa→Prop} {xs:List Int} (h:∀ x,p x→x.2=xs):ai (.ex Rp.num p) 1 1 false (.rc Rp.limbs xs):=⟨fun _=>rfl,fun {X w v} hv=>by
 obtain ⟨x,hp,cs,rfl,h1⟩:=hv
 obtain ⟨A,n,c,rfl,hs,hd⟩:=b9.1 h1
 refine ⟨[.slice A n c],rfl,fun j u hj=> ?_,fun u _ hu=> ?_⟩
 ·have hj0:j=0:=by have:=(List.getElem?_eq_some_iff.1 hj).1;simpa using this
  subst hj0
  simpa [Value.cells] using hj
 ·have:=hu rfl
  simp at this
  subst this
  exact ⟨A,n,c,rfl,by rw [←h x hp];exact hs,by rw [←h x hp];exact hd⟩⟩
instance {x:fa}:ai (.nz x) 1 1 false (.rc Rp.limbs x.2):= .limbsI fun _ h=>by rw [h]
instance {x:fa} {L:Nat}:ai (.nx x L) 1 1 false (.rc Rp.limbs x.2):= .limbsI fun _ h=>by rw [h.1]
section
variable {w00:World} {N:Nat} {L:List Loc} {E:List (Nat×aa)} {d:Nat} {t0:TypeId} {pos:String} {af:Array Edge} {gd:Option (Nat×Bool)} {ats:Array TypeId}
end
end Go.Proofs.YtpmhjieibebclaaGreatDoor
