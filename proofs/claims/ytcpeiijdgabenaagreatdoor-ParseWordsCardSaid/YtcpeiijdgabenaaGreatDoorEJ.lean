/- Package rat: rows: sums, products, the least and the greatest. -/
import Derived.Test.YtcpeiijdgabenaaGreatDoorEI
import Derived.Test.YtcpeiijdgabenaaGreatDoorEG
set_option linter.unusedSimpArgs false
set_option linter.unusedVariables false
namespace Go.Proofs.YtcpeiijdgabenaaGreatDoor
open Go Go.RowKit
variable {w:World} {L0 K0 n:Nat} {X:List Nat} {p q:Rat} {v0 v1:Value} {o0 o1:Operand} {T0 T1:ai}
theorem sh.front{α:Type} {r:Rp α} {S:Nat→Prop} {A:Option Addr} {c m:Nat} {l:List α} (h:sh r w S A n c l) (hm:m≤n):sh r w S A m c (l.take m):=by
 obtain ⟨h1,h2,h3,h4,h5⟩:=h
 refine ⟨by rw [List.length_take];omega,by omega,h3,h4,fun hn=> ?_⟩
 obtain ⟨b,off,hA,hb,hc⟩:=h5 qO
 refine ⟨b,off,hA,hb,fun j a ha=>hc j a ?_⟩
 rw [List.getElem?_take] at ha
 split at ha
 ·exact ha
 ·cases ha
theorem sh.back{α:Type} {r:Rp α} {S:Nat→Prop} {A:Option Addr} {c m:Nat} {l:List α} (h:sh r w S A n c l) (hm:m≤n):sh r w S (if c=m then A else A.map (·.add (m*r.k))) (n - m) (c - m) (l.drop m):=by
 obtain ⟨h1,h2,h3,h4,h5⟩:=h
 refine ⟨by rw [List.length_drop];omega,by omega,by omega,fun hA=> ?_,fun hn=> ?_⟩
 ·split at hA
  ·omega
  ·have h0:=h4 (by cases A<;>simp_all)
   omega
 ·obtain ⟨b,off,rfl,hb,hc⟩:=h5 qO
  rw [if_neg qO]
  refine ⟨b,off+m*r.k,by simp [Addr.add_lit],hb,fun j a ha=> ?_⟩
  rw [Nat.add_assoc,←Nat.add_mul]
  exact hc _ a (by rw [←ha,List.getElem?_drop])
theorem fV.rfl' (X:List Nat) (w:World):fV X w w:=⟨Nat.le_refl _,fun _ _ _=>rfl⟩
theorem DR{v:Value} {L M:Nat} (hl:L≤M) (h:(ai.qa q L).holds X w v):(ai.qa q M).holds X w v:=by
 obtain ⟨x,⟨h1,h2,h3,h4⟩,g⟩:=h
 exact ⟨x,⟨h1,by omega,by omega,by omega⟩,g⟩
theorem TS.less{w00:World} {X':List Nat} {L:List Loc} {E:List (Nat×ai)} {a:Act} (h:TS w00 X' L E n a w) (hX:∀ b∈X,b∈X') (hL:∀ p∈L,p.1∈X):TS w00 X L E n a w:=
 ⟨h.size,h.df,fun p hp=>p.2.stable (h.slots p hp) (fV.rfl' _ _) (fun b hb _=>hX b hb),⟨fun p hp=>by
  obtain ⟨_,g2,v,ty,g3,g4⟩:=h.mem.loc p hp
  exact ⟨hL p hp,g2,v,ty,p.2.stable g3 (fV.rfl' _ _) (fun b hb _=>hX b hb),g4⟩,fun b hb=>h.mem.far b (hX b hb),h.mem.nodup,h.mem.below⟩⟩
theorem TS.tail{w00:World} {L:List Loc} {E:List (Nat×ai)} {a:Act} {p:Loc} (h:TS w00 X (p::L) E n a w):TS w00 X L E n a w:=
 ⟨h.size,h.df,h.slots,⟨fun p hp=>h.mem.loc p (List.mem_cons_of_mem _ hp),h.mem.far,by have:=h.mem.nodup;rw [List.map_cons,List.nodup_cons] at this;exact this.2,h.mem.below⟩⟩
instance {p:bA→Prop} {a:bA}:bi (.el Rp.frac p a) 4 true:=inferInstanceAs (bi (.ex Rp.frac _) Rp.frac.k true)
instance {p:bA→Prop} {a:bA}:az (.el Rp.frac p a) 0 4 true (.el Rp.frac p a):= .whole inferInstance
instance:cO Tryz.prog 126 4:=⟨⟨_,Tryz.underlying126,by kernel_rfl⟩⟩
section
variable {w00:World} {N:Nat} {L:List Loc} {E:List (Nat×ai)} {d:Nat} {t0:TypeId} {pos:String} {af:Array Edge} {gd:Option (Nat×Bool)} {ats:Array TypeId}
end
section
variable {w00:World} {N:Nat} {L:List Loc} {E:List (Nat×ai)} {d:Nat} {t0:TypeId} {pos:String} {af:Array Edge} {gd:Option (Nat×Bool)} {ats:Array TypeId}
end
section
variable {w00:World} {N:Nat} {L:List Loc} {E:List (Nat×ai)} {d:Nat} {t0:TypeId} {pos:String} {af:Array Edge} {gd:Option (Nat×Bool)} {ats:Array TypeId}
end
section
variable {w00:World} {N:Nat} {L:List Loc} {E:List (Nat×ai)} {d:Nat} {t0:TypeId} {pos:String} {af:Array Edge} {gd:Option (Nat×Bool)} {ats:Array TypeId}
end
section
variable {w00:World} {N:Nat} {L:List Loc} {E:List (Nat×ai)} {d:Nat} {t0:TypeId} {pos:String} {af:Array Edge} {gd:Option (Nat×Bool)} {ats:Array TypeId}
end
section
variable {w00:World} {N:Nat} {L:List Loc} {E:List (Nat×ai)} {d:Nat} {t0:TypeId} {pos:String} {af:Array Edge} {gd:Option (Nat×Bool)} {ats:Array TypeId}
end
section
variable {w00:World} {N:Nat} {L:List Loc} {E:List (Nat×ai)} {d:Nat} {t0:TypeId} {pos:String} {af:Array Edge} {gd:Option (Nat×Bool)} {ats:Array TypeId}
theorem FG:bE Tryz.prog 273:=fun _ _=>by kernel_rfl
theorem FM{N0:Int} {M0:Int} (hE:g9 w) (hX:∀ b∈X,b<w.heap.size) (h0:(ai.na N0 L0).holds X w v0) (h1:(ai.na M0 K0).holds X w v1) (hb:L0≤90∧K0≤90) (hD:M0≠0):Calls Tryz.prog 273 #[v0,v1] w (cE X w (.tup [.qc (Rat.divInt N0 M0) (max L0 K0), .is (.int .i64 0)])):=by
 exact (xI hE hX h0 h1 qO hD).mono fun e w' h=>h.imp (cM (fun _ g=>mC g) fun _ h=>h)
theorem Gh{N0:Int} {M0:Int} [b_ E o0 T0] [a0:my T0 N0 L0] [b_ E o1 T1] [a1:my T1 M0 K0] (hE:g9 w00) (hb:L0≤90∧K0≤90) (hD:M0≠0):
 aR Tryz.prog w00 N L E ⟨some d, .call { callee:= .value (.func 273),args:= #[o0,o1],argTypes:=ats },t0,pos,af,gd⟩ (.tup [.qc (Rat.divInt N0 M0) (max L0 K0), .is (.int .i64 0)]):=
 yt FG fun X w v0 v1 hX _ hB h0 h1=>FM (hE.below hB) hX (a0.ok h0) (a1.ok h1) hb hD
theorem Ar:bE Tryz.prog 178:=fun _ _=>by kernel_rfl
theorem zK{k0:Int} (hE:g9 w) (hX:∀ b∈X,b<w.heap.size) (h0:(ai.is (.int .i64 k0)).holds X w v0) (hk: -9223372036854775808≤k0∧k0≤9223372036854775807):Calls Tryz.prog 178 #[v0] w (cE X w (.qc (k0:Rat) 2)):=by
 exact (sa hE hX h0 hk).mono fun e w' h=>h.imp fun _ g=>mC g
theorem iu{k0:Int} [b_ E o0 (.is (.int .i64 k0))] (hE:g9 w00) (hk: -9223372036854775808≤k0∧k0≤9223372036854775807):
 aR Tryz.prog w00 N L E ⟨some d, .call { callee:= .value (.func 178),args:= #[o0],argTypes:=ats },t0,pos,af,gd⟩ (.qc (k0:Rat) 2):=
 vL Ar fun X w v0 hX _ hB h0=>zK (hE.below hB) hX h0 hk
theorem F8:bE Tryz.prog 180:=fun _ _=>by kernel_rfl
theorem GI(hE:g9 w) (hX:∀ b∈X,b<w.heap.size) (h0:(ai.qa p L0).holds X w v0) (h1:(ai.qa q K0).holds X w v1) (hb:L0≤90∧K0≤90):Calls Tryz.prog 180 #[v0,v1] w (cE X w (.qc (p*q) (L0+K0))):=by
 exact (DC hE hX h0 h1 hb).mono fun e w' h=>h.imp fun _ g=>mC g
theorem BK[b_ E o0 T0] [a0:qV T0 p L0] [b_ E o1 T1] [a1:qV T1 q K0] (hE:g9 w00) (hb:L0≤90∧K0≤90):
 aR Tryz.prog w00 N L E ⟨some d, .call { callee:= .value (.func 180),args:= #[o0,o1],argTypes:=ats },t0,pos,af,gd⟩ (.qc (p*q) (L0+K0)):=
 yt F8 fun X w v0 v1 hX _ hB h0 h1=>GI (hE.below hB) hX (a0.ok h0) (a1.ok h1) hb
theorem E_:bE Tryz.prog 177:=fun _ _=>by kernel_rfl
theorem Fl(hE:g9 w) (hX:∀ b∈X,b<w.heap.size) (h0:(ai.qa p L0).holds X w v0) (hb:L0≤90):Calls Tryz.prog 177 #[v0] w (cE X w (.qc (-p) L0)):=by
 exact (DG hE hX h0 hb).mono fun e w' h=>h.imp fun _ g=>mC g
theorem z7[b_ E o0 T0] [a0:qV T0 p L0] (hE:g9 w00) (hb:L0≤90):
 aR Tryz.prog w00 N L E ⟨some d, .call { callee:= .value (.func 177),args:= #[o0],argTypes:=ats },t0,pos,af,gd⟩ (.qc (-p) L0):=
 vL E_ fun X w v0 hX _ hB h0=>Fl (hE.below hB) hX (a0.ok h0) hb
theorem E6:bE Tryz.prog 179:=fun _ _=>by kernel_rfl
theorem Gb(hE:g9 w) (hX:∀ b∈X,b<w.heap.size) (h0:(ai.qa p L0).holds X w v0) (h1:(ai.qa q K0).holds X w v1) (hb:L0≤90∧K0≤90):Calls Tryz.prog 179 #[v0,v1] w (cE X w (.is (.int .i64 (gb p q)))):=by
 exact CM hE hX h0 h1 hb
theorem lb[b_ E o0 T0] [a0:qV T0 p L0] [b_ E o1 T1] [a1:qV T1 q K0] (hE:g9 w00) (hb:L0≤90∧K0≤90):
 aR Tryz.prog w00 N L E ⟨some d, .call { callee:= .value (.func 179),args:= #[o0,o1],argTypes:=ats },t0,pos,af,gd⟩ (.is (.int .i64 (gb p q))):=
 yt E6 fun X w v0 v1 hX _ hB h0 h1=>Gb (hE.below hB) hX (a0.ok h0) (a1.ok h1) hb
theorem DY:bE Tryz.prog 176:=fun _ _=>by kernel_rfl
theorem Es(hE:g9 w) (hX:∀ b∈X,b<w.heap.size) (h0:(ai.qa p L0).holds X w v0) (hb:L0≤90):Calls Tryz.prog 176 #[v0] w (cE X w (.is (.int .i64 (gb p 0)))):=by
 exact BZ hE hX h0 hb
theorem xz[b_ E o0 T0] [a0:qV T0 p L0] (hE:g9 w00) (hb:L0≤90):
 aR Tryz.prog w00 N L E ⟨some d, .call { callee:= .value (.func 176),args:= #[o0],argTypes:=ats },t0,pos,af,gd⟩ (.is (.int .i64 (gb p 0))):=
 vL DY fun X w v0 hX _ hB h0=>Es (hE.below hB) hX (a0.ok h0) hb
theorem AZ:bE Tryz.prog 212:=fun _ _=>by kernel_rfl
theorem AH{x:bA} (hE:g9 w) (hX:∀ b∈X,b<w.heap.size) (h0:(ai.qx x L0).holds X w v0) (hb:L0≤90):Calls Tryz.prog 212 #[v0] w (cE X w (.is (.bool (pO x)))):=by
 exact rI hE hX h0 qO
end
section
variable {w00:World} {N:Nat} {L:List Loc} {E:List (Nat×ai)} {d:Nat} {t0:TypeId} {pos:String} {af:Array Edge} {gd:Option (Nat×Bool)} {ats:Array TypeId}
end
theorem CS:gb p q≤0↔p≤q:=by
 unfold gb
 split
 ·rename_i h;exact ⟨fun _=>Rat.le_of_lt h,fun _=>by decide⟩
 ·rename_i h
  split
  ·rename_i e;exact ⟨fun _=>e▸Rat.le_refl,fun _=>by decide⟩
  ·rename_i e
   refine ⟨fun h=>absurd h qD,fun hle=> ?_⟩
   exact absurd (Rat.lt_of_le_of_ne hle e) h
theorem xW (p q:Rat): -(gb q p)=gb p q:=by
 unfold gb
 by_cases h:p<q
 ·have h1:¬ q<p:=fun h'=>Rat.not_le.2 h (Rat.le_of_lt h')
  have h2:¬ q=p:=fun e=>Rat.lt_irrefl (e▸h)
  rw [if_pos h,if_neg h1,if_neg h2]
 ·rw [if_neg h]
  by_cases e:p=q
  ·subst e;simp [h]
  ·have h1:q<p:=Rat.lt_of_le_of_ne (Rat.not_lt.1 h) (fun h=>e h.symm)
   rw [if_pos h1,if_neg e];rfl
theorem CE {p q:Rat}:0≤gb p q↔q≤p:=by
 have:=xW p q
 rw [←CS]
 omega
theorem pm:gb p q<0↔p<q:=by
 have h1:= @CE p q
 rw [←Rat.not_le,←h1]
 omega
class Gc (T:ai) (x:outParam bA):Prop where
 ok:∀ {X w v},T.holds X w v→(ai.qz x).holds X w v
instance {x:bA}:Gc (.qz x) x:=⟨fun h=>h⟩
instance {x:bA} {L:Nat}:Gc (.qx x L) x:=⟨fun ⟨y,h,g⟩=>⟨y,h.1,g⟩⟩
instance {L:Nat} {x:bA}:Gc (.el Rp.frac (lN L) x) x:=⟨fun ⟨y,h,g⟩=>⟨y,h.1,g⟩⟩
section
variable {w00:World} {N:Nat} {L:List Loc} {E:List (Nat×ai)} {d:Nat} {t0:TypeId} {pos:String} {af:Array Edge} {gd:Option (Nat×Bool)} {ats:Array TypeId}
end
def ai.nz (x:gp):ai:=ai.ex Rp.num fun y=>y=x
instance {x:gp}:bi (.nz x) 2 true:=inferInstanceAs (bi (.ex Rp.num _) Rp.num.k true)
instance {x:gp}:az (.nz x) 0 2 true (.nz x):= .whole inferInstance
theorem az.limbsI {p:gp→Prop} {xs:List Int} (h:∀ x,p x→x.2=xs):az (.ex Rp.num p) 1 1 false (.rc Rp.limbs xs):=⟨fun _=>rfl,fun {X w v} hv=>by
 obtain ⟨x,hp,cs,rfl,h1⟩:=hv
 obtain ⟨A,n,c,rfl,hs,hd⟩:=dc.1 h1
 refine ⟨[.slice A n c],rfl,fun j u hj=> ?_,fun u _ hu=> ?_⟩
 ·have hj0:j=0:=by have:=(List.getElem?_eq_some_iff.1 hj).1;simpa using this
  subst hj0
  simpa [Value.cells] using hj
 ·have:=hu rfl
  simp at this
  subst this
  exact ⟨A,n,c,rfl,by rw [←h x hp];exact hs,by rw [←h x hp];exact hd⟩⟩
instance {x:gp}:az (.nz x) 1 1 false (.rc Rp.limbs x.2):= .limbsI fun _ h=>by rw [h]
instance {x:gp} {L:Nat}:az (.nx x L) 1 1 false (.rc Rp.limbs x.2):= .limbsI fun _ h=>by rw [h.1]
section
variable {w00:World} {N:Nat} {L:List Loc} {E:List (Nat×ai)} {d:Nat} {t0:TypeId} {pos:String} {af:Array Edge} {gd:Option (Nat×Bool)} {ats:Array TypeId}
end
end Go.Proofs.YtcpeiijdgabenaaGreatDoor
