/- Whole numbers and fractions in a typed walk: what slots hold; the structs of this program. -/
import Derived.Test.YtpmhjieibebclaaGreatDoorCG
import Derived.Test.YtpmhjieibebclaaGreatDoorCF
set_option maxHeartbeats 1000000
set_option maxRecDepth 20000
set_option linter.unusedSimpArgs false
set_option linter.unusedVariables false
namespace Go.Proofs.YtpmhjieibebclaaGreatDoor
open Go Go.RowKit
variable {w:World} {X:List Nat} {o0 o1:Operand} {v0 v1 v:Value} {L L0 K K0 n B:Nat} {T0 T1 T:aa} {M N N0 k D M0:Int} {p q:Rat} {x:aR} {u:Bool}
def Rp.num:Rp fa:=Rp.pair Rp.bool Rp.limbs
def Rp.frac:Rp aR:=Rp.pair Rp.num Rp.num
theorem b9{S:Nat→Prop} {x:fa} {cs:List Value}:Rp.num.rd w S x cs↔∃ A n c,cs=[.bool x.1, .slice A n c]∧Ce .u32 w S A n c x.2∧Dg 4294967296 x.2:=by
 constructor
 ·rintro ⟨c1,c2,rfl,rfl,A,n,c,rfl,h,d⟩
  exact ⟨A,n,c,rfl,h,d⟩
 ·rintro ⟨A,n,c,rfl,h,d⟩
  exact ⟨[.bool x.1],[.slice A n c],rfl,rfl,A,n,c,rfl,h,d⟩
def aa.na (N:Int) (L:Nat):aa:=aa.ex Rp.num fun x=>iv x=N∧x.2.length≤L
def aa.nc (N:Int) (L:Nat):aa:=aa.ex Rp.num fun x=>Whole N x.1 x.2∧(N.natAbs:Int)<4294967296^L
def aa.nx (x:fa) (L:Nat):aa:=aa.ex Rp.num fun y=>y=x∧x.2.length≤L
def aa.qa (q:Rat) (L:Nat):aa:=aa.ex Rp.frac fun x=>qv x=q∧x.1.2.length≤L∧x.2.2.length≤L∧0<L
def aa.qc (q:Rat) (L:Nat):aa:=aa.ex Rp.frac fun x=>iW q x∧Lq q L
def aa.qx (x:aR) (L:Nat):aa:=aa.ex Rp.frac fun y=>y=x∧x.1.2.length≤L∧x.2.2.length≤L∧0<L
def aa.nd (N D:Int) (L:Nat):aa:=aa.ex Rp.frac fun x=>Whole N x.1.1 x.1.2∧Whole D x.2.1 x.2.2∧(N.natAbs:Int)<4294967296^L∧(D.natAbs:Int)<4294967296^L
instance {N:Int} {L:Nat}:aL (.na N L) 2 true:=inferInstanceAs (aL (.ex Rp.num _) Rp.num.k true)
instance {N:Int} {L:Nat}:aL (.nc N L) 2 true:=inferInstanceAs (aL (.ex Rp.num _) Rp.num.k true)
instance {x:fa} {L:Nat}:aL (.nx x L) 2 true:=inferInstanceAs (aL (.ex Rp.num _) Rp.num.k true)
instance {q:Rat} {L:Nat}:aL (.qa q L) 4 true:=inferInstanceAs (aL (.ex Rp.frac _) Rp.frac.k true)
instance {q:Rat} {L:Nat}:aL (.qc q L) 4 true:=inferInstanceAs (aL (.ex Rp.frac _) Rp.frac.k true)
instance {x:aR} {L:Nat}:aL (.qx x L) 4 true:=inferInstanceAs (aL (.ex Rp.frac _) Rp.frac.k true)
instance {N D:Int} {L:Nat}:aL (.nd N D L) 4 true:=inferInstanceAs (aL (.ex Rp.frac _) Rp.frac.k true)
theorem ai.whole{k:Nat} (z:aL T k true):ai T 0 k true T:=⟨(fun h=>by cases h),fun {X w v} h=>by
 obtain ⟨h1,_,h3,_⟩:=z.ok h
 refine ⟨v.cells.toList,by simpa using h1,fun j u hj=>by simpa using hj,fun u hu _=> ?_⟩
 rw [hu rfl]
 have:=h3 rfl
 rw [show (Value.agg v.cells.toList.toArray)=v by simpa using this.symm]
 exact h⟩
theorem ai.single(z:aL T 1 false):ai T 0 1 false T:=⟨fun _=>rfl,fun {X w v} h=>by
 obtain ⟨h1,_,_,h4⟩:=z.ok h
 have e:=h4 rfl
 refine ⟨[v],rfl,fun j u hj=>by rw [e];simpa using hj,fun u _ hu=> ?_⟩
 have:=hu rfl
 simp at this
 rw [←this]
 exact h⟩
instance {N:Int} {L:Nat}:ai (.na N L) 0 2 true (.na N L):= .whole inferInstance
instance {N:Int} {L:Nat}:ai (.nc N L) 0 2 true (.nc N L):= .whole inferInstance
instance {x:fa} {L:Nat}:ai (.nx x L) 0 2 true (.nx x L):= .whole inferInstance
instance {q:Rat} {L:Nat}:ai (.qa q L) 0 4 true (.qa q L):= .whole inferInstance
instance {q:Rat} {L:Nat}:ai (.qc q L) 0 4 true (.qc q L):= .whole inferInstance
instance {x:aR} {L:Nat}:ai (.qx x L) 0 4 true (.qx x L):= .whole inferInstance
instance {N D:Int} {L:Nat}:ai (.nd N D L) 0 4 true (.nd N D L):= .whole inferInstance
theorem ai.fst {p:aR→Prop} {p':fa→Prop} (h:∀ x,p x→p' x.1):ai (.ex Rp.frac p) 0 2 true (.ex Rp.num p'):=⟨(fun h=>by cases h),fun {X w v} hv=>by
 obtain ⟨x,hp,cs,rfl,c1,c2,rfl,h1,h2⟩:=hv
 have hl:c1.length=2:=Rp.num.len h1
 refine ⟨c1,hl,fun j u hj=> ?_,fun u hu _=>⟨x.1,h x hp,c1,hu rfl,h1⟩⟩
 have hjl:=(List.getElem?_eq_some_iff.1 hj).1
 simp [Value.cells,List.getElem?_append_left hjl,hj]⟩
theorem ai.snd {p:aR→Prop} {p':fa→Prop} (h:∀ x,p x→p' x.2):ai (.ex Rp.frac p) 2 2 true (.ex Rp.num p'):=⟨(fun h=>by cases h),fun {X w v} hv=>by
 obtain ⟨x,hp,cs,rfl,c1,c2,rfl,h1,h2⟩:=hv
 have hl:c1.length=2:=Rp.num.len h1
 refine ⟨c2,Rp.num.len h2,fun j u hj=> ?_,fun u hu _=>⟨x.2,h x hp,c2,hu rfl,h2⟩⟩
 simp [Value.cells,List.getElem?_append_right (show c1.length≤2+j by omega),hl,hj]⟩
instance {q:Rat} {L:Nat}:ai (.qc q L) 0 2 true (.nc q.num L):= .fst fun _ h=>⟨h.1.num,h.2.1⟩
instance {q:Rat} {L:Nat}:ai (.qc q L) 2 2 true (.nc (q.den:Int) L):= .snd fun _ h=>⟨h.1.den,mz h.2⟩
instance {x:aR} {L:Nat}:ai (.qx x L) 0 2 true (.nx x.1 L):= .fst fun y h=>⟨by rw [h.1],h.2.1⟩
instance {x:aR} {L:Nat}:ai (.qx x L) 2 2 true (.nx x.2 L):= .snd fun y h=>⟨by rw [h.1],h.2.2.1⟩
class i7 (T:aa) (N:outParam Int) (L:outParam Nat):Prop where
 ok:∀ {X w v},T.holds X w v→(aa.na N L).holds X w v
instance {N:Int} {L:Nat}:i7 (.na N L) N L:=⟨fun h=>h⟩
instance {N:Int} {L:Nat}:i7 (.nc N L) N L:=⟨fun ⟨x,h,g⟩=>⟨x,⟨h.1.val,h.1.len h.2⟩,g⟩⟩
instance {x:fa} {L:Nat}:i7 (.nx x L) (iv x) L:=⟨fun ⟨y,h,g⟩=>⟨y,⟨by rw [h.1],by rw [h.1];exact h.2⟩,g⟩⟩
class mq (T:aa) (q:outParam Rat) (L:outParam Nat):Prop where
 ok:∀ {X w v},T.holds X w v→(aa.qa q L).holds X w v
instance {q:Rat} {L:Nat}:mq (.qa q L) q L:=⟨fun h=>h⟩
instance {q:Rat} {L:Nat}:mq (.qc q L) q L:=⟨fun ⟨x,h,g⟩=>⟨x,⟨h.1.val,(h.1.len h.2).1,(h.1.len h.2).2,h.2.pos⟩,g⟩⟩
instance {x:aR} {L:Nat}:mq (.qx x L) (qv x) L:=⟨fun ⟨y,h,g⟩=>⟨y,by rw [h.1];exact ⟨rfl,h.2⟩,g⟩⟩
theorem cb(h:(aa.na N L).holds X w v):∃ s A n c xs,v= .agg #[.bool s, .slice A n c]∧Sl .u32 w w.heap.size A n c xs∧Dg 4294967296 xs∧bp s xs=N∧n≤L:=by
 obtain ⟨x,⟨h1,h2⟩,cs,rfl,hr⟩:=h
 obtain ⟨A,n,c,rfl,hs,hd⟩:=b9.1 hr
 exact ⟨x.1,A,n,c,x.2,rfl,hs.1,hd,h1,by rw [←hs.1.len];exact h2⟩
theorem xo{w':World} {s:Bool} {A:Option Addr} {c:Nat} {ys:List Int} (hX:∀ b∈X,b<B) (h:Whole N s ys) (ho:bH .u32 115 w' B A n c ys) (hl:(N.natAbs:Int)<4294967296^L):(aa.nc N L).holds X w' (.agg #[.bool s, .slice A n c]):=by
 refine ⟨(s,ys),⟨h,hl⟩,[.bool s, .slice A n c],rfl,b9.2 ⟨A,n,c,rfl,⟨ho.sl,fun hn b hb=> ?_⟩,h.row.dg⟩⟩
 obtain ⟨g1,g2⟩:=ho.blk_ b hb
 exact ⟨g2,fun hx=>by have:=hX b hx;omega⟩
theorem d7.gives{w':World} {e:Ending} (h:d7 w N e w') (hX:∀ b∈X,b<w.heap.size) (hl:(N.natAbs:Int)<4294967296^L):bj X w (.nc N L) e w':=by
 obtain ⟨s,ys,A,n,c,hW,rfl,ho,hb⟩:=h
 exact ⟨_,rfl,xo hX hW ho hl,hb⟩
instance:fw Tryz.prog 36 2 true:=⟨⟨_,Tryz.underlying36,rfl⟩,by kernel_rfl⟩
instance:fw Tryz.prog 38 4 true:=⟨⟨_,Tryz.underlying38,rfl⟩,by kernel_rfl⟩
instance:aq Tryz.prog 38 0 0 2 true:=⟨⟨_,_,Tryz.underlying38,rfl,rfl,by kernel_rfl,by decide,_,Tryz.underlying36,rfl⟩⟩
instance:aq Tryz.prog 38 1 2 2 true:=⟨⟨_,_,Tryz.underlying38,rfl,rfl,by kernel_rfl,by decide,_,Tryz.underlying36,rfl⟩⟩
instance:cQ Tryz.prog 36 (.na 0 0):=⟨⟨.agg #[.bool false, .slice none 0 0],fun X w=>⟨(false,[]),⟨rfl,Nat.le_refl _⟩,[.bool false, .slice none 0 0],rfl,b9.2 ⟨none,0,0,rfl,⟨Sl.nil,fun h=>by omega⟩,Dg.nil⟩⟩,fun o ρ w ho=>by
 unfold execOp
 rw [ho]
 go_simp⟩⟩
def aa.q0:aa:=aa.ex Rp.frac fun x=>x=((false,[]),(false,[]))
instance:aL .q0 4 true:=inferInstanceAs (aL (.ex Rp.frac _) Rp.frac.k true)
instance:cQ Tryz.prog 38 .q0:=⟨⟨.agg #[.bool false, .slice none 0 0, .bool false, .slice none 0 0],fun X w=>⟨_,rfl,[.bool false, .slice none 0 0]++[.bool false, .slice none 0 0],rfl,_,_,rfl,b9.2 ⟨none,0,0,rfl,⟨Sl.nil,fun h=>by omega⟩,Dg.nil⟩,b9.2 ⟨none,0,0,rfl,⟨Sl.nil,fun h=>by omega⟩,Dg.nil⟩⟩,fun o ρ w ho=>by
 unfold execOp
 rw [ho]
 go_simp⟩⟩
theorem fg(h:(aa.na N L).holds X w v):(N.natAbs:Int)<4294967296^L:=by
 obtain ⟨s,A,n,c,xs,_,hs,hd,e,hn⟩:=cb h
 have h1:((bp s xs).natAbs:Int)≤val 4294967296 xs:=by
  have h0:=am (β:=4294967296) qD hd
  unfold bp dz
  cases jN s xs<;>cases s<;>simp<;>omega
 have h2:=bQ (β:=4294967296) qD hd
 have h3:=aP (β:=4294967296) qD (show xs.length≤L by rw [hs.len];exact hn)
 rw [e] at h1
 omega
theorem w_(hk: -9223372036854775808≤k∧k≤9223372036854775807):(k.natAbs:Int)<4294967296^2:=by
 have e:(4294967296:Int)^2=18446744073709551616:=by decide
 omega
theorem x9{m:Nat} (h1:(N.natAbs:Int)<4294967296^n) (h2:(M.natAbs:Int)<4294967296^m):((cJ (N.natAbs:Int) (M.natAbs:Int)).natAbs:Int)<4294967296^(max n m):=by
 have h3:(4294967296:Int)^n≤4294967296^(max n m):=aP qD qO
 have h4:(4294967296:Int)^m≤4294967296^(max n m):=aP qD qO
 have e:(cJ (N.natAbs:Int) (M.natAbs:Int)).natAbs=Nat.gcd N.natAbs M.natAbs:=by unfold cJ;simp
 rw [e]
 rcases Nat.eq_zero_or_pos N.natAbs with h0|h0
 ·rw [h0,Nat.gcd_zero_left];omega
 ·have:=Nat.gcd_le_left M.natAbs h0;omega
theorem FQ (N:Int):dz (decide (N<0)) (N.natAbs:Int)=N:=by
 by_cases h:N<0
 ·rw [decide_eq_true h,cX];omega
 ·rw [decide_eq_false h,cZ];omega
theorem yE (s:Bool) (a:Int):(dz s a).natAbs=a.natAbs:=by cases s<;>simp [dz]
theorem vp(N:Int) (hM:M≠0):(N.fdiv M).natAbs≤N.natAbs+1∧(N.fmod M).natAbs<M.natAbs:=by
 have hU:0<(M.natAbs:Int):=qO
 obtain ⟨k1,k2⟩:=ph (s:=decide (N<0)) (t:=decide (M<0)) (V:=(N.natAbs:Int)) hU
 rw [FQ,FQ] at k1 k2
 have h1:=Int.emod_nonneg (N.natAbs:Int) (show (M.natAbs:Int)≠0 by omega)
 have h2:=Int.emod_lt_of_pos (N.natAbs:Int) hU
 have h3:=Int.ediv_nonneg (show (0:Int)≤(N.natAbs:Int) by omega) (Int.le_of_lt hU)
 have h4:=Int.ediv_le_self (a:=(N.natAbs:Int)) (M.natAbs:Int) qO
 generalize (N.natAbs:Int)%(M.natAbs:Int)=r at*
 generalize (N.natAbs:Int) / (M.natAbs:Int)=q at*
 by_cases hd:((decide (N<0)) != (decide (M<0)))=true∧r≠0
 ·obtain ⟨e1,e2⟩:=k2 hd
  rw [e1,e2,yE,yE]
  have:=hd.2
  omega
 ·have hor:((decide (N<0)) != (decide (M<0)))=false∨r=0:=by
   by_cases h0:r=0
   ·exact .inr h0
   ·refine .inl ?_
    cases hb:((decide (N<0)) != (decide (M<0))) with
    |false=>rfl
    |true=>exact absurd ⟨hb,h0⟩ hd
  obtain ⟨e1,e2⟩:=k1 hor
  rw [e1,e2,yE,yE]
  omega
theorem ud(h1:(N.natAbs:Int)<4294967296^n) (hM:M≠0):((N.fdiv M).natAbs:Int)<4294967296^(n+1):=by
 have h2:=(vp N hM).1
 have p:=aI (show (0:Int)<4294967296 by decide) n
 rw [Int.pow_succ]
 omega
theorem uv(h1:(M.natAbs:Int)<4294967296^n) (hM:M≠0):((N.fmod M).natAbs:Int)<4294967296^n:=by
 have h2:=(vp N hM).2
 omega
section
variable {w00:World} {N:Nat} {L:List Loc} {E:List (Nat×aa)} {d:Nat} {t0:TypeId} {pos:String} {af:Array Edge} {gd:Option (Nat×Bool)} {ats:Array TypeId}
theorem IC:aJ Tryz.prog 157:=fun _ _=>by kernel_rfl
theorem GJ{N:Int} {L:Nat} (hX:∀ b∈X,b<w.heap.size) (h0:(aa.na N L).holds X w v0) (h1:(aa.na M K).holds X w v1) (hb:L≤1000∧K≤1000):Calls Tryz.prog 157 #[v0,v1] w (bj X w (.nc (N+M) (max L K+1))):=by
 have l0:=fg h0
 have l1:=fg h1
 obtain ⟨s,A,n,c,xs,rfl,s0,d0,e0,n0⟩:=cb h0
 obtain ⟨t,A2,m,c2,ys,rfl,s1,d1,e1,n1⟩:=cb h1
 have:=p6 (s:=s) (t:=t) s0 s1 (Nat.le_refl _) d0 d1 qO qO
 rw [e0,e1] at this
 exact this.mono fun e w' h=>h.gives hX (BT l0 l1)
theorem Hg[bD E o0 T0] [a0:i7 T0 N0 L0] [bD E o1 T1] [a1:i7 T1 M K] (hb:L0≤1000∧K≤1000):
 au Tryz.prog w00 N L E ⟨some d, .call { callee:= .value (.func 157),args:= #[o0,o1],argTypes:=ats },t0,pos,af,gd⟩ (.nc (N0+M) (max L0 K+1)):=
 qi IC fun X w v0 v1 hX _ _ h0 h1=>GJ hX (a0.ok h0) (a1.ok h1) hb
theorem H8:aJ Tryz.prog 135:=fun _ _=>by kernel_rfl
theorem Ir{N:Int} {L:Nat} (hX:∀ b∈X,b<w.heap.size) (h0:(aa.na N L).holds X w v0) (h1:(aa.na M K).holds X w v1) (hb:L≤1000∧K≤1000):Calls Tryz.prog 135 #[v0,v1] w (bj X w (.nc (N*M) (L+K))):=by
 have l0:=fg h0
 have l1:=fg h1
 obtain ⟨s,A,n,c,xs,rfl,s0,d0,e0,n0⟩:=cb h0
 obtain ⟨t,A2,m,c2,ys,rfl,s1,d1,e1,n1⟩:=cb h1
 have:=BO (s:=s) (t:=t) s0 s1 (Nat.le_refl _) d0 d1 qO qO
 rw [e0,e1] at this
 exact this.mono fun e w' h=>h.gives hX (lu l0 l1)
theorem IB[bD E o0 T0] [a0:i7 T0 N0 L0] [bD E o1 T1] [a1:i7 T1 M K] (hb:L0≤1000∧K≤1000):
 au Tryz.prog w00 N L E ⟨some d, .call { callee:= .value (.func 135),args:= #[o0,o1],argTypes:=ats },t0,pos,af,gd⟩ (.nc (N0*M) (L0+K)):=
 qi H8 fun X w v0 v1 hX _ _ h0 h1=>Ir hX (a0.ok h0) (a1.ok h1) hb
theorem Il:aJ Tryz.prog 128:=fun _ _=>by kernel_rfl
theorem Hd{N:Int} {L:Nat} (hX:∀ b∈X,b<w.heap.size) (h0:(aa.na N L).holds X w v0) (h1:(aa.na M K).holds X w v1) (hb:L≤1000∧K≤1000):Calls Tryz.prog 128 #[v0,v1] w (bj X w (.nc (cJ (N.natAbs:Int) (M.natAbs:Int)) (max L K))):=by
 have l0:=fg h0
 have l1:=fg h1
 obtain ⟨s,A,n,c,xs,rfl,s0,d0,e0,n0⟩:=cb h0
 obtain ⟨t,A2,m,c2,ys,rfl,s1,d1,e1,n1⟩:=cb h1
 have:=BF (s:=s) (t:=t) s0 s1 (Nat.le_refl _) d0 d1 qO qO
 rw [e0,e1] at this
 exact this.mono fun e w' h=>h.gives hX (x9 l0 l1)
theorem Gi[bD E o0 T0] [a0:i7 T0 N0 L0] [bD E o1 T1] [a1:i7 T1 M K] (hb:L0≤1000∧K≤1000):
 au Tryz.prog w00 N L E ⟨some d, .call { callee:= .value (.func 128),args:= #[o0,o1],argTypes:=ats },t0,pos,af,gd⟩ (.nc (cJ (N0.natAbs:Int) (M.natAbs:Int)) (max L0 K)):=
 qi Il fun X w v0 v1 hX _ _ h0 h1=>Hd hX (a0.ok h0) (a1.ok h1) hb
theorem H5:aJ Tryz.prog 127:=fun _ _=>by kernel_rfl
theorem Hw{N:Int} {L:Nat} (hX:∀ b∈X,b<w.heap.size) (h0:(aa.na N L).holds X w v0) (hb:L≤1000):Calls Tryz.prog 127 #[v0] w (bj X w (.nc (-N) (L))):=by
 have l0:=fg h0
 obtain ⟨s,A,n,c,xs,rfl,s0,d0,e0,n0⟩:=cb h0
 have:=vk (s:=s) s0 (Nat.le_refl _) d0 qO
 rw [e0] at this
 exact this.mono fun e w' h=>h.gives hX (wZ l0)
theorem Hi[bD E o0 T0] [a0:i7 T0 N0 L0] (hb:L0≤1000):
 au Tryz.prog w00 N L E ⟨some d, .call { callee:= .value (.func 127),args:= #[o0],argTypes:=ats },t0,pos,af,gd⟩ (.nc (-N0) (L0)):=
 pm H5 fun X w v0 hX _ _ h0=>Hw hX (a0.ok h0) hb
theorem Iz:aJ Tryz.prog 151:=fun _ _=>by kernel_rfl
theorem Ga{N:Int} {L:Nat} (h0:(aa.na N L).holds X w v0) (h1:(aa.na M K).holds X w v1) (hb:L≤1000∧K≤1000):Calls Tryz.prog 151 #[v0,v1] w (bj X w (.is (.int .i64 (b_ N M)))):=by
 obtain ⟨s,A,n,c,xs,rfl,s0,d0,e0,n0⟩:=cb h0
 obtain ⟨t,A2,m,c2,ys,rfl,s1,d1,e1,n1⟩:=cb h1
 have:=vC (s:=s) (t:=t) s0 s1 (Nat.le_refl _) d0 d1 qO qO
 rw [e0,e1] at this
 refine this.mono ?_
 rintro e w' ⟨rfl,hb⟩
 exact ⟨_,rfl,rfl,hb⟩
theorem Iy[bD E o0 T0] [a0:i7 T0 N0 L0] [bD E o1 T1] [a1:i7 T1 M K] (hb:L0≤1000∧K≤1000):
 au Tryz.prog w00 N L E ⟨some d, .call { callee:= .value (.func 151),args:= #[o0,o1],argTypes:=ats },t0,pos,af,gd⟩ (.is (.int .i64 (b_ N0 M))):=
 qi Iz fun X w v0 v1 hX _ _ h0 h1=>Ga (a0.ok h0) (a1.ok h1) hb
theorem Fo:aJ Tryz.prog 125:=fun _ _=>by kernel_rfl
theorem Fe{N:Int} {L:Nat} (h0:(aa.na N L).holds X w v0) (hb:L≤1000):Calls Tryz.prog 125 #[v0] w (bj X w (.is (.int .i64 (b_ N 0)))):=by
 obtain ⟨s,A,n,c,xs,rfl,s0,d0,e0,n0⟩:=cb h0
 have:=lW (s:=s) s0 (Nat.le_refl _) d0 qO
 rw [e0] at this
 refine this.mono ?_
 rintro e w' ⟨rfl,hb⟩
 exact ⟨_,rfl,rfl,hb⟩
theorem xR[bD E o0 T0] [a0:i7 T0 N0 L0] (hb:L0≤1000):
 au Tryz.prog w00 N L E ⟨some d, .call { callee:= .value (.func 125),args:= #[o0],argTypes:=ats },t0,pos,af,gd⟩ (.is (.int .i64 (b_ N0 0))):=
 pm Fo fun X w v0 hX _ _ h0=>Fe (a0.ok h0) hb
theorem ua:aJ Tryz.prog 136:=fun _ _=>by kernel_rfl
theorem BN{x:fa} [bD E o0 (.nx x L0)] (hu:jN x.1 x.2=u):
 au Tryz.prog w00 N L E ⟨some d, .call { callee:= .value (.func 136),args:= #[o0],argTypes:=ats },t0,pos,af,gd⟩ (.is (.bool u)):=
 pm ua fun X w v0 hX _ _ h0=>by
  obtain ⟨y,⟨rfl,_⟩,cs,rfl,hr⟩:=h0
  obtain ⟨A,n,c,rfl,hs,hd⟩:=b9.1 hr
  refine (jW (s:=y.1) hs.1 (Nat.le_refl _)).mono ?_
  rintro e w' ⟨rfl,hb⟩
  exact ⟨_,rfl,by rw [hu];rfl,hb⟩
theorem Ah[bD E o0 (.nc N0 L0)]:
 au Tryz.prog w00 N L E ⟨some d, .call { callee:= .value (.func 136),args:= #[o0],argTypes:=ats },t0,pos,af,gd⟩ (.is (.bool true)):=
 pm ua fun X w v0 hX _ _ h0=>by
  obtain ⟨y,⟨hw,_⟩,cs,rfl,hr⟩:=h0
  obtain ⟨A,n,c,rfl,hs,hd⟩:=b9.1 hr
  refine (jW (s:=y.1) hs.1 (Nat.le_refl _)).mono ?_
  rintro e w' ⟨rfl,hb⟩
  exact ⟨_,rfl,by rw [hw.right];rfl,hb⟩
theorem Jm:aJ Tryz.prog 84:=fun _ _=>by kernel_rfl
theorem FU[bD E o0 (.is (.int .i64 k))] (hk: -9223372036854775808≤k∧k≤9223372036854775807):
 au Tryz.prog w00 N L E ⟨some d, .call { callee:= .value (.func 84),args:= #[o0],argTypes:=ats },t0,pos,af,gd⟩ (.nc k 2):=
 pm Jm fun X w v0 hX _ _ h0=>by
  obtain rfl:v0=_:=h0
  exact (x6 hk).mono fun e w' h=>h.gives hX (w_ hk)
theorem Db:aJ Tryz.prog 129:=fun _ _=>by kernel_rfl
theorem Gf{N:Int} {L:Nat} (hX:∀ b∈X,b<w.heap.size) (h0:(aa.na N L).holds X w v0) (h1:(aa.na M K).holds X w v1) (hb:L≤1000∧K≤1000) (hM:M≠0):Calls Tryz.prog 129 #[v0,v1] w (bj X w (.tup [.nc (N.fdiv M) (L+1), .nc (N.fmod M) K, .is (.int .i64 0)])):=by
 have l0:=ud (fg h0) hM
 have l1:=uv (N:=N) (fg h1) hM
 obtain ⟨s,A,n,c,xs,rfl,s0,d0,e0,n0⟩:=cb h0
 obtain ⟨t,A2,m,c2,ys,rfl,s1,d1,e1,n1⟩:=cb h1
 have:=vw (s:=s) (t:=t) s0 s1 (Nat.le_refl _) d0 d1 qO qO
 rw [e0,e1] at this
 refine this.mono ?_
 rintro e w' (⟨hz,_⟩|⟨_,s1,qs,s2,rs,A1,n1,c1,A2,n2,c2,rfl,hq,hr,o1,o2,hb⟩)
 ·exact absurd hz hM
 ·exact ⟨_,rfl,⟨[_,_,_],rfl,xo hX hq o1 l0,xo hX hr o2 l1,rfl,trivial⟩,hb⟩
theorem Fy{N:Int} {L:Nat} (h0:(aa.na N L).holds X w v0) (h1:(aa.na 0 K).holds X w v1) (hb:L≤1000∧K≤1000):Calls Tryz.prog 129 #[v0,v1] w (bj X w (.is (.tuple #[.agg #[.bool false, .slice none 0 0], .agg #[.bool false, .slice none 0 0], .int .i64 20]))):=by
 obtain ⟨s,A,n,c,xs,rfl,s0,d0,e0,n0⟩:=cb h0
 obtain ⟨t,A2,m,c2,ys,rfl,s1,d1,e1,n1⟩:=cb h1
 have:=vw (s:=s) (t:=t) s0 s1 (Nat.le_refl _) d0 d1 qO qO
 rw [e0,e1] at this
 refine this.mono ?_
 rintro e w' (⟨_,h,hb⟩|⟨hz,_⟩)
 ·exact ⟨_,h,rfl,hb⟩
 ·exact absurd rfl hz
theorem Bp[bD E o0 T0] [a0:i7 T0 N0 L0] [bD E o1 T1] [a1:i7 T1 M K] (hb:L0≤1000∧K≤1000) (hM:M≠0):
 au Tryz.prog w00 N L E ⟨some d, .call { callee:= .value (.func 129),args:= #[o0,o1],argTypes:=ats },t0,pos,af,gd⟩ (.tup [.nc (N0.fdiv M) (L0+1), .nc (N0.fmod M) K, .is (.int .i64 0)]):=
 qi Db fun X w v0 v1 hX _ _ h0 h1=>Gf hX (a0.ok h0) (a1.ok h1) hb hM
end
def Ih (B:Nat) (X:List Nat) (w:World) (b:Nat):Prop:=cU X w b∧B≤b∧∃ cs,w.heap[b]? =some (.cells cs 115 (0,0))
def aa.nw (p:aR→Prop) (B:Nat):aa:=⟨fun X w v=>∃ x,p x∧∃ cs:List Value,v= .agg cs.toArray∧Rp.frac.rd w (Ih B X w) x cs,fun ⟨x,hp,cs,e,h⟩ hk hX=>⟨x,hp,cs,e,Rp.frac.more (Rp.frac.keep h (fun b hb=>hk.block b hb.1.1 hb.1.2)) (fun b hb=>by
 obtain ⟨h1,h2,c,h3⟩:=hb
 exact ⟨cU.mono hk hX b h1,h2,c,(hk.block b h1.1 h1.2).trans h3⟩)⟩⟩
def aa.qn (q:Rat) (L B:Nat):aa:=aa.nw (fun x=>iW q x∧Lq q L) B
def aa.qg (q:Rat) (L B:Nat):aa:=aa.nw (fun x=>qv x=q∧x.1.2.length≤L∧x.2.2.length≤L∧0<L) B
theorem oE{p:aR→Prop} (h:(aa.nw p B).holds X w v):(aa.ex Rp.frac p).holds X w v:=by
 obtain ⟨x,hp,cs,e,h⟩:=h
 exact ⟨x,hp,cs,e,Rp.frac.more h (fun b hb=>hb.1)⟩
theorem rU{p:aR→Prop} {B':Nat} (h:(aa.nw p B).holds X w v) (hB:B'≤B):(aa.nw p B').holds X w v:=by
 obtain ⟨x,hp,cs,e,h⟩:=h
 exact ⟨x,hp,cs,e,Rp.frac.more h (fun b hb=>⟨hb.1,Nat.le_trans hB hb.2.1,hb.2.2⟩)⟩
instance {p:aR→Prop} {B:Nat}:aL (.nw p B) 4 true:=⟨fun h=>(inferInstance:aL (.ex Rp.frac p) Rp.frac.k true).ok (oE h)⟩
instance {q:Rat} {L B:Nat}:aL (.qn q L B) 4 true:=inferInstanceAs (aL (.nw _ _) 4 true)
instance {q:Rat} {L B:Nat}:aL (.qg q L B) 4 true:=inferInstanceAs (aL (.nw _ _) 4 true)
instance {q:Rat} {L B:Nat}:ai (.qn q L B) 0 4 true (.qn q L B):= .whole inferInstance
instance {q:Rat} {L B:Nat}:ai (.qg q L B) 0 4 true (.qg q L B):= .whole inferInstance
instance {q:Rat} {L B:Nat}:mq (.qn q L B) q L:=⟨fun h=>(inferInstance:mq (.qc q L) q L).ok (oE h)⟩
instance {q:Rat} {L B:Nat}:mq (.qg q L B) q L:=⟨fun h=>oE h⟩
theorem p8(h:(aa.qa q L).holds X w v):Lq q L∧0<L:=by
 obtain ⟨x,⟨rfl,h1,h2,h3⟩,cs,_,c1,c2,_,g1,g2⟩:=h
 obtain ⟨_,_,_,_,_,d1⟩:=b9.1 g1
 obtain ⟨_,_,_,_,_,d2⟩:=b9.1 g2
 refine ⟨?_,h3⟩
 cases hq:jB x with
 |true=>exact Lq.of (iW.of d1 d2 hq).1 h1 h2
 |false=>rw [iR hq];exact Lq.zero.mono h3
theorem BG(hq:jB x=true) (h:(aa.qx x L).holds X w v):(aa.qc (qv x) L).holds X w v:=by
 obtain ⟨y,⟨rfl,h1,h2,h3⟩,cs,e,c1,c2,e2,g1,g2⟩:=h
 obtain ⟨_,_,_,_,_,d1⟩:=b9.1 g1
 obtain ⟨_,_,_,_,_,d2⟩:=b9.1 g2
 have hf:=(iW.of d1 d2 hq).1
 exact ⟨y,⟨hf,Lq.of hf h1 h2⟩,cs,e,c1,c2,e2,g1,g2⟩
theorem sG{M:Nat} (hN:q.num=N) (hD:(q.den:Int)=D) (hL:Lq q M) (v:Value) (h:(aa.nd N D L).holds X w v):(aa.qc q M).holds X w v:=by
 obtain ⟨x,⟨h1,h2,_,_⟩,g⟩:=h
 exact ⟨x,⟨⟨by rw [hN];exact h1,by rw [hD];exact h2⟩,hL⟩,g⟩
theorem rH{M:Nat} (hq:p=q) (hL:Lq q M) (v:Value) (h:(aa.qc p L).holds X w v):(aa.qc q M).holds X w v:=by
 obtain ⟨x,⟨h1,_⟩,g⟩:=h
 exact ⟨x,⟨by rw [←hq];exact h1,hL⟩,g⟩
theorem sC{a b:Value} (h:a=b) (v:Value) (hv:(aa.is a).holds X w v):(aa.is b).holds X w v:=by
 rw [←h];exact hv
theorem pO{T' U U':aa} (h1:∀ v,T.holds X w v→T'.holds X w v) (h2:∀ v,U.holds X w v→U'.holds X w v) (v:Value) (h:(aa.tup [T,U]).holds X w v):(aa.tup [T',U']).holds X w v:=by
 obtain ⟨vs,e,h⟩:=h
 match vs,h with
 |[a,b],⟨g1,g2,_⟩=>exact ⟨[a,b],e,h1 _ g1,h2 _ g2,trivial⟩
section
variable {w00:World} {N:Nat} {L:List Loc} {E:List (Nat×aa)} {d:Nat} {t0:TypeId} {pos:String} {af:Array Edge} {gd:Option (Nat×Bool)} {ats:Array TypeId}
theorem AA{D0:Int} [h0:bD E o0 (.nc N0 L0)] [h1:bD E o1 (.nc D0 K0)]:au Tryz.prog w00 N L E ⟨some d, .build 38 #[(0,o0),(1,o1)],t0,pos,af,gd⟩ (.nd N0 D0 (max L0 K0)):=by
 constructor
 intro X ρ w hc _ hN hm hsl
 obtain ⟨x,⟨a1,a2⟩,cs,e0,g0⟩:=h0.get (X:=X) (w:=w) hc fun p hp e=>hsl p hp qS
 obtain ⟨y,⟨b1,b2⟩,ds,e1,g1⟩:=h1.get (X:=X) (w:=w) hc fun p hp e=>hsl p hp qS
 obtain ⟨A,n,c,rfl,_⟩:=b9.1 g0
 obtain ⟨A2,n2,c2,rfl,_⟩:=b9.1 g1
 have hT:(aa.nd N0 D0 (max L0 K0)).holds X w (.agg #[.bool x.1, .slice A n c, .bool y.1, .slice A2 n2 c2]):=
  ⟨(x,y),⟨a1,b1,Int.lt_of_lt_of_le a2 (aP qD qO),Int.lt_of_lt_of_le b2 (aP qD qO)⟩,[.bool x.1, .slice A n c]++[.bool y.1, .slice A2 n2 c2],rfl,_,_,rfl,g0,g1⟩
 have HT:=Lib.hid hT
 clear hT hsl hm hc a1 a2 b1 b2 g0 g1 h0 h1
 unfold Yields
 go_simp
 exact ⟨HT.out,Below.refl _ _⟩
end
theorem iG {p:Prop} (h:p:=by first|exact dt|exact dE|exact du|exact bm|exact eI|exact eH|exact lZ (by first|assumption|rfl)|exact bO (b:=true) (u:=false) rfl|exact bO (b:=false) (u:=true) rfl|exact bO rfl|exact fi|exact jT (by first|assumption|rfl)|exact iE (by first|assumption|rfl)|exact sn|exact dA|exact Iy (by omega)|exact Gi (by omega)|exact BA (by omega) (by assumption)|exact d8.nil|exact bG.nil|exact bE.nil|exact Hi (by omega)|exact xR (by omega)|exact FU (by omega)|exact BN (by first|assumption|rfl)|exact Ah|exact C3 (by omega) (by assumption)|exact Bp (by omega) (by omega)|exact Hg (by omega)|exact IB (by omega)|exact Cj (by omega)|exact AA|exact Fx|exact Hv (by omega) hD|exact GW (by omega)|exact Bz (by omega)|exact IA (by omega)|exact th (by omega)|exact ⟨fun _ _=>(sC (congrArg Value.bool e.symm))⟩|exact Cv.rfl'):p:=h
theorem Bl(hX:∀ b∈X,b<w.heap.size) (h0:(aa.na N L).holds X w v0) (h1:(aa.na M K).holds X w v1) (hb:L≤1000∧K≤1000):
 Calls Tryz.prog 137 #[v0,v1] w (bj X w (.is (.bool (b_ N M==0)))):=by
 refine cN (Ts:=[.na N L, .na M K]) (vs:=[v0,v1]) Tryz.func137 rfl Tryz.ntmps137 qE hX ⟨h0,h1,trivial⟩ fun a h=> ?_
 clear h0 h1 hX
 simp only [eK,Nat.zero_add,Nat.reduceAdd] at h
 refine aB h ?_
 clear h
 repeat' first|kernel_rfl|apply Bt.mk|refine nx ?_|apply ae|refine aQ rfl ?_|exact iG|intro _
section
variable {w00:World} {N:Nat} {L:List Loc} {E:List (Nat×aa)} {d:Nat} {t0:TypeId} {pos:String} {af:Array Edge} {gd:Option (Nat×Bool)} {ats:Array TypeId}
theorem Cn:aJ Tryz.prog 137:=fun _ _=>by kernel_rfl
theorem Dd[bD E o0 T0] [a0:i7 T0 N0 L0] [bD E o1 T1] [a1:i7 T1 M0 K0] (hb:L0≤1000∧K0≤1000):
 au Tryz.prog w00 N L E ⟨some d, .call { callee:= .value (.func 137),args:= #[o0,o1],argTypes:=ats },t0,pos,af,gd⟩ (.is (.bool (b_ N0 M0==0))):=
 qi Cn fun X w v0 v1 hX _ _ h0 h1=>Bl hX (a0.ok h0) (a1.ok h1) hb
end
section
variable {w00:World} {N:Nat} {L:List Loc} {E:List (Nat×aa)} {d:Nat} {t0:TypeId} {pos:String} {af:Array Edge} {gd:Option (Nat×Bool)} {ats:Array TypeId}
theorem C3[bD E o0 T0] [a0:i7 T0 N0 L0] [bD E o1 T1] [a1:i7 T1 M0 K0] (hb:L0≤1000∧K0≤1000) (hu:(b_ N0 M0==0)=u):
 au Tryz.prog w00 N L E ⟨some d, .call { callee:= .value (.func 137),args:= #[o0,o1],argTypes:=ats },t0,pos,af,gd⟩ (.is (.bool u)):=by
 rw [←hu]
 exact Dd hb
end
theorem vV(hX:∀ b∈X,b<w.heap.size) (h0:(aa.qx x L).holds X w v0) (hb:L≤1000):
 Calls Tryz.prog 110 #[v0] w (bj X w (.is (.bool (jB x)))):=by
 have key:jB x=(jN x.1.1 x.1.2&&jN x.2.1 x.2.2&&decide (0<b_ (iv x.2) 0)&&(b_ (cJ ((iv x.1).natAbs:Int) ((iv x.2).natAbs:Int)) 1==0)):=by
  unfold jB
  have e1:decide (0<b_ (iv x.2) 0)=decide (0<iv x.2):=by simp only [oH]
  have e2:(b_ (cJ ((iv x.1).natAbs:Int) ((iv x.2).natAbs:Int)) 1==0)=(cJ ((iv x.1).natAbs:Int) ((iv x.2).natAbs:Int)==1):=by
   have:=nJ (a:=cJ ((iv x.1).natAbs:Int) ((iv x.2).natAbs:Int)) (b:=1)
   rw [Bool.eq_iff_iff]
   simp only [beq_iff_eq,this]
  rw [e1,e2]
 cases e1:jN x.1.1 x.1.2 with
 |false=>
  have e:jB x=false:=by rw [key];simp [e1]
  clear key
  refine cN (Ts:=[.qx x L]) (vs:=[v0]) Tryz.func110 rfl Tryz.ntmps110 qE hX ⟨h0,trivial⟩ fun a h=> ?_
  clear h0 hX
  simp only [eK,Nat.zero_add,Nat.reduceAdd] at h
  refine aB h ?_
  clear h
  repeat' first|kernel_rfl|apply Bt.mk|refine nx ?_|refine aE rfl iG ?_|refine aD rfl ?_|refine aF rfl ?_|apply ae|refine aQ rfl ?_|exact iG|intro _
 |true=>
 cases e2:jN x.2.1 x.2.2 with
 |false=>
  have e:jB x=false:=by rw [key];simp [e1,e2]
  clear key
  refine cN (Ts:=[.qx x L]) (vs:=[v0]) Tryz.func110 rfl Tryz.ntmps110 qE hX ⟨h0,trivial⟩ fun a h=> ?_
  clear h0 hX
  simp only [eK,Nat.zero_add,Nat.reduceAdd] at h
  refine aB h ?_
  clear h
  repeat' first|kernel_rfl|apply Bt.mk|refine nx ?_|refine aE rfl iG ?_|refine aD rfl ?_|refine aF rfl ?_|apply ae|refine aQ rfl ?_|exact iG|intro _
 |true=>
 cases e3:decide (0<b_ (iv x.2) 0) with
 |false=>
  have e:jB x=false:=by rw [key];simp [e1,e2,e3]
  clear key
  refine cN (Ts:=[.qx x L]) (vs:=[v0]) Tryz.func110 rfl Tryz.ntmps110 qE hX ⟨h0,trivial⟩ fun a h=> ?_
  clear h0 hX
  simp only [eK,Nat.zero_add,Nat.reduceAdd] at h
  refine aB h ?_
  clear h
  repeat' first|kernel_rfl|apply Bt.mk|refine nx ?_|refine aE rfl iG ?_|refine aD rfl ?_|refine aF rfl ?_|apply ae|refine aQ rfl ?_|exact iG|intro _
 |true=>
 cases e4:(b_ (cJ ((iv x.1).natAbs:Int) ((iv x.2).natAbs:Int)) 1==0) with
 |false=>
  have e:jB x=false:=by rw [key];simp [e1,e2,e3,e4]
  clear key
  refine cN (Ts:=[.qx x L]) (vs:=[v0]) Tryz.func110 rfl Tryz.ntmps110 qE hX ⟨h0,trivial⟩ fun a h=> ?_
  clear h0 hX
  simp only [eK,Nat.zero_add,Nat.reduceAdd] at h
  refine aB h ?_
  clear h
  repeat' first|kernel_rfl|apply Bt.mk|refine nx ?_|refine aE rfl iG ?_|refine aD rfl ?_|refine aF rfl ?_|apply ae|refine aQ rfl ?_|exact iG|intro _
 |true=>
  have e:jB x=true:=by rw [key];simp [e1,e2,e3,e4]
  clear key
  refine cN (Ts:=[.qx x L]) (vs:=[v0]) Tryz.func110 rfl Tryz.ntmps110 qE hX ⟨h0,trivial⟩ fun a h=> ?_
  clear h0 hX
  simp only [eK,Nat.zero_add,Nat.reduceAdd] at h
  refine aB h ?_
  clear h
  repeat' first|kernel_rfl|apply Bt.mk|refine nx ?_|refine aE rfl iG ?_|refine aD rfl ?_|refine aF rfl ?_|apply ae|refine aQ rfl ?_|exact iG|intro _
section
variable {w00:World} {N:Nat} {L:List Loc} {E:List (Nat×aa)} {d:Nat} {t0:TypeId} {pos:String} {af:Array Edge} {gd:Option (Nat×Bool)} {ats:Array TypeId}
theorem uE:aJ Tryz.prog 110:=fun _ _=>by kernel_rfl
theorem BA[bD E o0 (.qx x L0)] (hb:L0≤1000) (hu:jB x=u):
 au Tryz.prog w00 N L E ⟨some d, .call { callee:= .value (.func 110),args:= #[o0],argTypes:=ats },t0,pos,af,gd⟩ (.is (.bool u)):=by
 rw [←hu]
 exact pm uE fun X w v0 hX _ _ h0=>vV hX h0 hb
end
theorem EP(hX:∀ b∈X,b<w.heap.size):Calls Tryz.prog 126 #[] w (bj X w (.qc 0 1)):=by
 refine cN (Ts:=[]) (vs:=[]) Tryz.func126 rfl Tryz.ntmps126 qE hX trivial fun a h=> ?_
 clear hX
 simp only [eK] at h
 refine aB h ?_
 clear h
 repeat' first|kernel_rfl|apply Bt.mk|refine nx ?_|apply ae|refine aQ rfl ?_|exact ⟨fun _ _=>(sG rfl rfl Lq.zero)⟩|exact iG|intro _
section
variable {w00:World} {N:Nat} {L:List Loc} {E:List (Nat×aa)} {d:Nat} {t0:TypeId} {pos:String} {af:Array Edge} {gd:Option (Nat×Bool)} {ats:Array TypeId}
theorem Em:aJ Tryz.prog 126:=fun _ _=>by kernel_rfl
theorem Fx:au Tryz.prog w00 N L E ⟨some d, .call { callee:= .value (.func 126),args:= #[],argTypes:=ats },t0,pos,af,gd⟩ (.qc 0 1):=J5 Em fun X w hX _ _=>EP hX
end
theorem Al(hX:∀ b∈X,b<w.heap.size) (h0:(aa.qx x L).holds X w v0) (hb:L≤1000):
 Calls Tryz.prog 133 #[v0] w (bj X w (.qc (qv x) L)):=by
 have hl:0<L:=by obtain ⟨_,⟨_,_,_,g⟩,_⟩:=h0;exact g
 cases hq:jB x with
 |false=>
  refine cN (Ts:=[.qx x L]) (vs:=[v0]) Tryz.func133 rfl Tryz.ntmps133 qE hX ⟨h0,trivial⟩ fun a h=> ?_
  clear h0 hX
  simp only [eK,Nat.zero_add,Nat.reduceAdd] at h
  refine aB h ?_
  clear h
  repeat' first|kernel_rfl|apply Bt.mk|refine nx ?_|apply ae|refine aQ rfl ?_|exact ⟨fun _ _=>(rH (iR hq).symm (by rw [iR hq];exact Lq.zero.mono hl))⟩|exact ⟨fun _ _=>(fun _=>BG hq)⟩|exact iG|intro _
 |true=>
  refine cN (Ts:=[.qx x L]) (vs:=[v0]) Tryz.func133 rfl Tryz.ntmps133 qE hX ⟨h0,trivial⟩ fun a h=> ?_
  clear h0 hX
  simp only [eK,Nat.zero_add,Nat.reduceAdd] at h
  refine aB h ?_
  clear h
  repeat' first|kernel_rfl|apply Bt.mk|refine nx ?_|apply ae|refine aQ rfl ?_|exact ⟨fun _ _=>(rH (iR hq).symm (by rw [iR hq];exact Lq.zero.mono hl))⟩|exact ⟨fun _ _=>(fun _=>BG hq)⟩|exact iG|intro _
theorem CF(hX:∀ b∈X,b<w.heap.size) (h0:(aa.qa q L).holds X w v0) (hb:L≤1000):Calls Tryz.prog 133 #[v0] w (bj X w (.qc q L)):=by
 obtain ⟨x,⟨rfl,h1⟩,g⟩:=h0
 exact Al hX ⟨x,⟨rfl,h1⟩,g⟩ hb
section
variable {w00:World} {N:Nat} {L:List Loc} {E:List (Nat×aa)} {d:Nat} {t0:TypeId} {pos:String} {af:Array Edge} {gd:Option (Nat×Bool)} {ats:Array TypeId}
theorem CU:aJ Tryz.prog 133:=fun _ _=>by kernel_rfl
theorem Cj[bD E o0 T0] [a0:mq T0 p L0] (hb:L0≤1000):
 au Tryz.prog w00 N L E ⟨some d, .call { callee:= .value (.func 133),args:= #[o0],argTypes:=ats },t0,pos,af,gd⟩ (.qc p L0):=
 pm CU fun X w v0 hX _ _ h0=>CF hX (a0.ok h0) hb
end
theorem sJ(hD:0<D):0<cJ (N.natAbs:Int) (D.natAbs:Int)∧(Rat.divInt N D).num=N.fdiv (cJ (N.natAbs:Int) (D.natAbs:Int))∧((Rat.divInt N D).den:Int)=D.fdiv (cJ (N.natAbs:Int) (D.natAbs:Int)):=by
 rw [lF]
 have h1:(Int.gcd N D:Int)∣N:=Int.gcd_dvd_left ..
 have h2:(Int.gcd N D:Int)∣D:=Int.gcd_dvd_right ..
 have hg:0<Int.gcd N D:=Int.gcd_pos_of_ne_zero_right _ qO
 have h3:Int.gcd (N / Int.gcd N D) (D / Int.gcd N D)=1:=Int.gcd_ediv_gcd_ediv_gcd hg
 have hg0:(0:Int)<(Int.gcd N D:Int):=qO
 rw [Int.fdiv_eq_ediv_of_nonneg _ (Int.le_of_lt hg0),Int.fdiv_eq_ediv_of_nonneg _ (Int.le_of_lt hg0)]
 obtain ⟨e1,e2⟩:=mM (n:=N) (d:=D) (Int.ediv_mul_cancel h1).symm (Int.ediv_mul_cancel h2).symm qO (Int.ediv_pos_of_pos_of_dvd hD qO h2) h3
 exact ⟨hg0,e1,e2⟩
theorem Eh (N D:Int):Rat.divInt (-N) (-D)=Rat.divInt N D:=Rat.neg_divInt_neg ..
theorem DH(hX:∀ b∈X,b<w.heap.size) (h0:(aa.na N L).holds X w v0) (h1:(aa.na D K).holds X w v1) (hb:L≤1000∧K≤1000) (hD:0<D):
 Calls Tryz.prog 83 #[v0,v1] w (bj X w (.tup [.qc (Rat.divInt N D) (max L K), .is (.int .i64 0)])):=by
 have l0:=fg h0
 have l1:=fg h1
 have hK:0<K:=by
  rcases Nat.eq_zero_or_pos K with h|h
  ·subst h
   simp at l1
   omega
  ·exact h
 have hL:Lq (Rat.divInt N D) (max L K):=Lq.divInt (Int.lt_of_lt_of_le l0 (aP qD qO)) (Int.lt_of_lt_of_le l1 (aP qD qO)) qO
 clear l0 l1
 have hz:(b_ D 0==0)=false:=by rw [gV hD];rfl
 have hs:decide (b_ D 0<0)=false:=by rw [gV hD];rfl
 obtain ⟨e1,e2,e3⟩:=sJ (N:=N) hD
 refine cN (Ts:=[.na N L, .na D K]) (vs:=[v0,v1]) Tryz.func83 rfl Tryz.ntmps83 qE hX ⟨h0,h1,trivial⟩ fun a h=> ?_
 clear h0 h1 hX
 simp only [eK,Nat.zero_add,Nat.reduceAdd] at h
 refine aB h ?_
 clear h
 repeat' first|kernel_rfl|apply Bt.mk|refine nx ?_|apply ae|refine d9 rfl ?_|exact ⟨fun _ _=>(pO (sG e2 e3 hL) fun _ h=>h)⟩|exact iG|intro _
theorem Fn(hX:∀ b∈X,b<w.heap.size) (h0:(aa.na N L).holds X w v0) (h1:(aa.na D K).holds X w v1) (hb:L≤1000∧K≤1000) (hD:D<0):
 Calls Tryz.prog 83 #[v0,v1] w (bj X w (.tup [.qc (Rat.divInt N D) (max L K), .is (.int .i64 0)])):=by
 have l0:=fg h0
 have l1:=fg h1
 have hK:0<K:=by
  rcases Nat.eq_zero_or_pos K with h|h
  ·subst h
   simp at l1
   omega
  ·exact h
 have hL:Lq (Rat.divInt N D) (max L K):=Lq.divInt (Int.lt_of_lt_of_le l0 (aP qD qO)) (Int.lt_of_lt_of_le l1 (aP qD qO)) qO
 clear l0 l1
 have hz:(b_ D 0==0)=false:=by rw [eO hD];rfl
 have hs:decide (b_ D 0<0)=true:=by rw [eO hD];rfl
 obtain ⟨e1,e2,e3⟩:=sJ (N:= -N) (D:= -D) qO
 rw [Eh] at e2 e3
 refine cN (Ts:=[.na N L, .na D K]) (vs:=[v0,v1]) Tryz.func83 rfl Tryz.ntmps83 qE hX ⟨h0,h1,trivial⟩ fun a h=> ?_
 clear h0 h1 hX
 simp only [eK,Nat.zero_add,Nat.reduceAdd] at h
 refine aB h ?_
 clear h
 repeat' first|kernel_rfl|apply Bt.mk|refine nx ?_|apply ae|refine d9 rfl ?_|exact ⟨fun _ _=>(pO (sG e2 e3 hL) fun _ h=>h)⟩|exact iG|intro _
theorem Io(hX:∀ b∈X,b<w.heap.size) (h0:(aa.na N L).holds X w v0) (h1:(aa.na D K).holds X w v1) (hb:L≤1000∧K≤1000) (hD:D≠0):
 Calls Tryz.prog 83 #[v0,v1] w (bj X w (.tup [.qc (Rat.divInt N D) (max L K), .is (.int .i64 0)])):=by
 rcases Int.lt_or_gt_of_ne hD with h|h
 ·exact Fn hX h0 h1 hb h
 ·exact DH hX h0 h1 hb h
section
variable {w00:World} {N:Nat} {L:List Loc} {E:List (Nat×aa)} {d:Nat} {t0:TypeId} {pos:String} {af:Array Edge} {gd:Option (Nat×Bool)} {ats:Array TypeId}
theorem Hk:aJ Tryz.prog 83:=fun _ _=>by kernel_rfl
theorem Hv[bD E o0 T0] [a0:i7 T0 N0 L0] [bD E o1 T1] [a1:i7 T1 M0 K0] (hb:L0≤1000∧K0≤1000) (hD:M0≠0):
 au Tryz.prog w00 N L E ⟨some d, .call { callee:= .value (.func 83),args:= #[o0,o1],argTypes:=ats },t0,pos,af,gd⟩ (.tup [.qc (Rat.divInt N0 M0) (max L0 K0), .is (.int .i64 0)]):=
 qi Hk fun X w v0 v1 hX _ _ h0 h1=>Io hX (a0.ok h0) (a1.ok h1) hb hD
end
section
variable {w00:World} {N:Nat} {L:List Loc} {E:List (Nat×aa)} {d:Nat} {t0:TypeId} {pos:String} {af:Array Edge} {gd:Option (Nat×Bool)} {ats:Array TypeId}
end
theorem GO(hX:∀ b∈X,b<w.heap.size) (h0:(aa.qa p L).holds X w v0) (h1:(aa.qa q K).holds X w v1) (hb:L≤200∧K≤200):
 Calls Tryz.prog 159 #[v0,v1] w (bj X w (.qc (p+q) (L+K+1))):=by
 obtain ⟨lp,lp0⟩:=p8 h0
 obtain ⟨lq,lq0⟩:=p8 h1
 have hD:(p.den:Int)*(q.den:Int)≠0:=Int.ne_of_gt (Int.mul_pos (den_pos p) (den_pos q))
 refine cN (Ts:=[.qa p L, .qa q K]) (vs:=[v0,v1]) Tryz.func159 rfl Tryz.ntmps159 qE hX ⟨h0,h1,trivial⟩ fun a h=> ?_
 clear h0 h1 hX
 simp only [eK,Nat.zero_add,Nat.reduceAdd] at h
 refine aB h ?_
 clear h
 repeat' first|kernel_rfl|apply Bt.mk|refine nx ?_|apply jY (id:=3) [] [] 21 [19]|apply pU|apply pZ|apply wN|apply az|apply aW|apply ae|refine aQ rfl ?_|exact ⟨fun _ _=>(rH (ym p q).symm (lp.add lq))⟩|exact iG|(intro _;simp only[cf,ci,cm,List.map,List.cons_append,List.nil_append])|intro _
section
variable {w00:World} {N:Nat} {L:List Loc} {E:List (Nat×aa)} {d:Nat} {t0:TypeId} {pos:String} {af:Array Edge} {gd:Option (Nat×Bool)} {ats:Array TypeId}
theorem GG:aJ Tryz.prog 159:=fun _ _=>by kernel_rfl
theorem GW[bD E o0 T0] [a0:mq T0 p L0] [bD E o1 T1] [a1:mq T1 q K0] (hb:L0≤200∧K0≤200):
 au Tryz.prog w00 N L E ⟨some d, .call { callee:= .value (.func 159),args:= #[o0,o1],argTypes:=ats },t0,pos,af,gd⟩ (.qc (p+q) (L0+K0+1)):=
 qi GG fun X w v0 v1 hX _ _ h0 h1=>GO hX (a0.ok h0) (a1.ok h1) hb
end
theorem Ig(hX:∀ b∈X,b<w.heap.size) (h0:(aa.qa p L).holds X w v0) (hb:L≤200):
 Calls Tryz.prog 109 #[v0] w (bj X w (.qc (-p) L)):=by
 obtain ⟨lp,lp0⟩:=p8 h0
 refine cN (Ts:=[.qa p L]) (vs:=[v0]) Tryz.func109 rfl Tryz.ntmps109 qE hX ⟨h0,trivial⟩ fun a h=> ?_
 clear h0 hX
 simp only [eK,Nat.zero_add,Nat.reduceAdd] at h
 refine aB h ?_
 clear h
 repeat' first|kernel_rfl|apply Bt.mk|refine nx ?_|apply ar (id:=2) [] [] 6|apply az|apply aW|apply ae|refine aQ rfl ?_|exact ⟨fun _ _=>(sG (by rw [Rat.neg_num]) (by rw [Rat.neg_den]) lp.neg)⟩|exact iG|intro _
section
variable {w00:World} {N:Nat} {L:List Loc} {E:List (Nat×aa)} {d:Nat} {t0:TypeId} {pos:String} {af:Array Edge} {gd:Option (Nat×Bool)} {ats:Array TypeId}
theorem Ic:aJ Tryz.prog 109:=fun _ _=>by kernel_rfl
theorem Bz[bD E o0 T0] [a0:mq T0 p L0] (hb:L0≤200):
 au Tryz.prog w00 N L E ⟨some d, .call { callee:= .value (.func 109),args:= #[o0],argTypes:=ats },t0,pos,af,gd⟩ (.qc (-p) L0):=
 pm Ic fun X w v0 hX _ _ h0=>Ig hX (a0.ok h0) hb
end
theorem Ik(hX:∀ b∈X,b<w.heap.size) (h0:(aa.qa p L).holds X w v0) (h1:(aa.qa q K).holds X w v1) (hb:L≤200∧K≤200):
 Calls Tryz.prog 134 #[v0,v1] w (bj X w (.qc (p - q) (L+K+1))):=by
 obtain ⟨lp,lp0⟩:=p8 h0
 obtain ⟨lq,lq0⟩:=p8 h1
 refine cN (Ts:=[.qa p L, .qa q K]) (vs:=[v0,v1]) Tryz.func134 rfl Tryz.ntmps134 qE hX ⟨h0,h1,trivial⟩ fun a h=> ?_
 clear h0 h1 hX
 simp only [eK,Nat.zero_add,Nat.reduceAdd] at h
 refine aB h ?_
 clear h
 repeat' first|kernel_rfl|apply Bt.mk|refine nx ?_|apply ar (id:=1) [] [] 4|apply az|apply aW|apply ae|refine aQ rfl ?_|exact ⟨fun _ _=>(rH (Rat.sub_eq_add_neg p q).symm (lp.sub lq))⟩|exact iG|intro _
section
variable {w00:World} {N:Nat} {L:List Loc} {E:List (Nat×aa)} {d:Nat} {t0:TypeId} {pos:String} {af:Array Edge} {gd:Option (Nat×Bool)} {ats:Array TypeId}
theorem Hj:aJ Tryz.prog 134:=fun _ _=>by kernel_rfl
theorem IA[bD E o0 T0] [a0:mq T0 p L0] [bD E o1 T1] [a1:mq T1 q K0] (hb:L0≤200∧K0≤200):
 au Tryz.prog w00 N L E ⟨some d, .call { callee:= .value (.func 134),args:= #[o0,o1],argTypes:=ats },t0,pos,af,gd⟩ (.qc (p - q) (L0+K0+1)):=
 qi Hj fun X w v0 v1 hX _ _ h0 h1=>Ik hX (a0.ok h0) (a1.ok h1) hb
end
theorem GN(hX:∀ b∈X,b<w.heap.size) (h0:(aa.qa p L).holds X w v0) (h1:(aa.qa q K).holds X w v1) (hb:L≤200∧K≤200):
 Calls Tryz.prog 108 #[v0,v1] w (bj X w (.qc (p*q) (L+K))):=by
 obtain ⟨lp,lp0⟩:=p8 h0
 obtain ⟨lq,lq0⟩:=p8 h1
 have hD:(p.den:Int)*(q.den:Int)≠0:=Int.ne_of_gt (Int.mul_pos (den_pos p) (den_pos q))
 refine cN (Ts:=[.qa p L, .qa q K]) (vs:=[v0,v1]) Tryz.func108 rfl Tryz.ntmps108 qE hX ⟨h0,h1,trivial⟩ fun a h=> ?_
 clear h0 h1 hX
 simp only [eK,Nat.zero_add,Nat.reduceAdd] at h
 refine aB h ?_
 clear h
 repeat' first|kernel_rfl|apply Bt.mk|refine nx ?_|apply jY (id:=3) [] [] 15 [13]|apply pU|apply pZ|apply wN|apply az|apply aW|apply ae|refine aQ rfl ?_|exact ⟨fun _ _=>(rH (xZ p q).symm (lp.mul lq))⟩|exact iG|(intro _;simp only[cf,ci,cm,List.map,List.cons_append,List.nil_append])|intro _
section
variable {w00:World} {N:Nat} {L:List Loc} {E:List (Nat×aa)} {d:Nat} {t0:TypeId} {pos:String} {af:Array Edge} {gd:Option (Nat×Bool)} {ats:Array TypeId}
theorem Gu:aJ Tryz.prog 108:=fun _ _=>by kernel_rfl
theorem Gq[bD E o0 T0] [a0:mq T0 p L0] [bD E o1 T1] [a1:mq T1 q K0] (hb:L0≤200∧K0≤200):
 au Tryz.prog w00 N L E ⟨some d, .call { callee:= .value (.func 108),args:= #[o0,o1],argTypes:=ats },t0,pos,af,gd⟩ (.qc (p*q) (L0+K0)):=
 qi Gu fun X w v0 v1 hX _ _ h0 h1=>GN hX (a0.ok h0) (a1.ok h1) hb
end
section
variable {w00:World} {N:Nat} {L:List Loc} {E:List (Nat×aa)} {d:Nat} {t0:TypeId} {pos:String} {af:Array Edge} {gd:Option (Nat×Bool)} {ats:Array TypeId}
end
section
variable {w00:World} {N:Nat} {L:List Loc} {E:List (Nat×aa)} {d:Nat} {t0:TypeId} {pos:String} {af:Array Edge} {gd:Option (Nat×Bool)} {ats:Array TypeId}
end
theorem FJ(hX:∀ b∈X,b<w.heap.size) (h0:(aa.qa p L).holds X w v0) (hb:L≤200):
 Calls Tryz.prog 105 #[v0] w (bj X w (.is (.int .i64 (de p 0)))):=by
 refine cN (Ts:=[.qa p L]) (vs:=[v0]) Tryz.func105 rfl Tryz.ntmps105 qE hX ⟨h0,trivial⟩ fun a h=> ?_
 clear h0 hX
 simp only [eK,Nat.zero_add,Nat.reduceAdd] at h
 refine aB h ?_
 clear h
 repeat' first|kernel_rfl|apply Bt.mk|refine nx ?_|apply ae|refine aQ rfl ?_|exact ⟨fun _ _=>(sC (congrArg (Value.int .i64) (rR p)))⟩|exact iG|intro _
section
variable {w00:World} {N:Nat} {L:List Loc} {E:List (Nat×aa)} {d:Nat} {t0:TypeId} {pos:String} {af:Array Edge} {gd:Option (Nat×Bool)} {ats:Array TypeId}
theorem ES:aJ Tryz.prog 105:=fun _ _=>by kernel_rfl
theorem th[bD E o0 T0] [a0:mq T0 p L0] (hb:L0≤200):
 au Tryz.prog w00 N L E ⟨some d, .call { callee:= .value (.func 105),args:= #[o0],argTypes:=ats },t0,pos,af,gd⟩ (.is (.int .i64 (de p 0))):=
 pm ES fun X w v0 hX _ _ h0=>FJ hX (a0.ok h0) hb
end
theorem Gn(hX:∀ b∈X,b<w.heap.size) (h0:(aa.qa p L).holds X w v0) (h1:(aa.qa q K).holds X w v1) (hb:L≤90∧K≤90):
 Calls Tryz.prog 106 #[v0,v1] w (bj X w (.is (.int .i64 (de p q)))):=by
 refine cN (Ts:=[.qa p L, .qa q K]) (vs:=[v0,v1]) Tryz.func106 rfl Tryz.ntmps106 qE hX ⟨h0,h1,trivial⟩ fun a h=> ?_
 clear h0 h1 hX
 simp only [eK,Nat.zero_add,Nat.reduceAdd] at h
 refine aB h ?_
 clear h
 repeat' first|kernel_rfl|apply Bt.mk|refine nx ?_|apply ae|refine aQ rfl ?_|exact ⟨fun _ _=>(sC (congrArg (Value.int .i64) (Cs p q)))⟩|exact iG|intro _
section
variable {w00:World} {N:Nat} {L:List Loc} {E:List (Nat×aa)} {d:Nat} {t0:TypeId} {pos:String} {af:Array Edge} {gd:Option (Nat×Bool)} {ats:Array TypeId}
theorem GY:aJ Tryz.prog 106:=fun _ _=>by kernel_rfl
theorem BB[bD E o0 T0] [a0:mq T0 p L0] [bD E o1 T1] [a1:mq T1 q K0] (hb:L0≤90∧K0≤90):
 au Tryz.prog w00 N L E ⟨some d, .call { callee:= .value (.func 106),args:= #[o0,o1],argTypes:=ats },t0,pos,af,gd⟩ (.is (.int .i64 (de p q))):=
 qi GY fun X w v0 v1 hX _ _ h0 h1=>Gn hX (a0.ok h0) (a1.ok h1) hb
end
section
variable {w00:World} {N:Nat} {L:List Loc} {E:List (Nat×aa)} {d:Nat} {t0:TypeId} {pos:String} {af:Array Edge} {gd:Option (Nat×Bool)} {ats:Array TypeId}
end
theorem Lq.whole(hk: -9223372036854775808≤k∧k≤9223372036854775807):Lq (k:Rat) 2:=⟨w_ hk,by rw [show ((k:Rat).den:Int)=1 from rfl];decide⟩
theorem CZ(hX:∀ b∈X,b<w.heap.size) (h0:(aa.is (.int .i64 k)).holds X w v0) (hk: -9223372036854775808≤k∧k≤9223372036854775807):
 Calls Tryz.prog 107 #[v0] w (bj X w (.qc (k:Rat) 2)):=by
 have hl:=Lq.whole hk
 refine cN (Ts:=[.is (.int .i64 k)]) (vs:=[v0]) Tryz.func107 rfl Tryz.ntmps107 qE hX ⟨h0,trivial⟩ fun a h=> ?_
 clear h0 hX
 simp only [eK,Nat.zero_add,Nat.reduceAdd] at h
 refine aB h ?_
 clear h
 repeat' first|kernel_rfl|apply Bt.mk|refine nx ?_|apply ae|refine aQ rfl ?_|exact ⟨fun _ _=>(sG rfl rfl hl)⟩|exact iG|intro _
section
variable {w00:World} {N:Nat} {L:List Loc} {E:List (Nat×aa)} {d:Nat} {t0:TypeId} {pos:String} {af:Array Edge} {gd:Option (Nat×Bool)} {ats:Array TypeId}
theorem Cl:aJ Tryz.prog 107:=fun _ _=>by kernel_rfl
theorem ut{k0:Int} [bD E o0 (.is (.int .i64 k0))] (hk: -9223372036854775808≤k0∧k0≤9223372036854775807):
 au Tryz.prog w00 N L E ⟨some d, .call { callee:= .value (.func 107),args:= #[o0],argTypes:=ats },t0,pos,af,gd⟩ (.qc (k0:Rat) 2):=
 pm Cl fun X w v0 hX _ _ h0=>CZ hX h0 hk
end
theorem Jq(hX:∀ b∈X,b<w.heap.size) {m:Int} (h0:(aa.is (.int .i64 k)).holds X w v0) (h1:(aa.is (.int .i64 m)).holds X w v1) (hk: -9223372036854775808≤k∧k≤9223372036854775807) (hm: -9223372036854775808≤m∧m≤9223372036854775807) (hD:m≠0):
 Calls Tryz.prog 47 #[v0,v1] w (bj X w (.tup [.qc (Rat.divInt k m) 2, .is (.int .i64 0)])):=by
 refine cN (Ts:=[.is (.int .i64 k), .is (.int .i64 m)]) (vs:=[v0,v1]) Tryz.func47 rfl Tryz.ntmps47 qE hX ⟨h0,h1,trivial⟩ fun a h=> ?_
 clear h0 h1 hX
 simp only [eK,Nat.zero_add,Nat.reduceAdd] at h
 refine aB h ?_
 clear h
 repeat' first|kernel_rfl|apply Bt.mk|refine nx ?_|apply ae|refine d9 rfl ?_|exact iG|intro _
section
variable {w00:World} {N:Nat} {L:List Loc} {E:List (Nat×aa)} {d:Nat} {t0:TypeId} {pos:String} {af:Array Edge} {gd:Option (Nat×Bool)} {ats:Array TypeId}
theorem I6:aJ Tryz.prog 47:=fun _ _=>by kernel_rfl
theorem Jl{k0:Int} {k1:Int} [bD E o0 (.is (.int .i64 k0))] [bD E o1 (.is (.int .i64 k1))] (hk: -9223372036854775808≤k0∧k0≤9223372036854775807) (hm: -9223372036854775808≤k1∧k1≤9223372036854775807) (hD:k1≠0):
 au Tryz.prog w00 N L E ⟨some d, .call { callee:= .value (.func 47),args:= #[o0,o1],argTypes:=ats },t0,pos,af,gd⟩ (.tup [.qc (Rat.divInt k0 k1) 2, .is (.int .i64 0)]):=
 qi I6 fun X w v0 v1 hX _ _ h0 h1=>Jq hX h0 h1 hk hm hD
end
def b6 (L:Nat) (x:aR):Prop:=x.1.2.length≤L∧x.2.2.length≤L∧0<L
def aa.rq (L:Nat) (l:List aR):aa:=aa.rw Rp.frac (b6 L) l
instance {L:Nat} {x:aR}:mq (.el Rp.frac (b6 L) x) (qv x) L:=⟨fun ⟨y,h,g⟩=>⟨y,by rw [h.1];exact ⟨rfl,by rw [←h.1];exact h.2⟩,g⟩⟩
end Go.Proofs.YtpmhjieibebclaaGreatDoor
