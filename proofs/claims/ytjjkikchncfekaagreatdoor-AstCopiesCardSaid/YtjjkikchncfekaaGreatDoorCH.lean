/- Whole numbers and fractions in a typed walk: what slots hold; the structs of this program. -/
import Derived.Test.YtjjkikchncfekaaGreatDoorCG
import Derived.Test.YtjjkikchncfekaaGreatDoorCF
set_option maxHeartbeats 1000000
set_option maxRecDepth 20000
set_option linter.unusedSimpArgs false
set_option linter.unusedVariables false
namespace Go.Proofs.YtjjkikchncfekaaGreatDoor
open Go Go.RowKit
variable {w:World} {X:List Nat} {N M N0 D k:Int} {L K L0 n B:Nat} {v0 v1 v:Value} {o0 o1:Operand} {T0 T T1:aa}
def Rp.num:Rp eS:=Rp.pair Rp.bool Rp.limbs
def Rp.frac:Rp aP:=Rp.pair Rp.num Rp.num
theorem cC{S:Nat→Prop} {x:eS} {cs:List Value}:Rp.num.rd w S x cs↔∃ A n c,cs=[.bool x.1, .slice A n c]∧AY .u32 w S A n c x.2∧Dg 4294967296 x.2:=by
 constructor
 ·rintro ⟨c1,c2,rfl,rfl,A,n,c,rfl,h,d⟩
  exact ⟨A,n,c,rfl,h,d⟩
 ·rintro ⟨A,n,c,rfl,h,d⟩
  exact ⟨[.bool x.1],[.slice A n c],rfl,rfl,A,n,c,rfl,h,d⟩
def aa.na (N:Int) (L:Nat):aa:=aa.ex Rp.num fun x=>iv x=N∧x.2.length≤L
def aa.nc (N:Int) (L:Nat):aa:=aa.ex Rp.num fun x=>Whole N x.1 x.2∧(N.natAbs:Int)<4294967296^L
def aa.nx (x:eS) (L:Nat):aa:=aa.ex Rp.num fun y=>y=x∧x.2.length≤L
def aa.qa (q:Rat) (L:Nat):aa:=aa.ex Rp.frac fun x=>qv x=q∧x.1.2.length≤L∧x.2.2.length≤L∧0<L
def aa.qc (q:Rat) (L:Nat):aa:=aa.ex Rp.frac fun x=>ji q x∧Lq q L
def aa.qx (x:aP) (L:Nat):aa:=aa.ex Rp.frac fun y=>y=x∧x.1.2.length≤L∧x.2.2.length≤L∧0<L
def aa.nd (N D:Int) (L:Nat):aa:=aa.ex Rp.frac fun x=>Whole N x.1.1 x.1.2∧Whole D x.2.1 x.2.2∧(N.natAbs:Int)<4294967296^L∧(D.natAbs:Int)<4294967296^L
instance {N:Int} {L:Nat}:aJ (.na N L) 2 true:=inferInstanceAs (aJ (.ex Rp.num _) Rp.num.k true)
instance {N:Int} {L:Nat}:aJ (.nc N L) 2 true:=inferInstanceAs (aJ (.ex Rp.num _) Rp.num.k true)
instance {x:eS} {L:Nat}:aJ (.nx x L) 2 true:=inferInstanceAs (aJ (.ex Rp.num _) Rp.num.k true)
instance {q:Rat} {L:Nat}:aJ (.qa q L) 4 true:=inferInstanceAs (aJ (.ex Rp.frac _) Rp.frac.k true)
instance {q:Rat} {L:Nat}:aJ (.qc q L) 4 true:=inferInstanceAs (aJ (.ex Rp.frac _) Rp.frac.k true)
instance {x:aP} {L:Nat}:aJ (.qx x L) 4 true:=inferInstanceAs (aJ (.ex Rp.frac _) Rp.frac.k true)
instance {N D:Int} {L:Nat}:aJ (.nd N D L) 4 true:=inferInstanceAs (aJ (.ex Rp.frac _) Rp.frac.k true)
theorem ai.whole{k:Nat} (z:aJ T k true):ai T 0 k true T:=⟨(fun h=>by cases h),fun {X w v} h=>by
 obtain ⟨h1,_,h3,_⟩:=z.ok h
 refine ⟨v.cells.toList,by simpa using h1,fun j u hj=>by simpa using hj,fun u hu _=> ?_⟩
 rw [hu rfl]
 have:=h3 rfl
 rw [show (Value.agg v.cells.toList.toArray)=v by simpa using this.symm]
 exact h⟩
theorem ai.single(z:aJ T 1 false):ai T 0 1 false T:=⟨fun _=>rfl,fun {X w v} h=>by
 obtain ⟨h1,_,_,h4⟩:=z.ok h
 have e:=h4 rfl
 refine ⟨[v],rfl,fun j u hj=>by rw [e];simpa using hj,fun u _ hu=> ?_⟩
 have:=hu rfl
 simp at this
 rw [←this]
 exact h⟩
instance {N:Int} {L:Nat}:ai (.na N L) 0 2 true (.na N L):= .whole inferInstance
instance {N:Int} {L:Nat}:ai (.nc N L) 0 2 true (.nc N L):= .whole inferInstance
instance {x:eS} {L:Nat}:ai (.nx x L) 0 2 true (.nx x L):= .whole inferInstance
instance {q:Rat} {L:Nat}:ai (.qa q L) 0 4 true (.qa q L):= .whole inferInstance
instance {q:Rat} {L:Nat}:ai (.qc q L) 0 4 true (.qc q L):= .whole inferInstance
instance {x:aP} {L:Nat}:ai (.qx x L) 0 4 true (.qx x L):= .whole inferInstance
instance {N D:Int} {L:Nat}:ai (.nd N D L) 0 4 true (.nd N D L):= .whole inferInstance
theorem ai.fst {p:aP→Prop} {p':eS→Prop} (h:∀ x,p x→p' x.1):ai (.ex Rp.frac p) 0 2 true (.ex Rp.num p'):=⟨(fun h=>by cases h),fun {X w v} hv=>by
 obtain ⟨x,hp,cs,rfl,c1,c2,rfl,h1,h2⟩:=hv
 have hl:c1.length=2:=Rp.num.len h1
 refine ⟨c1,hl,fun j u hj=> ?_,fun u hu _=>⟨x.1,h x hp,c1,hu rfl,h1⟩⟩
 have hjl:=(List.getElem?_eq_some_iff.1 hj).1
 simp [Value.cells,List.getElem?_append_left hjl,hj]⟩
theorem ai.snd {p:aP→Prop} {p':eS→Prop} (h:∀ x,p x→p' x.2):ai (.ex Rp.frac p) 2 2 true (.ex Rp.num p'):=⟨(fun h=>by cases h),fun {X w v} hv=>by
 obtain ⟨x,hp,cs,rfl,c1,c2,rfl,h1,h2⟩:=hv
 have hl:c1.length=2:=Rp.num.len h1
 refine ⟨c2,Rp.num.len h2,fun j u hj=> ?_,fun u hu _=>⟨x.2,h x hp,c2,hu rfl,h2⟩⟩
 simp [Value.cells,List.getElem?_append_right (show c1.length≤2+j by omega),hl,hj]⟩
instance {q:Rat} {L:Nat}:ai (.qc q L) 0 2 true (.nc q.num L):= .fst fun _ h=>⟨h.1.num,h.2.1⟩
instance {q:Rat} {L:Nat}:ai (.qc q L) 2 2 true (.nc (q.den:Int) L):= .snd fun _ h=>⟨h.1.den,lW h.2⟩
instance {x:aP} {L:Nat}:ai (.qx x L) 0 2 true (.nx x.1 L):= .fst fun y h=>⟨by rw [h.1],h.2.1⟩
instance {x:aP} {L:Nat}:ai (.qx x L) 2 2 true (.nx x.2 L):= .snd fun y h=>⟨by rw [h.1],h.2.2.1⟩
class kX (T:aa) (N:outParam Int) (L:outParam Nat):Prop where
 ok:∀ {X w v},T.holds X w v→(aa.na N L).holds X w v
instance {N:Int} {L:Nat}:kX (.na N L) N L:=⟨fun h=>h⟩
instance {N:Int} {L:Nat}:kX (.nc N L) N L:=⟨fun ⟨x,h,g⟩=>⟨x,⟨h.1.val,h.1.len h.2⟩,g⟩⟩
instance {x:eS} {L:Nat}:kX (.nx x L) (iv x) L:=⟨fun ⟨y,h,g⟩=>⟨y,⟨by rw [h.1],by rw [h.1];exact h.2⟩,g⟩⟩
class tk (T:aa) (q:outParam Rat) (L:outParam Nat):Prop where
 ok:∀ {X w v},T.holds X w v→(aa.qa q L).holds X w v
instance {q:Rat} {L:Nat}:tk (.qa q L) q L:=⟨fun h=>h⟩
instance {q:Rat} {L:Nat}:tk (.qc q L) q L:=⟨fun ⟨x,h,g⟩=>⟨x,⟨h.1.val,(h.1.len h.2).1,(h.1.len h.2).2,h.2.pos⟩,g⟩⟩
instance {x:aP} {L:Nat}:tk (.qx x L) (qv x) L:=⟨fun ⟨y,h,g⟩=>⟨y,by rw [h.1];exact ⟨rfl,h.2⟩,g⟩⟩
theorem dw(h:(aa.na N L).holds X w v):∃ s A n c xs,v= .agg #[.bool s, .slice A n c]∧Sl .u32 w w.heap.size A n c xs∧Dg 4294967296 xs∧bq s xs=N∧n≤L:=by
 obtain ⟨x,⟨h1,h2⟩,cs,rfl,hr⟩:=h
 obtain ⟨A,n,c,rfl,hs,hd⟩:=cC.1 hr
 exact ⟨x.1,A,n,c,x.2,rfl,hs.1,hd,h1,by rw [←hs.1.len];exact h2⟩
theorem ww{w':World} {s:Bool} {A:Option Addr} {c:Nat} {ys:List Int} (hX:∀ b∈X,b<B) (h:Whole N s ys) (ho:bB .u32 117 w' B A n c ys) (hl:(N.natAbs:Int)<4294967296^L):(aa.nc N L).holds X w' (.agg #[.bool s, .slice A n c]):=by
 refine ⟨(s,ys),⟨h,hl⟩,[.bool s, .slice A n c],rfl,cC.2 ⟨A,n,c,rfl,⟨ho.sl,fun hn b hb=> ?_⟩,h.row.dg⟩⟩
 obtain ⟨g1,g2⟩:=ho.blk_ b hb
 exact ⟨g2,fun hx=>by have:=hX b hx;omega⟩
theorem dR.gives{w':World} {e:Ending} (h:dR w N e w') (hX:∀ b∈X,b<w.heap.size) (hl:(N.natAbs:Int)<4294967296^L):bL X w (.nc N L) e w':=by
 obtain ⟨s,ys,A,n,c,hW,rfl,ho,hb⟩:=h
 exact ⟨_,rfl,ww hX hW ho hl,hb⟩
instance:eP Tryz.prog 38 2 true:=⟨⟨_,Tryz.underlying38,rfl⟩,by kernel_rfl⟩
instance:eP Tryz.prog 40 4 true:=⟨⟨_,Tryz.underlying40,rfl⟩,by kernel_rfl⟩
instance:au Tryz.prog 40 0 0 2 true:=⟨⟨_,_,Tryz.underlying40,rfl,rfl,by kernel_rfl,by decide,_,Tryz.underlying38,rfl⟩⟩
instance:au Tryz.prog 40 1 2 2 true:=⟨⟨_,_,Tryz.underlying40,rfl,rfl,by kernel_rfl,by decide,_,Tryz.underlying38,rfl⟩⟩
instance:cH Tryz.prog 38 (.na 0 0):=⟨⟨.agg #[.bool false, .slice none 0 0],fun X w=>⟨(false,[]),⟨rfl,Nat.le_refl _⟩,[.bool false, .slice none 0 0],rfl,cC.2 ⟨none,0,0,rfl,⟨Sl.nil,fun h=>by omega⟩,Dg.nil⟩⟩,fun o ρ w ho=>by
 unfold execOp
 rw [ho]
 go_simp⟩⟩
def aa.q0:aa:=aa.ex Rp.frac fun x=>x=((false,[]),(false,[]))
instance:aJ .q0 4 true:=inferInstanceAs (aJ (.ex Rp.frac _) Rp.frac.k true)
instance:cH Tryz.prog 40 .q0:=⟨⟨.agg #[.bool false, .slice none 0 0, .bool false, .slice none 0 0],fun X w=>⟨_,rfl,[.bool false, .slice none 0 0]++[.bool false, .slice none 0 0],rfl,_,_,rfl,cC.2 ⟨none,0,0,rfl,⟨Sl.nil,fun h=>by omega⟩,Dg.nil⟩,cC.2 ⟨none,0,0,rfl,⟨Sl.nil,fun h=>by omega⟩,Dg.nil⟩⟩,fun o ρ w ho=>by
 unfold execOp
 rw [ho]
 go_simp⟩⟩
theorem fP(h:(aa.na N L).holds X w v):(N.natAbs:Int)<4294967296^L:=by
 obtain ⟨s,A,n,c,xs,_,hs,hd,e,hn⟩:=dw h
 have h1:((bq s xs).natAbs:Int)≤val 4294967296 xs:=by
  have h0:=ar (β:=4294967296) qD hd
  unfold bq dh
  cases kJ s xs<;>cases s<;>simp<;>omega
 have h2:=ci (β:=4294967296) qD hd
 have h3:=aX (β:=4294967296) qD (show xs.length≤L by rw [hs.len];exact hn)
 rw [e] at h1
 omega
theorem v9(hk: -9223372036854775808≤k∧k≤9223372036854775807):(k.natAbs:Int)<4294967296^2:=by
 have e:(4294967296:Int)^2=18446744073709551616:=by decide
 omega
theorem xq{m:Nat} (h1:(N.natAbs:Int)<4294967296^n) (h2:(M.natAbs:Int)<4294967296^m):((cG (N.natAbs:Int) (M.natAbs:Int)).natAbs:Int)<4294967296^(max n m):=by
 have h3:(4294967296:Int)^n≤4294967296^(max n m):=aX qD qO
 have h4:(4294967296:Int)^m≤4294967296^(max n m):=aX qD qO
 have e:(cG (N.natAbs:Int) (M.natAbs:Int)).natAbs=Nat.gcd N.natAbs M.natAbs:=by unfold cG;simp
 rw [e]
 rcases Nat.eq_zero_or_pos N.natAbs with h0|h0
 ·rw [h0,Nat.gcd_zero_left];omega
 ·have:=Nat.gcd_le_left M.natAbs h0;omega
theorem Fk (N:Int):dh (decide (N<0)) (N.natAbs:Int)=N:=by
 by_cases h:N<0
 ·rw [decide_eq_true h,cL];omega
 ·rw [decide_eq_false h,cM];omega
theorem x4 (s:Bool) (a:Int):(dh s a).natAbs=a.natAbs:=by cases s<;>simp [dh]
theorem uC(N:Int) (hM:M≠0):(N.fdiv M).natAbs≤N.natAbs+1∧(N.fmod M).natAbs<M.natAbs:=by
 have hU:0<(M.natAbs:Int):=qO
 obtain ⟨k1,k2⟩:=nY (s:=decide (N<0)) (t:=decide (M<0)) (V:=(N.natAbs:Int)) hU
 rw [Fk,Fk] at k1 k2
 have h1:=Int.emod_nonneg (N.natAbs:Int) (show (M.natAbs:Int)≠0 by omega)
 have h2:=Int.emod_lt_of_pos (N.natAbs:Int) hU
 have h3:=Int.ediv_nonneg (show (0:Int)≤(N.natAbs:Int) by omega) (Int.le_of_lt hU)
 have h4:=Int.ediv_le_self (a:=(N.natAbs:Int)) (M.natAbs:Int) qO
 generalize (N.natAbs:Int)%(M.natAbs:Int)=r at*
 generalize (N.natAbs:Int) / (M.natAbs:Int)=q at*
 by_cases hd:((decide (N<0)) != (decide (M<0)))=true∧r≠0
 ·obtain ⟨e1,e2⟩:=k2 hd
  rw [e1,e2,x4,x4]
  have:=hd.2
  omega
 ·have hor:((decide (N<0)) != (decide (M<0)))=false∨r=0:=by
   by_cases h0:r=0
   ·exact .inr h0
   ·refine .inl ?_
    cases hb:((decide (N<0)) != (decide (M<0))) with
    |false=>rfl
    |true=>exact absurd ⟨hb,h0⟩ hd
  obtain ⟨e1,e2⟩:=k1 hor
  rw [e1,e2,x4,x4]
  omega
theorem tB(h1:(N.natAbs:Int)<4294967296^n) (hM:M≠0):((N.fdiv M).natAbs:Int)<4294967296^(n+1):=by
 have h2:=(uC N hM).1
 have p:=aL (show (0:Int)<4294967296 by decide) n
 rw [Int.pow_succ]
 omega
theorem tQ(h1:(M.natAbs:Int)<4294967296^n) (hM:M≠0):((N.fmod M).natAbs:Int)<4294967296^n:=by
 have h2:=(uC N hM).2
 omega
section
variable {w00:World} {N:Nat} {L:List Loc} {E:List (Nat×aa)} {d:Nat} {t0:TypeId} {pos:String} {af:Array Edge} {gd:Option (Nat×Bool)} {ats:Array TypeId}
theorem Hk:a7 Tryz.prog 121:=fun _ _=>by kernel_rfl
theorem Gn{N:Int} {L:Nat} (hX:∀ b∈X,b<w.heap.size) (h0:(aa.na N L).holds X w v0) (h1:(aa.na M K).holds X w v1) (hb:L≤1000∧K≤1000):Calls Tryz.prog 121 #[v0,v1] w (bL X w (.nc (cG (N.natAbs:Int) (M.natAbs:Int)) (max L K))):=by
 have l0:=fP h0
 have l1:=fP h1
 obtain ⟨s,A,n,c,xs,rfl,s0,d0,e0,n0⟩:=dw h0
 obtain ⟨t,A2,m,c2,ys,rfl,s1,d1,e1,n1⟩:=dw h1
 have:=AF (s:=s) (t:=t) s0 s1 (Nat.le_refl _) d0 d1 qO qO
 rw [e0,e1] at this
 exact this.mono fun e w' h=>h.gives hX (xq l0 l1)
theorem FO[cb E o0 T0] [a0:kX T0 N0 L0] [cb E o1 T1] [a1:kX T1 M K] (hb:L0≤1000∧K≤1000):
 ay Tryz.prog w00 N L E ⟨some d, .call { callee:= .value (.func 121),args:= #[o0,o1],argTypes:=ats },t0,pos,af,gd⟩ (.nc (cG (N0.natAbs:Int) (M.natAbs:Int)) (max L0 K)):=
 xC Hk fun X w v0 v1 hX _ _ h0 h1=>Gn hX (a0.ok h0) (a1.ok h1) hb
theorem G0:a7 Tryz.prog 120:=fun _ _=>by kernel_rfl
theorem GP{N:Int} {L:Nat} (hX:∀ b∈X,b<w.heap.size) (h0:(aa.na N L).holds X w v0) (hb:L≤1000):Calls Tryz.prog 120 #[v0] w (bL X w (.nc (-N) (L))):=by
 have l0:=fP h0
 obtain ⟨s,A,n,c,xs,rfl,s0,d0,e0,n0⟩:=dw h0
 have:=uw (s:=s) s0 (Nat.le_refl _) d0 qO
 rw [e0] at this
 exact this.mono fun e w' h=>h.gives hX (v8 l0)
theorem Gs[cb E o0 T0] [a0:kX T0 N0 L0] (hb:L0≤1000):
 ay Tryz.prog w00 N L E ⟨some d, .call { callee:= .value (.func 120),args:= #[o0],argTypes:=ats },t0,pos,af,gd⟩ (.nc (-N0) (L0)):=
 tC G0 fun X w v0 hX _ _ h0=>GP hX (a0.ok h0) hb
theorem EO:a7 Tryz.prog 118:=fun _ _=>by kernel_rfl
theorem EE{N:Int} {L:Nat} (h0:(aa.na N L).holds X w v0) (hb:L≤1000):Calls Tryz.prog 118 #[v0] w (bL X w (.is (.int .i64 (cF N 0)))):=by
 obtain ⟨s,A,n,c,xs,rfl,s0,d0,e0,n0⟩:=dw h0
 have:=li (s:=s) s0 (Nat.le_refl _) d0 qO
 rw [e0] at this
 refine this.mono ?_
 rintro e w' ⟨rfl,hb⟩
 exact ⟨_,rfl,rfl,hb⟩
theorem Dd[cb E o0 T0] [a0:kX T0 N0 L0] (hb:L0≤1000):
 ay Tryz.prog w00 N L E ⟨some d, .call { callee:= .value (.func 118),args:= #[o0],argTypes:=ats },t0,pos,af,gd⟩ (.is (.int .i64 (cF N0 0))):=
 tC EO fun X w v0 hX _ _ h0=>EE (a0.ok h0) hb
theorem I0:a7 Tryz.prog 59:=fun _ _=>by kernel_rfl
theorem Io[cb E o0 (.is (.int .i64 k))] (hk: -9223372036854775808≤k∧k≤9223372036854775807):
 ay Tryz.prog w00 N L E ⟨some d, .call { callee:= .value (.func 59),args:= #[o0],argTypes:=ats },t0,pos,af,gd⟩ (.nc k 2):=
 tC I0 fun X w v0 hX _ _ h0=>by
  obtain rfl:v0=_:=h0
  exact (xm hk).mono fun e w' h=>h.gives hX (v9 hk)
theorem Ht:a7 Tryz.prog 122:=fun _ _=>by kernel_rfl
theorem FL{N:Int} {L:Nat} (hX:∀ b∈X,b<w.heap.size) (h0:(aa.na N L).holds X w v0) (h1:(aa.na M K).holds X w v1) (hb:L≤1000∧K≤1000) (hM:M≠0):Calls Tryz.prog 122 #[v0,v1] w (bL X w (.tup [.nc (N.fdiv M) (L+1), .nc (N.fmod M) K, .is (.int .i64 0)])):=by
 have l0:=tB (fP h0) hM
 have l1:=tQ (N:=N) (fP h1) hM
 obtain ⟨s,A,n,c,xs,rfl,s0,d0,e0,n0⟩:=dw h0
 obtain ⟨t,A2,m,c2,ys,rfl,s1,d1,e1,n1⟩:=dw h1
 have:=BG (s:=s) (t:=t) s0 s1 (Nat.le_refl _) d0 d1 qO qO
 rw [e0,e1] at this
 refine this.mono ?_
 rintro e w' (⟨hz,_⟩|⟨_,s1,qs,s2,rs,A1,n1,c1,A2,n2,c2,rfl,hq,hr,o1,o2,hb⟩)
 ·exact absurd hz hM
 ·exact ⟨_,rfl,⟨[_,_,_],rfl,ww hX hq o1 l0,ww hX hr o2 l1,rfl,trivial⟩,hb⟩
theorem FZ[cb E o0 T0] [a0:kX T0 N0 L0] [cb E o1 T1] [a1:kX T1 M K] (hb:L0≤1000∧K≤1000) (hM:M≠0):
 ay Tryz.prog w00 N L E ⟨some d, .call { callee:= .value (.func 122),args:= #[o0,o1],argTypes:=ats },t0,pos,af,gd⟩ (.tup [.nc (N0.fdiv M) (L0+1), .nc (N0.fmod M) K, .is (.int .i64 0)]):=
 xC Ht fun X w v0 v1 hX _ _ h0 h1=>FL hX (a0.ok h0) (a1.ok h1) hb hM
end
def Hi (B:Nat) (X:List Nat) (w:World) (b:Nat):Prop:=bt X w b∧B≤b∧∃ cs,w.heap[b]? =some (.cells cs 117 (0,0))
def aa.nw (p:aP→Prop) (B:Nat):aa:=⟨fun X w v=>∃ x,p x∧∃ cs:List Value,v= .agg cs.toArray∧Rp.frac.rd w (Hi B X w) x cs,fun ⟨x,hp,cs,e,h⟩ hk hX=>⟨x,hp,cs,e,Rp.frac.more (Rp.frac.keep h (fun b hb=>hk.block b hb.1.1 hb.1.2)) (fun b hb=>by
 obtain ⟨h1,h2,c,h3⟩:=hb
 exact ⟨bt.mono hk hX b h1,h2,c,(hk.block b h1.1 h1.2).trans h3⟩)⟩⟩
def aa.qn (q:Rat) (L B:Nat):aa:=aa.nw (fun x=>ji q x∧Lq q L) B
def aa.qg (q:Rat) (L B:Nat):aa:=aa.nw (fun x=>qv x=q∧x.1.2.length≤L∧x.2.2.length≤L∧0<L) B
theorem nr{p:aP→Prop} (h:(aa.nw p B).holds X w v):(aa.ex Rp.frac p).holds X w v:=by
 obtain ⟨x,hp,cs,e,h⟩:=h
 exact ⟨x,hp,cs,e,Rp.frac.more h (fun b hb=>hb.1)⟩
theorem qC{p:aP→Prop} {B':Nat} (h:(aa.nw p B).holds X w v) (hB:B'≤B):(aa.nw p B').holds X w v:=by
 obtain ⟨x,hp,cs,e,h⟩:=h
 exact ⟨x,hp,cs,e,Rp.frac.more h (fun b hb=>⟨hb.1,Nat.le_trans hB hb.2.1,hb.2.2⟩)⟩
instance {p:aP→Prop} {B:Nat}:aJ (.nw p B) 4 true:=⟨fun h=>(inferInstance:aJ (.ex Rp.frac p) Rp.frac.k true).ok (nr h)⟩
instance {q:Rat} {L B:Nat}:aJ (.qn q L B) 4 true:=inferInstanceAs (aJ (.nw _ _) 4 true)
instance {q:Rat} {L B:Nat}:aJ (.qg q L B) 4 true:=inferInstanceAs (aJ (.nw _ _) 4 true)
instance {q:Rat} {L B:Nat}:ai (.qn q L B) 0 4 true (.qn q L B):= .whole inferInstance
instance {q:Rat} {L B:Nat}:ai (.qg q L B) 0 4 true (.qg q L B):= .whole inferInstance
instance {q:Rat} {L B:Nat}:tk (.qn q L B) q L:=⟨fun h=>(inferInstance:tk (.qc q L) q L).ok (nr h)⟩
instance {q:Rat} {L B:Nat}:tk (.qg q L B) q L:=⟨fun h=>nr h⟩
theorem It{x:aP} (hq:oJ x=true) (h:(aa.qx x L).holds X w v):(aa.qc (qv x) L).holds X w v:=by
 obtain ⟨y,⟨rfl,h1,h2,h3⟩,cs,e,c1,c2,e2,g1,g2⟩:=h
 obtain ⟨_,_,_,_,_,d1⟩:=cC.1 g1
 obtain ⟨_,_,_,_,_,d2⟩:=cC.1 g2
 have hf:=(ji.of d1 d2 hq).1
 exact ⟨y,⟨hf,Lq.of hf h1 h2⟩,cs,e,c1,c2,e2,g1,g2⟩
theorem xQ{q:Rat} {M:Nat} (hN:q.num=N) (hD:(q.den:Int)=D) (hL:Lq q M) (v:Value) (h:(aa.nd N D L).holds X w v):(aa.qc q M).holds X w v:=by
 obtain ⟨x,⟨h1,h2,_,_⟩,g⟩:=h
 exact ⟨x,⟨⟨by rw [hN];exact h1,by rw [hD];exact h2⟩,hL⟩,g⟩
theorem H_{p q:Rat} {M:Nat} (hq:p=q) (hL:Lq q M) (v:Value) (h:(aa.qc p L).holds X w v):(aa.qc q M).holds X w v:=by
 obtain ⟨x,⟨h1,_⟩,g⟩:=h
 exact ⟨x,⟨by rw [←hq];exact h1,hL⟩,g⟩
theorem Bf{a b:Value} (h:a=b) (v:Value) (hv:(aa.is a).holds X w v):(aa.is b).holds X w v:=by
 rw [←h];exact hv
theorem pa{T' U U':aa} (h1:∀ v,T.holds X w v→T'.holds X w v) (h2:∀ v,U.holds X w v→U'.holds X w v) (v:Value) (h:(aa.tup [T,U]).holds X w v):(aa.tup [T',U']).holds X w v:=by
 obtain ⟨vs,e,h⟩:=h
 match vs,h with
 |[a,b],⟨g1,g2,_⟩=>exact ⟨[a,b],e,h1 _ g1,h2 _ g2,trivial⟩
section
variable {w00:World} {N:Nat} {L:List Loc} {E:List (Nat×aa)} {d:Nat} {t0:TypeId} {pos:String} {af:Array Edge} {gd:Option (Nat×Bool)} {ats:Array TypeId}
theorem zX{D0:Int} {K0:Nat} [h0:cb E o0 (.nc N0 L0)] [h1:cb E o1 (.nc D0 K0)]:ay Tryz.prog w00 N L E ⟨some d, .build 40 #[(0,o0),(1,o1)],t0,pos,af,gd⟩ (.nd N0 D0 (max L0 K0)):=by
 constructor
 intro X ρ w hc _ hN hm hsl
 obtain ⟨x,⟨a1,a2⟩,cs,e0,g0⟩:=h0.get (X:=X) (w:=w) hc fun p hp e=>hsl p hp qS
 obtain ⟨y,⟨b1,b2⟩,ds,e1,g1⟩:=h1.get (X:=X) (w:=w) hc fun p hp e=>hsl p hp qS
 obtain ⟨A,n,c,rfl,_⟩:=cC.1 g0
 obtain ⟨A2,n2,c2,rfl,_⟩:=cC.1 g1
 have hT:(aa.nd N0 D0 (max L0 K0)).holds X w (.agg #[.bool x.1, .slice A n c, .bool y.1, .slice A2 n2 c2]):=
  ⟨(x,y),⟨a1,b1,Int.lt_of_lt_of_le a2 (aX qD qO),Int.lt_of_lt_of_le b2 (aX qD qO)⟩,[.bool x.1, .slice A n c]++[.bool y.1, .slice A2 n2 c2],rfl,_,_,rfl,g0,g1⟩
 have HT:=Lib.hid hT
 clear hT hsl hm hc a1 a2 b1 b2 g0 g1 h0 h1
 unfold Yields
 go_simp
 exact ⟨HT.out,Below.refl _ _⟩
end
section
variable {w00:World} {N:Nat} {L:List Loc} {E:List (Nat×aa)} {d:Nat} {t0:TypeId} {pos:String} {af:Array Edge} {gd:Option (Nat×Bool)} {ats:Array TypeId}
end
section
variable {w00:World} {N:Nat} {L:List Loc} {E:List (Nat×aa)} {d:Nat} {t0:TypeId} {pos:String} {af:Array Edge} {gd:Option (Nat×Bool)} {ats:Array TypeId}
end
section
variable {w00:World} {N:Nat} {L:List Loc} {E:List (Nat×aa)} {d:Nat} {t0:TypeId} {pos:String} {af:Array Edge} {gd:Option (Nat×Bool)} {ats:Array TypeId}
end
theorem DI {p:Prop} (h:p:=by first|exact cZ|exact cQ|exact c_|exact iX|exact mO (by first|assumption|rfl)|exact iY (by first|assumption|rfl)|exact dc|exact Io (by omega)|exact FO (by omega)|exact Gs (by omega)|exact Dd (by omega)|exact FZ (by omega) (by omega)|exact zX|exact E6|exact Cv.rfl'):p:=h
theorem Ej(hX:∀ b∈X,b<w.heap.size):Calls Tryz.prog 119 #[] w (bL X w (.qc 0 1)):=by
 refine jB (Ts:=[]) (vs:=[]) Tryz.func119 rfl Tryz.ntmps119 qE hX trivial fun a h=> ?_
 clear hX
 simp only [iq] at h
 refine aB h ?_
 clear h
 repeat' first|kernel_rfl|apply Bt.mk|refine nx ?_|apply ae|refine bc rfl ?_|exact ⟨fun _ _=>(xQ rfl rfl Lq.zero)⟩|exact DI|intro _
section
variable {w00:World} {N:Nat} {L:List Loc} {E:List (Nat×aa)} {d:Nat} {t0:TypeId} {pos:String} {af:Array Edge} {gd:Option (Nat×Bool)} {ats:Array TypeId}
theorem Dy:a7 Tryz.prog 119:=fun _ _=>by kernel_rfl
theorem E6:ay Tryz.prog w00 N L E ⟨some d, .call { callee:= .value (.func 119),args:= #[],argTypes:=ats },t0,pos,af,gd⟩ (.qc 0 1):=JQ Dy fun X w hX _ _=>Ej hX
end
section
variable {w00:World} {N:Nat} {L:List Loc} {E:List (Nat×aa)} {d:Nat} {t0:TypeId} {pos:String} {af:Array Edge} {gd:Option (Nat×Bool)} {ats:Array TypeId}
end
theorem rk(hD:0<D):0<cG (N.natAbs:Int) (D.natAbs:Int)∧(Rat.divInt N D).num=N.fdiv (cG (N.natAbs:Int) (D.natAbs:Int))∧((Rat.divInt N D).den:Int)=D.fdiv (cG (N.natAbs:Int) (D.natAbs:Int)):=by
 rw [kS]
 have h1:(Int.gcd N D:Int)∣N:=Int.gcd_dvd_left ..
 have h2:(Int.gcd N D:Int)∣D:=Int.gcd_dvd_right ..
 have hg:0<Int.gcd N D:=Int.gcd_pos_of_ne_zero_right _ qO
 have h3:Int.gcd (N / Int.gcd N D) (D / Int.gcd N D)=1:=Int.gcd_ediv_gcd_ediv_gcd hg
 have hg0:(0:Int)<(Int.gcd N D:Int):=qO
 rw [Int.fdiv_eq_ediv_of_nonneg _ (Int.le_of_lt hg0),Int.fdiv_eq_ediv_of_nonneg _ (Int.le_of_lt hg0)]
 obtain ⟨e1,e2⟩:=mi (n:=N) (d:=D) (Int.ediv_mul_cancel h1).symm (Int.ediv_mul_cancel h2).symm qO (Int.ediv_pos_of_pos_of_dvd hD qO h2) h3
 exact ⟨hg0,e1,e2⟩
theorem Du (N D:Int):Rat.divInt (-N) (-D)=Rat.divInt N D:=Rat.neg_divInt_neg ..
theorem CX(hX:∀ b∈X,b<w.heap.size) (h0:(aa.na N L).holds X w v0) (h1:(aa.na D K).holds X w v1) (hb:L≤1000∧K≤1000) (hD:0<D):
 Calls Tryz.prog 58 #[v0,v1] w (bL X w (.tup [.qc (Rat.divInt N D) (max L K), .is (.int .i64 0)])):=by
 have l0:=fP h0
 have l1:=fP h1
 have hK:0<K:=by
  rcases Nat.eq_zero_or_pos K with h|h
  ·subst h
   simp at l1
   omega
  ·exact h
 have hL:Lq (Rat.divInt N D) (max L K):=Lq.divInt (Int.lt_of_lt_of_le l0 (aX qD qO)) (Int.lt_of_lt_of_le l1 (aX qD qO)) qO
 clear l0 l1
 have hz:(cF D 0==0)=false:=by rw [gJ hD];rfl
 have hs:decide (cF D 0<0)=false:=by rw [gJ hD];rfl
 obtain ⟨e1,e2,e3⟩:=rk (N:=N) hD
 refine jB (Ts:=[.na N L, .na D K]) (vs:=[v0,v1]) Tryz.func58 rfl Tryz.ntmps58 qE hX ⟨h0,h1,trivial⟩ fun a h=> ?_
 clear h0 h1 hX
 simp only [iq,Nat.zero_add,Nat.reduceAdd] at h
 refine aB h ?_
 clear h
 repeat' first|kernel_rfl|apply Bt.mk|refine nx ?_|apply ae|refine eU rfl ?_|exact ⟨fun _ _=>(pa (xQ e2 e3 hL) fun _ h=>h)⟩|exact DI|intro _
theorem EN(hX:∀ b∈X,b<w.heap.size) (h0:(aa.na N L).holds X w v0) (h1:(aa.na D K).holds X w v1) (hb:L≤1000∧K≤1000) (hD:D<0):
 Calls Tryz.prog 58 #[v0,v1] w (bL X w (.tup [.qc (Rat.divInt N D) (max L K), .is (.int .i64 0)])):=by
 have l0:=fP h0
 have l1:=fP h1
 have hK:0<K:=by
  rcases Nat.eq_zero_or_pos K with h|h
  ·subst h
   simp at l1
   omega
  ·exact h
 have hL:Lq (Rat.divInt N D) (max L K):=Lq.divInt (Int.lt_of_lt_of_le l0 (aX qD qO)) (Int.lt_of_lt_of_le l1 (aX qD qO)) qO
 clear l0 l1
 have hz:(cF D 0==0)=false:=by rw [ek hD];rfl
 have hs:decide (cF D 0<0)=true:=by rw [ek hD];rfl
 obtain ⟨e1,e2,e3⟩:=rk (N:= -N) (D:= -D) qO
 rw [Du] at e2 e3
 refine jB (Ts:=[.na N L, .na D K]) (vs:=[v0,v1]) Tryz.func58 rfl Tryz.ntmps58 qE hX ⟨h0,h1,trivial⟩ fun a h=> ?_
 clear h0 h1 hX
 simp only [iq,Nat.zero_add,Nat.reduceAdd] at h
 refine aB h ?_
 clear h
 repeat' first|kernel_rfl|apply Bt.mk|refine nx ?_|apply ae|refine eU rfl ?_|exact ⟨fun _ _=>(pa (xQ e2 e3 hL) fun _ h=>h)⟩|exact DI|intro _
theorem Hm(hX:∀ b∈X,b<w.heap.size) (h0:(aa.na N L).holds X w v0) (h1:(aa.na D K).holds X w v1) (hb:L≤1000∧K≤1000) (hD:D≠0):
 Calls Tryz.prog 58 #[v0,v1] w (bL X w (.tup [.qc (Rat.divInt N D) (max L K), .is (.int .i64 0)])):=by
 rcases Int.lt_or_gt_of_ne hD with h|h
 ·exact EN hX h0 h1 hb h
 ·exact CX hX h0 h1 hb h
section
variable {w00:World} {N:Nat} {L:List Loc} {E:List (Nat×aa)} {d:Nat} {t0:TypeId} {pos:String} {af:Array Edge} {gd:Option (Nat×Bool)} {ats:Array TypeId}
theorem Gv:a7 Tryz.prog 58:=fun _ _=>by kernel_rfl
theorem GO{M0:Int} {K0:Nat} [cb E o0 T0] [a0:kX T0 N0 L0] [cb E o1 T1] [a1:kX T1 M0 K0] (hb:L0≤1000∧K0≤1000) (hD:M0≠0):
 ay Tryz.prog w00 N L E ⟨some d, .call { callee:= .value (.func 58),args:= #[o0,o1],argTypes:=ats },t0,pos,af,gd⟩ (.tup [.qc (Rat.divInt N0 M0) (max L0 K0), .is (.int .i64 0)]):=
 xC Gv fun X w v0 v1 hX _ _ h0 h1=>Hm hX (a0.ok h0) (a1.ok h1) hb hD
end
section
variable {w00:World} {N:Nat} {L:List Loc} {E:List (Nat×aa)} {d:Nat} {t0:TypeId} {pos:String} {af:Array Edge} {gd:Option (Nat×Bool)} {ats:Array TypeId}
end
section
variable {w00:World} {N:Nat} {L:List Loc} {E:List (Nat×aa)} {d:Nat} {t0:TypeId} {pos:String} {af:Array Edge} {gd:Option (Nat×Bool)} {ats:Array TypeId}
end
section
variable {w00:World} {N:Nat} {L:List Loc} {E:List (Nat×aa)} {d:Nat} {t0:TypeId} {pos:String} {af:Array Edge} {gd:Option (Nat×Bool)} {ats:Array TypeId}
end
section
variable {w00:World} {N:Nat} {L:List Loc} {E:List (Nat×aa)} {d:Nat} {t0:TypeId} {pos:String} {af:Array Edge} {gd:Option (Nat×Bool)} {ats:Array TypeId}
end
section
variable {w00:World} {N:Nat} {L:List Loc} {E:List (Nat×aa)} {d:Nat} {t0:TypeId} {pos:String} {af:Array Edge} {gd:Option (Nat×Bool)} {ats:Array TypeId}
end
section
variable {w00:World} {N:Nat} {L:List Loc} {E:List (Nat×aa)} {d:Nat} {t0:TypeId} {pos:String} {af:Array Edge} {gd:Option (Nat×Bool)} {ats:Array TypeId}
end
section
variable {w00:World} {N:Nat} {L:List Loc} {E:List (Nat×aa)} {d:Nat} {t0:TypeId} {pos:String} {af:Array Edge} {gd:Option (Nat×Bool)} {ats:Array TypeId}
end
section
variable {w00:World} {N:Nat} {L:List Loc} {E:List (Nat×aa)} {d:Nat} {t0:TypeId} {pos:String} {af:Array Edge} {gd:Option (Nat×Bool)} {ats:Array TypeId}
end
section
variable {w00:World} {N:Nat} {L:List Loc} {E:List (Nat×aa)} {d:Nat} {t0:TypeId} {pos:String} {af:Array Edge} {gd:Option (Nat×Bool)} {ats:Array TypeId}
end
section
variable {w00:World} {N:Nat} {L:List Loc} {E:List (Nat×aa)} {d:Nat} {t0:TypeId} {pos:String} {af:Array Edge} {gd:Option (Nat×Bool)} {ats:Array TypeId}
end
theorem Lq.whole(hk: -9223372036854775808≤k∧k≤9223372036854775807):Lq (k:Rat) 2:=⟨v9 hk,by rw [show ((k:Rat).den:Int)=1 from rfl];decide⟩
section
variable {w00:World} {N:Nat} {L:List Loc} {E:List (Nat×aa)} {d:Nat} {t0:TypeId} {pos:String} {af:Array Edge} {gd:Option (Nat×Bool)} {ats:Array TypeId}
end
theorem I4(hX:∀ b∈X,b<w.heap.size) {m:Int} (h0:(aa.is (.int .i64 k)).holds X w v0) (h1:(aa.is (.int .i64 m)).holds X w v1) (hk: -9223372036854775808≤k∧k≤9223372036854775807) (hm: -9223372036854775808≤m∧m≤9223372036854775807) (hD:m≠0):
 Calls Tryz.prog 16 #[v0,v1] w (bL X w (.tup [.qc (Rat.divInt k m) 2, .is (.int .i64 0)])):=by
 refine jB (Ts:=[.is (.int .i64 k), .is (.int .i64 m)]) (vs:=[v0,v1]) Tryz.func16 rfl Tryz.ntmps16 qE hX ⟨h0,h1,trivial⟩ fun a h=> ?_
 clear h0 h1 hX
 simp only [iq,Nat.zero_add,Nat.reduceAdd] at h
 refine aB h ?_
 clear h
 repeat' first|kernel_rfl|apply Bt.mk|refine nx ?_|apply ae|refine eU rfl ?_|exact GO qO hD|exact DI|intro _
section
variable {w00:World} {N:Nat} {L:List Loc} {E:List (Nat×aa)} {d:Nat} {t0:TypeId} {pos:String} {af:Array Edge} {gd:Option (Nat×Bool)} {ats:Array TypeId}
theorem Iz:a7 Tryz.prog 16:=fun _ _=>by kernel_rfl
theorem IZ{k0:Int} {k1:Int} [cb E o0 (.is (.int .i64 k0))] [cb E o1 (.is (.int .i64 k1))] (hk: -9223372036854775808≤k0∧k0≤9223372036854775807) (hm: -9223372036854775808≤k1∧k1≤9223372036854775807) (hD:k1≠0):
 ay Tryz.prog w00 N L E ⟨some d, .call { callee:= .value (.func 16),args:= #[o0,o1],argTypes:=ats },t0,pos,af,gd⟩ (.tup [.qc (Rat.divInt k0 k1) 2, .is (.int .i64 0)]):=
 xC Iz fun X w v0 v1 hX _ _ h0 h1=>I4 hX h0 h1 hk hm hD
end
def cD (L:Nat) (x:aP):Prop:=x.1.2.length≤L∧x.2.2.length≤L∧0<L
def aa.rq (L:Nat) (l:List aP):aa:=aa.rw Rp.frac (cD L) l
instance {L:Nat} {x:aP}:tk (.el Rp.frac (cD L) x) (qv x) L:=⟨fun ⟨y,h,g⟩=>⟨y,by rw [h.1];exact ⟨rfl,by rw [←h.1];exact h.2⟩,g⟩⟩
end Go.Proofs.YtjjkikchncfekaaGreatDoor
