/- Whole numbers and fractions in a typed walk: what slots hold; the structs of this program. -/
import Derived.Test.YtfepenpngklogaaGreatDoorGG
import Derived.Test.YtfepenpngklogaaGreatDoorGF
set_option maxHeartbeats 1000000
set_option maxRecDepth 20000
set_option linter.unusedSimpArgs false
set_option linter.unusedVariables false
namespace Go.Proofs.YtfepenpngklogaaGreatDoor
open Go Go.RowKit
variable {w:World} {X:List Nat} {o0 o1:Operand} {L L0 K K0 n B:Nat} {v0 v1 v:Value} {T0 T1 T:VTy} {p q:Rat} {M N N0 D k M0:Int} {x:RawQ} {u:Bool}
def Rp.num:Rp RawI:=Rp.pair Rp.bool Rp.limbs
def Rp.frac:Rp RawQ:=Rp.pair Rp.num Rp.num
theorem num_rd{S:Nat→Prop} {x:RawI} {cs:List Value}:Rp.num.rd w S x cs↔∃ A n c,cs=[.bool x.1, .slice A n c]∧SlF .u32 w S A n c x.2∧Dg 4294967296 x.2:=by
 constructor
 ·rintro ⟨c1,c2,rfl,rfl,A,n,c,rfl,h,d⟩
  exact ⟨A,n,c,rfl,h,d⟩
 ·rintro ⟨A,n,c,rfl,h,d⟩
  exact ⟨[.bool x.1],[.slice A n c],rfl,rfl,A,n,c,rfl,h,d⟩
theorem frac_rd{S:Nat→Prop} {cs:List Value}:Rp.frac.rd w S x cs↔∃ c1 c2,cs=c1++c2∧Rp.num.rd w S x.1 c1∧Rp.num.rd w S x.2 c2:=Iff.rfl
def VTy.na (N:Int) (L:Nat):VTy:=VTy.ex Rp.num fun x=>iv x=N∧x.2.length≤L
def VTy.nc (N:Int) (L:Nat):VTy:=VTy.ex Rp.num fun x=>Whole N x.1 x.2∧(N.natAbs:Int)<4294967296^L
def VTy.nx (x:RawI) (L:Nat):VTy:=VTy.ex Rp.num fun y=>y=x∧x.2.length≤L
def VTy.qa (q:Rat) (L:Nat):VTy:=VTy.ex Rp.frac fun x=>qv x=q∧x.1.2.length≤L∧x.2.2.length≤L∧0<L
def VTy.qc (q:Rat) (L:Nat):VTy:=VTy.ex Rp.frac fun x=>Frac q x∧Lq q L
def VTy.qx (x:RawQ) (L:Nat):VTy:=VTy.ex Rp.frac fun y=>y=x∧x.1.2.length≤L∧x.2.2.length≤L∧0<L
def VTy.nd (N D:Int) (L:Nat):VTy:=VTy.ex Rp.frac fun x=>Whole N x.1.1 x.1.2∧Whole D x.2.1 x.2.2∧(N.natAbs:Int)<4294967296^L∧(D.natAbs:Int)<4294967296^L
instance {N:Int} {L:Nat}:SizeV (.na N L) 2 true:=inferInstanceAs (SizeV (.ex Rp.num _) Rp.num.k true)
instance {N:Int} {L:Nat}:SizeV (.nc N L) 2 true:=inferInstanceAs (SizeV (.ex Rp.num _) Rp.num.k true)
instance {x:RawI} {L:Nat}:SizeV (.nx x L) 2 true:=inferInstanceAs (SizeV (.ex Rp.num _) Rp.num.k true)
instance {q:Rat} {L:Nat}:SizeV (.qa q L) 4 true:=inferInstanceAs (SizeV (.ex Rp.frac _) Rp.frac.k true)
instance {q:Rat} {L:Nat}:SizeV (.qc q L) 4 true:=inferInstanceAs (SizeV (.ex Rp.frac _) Rp.frac.k true)
instance {x:RawQ} {L:Nat}:SizeV (.qx x L) 4 true:=inferInstanceAs (SizeV (.ex Rp.frac _) Rp.frac.k true)
instance {N D:Int} {L:Nat}:SizeV (.nd N D L) 4 true:=inferInstanceAs (SizeV (.ex Rp.frac _) Rp.frac.k true)
theorem PartC.whole{k:Nat} (z:SizeV T k true):PartC T 0 k true T:=⟨(fun h=>by cases h),fun {X w v} h=>by
 obtain ⟨h1,_,h3,_⟩:=z.ok h
 refine ⟨v.cells.toList,by simpa using h1,fun j u hj=>by simpa using hj,fun u hu _=> ?_⟩
 rw [hu rfl]
 have:=h3 rfl
 rw [show (Value.agg v.cells.toList.toArray)=v by simpa using this.symm]
 exact h⟩
theorem PartC.single(z:SizeV T 1 false):PartC T 0 1 false T:=⟨fun _=>rfl,fun {X w v} h=>by
 obtain ⟨h1,_,_,h4⟩:=z.ok h
 have e:=h4 rfl
 refine ⟨[v],rfl,fun j u hj=>by rw [e];simpa using hj,fun u _ hu=> ?_⟩
 have:=hu rfl
 simp at this
 rw [←this]
 exact h⟩
instance {N:Int} {L:Nat}:PartC (.na N L) 0 2 true (.na N L):= .whole inferInstance
instance {N:Int} {L:Nat}:PartC (.nc N L) 0 2 true (.nc N L):= .whole inferInstance
instance {x:RawI} {L:Nat}:PartC (.nx x L) 0 2 true (.nx x L):= .whole inferInstance
instance {q:Rat} {L:Nat}:PartC (.qa q L) 0 4 true (.qa q L):= .whole inferInstance
instance {q:Rat} {L:Nat}:PartC (.qc q L) 0 4 true (.qc q L):= .whole inferInstance
instance {x:RawQ} {L:Nat}:PartC (.qx x L) 0 4 true (.qx x L):= .whole inferInstance
instance {N D:Int} {L:Nat}:PartC (.nd N D L) 0 4 true (.nd N D L):= .whole inferInstance
theorem PartC.fst {p:RawQ→Prop} {p':RawI→Prop} (h:∀ x,p x→p' x.1):PartC (.ex Rp.frac p) 0 2 true (.ex Rp.num p'):=⟨(fun h=>by cases h),fun {X w v} hv=>by
 obtain ⟨x,hp,cs,rfl,c1,c2,rfl,h1,h2⟩:=hv
 have hl:c1.length=2:=Rp.num.len h1
 refine ⟨c1,hl,fun j u hj=> ?_,fun u hu _=>⟨x.1,h x hp,c1,hu rfl,h1⟩⟩
 have hjl:=(List.getElem?_eq_some_iff.1 hj).1
 simp [Value.cells,List.getElem?_append_left hjl,hj]⟩
theorem PartC.snd {p:RawQ→Prop} {p':RawI→Prop} (h:∀ x,p x→p' x.2):PartC (.ex Rp.frac p) 2 2 true (.ex Rp.num p'):=⟨(fun h=>by cases h),fun {X w v} hv=>by
 obtain ⟨x,hp,cs,rfl,c1,c2,rfl,h1,h2⟩:=hv
 have hl:c1.length=2:=Rp.num.len h1
 refine ⟨c2,Rp.num.len h2,fun j u hj=> ?_,fun u hu _=>⟨x.2,h x hp,c2,hu rfl,h2⟩⟩
 simp [Value.cells,List.getElem?_append_right (show c1.length≤2+j by omega),hl,hj]⟩
instance {q:Rat} {L:Nat}:PartC (.qc q L) 0 2 true (.nc q.num L):= .fst fun _ h=>⟨h.1.num,h.2.1⟩
instance {q:Rat} {L:Nat}:PartC (.qc q L) 2 2 true (.nc (q.den:Int) L):= .snd fun _ h=>⟨h.1.den,den_lt h.2⟩
instance {x:RawQ} {L:Nat}:PartC (.qx x L) 0 2 true (.nx x.1 L):= .fst fun y h=>⟨by rw [h.1],h.2.1⟩
instance {x:RawQ} {L:Nat}:PartC (.qx x L) 2 2 true (.nx x.2 L):= .snd fun y h=>⟨by rw [h.1],h.2.2.1⟩
class AsN (T:VTy) (N:outParam Int) (L:outParam Nat):Prop where
 ok:∀ {X w v},T.holds X w v→(VTy.na N L).holds X w v
instance {N:Int} {L:Nat}:AsN (.na N L) N L:=⟨fun h=>h⟩
instance {N:Int} {L:Nat}:AsN (.nc N L) N L:=⟨fun ⟨x,h,g⟩=>⟨x,⟨h.1.val,h.1.len h.2⟩,g⟩⟩
instance {x:RawI} {L:Nat}:AsN (.nx x L) (iv x) L:=⟨fun ⟨y,h,g⟩=>⟨y,⟨by rw [h.1],by rw [h.1];exact h.2⟩,g⟩⟩
class AsQ (T:VTy) (q:outParam Rat) (L:outParam Nat):Prop where
 ok:∀ {X w v},T.holds X w v→(VTy.qa q L).holds X w v
instance {q:Rat} {L:Nat}:AsQ (.qa q L) q L:=⟨fun h=>h⟩
instance {q:Rat} {L:Nat}:AsQ (.qc q L) q L:=⟨fun ⟨x,h,g⟩=>⟨x,⟨h.1.val,(h.1.len h.2).1,(h.1.len h.2).2,h.2.pos⟩,g⟩⟩
instance {x:RawQ} {L:Nat}:AsQ (.qx x L) (qv x) L:=⟨fun ⟨y,h,g⟩=>⟨y,by rw [h.1];exact ⟨rfl,h.2⟩,g⟩⟩
theorem na_open(h:(VTy.na N L).holds X w v):∃ s A n c xs,v= .agg #[.bool s, .slice A n c]∧Sl .u32 w w.heap.size A n c xs∧Dg 4294967296 xs∧ival s xs=N∧n≤L:=by
 obtain ⟨x,⟨h1,h2⟩,cs,rfl,hr⟩:=h
 obtain ⟨A,n,c,rfl,hs,hd⟩:=num_rd.1 hr
 exact ⟨x.1,A,n,c,x.2,rfl,hs.1,hd,h1,by rw [←hs.1.len];exact h2⟩
theorem nc_new{w':World} {s:Bool} {A:Option Addr} {c:Nat} {ys:List Int} (hX:∀ b∈X,b<B) (h:Whole N s ys) (ho:Own .u32 100 w' B A n c ys) (hl:(N.natAbs:Int)<4294967296^L):(VTy.nc N L).holds X w' (.agg #[.bool s, .slice A n c]):=by
 refine ⟨(s,ys),⟨h,hl⟩,[.bool s, .slice A n c],rfl,num_rd.2 ⟨A,n,c,rfl,⟨ho.sl,fun hn b hb=> ?_⟩,h.row.dg⟩⟩
 obtain ⟨g1,g2⟩:=ho.blk_ b hb
 exact ⟨g2,fun hx=>by have:=hX b hx;omega⟩
theorem NewI.gives{w':World} {e:Ending} (h:NewI w N e w') (hX:∀ b∈X,b<w.heap.size) (hl:(N.natAbs:Int)<4294967296^L):Gives X w (.nc N L) e w':=by
 obtain ⟨s,ys,A,n,c,hW,rfl,ho,hb⟩:=h
 exact ⟨_,rfl,nc_new hX hW ho hl,hb⟩
instance:TyC Tryz.prog 34 2 true:=⟨⟨_,Tryz.underlying34,rfl⟩,by kernel_rfl⟩
instance:TyC Tryz.prog 36 4 true:=⟨⟨_,Tryz.underlying36,rfl⟩,by kernel_rfl⟩
instance:FieldC Tryz.prog 36 0 0 2 true:=⟨⟨_,_,Tryz.underlying36,rfl,rfl,by kernel_rfl,by decide,_,Tryz.underlying34,rfl⟩⟩
instance:FieldC Tryz.prog 36 1 2 2 true:=⟨⟨_,_,Tryz.underlying36,rfl,rfl,by kernel_rfl,by decide,_,Tryz.underlying34,rfl⟩⟩
instance:ZeroC Tryz.prog 34 (.na 0 0):=⟨⟨.agg #[.bool false, .slice none 0 0],fun X w=>⟨(false,[]),⟨rfl,Nat.le_refl _⟩,[.bool false, .slice none 0 0],rfl,num_rd.2 ⟨none,0,0,rfl,⟨Sl.nil,fun h=>by omega⟩,Dg.nil⟩⟩,fun o ρ w ho=>by
 unfold execOp
 rw [ho]
 go_simp⟩⟩
def VTy.q0:VTy:=VTy.ex Rp.frac fun x=>x=((false,[]),(false,[]))
instance:SizeV .q0 4 true:=inferInstanceAs (SizeV (.ex Rp.frac _) Rp.frac.k true)
instance:ZeroC Tryz.prog 36 .q0:=⟨⟨.agg #[.bool false, .slice none 0 0, .bool false, .slice none 0 0],fun X w=>⟨_,rfl,[.bool false, .slice none 0 0]++[.bool false, .slice none 0 0],rfl,_,_,rfl,num_rd.2 ⟨none,0,0,rfl,⟨Sl.nil,fun h=>by omega⟩,Dg.nil⟩,num_rd.2 ⟨none,0,0,rfl,⟨Sl.nil,fun h=>by omega⟩,Dg.nil⟩⟩,fun o ρ w ho=>by
 unfold execOp
 rw [ho]
 go_simp⟩⟩
theorem na_lt(h:(VTy.na N L).holds X w v):(N.natAbs:Int)<4294967296^L:=by
 obtain ⟨s,A,n,c,xs,_,hs,hd,e,hn⟩:=na_open h
 have h1:((ival s xs).natAbs:Int)≤val 4294967296 xs:=by
  have h0:=val_nonneg (β:=4294967296) qD hd
  unfold ival sgv
  cases rgt s xs<;>cases s<;>simp<;>omega
 have h2:=val_lt (β:=4294967296) qD hd
 have h3:=pow_mono (β:=4294967296) qD (show xs.length≤L by rw [hs.len];exact hn)
 rw [e] at h1
 omega
theorem of_lt'(hk: -9223372036854775808≤k∧k≤9223372036854775807):(k.natAbs:Int)<4294967296^2:=by
 have e:(4294967296:Int)^2=18446744073709551616:=by decide
 omega
theorem gcd_lt'{m:Nat} (h1:(N.natAbs:Int)<4294967296^n) (h2:(M.natAbs:Int)<4294967296^m):((gcdI (N.natAbs:Int) (M.natAbs:Int)).natAbs:Int)<4294967296^(max n m):=by
 have h3:(4294967296:Int)^n≤4294967296^(max n m):=pow_mono qD qO
 have h4:(4294967296:Int)^m≤4294967296^(max n m):=pow_mono qD qO
 have e:(gcdI (N.natAbs:Int) (M.natAbs:Int)).natAbs=Nat.gcd N.natAbs M.natAbs:=by unfold gcdI;simp
 rw [e]
 rcases Nat.eq_zero_or_pos N.natAbs with h0|h0
 ·rw [h0,Nat.gcd_zero_left];omega
 ·have:=Nat.gcd_le_left M.natAbs h0;omega
theorem sgvS' (N:Int):sgv (decide (N<0)) (N.natAbs:Int)=N:=by
 by_cases h:N<0
 ·rw [decide_eq_true h,sgv_true];omega
 ·rw [decide_eq_false h,sgv_false];omega
theorem sgvA' (s:Bool) (a:Int):(sgv s a).natAbs=a.natAbs:=by cases s<;>simp [sgv]
theorem div_size(N:Int) (hM:M≠0):(N.fdiv M).natAbs≤N.natAbs+1∧(N.fmod M).natAbs<M.natAbs:=by
 have hU:0<(M.natAbs:Int):=qO
 obtain ⟨k1,k2⟩:=floor_parts (s:=decide (N<0)) (t:=decide (M<0)) (V:=(N.natAbs:Int)) hU
 rw [sgvS',sgvS'] at k1 k2
 have h1:=Int.emod_nonneg (N.natAbs:Int) (show (M.natAbs:Int)≠0 by omega)
 have h2:=Int.emod_lt_of_pos (N.natAbs:Int) hU
 have h3:=Int.ediv_nonneg (show (0:Int)≤(N.natAbs:Int) by omega) (Int.le_of_lt hU)
 have h4:=Int.ediv_le_self (a:=(N.natAbs:Int)) (M.natAbs:Int) qO
 generalize (N.natAbs:Int)%(M.natAbs:Int)=r at*
 generalize (N.natAbs:Int) / (M.natAbs:Int)=q at*
 by_cases hd:((decide (N<0)) != (decide (M<0)))=true∧r≠0
 ·obtain ⟨e1,e2⟩:=k2 hd
  rw [e1,e2,sgvA',sgvA']
  have:=hd.2
  omega
 ·have hor:((decide (N<0)) != (decide (M<0)))=false∨r=0:=by
   by_cases h0:r=0
   ·exact .inr h0
   ·refine .inl ?_
    cases hb:((decide (N<0)) != (decide (M<0))) with
    |false=>rfl
    |true=>exact absurd ⟨hb,h0⟩ hd
  obtain ⟨e1,e2⟩:=k1 hor
  rw [e1,e2,sgvA',sgvA']
  omega
theorem fdiv_lt'(h1:(N.natAbs:Int)<4294967296^n) (hM:M≠0):((N.fdiv M).natAbs:Int)<4294967296^(n+1):=by
 have h2:=(div_size N hM).1
 have p:=pow_pos' (show (0:Int)<4294967296 by decide) n
 rw [Int.pow_succ]
 omega
theorem fmod_lt'(h1:(M.natAbs:Int)<4294967296^n) (hM:M≠0):((N.fmod M).natAbs:Int)<4294967296^n:=by
 have h2:=(div_size N hM).2
 omega
section
variable {w00:World} {N:Nat} {L:List Loc} {E:List (Nat×VTy)} {d:Nat} {t0:TypeId} {pos:String} {af:Array Edge} {gd:Option (Nat×Bool)} {ats:Array TypeId}
theorem e3_add:Enters Tryz.prog 43:=fun _ _=>by kernel_rfl
theorem c3_add{N:Int} {L:Nat} (hX:∀ b∈X,b<w.heap.size) (h0:(VTy.na N L).holds X w v0) (h1:(VTy.na M K).holds X w v1) (hb:L≤1000∧K≤1000):Calls Tryz.prog 43 #[v0,v1] w (Gives X w (.nc (N+M) (max L K+1))):=by
 have l0:=na_lt h0
 have l1:=na_lt h1
 obtain ⟨s,A,n,c,xs,rfl,s0,d0,e0,n0⟩:=na_open h0
 obtain ⟨t,A2,m,c2,ys,rfl,s1,d1,e1,n1⟩:=na_open h1
 have:=add3_any (s:=s) (t:=t) s0 s1 (Nat.le_refl _) d0 d1 qO qO
 rw [e0,e1] at this
 exact this.mono fun e w' h=>h.gives hX (add_lt l0 l1)
theorem s3_add[OpC E o0 T0] [a0:AsN T0 N0 L0] [OpC E o1 T1] [a1:AsN T1 M K] (hb:L0≤1000∧K≤1000):
 StepT Tryz.prog w00 N L E ⟨some d, .call { callee:= .value (.func 43),args:= #[o0,o1],argTypes:=ats },t0,pos,af,gd⟩ (.nc (N0+M) (max L0 K+1)):=
 sc2 e3_add fun X w v0 v1 hX _ _ h0 h1=>c3_add hX (a0.ok h0) (a1.ok h1) hb
theorem e3_mul:Enters Tryz.prog 90:=fun _ _=>by kernel_rfl
theorem c3_mul{N:Int} {L:Nat} (hX:∀ b∈X,b<w.heap.size) (h0:(VTy.na N L).holds X w v0) (h1:(VTy.na M K).holds X w v1) (hb:L≤1000∧K≤1000):Calls Tryz.prog 90 #[v0,v1] w (Gives X w (.nc (N*M) (L+K))):=by
 have l0:=na_lt h0
 have l1:=na_lt h1
 obtain ⟨s,A,n,c,xs,rfl,s0,d0,e0,n0⟩:=na_open h0
 obtain ⟨t,A2,m,c2,ys,rfl,s1,d1,e1,n1⟩:=na_open h1
 have:=mul3_any (s:=s) (t:=t) s0 s1 (Nat.le_refl _) d0 d1 qO qO
 rw [e0,e1] at this
 exact this.mono fun e w' h=>h.gives hX (mul_lt l0 l1)
theorem s3_mul[OpC E o0 T0] [a0:AsN T0 N0 L0] [OpC E o1 T1] [a1:AsN T1 M K] (hb:L0≤1000∧K≤1000):
 StepT Tryz.prog w00 N L E ⟨some d, .call { callee:= .value (.func 90),args:= #[o0,o1],argTypes:=ats },t0,pos,af,gd⟩ (.nc (N0*M) (L0+K)):=
 sc2 e3_mul fun X w v0 v1 hX _ _ h0 h1=>c3_mul hX (a0.ok h0) (a1.ok h1) hb
theorem e3_gcd:Enters Tryz.prog 143:=fun _ _=>by kernel_rfl
theorem c3_gcd{N:Int} {L:Nat} (hX:∀ b∈X,b<w.heap.size) (h0:(VTy.na N L).holds X w v0) (h1:(VTy.na M K).holds X w v1) (hb:L≤1000∧K≤1000):Calls Tryz.prog 143 #[v0,v1] w (Gives X w (.nc (gcdI (N.natAbs:Int) (M.natAbs:Int)) (max L K))):=by
 have l0:=na_lt h0
 have l1:=na_lt h1
 obtain ⟨s,A,n,c,xs,rfl,s0,d0,e0,n0⟩:=na_open h0
 obtain ⟨t,A2,m,c2,ys,rfl,s1,d1,e1,n1⟩:=na_open h1
 have:=gcd3_any (s:=s) (t:=t) s0 s1 (Nat.le_refl _) d0 d1 qO qO
 rw [e0,e1] at this
 exact this.mono fun e w' h=>h.gives hX (gcd_lt' l0 l1)
theorem s3_gcd[OpC E o0 T0] [a0:AsN T0 N0 L0] [OpC E o1 T1] [a1:AsN T1 M K] (hb:L0≤1000∧K≤1000):
 StepT Tryz.prog w00 N L E ⟨some d, .call { callee:= .value (.func 143),args:= #[o0,o1],argTypes:=ats },t0,pos,af,gd⟩ (.nc (gcdI (N0.natAbs:Int) (M.natAbs:Int)) (max L0 K)):=
 sc2 e3_gcd fun X w v0 v1 hX _ _ h0 h1=>c3_gcd hX (a0.ok h0) (a1.ok h1) hb
theorem e3_neg:Enters Tryz.prog 92:=fun _ _=>by kernel_rfl
theorem c3_neg{N:Int} {L:Nat} (hX:∀ b∈X,b<w.heap.size) (h0:(VTy.na N L).holds X w v0) (hb:L≤1000):Calls Tryz.prog 92 #[v0] w (Gives X w (.nc (-N) (L))):=by
 have l0:=na_lt h0
 obtain ⟨s,A,n,c,xs,rfl,s0,d0,e0,n0⟩:=na_open h0
 have:=neg3_any (s:=s) s0 (Nat.le_refl _) d0 qO
 rw [e0] at this
 exact this.mono fun e w' h=>h.gives hX (neg_lt l0)
theorem s3_neg[OpC E o0 T0] [a0:AsN T0 N0 L0] (hb:L0≤1000):
 StepT Tryz.prog w00 N L E ⟨some d, .call { callee:= .value (.func 92),args:= #[o0],argTypes:=ats },t0,pos,af,gd⟩ (.nc (-N0) (L0)):=
 sc1 e3_neg fun X w v0 hX _ _ h0=>c3_neg hX (a0.ok h0) hb
theorem e3_cmp:Enters Tryz.prog 42:=fun _ _=>by kernel_rfl
theorem c3_cmp{N:Int} {L:Nat} (h0:(VTy.na N L).holds X w v0) (h1:(VTy.na M K).holds X w v1) (hb:L≤1000∧K≤1000):Calls Tryz.prog 42 #[v0,v1] w (Gives X w (.is (.int .i64 (cmpI N M)))):=by
 obtain ⟨s,A,n,c,xs,rfl,s0,d0,e0,n0⟩:=na_open h0
 obtain ⟨t,A2,m,c2,ys,rfl,s1,d1,e1,n1⟩:=na_open h1
 have:=cmp3_any (s:=s) (t:=t) s0 s1 (Nat.le_refl _) d0 d1 qO qO
 rw [e0,e1] at this
 refine this.mono ?_
 rintro e w' ⟨rfl,hb⟩
 exact ⟨_,rfl,rfl,hb⟩
theorem s3_cmp[OpC E o0 T0] [a0:AsN T0 N0 L0] [OpC E o1 T1] [a1:AsN T1 M K] (hb:L0≤1000∧K≤1000):
 StepT Tryz.prog w00 N L E ⟨some d, .call { callee:= .value (.func 42),args:= #[o0,o1],argTypes:=ats },t0,pos,af,gd⟩ (.is (.int .i64 (cmpI N0 M))):=
 sc2 e3_cmp fun X w v0 v1 hX _ _ h0 h1=>c3_cmp (a0.ok h0) (a1.ok h1) hb
theorem e3_sign:Enters Tryz.prog 45:=fun _ _=>by kernel_rfl
theorem c3_sign{N:Int} {L:Nat} (h0:(VTy.na N L).holds X w v0) (hb:L≤1000):Calls Tryz.prog 45 #[v0] w (Gives X w (.is (.int .i64 (cmpI N 0)))):=by
 obtain ⟨s,A,n,c,xs,rfl,s0,d0,e0,n0⟩:=na_open h0
 have:=sign3_any (s:=s) s0 (Nat.le_refl _) d0 qO
 rw [e0] at this
 refine this.mono ?_
 rintro e w' ⟨rfl,hb⟩
 exact ⟨_,rfl,rfl,hb⟩
theorem s3_sign[OpC E o0 T0] [a0:AsN T0 N0 L0] (hb:L0≤1000):
 StepT Tryz.prog w00 N L E ⟨some d, .call { callee:= .value (.func 45),args:= #[o0],argTypes:=ats },t0,pos,af,gd⟩ (.is (.int .i64 (cmpI N0 0))):=
 sc1 e3_sign fun X w v0 hX _ _ h0=>c3_sign (a0.ok h0) hb
theorem e3_right:Enters Tryz.prog 145:=fun _ _=>by kernel_rfl
theorem s3_right{x:RawI} [OpC E o0 (.nx x L0)] (hu:rgt x.1 x.2=u):
 StepT Tryz.prog w00 N L E ⟨some d, .call { callee:= .value (.func 145),args:= #[o0],argTypes:=ats },t0,pos,af,gd⟩ (.is (.bool u)):=
 sc1 e3_right fun X w v0 hX _ _ h0=>by
  obtain ⟨y,⟨rfl,_⟩,cs,rfl,hr⟩:=h0
  obtain ⟨A,n,c,rfl,hs,hd⟩:=num_rd.1 hr
  refine (right3_any (s:=y.1) hs.1 (Nat.le_refl _)).mono ?_
  rintro e w' ⟨rfl,hb⟩
  exact ⟨_,rfl,by rw [hu];rfl,hb⟩
theorem s3_rightc[OpC E o0 (.nc N0 L0)]:
 StepT Tryz.prog w00 N L E ⟨some d, .call { callee:= .value (.func 145),args:= #[o0],argTypes:=ats },t0,pos,af,gd⟩ (.is (.bool true)):=
 sc1 e3_right fun X w v0 hX _ _ h0=>by
  obtain ⟨y,⟨hw,_⟩,cs,rfl,hr⟩:=h0
  obtain ⟨A,n,c,rfl,hs,hd⟩:=num_rd.1 hr
  refine (right3_any (s:=y.1) hs.1 (Nat.le_refl _)).mono ?_
  rintro e w' ⟨rfl,hb⟩
  exact ⟨_,rfl,by rw [hw.right];rfl,hb⟩
theorem e3_of:Enters Tryz.prog 44:=fun _ _=>by kernel_rfl
theorem s3_of[OpC E o0 (.is (.int .i64 k))] (hk: -9223372036854775808≤k∧k≤9223372036854775807):
 StepT Tryz.prog w00 N L E ⟨some d, .call { callee:= .value (.func 44),args:= #[o0],argTypes:=ats },t0,pos,af,gd⟩ (.nc k 2):=
 sc1 e3_of fun X w v0 hX _ _ h0=>by
  obtain rfl:v0=_:=h0
  exact (of3_any hk).mono fun e w' h=>h.gives hX (of_lt' hk)
theorem e3_div:Enters Tryz.prog 41:=fun _ _=>by kernel_rfl
theorem c3_div{N:Int} {L:Nat} (hX:∀ b∈X,b<w.heap.size) (h0:(VTy.na N L).holds X w v0) (h1:(VTy.na M K).holds X w v1) (hb:L≤1000∧K≤1000) (hM:M≠0):Calls Tryz.prog 41 #[v0,v1] w (Gives X w (.tup [.nc (N.fdiv M) (L+1), .nc (N.fmod M) K, .is (.int .i64 0)])):=by
 have l0:=fdiv_lt' (na_lt h0) hM
 have l1:=fmod_lt' (N:=N) (na_lt h1) hM
 obtain ⟨s,A,n,c,xs,rfl,s0,d0,e0,n0⟩:=na_open h0
 obtain ⟨t,A2,m,c2,ys,rfl,s1,d1,e1,n1⟩:=na_open h1
 have:=div3_any (s:=s) (t:=t) s0 s1 (Nat.le_refl _) d0 d1 qO qO
 rw [e0,e1] at this
 refine this.mono ?_
 rintro e w' (⟨hz,_⟩|⟨_,s1,qs,s2,rs,A1,n1,c1,A2,n2,c2,rfl,hq,hr,o1,o2,hb⟩)
 ·exact absurd hz hM
 ·exact ⟨_,rfl,⟨[_,_,_],rfl,nc_new hX hq o1 l0,nc_new hX hr o2 l1,rfl,trivial⟩,hb⟩
theorem s3_div[OpC E o0 T0] [a0:AsN T0 N0 L0] [OpC E o1 T1] [a1:AsN T1 M K] (hb:L0≤1000∧K≤1000) (hM:M≠0):
 StepT Tryz.prog w00 N L E ⟨some d, .call { callee:= .value (.func 41),args:= #[o0,o1],argTypes:=ats },t0,pos,af,gd⟩ (.tup [.nc (N0.fdiv M) (L0+1), .nc (N0.fmod M) K, .is (.int .i64 0)]):=
 sc2 e3_div fun X w v0 v1 hX _ _ h0 h1=>c3_div hX (a0.ok h0) (a1.ok h1) hb hM
end
def NewB (B:Nat) (X:List Nat) (w:World) (b:Nat):Prop:=Free X w b∧B≤b∧∃ cs,w.heap[b]? =some (.cells cs 100 (0,0))
def VTy.nw (p:RawQ→Prop) (B:Nat):VTy:=⟨fun X w v=>∃ x,p x∧∃ cs:List Value,v= .agg cs.toArray∧Rp.frac.rd w (NewB B X w) x cs,fun ⟨x,hp,cs,e,h⟩ hk hX=>⟨x,hp,cs,e,Rp.frac.more (Rp.frac.keep h (fun b hb=>hk.block b hb.1.1 hb.1.2)) (fun b hb=>by
 obtain ⟨h1,h2,c,h3⟩:=hb
 exact ⟨Free.mono hk hX b h1,h2,c,(hk.block b h1.1 h1.2).trans h3⟩)⟩⟩
def VTy.qn (q:Rat) (L B:Nat):VTy:=VTy.nw (fun x=>Frac q x∧Lq q L) B
def VTy.qg (q:Rat) (L B:Nat):VTy:=VTy.nw (fun x=>qv x=q∧x.1.2.length≤L∧x.2.2.length≤L∧0<L) B
theorem nw_ex{p:RawQ→Prop} (h:(VTy.nw p B).holds X w v):(VTy.ex Rp.frac p).holds X w v:=by
 obtain ⟨x,hp,cs,e,h⟩:=h
 exact ⟨x,hp,cs,e,Rp.frac.more h (fun b hb=>hb.1)⟩
theorem nw_le{p:RawQ→Prop} {B':Nat} (h:(VTy.nw p B).holds X w v) (hB:B'≤B):(VTy.nw p B').holds X w v:=by
 obtain ⟨x,hp,cs,e,h⟩:=h
 exact ⟨x,hp,cs,e,Rp.frac.more h (fun b hb=>⟨hb.1,Nat.le_trans hB hb.2.1,hb.2.2⟩)⟩
instance {p:RawQ→Prop} {B:Nat}:SizeV (.nw p B) 4 true:=⟨fun h=>(inferInstance:SizeV (.ex Rp.frac p) Rp.frac.k true).ok (nw_ex h)⟩
instance {q:Rat} {L B:Nat}:SizeV (.qn q L B) 4 true:=inferInstanceAs (SizeV (.nw _ _) 4 true)
instance {q:Rat} {L B:Nat}:SizeV (.qg q L B) 4 true:=inferInstanceAs (SizeV (.nw _ _) 4 true)
instance {q:Rat} {L B:Nat}:PartC (.qn q L B) 0 4 true (.qn q L B):= .whole inferInstance
instance {q:Rat} {L B:Nat}:PartC (.qg q L B) 0 4 true (.qg q L B):= .whole inferInstance
instance {q:Rat} {L B:Nat}:AsQ (.qn q L B) q L:=⟨fun h=>(inferInstance:AsQ (.qc q L) q L).ok (nw_ex h)⟩
instance {q:Rat} {L B:Nat}:AsQ (.qg q L B) q L:=⟨fun h=>nw_ex h⟩
theorem qa_Lq(h:(VTy.qa q L).holds X w v):Lq q L∧0<L:=by
 obtain ⟨x,⟨rfl,h1,h2,h3⟩,cs,_,c1,c2,_,g1,g2⟩:=h
 obtain ⟨_,_,_,_,_,d1⟩:=num_rd.1 g1
 obtain ⟨_,_,_,_,_,d2⟩:=num_rd.1 g2
 refine ⟨?_,h3⟩
 cases hq:qrt x with
 |true=>exact Lq.of (Frac.of d1 d2 hq).1 h1 h2
 |false=>rw [qv_wrong hq];exact Lq.zero.mono h3
theorem qx_qc(hq:qrt x=true) (h:(VTy.qx x L).holds X w v):(VTy.qc (qv x) L).holds X w v:=by
 obtain ⟨y,⟨rfl,h1,h2,h3⟩,cs,e,c1,c2,e2,g1,g2⟩:=h
 obtain ⟨_,_,_,_,_,d1⟩:=num_rd.1 g1
 obtain ⟨_,_,_,_,_,d2⟩:=num_rd.1 g2
 have hf:=(Frac.of d1 d2 hq).1
 exact ⟨y,⟨hf,Lq.of hf h1 h2⟩,cs,e,c1,c2,e2,g1,g2⟩
theorem nd_qc{M:Nat} (hN:q.num=N) (hD:(q.den:Int)=D) (hL:Lq q M) (v:Value) (h:(VTy.nd N D L).holds X w v):(VTy.qc q M).holds X w v:=by
 obtain ⟨x,⟨h1,h2,_,_⟩,g⟩:=h
 exact ⟨x,⟨⟨by rw [hN];exact h1,by rw [hD];exact h2⟩,hL⟩,g⟩
theorem qc_qc{M:Nat} (hq:p=q) (hL:Lq q M) (v:Value) (h:(VTy.qc p L).holds X w v):(VTy.qc q M).holds X w v:=by
 obtain ⟨x,⟨h1,_⟩,g⟩:=h
 exact ⟨x,⟨by rw [←hq];exact h1,hL⟩,g⟩
theorem is_is{a b:Value} (h:a=b) (v:Value) (hv:(VTy.is a).holds X w v):(VTy.is b).holds X w v:=by
 rw [←h];exact hv
theorem tup_imp{T' U U':VTy} (h1:∀ v,T.holds X w v→T'.holds X w v) (h2:∀ v,U.holds X w v→U'.holds X w v) (v:Value) (h:(VTy.tup [T,U]).holds X w v):(VTy.tup [T',U']).holds X w v:=by
 obtain ⟨vs,e,h⟩:=h
 match vs,h with
 |[a,b],⟨g1,g2,_⟩=>exact ⟨[a,b],e,h1 _ g1,h2 _ g2,trivial⟩
section
variable {w00:World} {N:Nat} {L:List Loc} {E:List (Nat×VTy)} {d:Nat} {t0:TypeId} {pos:String} {af:Array Edge} {gd:Option (Nat×Bool)} {ats:Array TypeId}
theorem s4_build{D0:Int} [h0:OpC E o0 (.nc N0 L0)] [h1:OpC E o1 (.nc D0 K0)]:StepT Tryz.prog w00 N L E ⟨some d, .build 36 #[(0,o0),(1,o1)],t0,pos,af,gd⟩ (.nd N0 D0 (max L0 K0)):=by
 constructor
 intro X ρ w hc _ hN hm hsl
 obtain ⟨x,⟨a1,a2⟩,cs,e0,g0⟩:=h0.get (X:=X) (w:=w) hc fun p hp e=>hsl p hp qS
 obtain ⟨y,⟨b1,b2⟩,ds,e1,g1⟩:=h1.get (X:=X) (w:=w) hc fun p hp e=>hsl p hp qS
 obtain ⟨A,n,c,rfl,_⟩:=num_rd.1 g0
 obtain ⟨A2,n2,c2,rfl,_⟩:=num_rd.1 g1
 have hT:(VTy.nd N0 D0 (max L0 K0)).holds X w (.agg #[.bool x.1, .slice A n c, .bool y.1, .slice A2 n2 c2]):=
  ⟨(x,y),⟨a1,b1,Int.lt_of_lt_of_le a2 (pow_mono qD qO),Int.lt_of_lt_of_le b2 (pow_mono qD qO)⟩,[.bool x.1, .slice A n c]++[.bool y.1, .slice A2 n2 c2],rfl,_,_,rfl,g0,g1⟩
 have HT:=Lib.hid hT
 clear hT hsl hm hc a1 a2 b1 b2 g0 g1 h0 h1
 unfold Yields
 go_simp
 exact ⟨HT.out,Below.refl _ _⟩
end
theorem lfGH {p:Prop} (h:p:=by first|exact st_move'|exact st_assign'|exact st_load'|exact st_fieldAddr'|exact st_and_t'|exact st_and_f'|exact st_gtr' (by first|assumption|rfl)|exact st_not' (b:=true) (u:=false) rfl|exact st_not' (b:=false) (u:=true) rfl|exact st_not' rfl|exact st_extract'|exact st_eq' (by first|assumption|rfl)|exact st_lss' (by first|assumption|rfl)|exact st_field'|exact st_loadE'|exact s3_cmp (by omega)|exact s3_gcd (by omega)|exact s4_right (by omega) (by assumption)|exact OpsT.nil|exact GuardC.nil|exact UndefC.nil|exact s3_neg (by omega)|exact s3_sign (by omega)|exact s3_of (by omega)|exact s3_right (by first|assumption|rfl)|exact s3_rightc|exact s4_sameU (by omega) (by assumption)|exact s3_div (by omega) (by omega)|exact s3_add (by omega)|exact s3_mul (by omega)|exact s4_plain (by omega)|exact s4_build|exact s4_zero|exact s4_new (by omega) hD|exact s4_add (by omega)|exact s4_neg (by omega)|exact s4_sub (by omega)|exact s4_sign (by omega)|exact s4_cmp (by omega)|exact ⟨fun _ _=>(is_is (congrArg Value.bool e.symm))⟩|exact Cv.rfl'):p:=h
theorem c4_sameI(hX:∀ b∈X,b<w.heap.size) (h0:(VTy.na N L).holds X w v0) (h1:(VTy.na M K).holds X w v1) (hb:L≤1000∧K≤1000):
 Calls Tryz.prog 146 #[v0,v1] w (Gives X w (.is (.bool (cmpI N M==0)))):=by
 refine ts_enter (Ts:=[.na N L, .na M K]) (vs:=[v0,v1]) Tryz.func146 rfl Tryz.ntmps146 qE hX ⟨h0,h1,trivial⟩ fun a h=> ?_
 clear h0 h1 hX
 simp only [argE,Nat.zero_add,Nat.reduceAdd] at h
 refine g_of h ?_
 clear h
 repeat' first|kernel_rfl|apply g_seq|apply g_reg|apply g_nil|apply g_box|apply g_all|apply g_sto|apply g_asg|apply g_st|apply g_skip|apply g_ct|apply g_cf|apply g_ret|refine r_1 rfl ?_|apply g_cl|exact lfGH|intro _
section
variable {w00:World} {N:Nat} {L:List Loc} {E:List (Nat×VTy)} {d:Nat} {t0:TypeId} {pos:String} {af:Array Edge} {gd:Option (Nat×Bool)} {ats:Array TypeId}
theorem e4_sameI:Enters Tryz.prog 146:=fun _ _=>by kernel_rfl
theorem s4_sameI[OpC E o0 T0] [a0:AsN T0 N0 L0] [OpC E o1 T1] [a1:AsN T1 M0 K0] (hb:L0≤1000∧K0≤1000):
 StepT Tryz.prog w00 N L E ⟨some d, .call { callee:= .value (.func 146),args:= #[o0,o1],argTypes:=ats },t0,pos,af,gd⟩ (.is (.bool (cmpI N0 M0==0))):=
 sc2 e4_sameI fun X w v0 v1 hX _ _ h0 h1=>c4_sameI hX (a0.ok h0) (a1.ok h1) hb
end
section
variable {w00:World} {N:Nat} {L:List Loc} {E:List (Nat×VTy)} {d:Nat} {t0:TypeId} {pos:String} {af:Array Edge} {gd:Option (Nat×Bool)} {ats:Array TypeId}
theorem s4_sameU[OpC E o0 T0] [a0:AsN T0 N0 L0] [OpC E o1 T1] [a1:AsN T1 M0 K0] (hb:L0≤1000∧K0≤1000) (hu:(cmpI N0 M0==0)=u):
 StepT Tryz.prog w00 N L E ⟨some d, .call { callee:= .value (.func 146),args:= #[o0,o1],argTypes:=ats },t0,pos,af,gd⟩ (.is (.bool u)):=by
 rw [←hu]
 exact s4_sameI hb
end
theorem c4_right(hX:∀ b∈X,b<w.heap.size) (h0:(VTy.qx x L).holds X w v0) (hb:L≤1000):
 Calls Tryz.prog 91 #[v0] w (Gives X w (.is (.bool (qrt x)))):=by
 have key:qrt x=(rgt x.1.1 x.1.2&&rgt x.2.1 x.2.2&&decide (0<cmpI (iv x.2) 0)&&(cmpI (gcdI ((iv x.1).natAbs:Int) ((iv x.2).natAbs:Int)) 1==0)):=by
  unfold qrt
  have e1:decide (0<cmpI (iv x.2) 0)=decide (0<iv x.2):=by simp only [cmpI_pos_gt]
  have e2:(cmpI (gcdI ((iv x.1).natAbs:Int) ((iv x.2).natAbs:Int)) 1==0)=(gcdI ((iv x.1).natAbs:Int) ((iv x.2).natAbs:Int)==1):=by
   have:=cmpI_zero (a:=gcdI ((iv x.1).natAbs:Int) ((iv x.2).natAbs:Int)) (b:=1)
   rw [Bool.eq_iff_iff]
   simp only [beq_iff_eq,this]
  rw [e1,e2]
 cases e1:rgt x.1.1 x.1.2 with
 |false=>
  have e:qrt x=false:=by rw [key];simp [e1]
  clear key
  refine ts_enter (Ts:=[.qx x L]) (vs:=[v0]) Tryz.func91 rfl Tryz.ntmps91 qE hX ⟨h0,trivial⟩ fun a h=> ?_
  clear h0 hX
  simp only [argE,Nat.zero_add,Nat.reduceAdd] at h
  refine g_of h ?_
  clear h
  repeat' first|kernel_rfl|apply g_seq|apply g_reg|apply g_nil|apply g_box|apply g_all|apply g_sto|apply g_asg|refine g_run rfl inferInstance lfGH qK ?_|refine g_sk rfl inferInstance rfl qK ?_|refine g_un rfl inferInstance qK ?_|apply g_st|apply g_skip|apply g_ct|apply g_cf|apply g_ret|refine r_1 rfl ?_|apply g_cl|exact lfGH|intro _
 |true=>
 cases e2:rgt x.2.1 x.2.2 with
 |false=>
  have e:qrt x=false:=by rw [key];simp [e1,e2]
  clear key
  refine ts_enter (Ts:=[.qx x L]) (vs:=[v0]) Tryz.func91 rfl Tryz.ntmps91 qE hX ⟨h0,trivial⟩ fun a h=> ?_
  clear h0 hX
  simp only [argE,Nat.zero_add,Nat.reduceAdd] at h
  refine g_of h ?_
  clear h
  repeat' first|kernel_rfl|apply g_seq|apply g_reg|apply g_nil|apply g_box|apply g_all|apply g_sto|apply g_asg|refine g_run rfl inferInstance lfGH qK ?_|refine g_sk rfl inferInstance rfl qK ?_|refine g_un rfl inferInstance qK ?_|apply g_st|apply g_skip|apply g_ct|apply g_cf|apply g_ret|refine r_1 rfl ?_|apply g_cl|exact lfGH|intro _
 |true=>
 cases e3:decide (0<cmpI (iv x.2) 0) with
 |false=>
  have e:qrt x=false:=by rw [key];simp [e1,e2,e3]
  clear key
  refine ts_enter (Ts:=[.qx x L]) (vs:=[v0]) Tryz.func91 rfl Tryz.ntmps91 qE hX ⟨h0,trivial⟩ fun a h=> ?_
  clear h0 hX
  simp only [argE,Nat.zero_add,Nat.reduceAdd] at h
  refine g_of h ?_
  clear h
  repeat' first|kernel_rfl|apply g_seq|apply g_reg|apply g_nil|apply g_box|apply g_all|apply g_sto|apply g_asg|refine g_run rfl inferInstance lfGH qK ?_|refine g_sk rfl inferInstance rfl qK ?_|refine g_un rfl inferInstance qK ?_|apply g_st|apply g_skip|apply g_ct|apply g_cf|apply g_ret|refine r_1 rfl ?_|apply g_cl|exact lfGH|intro _
 |true=>
 cases e4:(cmpI (gcdI ((iv x.1).natAbs:Int) ((iv x.2).natAbs:Int)) 1==0) with
 |false=>
  have e:qrt x=false:=by rw [key];simp [e1,e2,e3,e4]
  clear key
  refine ts_enter (Ts:=[.qx x L]) (vs:=[v0]) Tryz.func91 rfl Tryz.ntmps91 qE hX ⟨h0,trivial⟩ fun a h=> ?_
  clear h0 hX
  simp only [argE,Nat.zero_add,Nat.reduceAdd] at h
  refine g_of h ?_
  clear h
  repeat' first|kernel_rfl|apply g_seq|apply g_reg|apply g_nil|apply g_box|apply g_all|apply g_sto|apply g_asg|refine g_run rfl inferInstance lfGH qK ?_|refine g_sk rfl inferInstance rfl qK ?_|refine g_un rfl inferInstance qK ?_|apply g_st|apply g_skip|apply g_ct|apply g_cf|apply g_ret|refine r_1 rfl ?_|apply g_cl|exact lfGH|intro _
 |true=>
  have e:qrt x=true:=by rw [key];simp [e1,e2,e3,e4]
  clear key
  refine ts_enter (Ts:=[.qx x L]) (vs:=[v0]) Tryz.func91 rfl Tryz.ntmps91 qE hX ⟨h0,trivial⟩ fun a h=> ?_
  clear h0 hX
  simp only [argE,Nat.zero_add,Nat.reduceAdd] at h
  refine g_of h ?_
  clear h
  repeat' first|kernel_rfl|apply g_seq|apply g_reg|apply g_nil|apply g_box|apply g_all|apply g_sto|apply g_asg|refine g_run rfl inferInstance lfGH qK ?_|refine g_sk rfl inferInstance rfl qK ?_|refine g_un rfl inferInstance qK ?_|apply g_st|apply g_skip|apply g_ct|apply g_cf|apply g_ret|refine r_1 rfl ?_|apply g_cl|exact lfGH|intro _
section
variable {w00:World} {N:Nat} {L:List Loc} {E:List (Nat×VTy)} {d:Nat} {t0:TypeId} {pos:String} {af:Array Edge} {gd:Option (Nat×Bool)} {ats:Array TypeId}
theorem e4_right:Enters Tryz.prog 91:=fun _ _=>by kernel_rfl
theorem s4_right[OpC E o0 (.qx x L0)] (hb:L0≤1000) (hu:qrt x=u):
 StepT Tryz.prog w00 N L E ⟨some d, .call { callee:= .value (.func 91),args:= #[o0],argTypes:=ats },t0,pos,af,gd⟩ (.is (.bool u)):=by
 rw [←hu]
 exact sc1 e4_right fun X w v0 hX _ _ h0=>c4_right hX h0 hb
end
theorem c4_zero(hX:∀ b∈X,b<w.heap.size):Calls Tryz.prog 70 #[] w (Gives X w (.qc 0 1)):=by
 refine ts_enter (Ts:=[]) (vs:=[]) Tryz.func70 rfl Tryz.ntmps70 qE hX trivial fun a h=> ?_
 clear hX
 simp only [argE] at h
 refine g_of h ?_
 clear h
 repeat' first|kernel_rfl|apply g_seq|apply g_reg|apply g_nil|apply g_box|apply g_all|apply g_sto|apply g_asg|apply g_st|apply g_skip|apply g_ct|apply g_cf|apply g_ret|refine r_1 rfl ?_|apply g_cl|exact ⟨fun _ _=>(nd_qc rfl rfl Lq.zero)⟩|exact lfGH|intro _
section
variable {w00:World} {N:Nat} {L:List Loc} {E:List (Nat×VTy)} {d:Nat} {t0:TypeId} {pos:String} {af:Array Edge} {gd:Option (Nat×Bool)} {ats:Array TypeId}
theorem e4_zero:Enters Tryz.prog 70:=fun _ _=>by kernel_rfl
theorem s4_zero:StepT Tryz.prog w00 N L E ⟨some d, .call { callee:= .value (.func 70),args:= #[],argTypes:=ats },t0,pos,af,gd⟩ (.qc 0 1):=sc0 e4_zero fun X w hX _ _=>c4_zero hX
end
theorem c4_plainX(hX:∀ b∈X,b<w.heap.size) (h0:(VTy.qx x L).holds X w v0) (hb:L≤1000):
 Calls Tryz.prog 37 #[v0] w (Gives X w (.qc (qv x) L)):=by
 have hl:0<L:=by obtain ⟨_,⟨_,_,_,g⟩,_⟩:=h0;exact g
 cases hq:qrt x with
 |false=>
  refine ts_enter (Ts:=[.qx x L]) (vs:=[v0]) Tryz.func37 rfl Tryz.ntmps37 qE hX ⟨h0,trivial⟩ fun a h=> ?_
  clear h0 hX
  simp only [argE,Nat.zero_add,Nat.reduceAdd] at h
  refine g_of h ?_
  clear h
  repeat' first|kernel_rfl|apply g_seq|apply g_reg|apply g_nil|apply g_box|apply g_all|apply g_sto|apply g_asg|apply g_st|apply g_skip|apply g_ct|apply g_cf|apply g_ret|refine r_1 rfl ?_|apply g_cl|exact ⟨fun _ _=>(qc_qc (qv_wrong hq).symm (by rw [qv_wrong hq];exact Lq.zero.mono hl))⟩|exact ⟨fun _ _=>(fun _=>qx_qc hq)⟩|exact lfGH|intro _
 |true=>
  refine ts_enter (Ts:=[.qx x L]) (vs:=[v0]) Tryz.func37 rfl Tryz.ntmps37 qE hX ⟨h0,trivial⟩ fun a h=> ?_
  clear h0 hX
  simp only [argE,Nat.zero_add,Nat.reduceAdd] at h
  refine g_of h ?_
  clear h
  repeat' first|kernel_rfl|apply g_seq|apply g_reg|apply g_nil|apply g_box|apply g_all|apply g_sto|apply g_asg|apply g_st|apply g_skip|apply g_ct|apply g_cf|apply g_ret|refine r_1 rfl ?_|apply g_cl|exact ⟨fun _ _=>(qc_qc (qv_wrong hq).symm (by rw [qv_wrong hq];exact Lq.zero.mono hl))⟩|exact ⟨fun _ _=>(fun _=>qx_qc hq)⟩|exact lfGH|intro _
theorem c4_plain(hX:∀ b∈X,b<w.heap.size) (h0:(VTy.qa q L).holds X w v0) (hb:L≤1000):Calls Tryz.prog 37 #[v0] w (Gives X w (.qc q L)):=by
 obtain ⟨x,⟨rfl,h1⟩,g⟩:=h0
 exact c4_plainX hX ⟨x,⟨rfl,h1⟩,g⟩ hb
section
variable {w00:World} {N:Nat} {L:List Loc} {E:List (Nat×VTy)} {d:Nat} {t0:TypeId} {pos:String} {af:Array Edge} {gd:Option (Nat×Bool)} {ats:Array TypeId}
theorem e4_plain:Enters Tryz.prog 37:=fun _ _=>by kernel_rfl
theorem s4_plain[OpC E o0 T0] [a0:AsQ T0 p L0] (hb:L0≤1000):
 StepT Tryz.prog w00 N L E ⟨some d, .call { callee:= .value (.func 37),args:= #[o0],argTypes:=ats },t0,pos,af,gd⟩ (.qc p L0):=
 sc1 e4_plain fun X w v0 hX _ _ h0=>c4_plain hX (a0.ok h0) hb
end
theorem new_parts(hD:0<D):0<gcdI (N.natAbs:Int) (D.natAbs:Int)∧(Rat.divInt N D).num=N.fdiv (gcdI (N.natAbs:Int) (D.natAbs:Int))∧((Rat.divInt N D).den:Int)=D.fdiv (gcdI (N.natAbs:Int) (D.natAbs:Int)):=by
 rw [gcdI_abs]
 have h1:(Int.gcd N D:Int)∣N:=Int.gcd_dvd_left ..
 have h2:(Int.gcd N D:Int)∣D:=Int.gcd_dvd_right ..
 have hg:0<Int.gcd N D:=Int.gcd_pos_of_ne_zero_right _ qO
 have h3:Int.gcd (N / Int.gcd N D) (D / Int.gcd N D)=1:=Int.gcd_ediv_gcd_ediv_gcd hg
 have hg0:(0:Int)<(Int.gcd N D:Int):=qO
 rw [Int.fdiv_eq_ediv_of_nonneg _ (Int.le_of_lt hg0),Int.fdiv_eq_ediv_of_nonneg _ (Int.le_of_lt hg0)]
 obtain ⟨e1,e2⟩:=divInt_parts (n:=N) (d:=D) (Int.ediv_mul_cancel h1).symm (Int.ediv_mul_cancel h2).symm qO (Int.ediv_pos_of_pos_of_dvd hD qO h2) h3
 exact ⟨hg0,e1,e2⟩
theorem new_neg (N D:Int):Rat.divInt (-N) (-D)=Rat.divInt N D:=Rat.neg_divInt_neg ..
theorem c4_newP(hX:∀ b∈X,b<w.heap.size) (h0:(VTy.na N L).holds X w v0) (h1:(VTy.na D K).holds X w v1) (hb:L≤1000∧K≤1000) (hD:0<D):
 Calls Tryz.prog 89 #[v0,v1] w (Gives X w (.tup [.qc (Rat.divInt N D) (max L K), .is (.int .i64 0)])):=by
 have l0:=na_lt h0
 have l1:=na_lt h1
 have hK:0<K:=by
  rcases Nat.eq_zero_or_pos K with h|h
  ·subst h
   simp at l1
   omega
  ·exact h
 have hL:Lq (Rat.divInt N D) (max L K):=Lq.divInt (Int.lt_of_lt_of_le l0 (pow_mono qD qO)) (Int.lt_of_lt_of_le l1 (pow_mono qD qO)) qO
 clear l0 l1
 have hz:(cmpI D 0==0)=false:=by rw [cmpI_gt hD];rfl
 have hs:decide (cmpI D 0<0)=false:=by rw [cmpI_gt hD];rfl
 obtain ⟨e1,e2,e3⟩:=new_parts (N:=N) hD
 refine ts_enter (Ts:=[.na N L, .na D K]) (vs:=[v0,v1]) Tryz.func89 rfl Tryz.ntmps89 qE hX ⟨h0,h1,trivial⟩ fun a h=> ?_
 clear h0 h1 hX
 simp only [argE,Nat.zero_add,Nat.reduceAdd] at h
 refine g_of h ?_
 clear h
 repeat' first|kernel_rfl|apply g_seq|apply g_reg|apply g_nil|apply g_box|apply g_all|apply g_sto|apply g_asg|apply g_st|apply g_skip|apply g_ct|apply g_cf|apply g_ret|refine r_2 rfl ?_|apply g_cl|exact ⟨fun _ _=>(tup_imp (nd_qc e2 e3 hL) fun _ h=>h)⟩|exact lfGH|intro _
theorem c4_newM(hX:∀ b∈X,b<w.heap.size) (h0:(VTy.na N L).holds X w v0) (h1:(VTy.na D K).holds X w v1) (hb:L≤1000∧K≤1000) (hD:D<0):
 Calls Tryz.prog 89 #[v0,v1] w (Gives X w (.tup [.qc (Rat.divInt N D) (max L K), .is (.int .i64 0)])):=by
 have l0:=na_lt h0
 have l1:=na_lt h1
 have hK:0<K:=by
  rcases Nat.eq_zero_or_pos K with h|h
  ·subst h
   simp at l1
   omega
  ·exact h
 have hL:Lq (Rat.divInt N D) (max L K):=Lq.divInt (Int.lt_of_lt_of_le l0 (pow_mono qD qO)) (Int.lt_of_lt_of_le l1 (pow_mono qD qO)) qO
 clear l0 l1
 have hz:(cmpI D 0==0)=false:=by rw [cmpI_lt hD];rfl
 have hs:decide (cmpI D 0<0)=true:=by rw [cmpI_lt hD];rfl
 obtain ⟨e1,e2,e3⟩:=new_parts (N:= -N) (D:= -D) qO
 rw [new_neg] at e2 e3
 refine ts_enter (Ts:=[.na N L, .na D K]) (vs:=[v0,v1]) Tryz.func89 rfl Tryz.ntmps89 qE hX ⟨h0,h1,trivial⟩ fun a h=> ?_
 clear h0 h1 hX
 simp only [argE,Nat.zero_add,Nat.reduceAdd] at h
 refine g_of h ?_
 clear h
 repeat' first|kernel_rfl|apply g_seq|apply g_reg|apply g_nil|apply g_box|apply g_all|apply g_sto|apply g_asg|apply g_st|apply g_skip|apply g_ct|apply g_cf|apply g_ret|refine r_2 rfl ?_|apply g_cl|exact ⟨fun _ _=>(tup_imp (nd_qc e2 e3 hL) fun _ h=>h)⟩|exact lfGH|intro _
theorem c4_new(hX:∀ b∈X,b<w.heap.size) (h0:(VTy.na N L).holds X w v0) (h1:(VTy.na D K).holds X w v1) (hb:L≤1000∧K≤1000) (hD:D≠0):
 Calls Tryz.prog 89 #[v0,v1] w (Gives X w (.tup [.qc (Rat.divInt N D) (max L K), .is (.int .i64 0)])):=by
 rcases Int.lt_or_gt_of_ne hD with h|h
 ·exact c4_newM hX h0 h1 hb h
 ·exact c4_newP hX h0 h1 hb h
section
variable {w00:World} {N:Nat} {L:List Loc} {E:List (Nat×VTy)} {d:Nat} {t0:TypeId} {pos:String} {af:Array Edge} {gd:Option (Nat×Bool)} {ats:Array TypeId}
theorem e4_new:Enters Tryz.prog 89:=fun _ _=>by kernel_rfl
theorem s4_new[OpC E o0 T0] [a0:AsN T0 N0 L0] [OpC E o1 T1] [a1:AsN T1 M0 K0] (hb:L0≤1000∧K0≤1000) (hD:M0≠0):
 StepT Tryz.prog w00 N L E ⟨some d, .call { callee:= .value (.func 89),args:= #[o0,o1],argTypes:=ats },t0,pos,af,gd⟩ (.tup [.qc (Rat.divInt N0 M0) (max L0 K0), .is (.int .i64 0)]):=
 sc2 e4_new fun X w v0 v1 hX _ _ h0 h1=>c4_new hX (a0.ok h0) (a1.ok h1) hb hD
end
section
variable {w00:World} {N:Nat} {L:List Loc} {E:List (Nat×VTy)} {d:Nat} {t0:TypeId} {pos:String} {af:Array Edge} {gd:Option (Nat×Bool)} {ats:Array TypeId}
end
theorem c4_add(hX:∀ b∈X,b<w.heap.size) (h0:(VTy.qa p L).holds X w v0) (h1:(VTy.qa q K).holds X w v1) (hb:L≤200∧K≤200):
 Calls Tryz.prog 159 #[v0,v1] w (Gives X w (.qc (p+q) (L+K+1))):=by
 obtain ⟨lp,lp0⟩:=qa_Lq h0
 obtain ⟨lq,lq0⟩:=qa_Lq h1
 have hD:(p.den:Int)*(q.den:Int)≠0:=Int.ne_of_gt (Int.mul_pos (den_pos p) (den_pos q))
 refine ts_enter (Ts:=[.qa p L, .qa q K]) (vs:=[v0,v1]) Tryz.func159 rfl Tryz.ntmps159 qE hX ⟨h0,h1,trivial⟩ fun a h=> ?_
 clear h0 h1 hX
 simp only [argE,Nat.zero_add,Nat.reduceAdd] at h
 refine g_of h ?_
 clear h
 repeat' first|kernel_rfl|apply g_seq|apply g_reg|apply g_nil|apply g_drawE (id:=3) [] [] 21 [19]|apply z_sto|apply z_asg|apply z_cl|apply o_all|apply o_go|apply g_box|apply g_all|apply g_sto|apply g_asg|apply g_st|apply g_skip|apply g_ct|apply g_cf|apply g_ret|refine r_1 rfl ?_|apply g_cl|exact ⟨fun _ _=>(qc_qc (rat_add p q).symm (lp.add lq))⟩|exact lfGH|(intro _;simp only[newX,newL,ptrs,List.map,List.cons_append,List.nil_append])|intro _
section
variable {w00:World} {N:Nat} {L:List Loc} {E:List (Nat×VTy)} {d:Nat} {t0:TypeId} {pos:String} {af:Array Edge} {gd:Option (Nat×Bool)} {ats:Array TypeId}
theorem e4_add:Enters Tryz.prog 159:=fun _ _=>by kernel_rfl
theorem s4_add[OpC E o0 T0] [a0:AsQ T0 p L0] [OpC E o1 T1] [a1:AsQ T1 q K0] (hb:L0≤200∧K0≤200):
 StepT Tryz.prog w00 N L E ⟨some d, .call { callee:= .value (.func 159),args:= #[o0,o1],argTypes:=ats },t0,pos,af,gd⟩ (.qc (p+q) (L0+K0+1)):=
 sc2 e4_add fun X w v0 v1 hX _ _ h0 h1=>c4_add hX (a0.ok h0) (a1.ok h1) hb
end
theorem c4_neg(hX:∀ b∈X,b<w.heap.size) (h0:(VTy.qa p L).holds X w v0) (hb:L≤200):
 Calls Tryz.prog 40 #[v0] w (Gives X w (.qc (-p) L)):=by
 obtain ⟨lp,lp0⟩:=qa_Lq h0
 refine ts_enter (Ts:=[.qa p L]) (vs:=[v0]) Tryz.func40 rfl Tryz.ntmps40 qE hX ⟨h0,trivial⟩ fun a h=> ?_
 clear h0 hX
 simp only [argE,Nat.zero_add,Nat.reduceAdd] at h
 refine g_of h ?_
 clear h
 repeat' first|kernel_rfl|apply g_seq|apply g_reg|apply g_nil|apply g_draw (id:=2) [] [] 6|apply o_all|apply o_go|apply g_box|apply g_all|apply g_sto|apply g_asg|apply g_st|apply g_skip|apply g_ct|apply g_cf|apply g_ret|refine r_1 rfl ?_|apply g_cl|exact ⟨fun _ _=>(nd_qc (by rw [Rat.neg_num]) (by rw [Rat.neg_den]) lp.neg)⟩|exact lfGH|(intro _;simp only[newX,newL,ptrs,List.map,List.cons_append,List.nil_append])|intro _
section
variable {w00:World} {N:Nat} {L:List Loc} {E:List (Nat×VTy)} {d:Nat} {t0:TypeId} {pos:String} {af:Array Edge} {gd:Option (Nat×Bool)} {ats:Array TypeId}
theorem e4_neg:Enters Tryz.prog 40:=fun _ _=>by kernel_rfl
theorem s4_neg[OpC E o0 T0] [a0:AsQ T0 p L0] (hb:L0≤200):
 StepT Tryz.prog w00 N L E ⟨some d, .call { callee:= .value (.func 40),args:= #[o0],argTypes:=ats },t0,pos,af,gd⟩ (.qc (-p) L0):=
 sc1 e4_neg fun X w v0 hX _ _ h0=>c4_neg hX (a0.ok h0) hb
end
theorem c4_sub(hX:∀ b∈X,b<w.heap.size) (h0:(VTy.qa p L).holds X w v0) (h1:(VTy.qa q K).holds X w v1) (hb:L≤200∧K≤200):
 Calls Tryz.prog 109 #[v0,v1] w (Gives X w (.qc (p - q) (L+K+1))):=by
 obtain ⟨lp,lp0⟩:=qa_Lq h0
 obtain ⟨lq,lq0⟩:=qa_Lq h1
 refine ts_enter (Ts:=[.qa p L, .qa q K]) (vs:=[v0,v1]) Tryz.func109 rfl Tryz.ntmps109 qE hX ⟨h0,h1,trivial⟩ fun a h=> ?_
 clear h0 h1 hX
 simp only [argE,Nat.zero_add,Nat.reduceAdd] at h
 refine g_of h ?_
 clear h
 repeat' first|kernel_rfl|apply g_seq|apply g_reg|apply g_nil|apply g_draw (id:=1) [] [] 4|apply o_all|apply o_go|apply g_box|apply g_all|apply g_sto|apply g_asg|apply g_st|apply g_skip|apply g_ct|apply g_cf|apply g_ret|refine r_1 rfl ?_|apply g_cl|exact ⟨fun _ _=>(qc_qc (Rat.sub_eq_add_neg p q).symm (lp.sub lq))⟩|exact lfGH|(intro _;simp only[newX,newL,ptrs,List.map,List.cons_append,List.nil_append])|intro _
section
variable {w00:World} {N:Nat} {L:List Loc} {E:List (Nat×VTy)} {d:Nat} {t0:TypeId} {pos:String} {af:Array Edge} {gd:Option (Nat×Bool)} {ats:Array TypeId}
theorem e4_sub:Enters Tryz.prog 109:=fun _ _=>by kernel_rfl
theorem s4_sub[OpC E o0 T0] [a0:AsQ T0 p L0] [OpC E o1 T1] [a1:AsQ T1 q K0] (hb:L0≤200∧K0≤200):
 StepT Tryz.prog w00 N L E ⟨some d, .call { callee:= .value (.func 109),args:= #[o0,o1],argTypes:=ats },t0,pos,af,gd⟩ (.qc (p - q) (L0+K0+1)):=
 sc2 e4_sub fun X w v0 v1 hX _ _ h0 h1=>c4_sub hX (a0.ok h0) (a1.ok h1) hb
end
theorem c4_mul(hX:∀ b∈X,b<w.heap.size) (h0:(VTy.qa p L).holds X w v0) (h1:(VTy.qa q K).holds X w v1) (hb:L≤200∧K≤200):
 Calls Tryz.prog 36 #[v0,v1] w (Gives X w (.qc (p*q) (L+K))):=by
 obtain ⟨lp,lp0⟩:=qa_Lq h0
 obtain ⟨lq,lq0⟩:=qa_Lq h1
 have hD:(p.den:Int)*(q.den:Int)≠0:=Int.ne_of_gt (Int.mul_pos (den_pos p) (den_pos q))
 refine ts_enter (Ts:=[.qa p L, .qa q K]) (vs:=[v0,v1]) Tryz.func36 rfl Tryz.ntmps36 qE hX ⟨h0,h1,trivial⟩ fun a h=> ?_
 clear h0 h1 hX
 simp only [argE,Nat.zero_add,Nat.reduceAdd] at h
 refine g_of h ?_
 clear h
 repeat' first|kernel_rfl|apply g_seq|apply g_reg|apply g_nil|apply g_drawE (id:=3) [] [] 15 [13]|apply z_sto|apply z_asg|apply z_cl|apply o_all|apply o_go|apply g_box|apply g_all|apply g_sto|apply g_asg|apply g_st|apply g_skip|apply g_ct|apply g_cf|apply g_ret|refine r_1 rfl ?_|apply g_cl|exact ⟨fun _ _=>(qc_qc (rat_mul p q).symm (lp.mul lq))⟩|exact lfGH|(intro _;simp only[newX,newL,ptrs,List.map,List.cons_append,List.nil_append])|intro _
section
variable {w00:World} {N:Nat} {L:List Loc} {E:List (Nat×VTy)} {d:Nat} {t0:TypeId} {pos:String} {af:Array Edge} {gd:Option (Nat×Bool)} {ats:Array TypeId}
theorem e4_mul:Enters Tryz.prog 36:=fun _ _=>by kernel_rfl
theorem s4_mul[OpC E o0 T0] [a0:AsQ T0 p L0] [OpC E o1 T1] [a1:AsQ T1 q K0] (hb:L0≤200∧K0≤200):
 StepT Tryz.prog w00 N L E ⟨some d, .call { callee:= .value (.func 36),args:= #[o0,o1],argTypes:=ats },t0,pos,af,gd⟩ (.qc (p*q) (L0+K0)):=
 sc2 e4_mul fun X w v0 v1 hX _ _ h0 h1=>c4_mul hX (a0.ok h0) (a1.ok h1) hb
end
theorem c4_div(hX:∀ b∈X,b<w.heap.size) (h0:(VTy.qa p L).holds X w v0) (h1:(VTy.qa q K).holds X w v1) (hb:L≤200∧K≤200) (hq:q≠0):
 Calls Tryz.prog 71 #[v0,v1] w (Gives X w (.tup [.qc (p / q) (L+K), .is (.int .i64 0)])):=by
 obtain ⟨lp,lp0⟩:=qa_Lq h0
 obtain ⟨lq,lq0⟩:=qa_Lq h1
 have hD:(p.den:Int)*q.num≠0:=Int.mul_ne_zero (Int.ne_of_gt (den_pos p)) (fun h=>hq (Rat.num_eq_zero.1 h))
 refine ts_enter (Ts:=[.qa p L, .qa q K]) (vs:=[v0,v1]) Tryz.func71 rfl Tryz.ntmps71 qE hX ⟨h0,h1,trivial⟩ fun a h=> ?_
 clear h0 h1 hX
 simp only [argE,Nat.zero_add,Nat.reduceAdd] at h
 refine g_of h ?_
 clear h
 repeat' first|kernel_rfl|apply g_seq|apply g_reg|apply g_nil|apply g_draw (id:=3) [] [] 13|apply o_all|apply o_go|apply g_box|apply g_all|apply g_sto|apply g_asg|apply g_st|apply g_skip|apply g_ct|apply g_cf|apply g_ret|refine r_2 rfl ?_|apply g_cl|exact ⟨fun _ _=>(tup_imp (qc_qc (rat_div hq).symm (lp.div lq hq)) fun _ h=>h)⟩|exact lfGH|(intro _;simp only[newX,newL,ptrs,List.map,List.cons_append,List.nil_append])|intro _
section
variable {w00:World} {N:Nat} {L:List Loc} {E:List (Nat×VTy)} {d:Nat} {t0:TypeId} {pos:String} {af:Array Edge} {gd:Option (Nat×Bool)} {ats:Array TypeId}
theorem e4_div:Enters Tryz.prog 71:=fun _ _=>by kernel_rfl
theorem s4_div[OpC E o0 T0] [a0:AsQ T0 p L0] [OpC E o1 T1] [a1:AsQ T1 q K0] (hb:L0≤200∧K0≤200) (hq:q≠0):
 StepT Tryz.prog w00 N L E ⟨some d, .call { callee:= .value (.func 71),args:= #[o0,o1],argTypes:=ats },t0,pos,af,gd⟩ (.tup [.qc (p / q) (L0+K0), .is (.int .i64 0)]):=
 sc2 e4_div fun X w v0 v1 hX _ _ h0 h1=>c4_div hX (a0.ok h0) (a1.ok h1) hb hq
end
section
variable {w00:World} {N:Nat} {L:List Loc} {E:List (Nat×VTy)} {d:Nat} {t0:TypeId} {pos:String} {af:Array Edge} {gd:Option (Nat×Bool)} {ats:Array TypeId}
end
theorem c4_sign(hX:∀ b∈X,b<w.heap.size) (h0:(VTy.qa p L).holds X w v0) (hb:L≤200):
 Calls Tryz.prog 39 #[v0] w (Gives X w (.is (.int .i64 (cmpQ p 0)))):=by
 refine ts_enter (Ts:=[.qa p L]) (vs:=[v0]) Tryz.func39 rfl Tryz.ntmps39 qE hX ⟨h0,trivial⟩ fun a h=> ?_
 clear h0 hX
 simp only [argE,Nat.zero_add,Nat.reduceAdd] at h
 refine g_of h ?_
 clear h
 repeat' first|kernel_rfl|apply g_seq|apply g_reg|apply g_nil|apply g_box|apply g_all|apply g_sto|apply g_asg|apply g_st|apply g_skip|apply g_ct|apply g_cf|apply g_ret|refine r_1 rfl ?_|apply g_cl|exact ⟨fun _ _=>(is_is (congrArg (Value.int .i64) (cmpQ_sign p)))⟩|exact lfGH|intro _
section
variable {w00:World} {N:Nat} {L:List Loc} {E:List (Nat×VTy)} {d:Nat} {t0:TypeId} {pos:String} {af:Array Edge} {gd:Option (Nat×Bool)} {ats:Array TypeId}
theorem e4_sign:Enters Tryz.prog 39:=fun _ _=>by kernel_rfl
theorem s4_sign[OpC E o0 T0] [a0:AsQ T0 p L0] (hb:L0≤200):
 StepT Tryz.prog w00 N L E ⟨some d, .call { callee:= .value (.func 39),args:= #[o0],argTypes:=ats },t0,pos,af,gd⟩ (.is (.int .i64 (cmpQ p 0))):=
 sc1 e4_sign fun X w v0 hX _ _ h0=>c4_sign hX (a0.ok h0) hb
end
theorem c4_cmp(hX:∀ b∈X,b<w.heap.size) (h0:(VTy.qa p L).holds X w v0) (h1:(VTy.qa q K).holds X w v1) (hb:L≤90∧K≤90):
 Calls Tryz.prog 51 #[v0,v1] w (Gives X w (.is (.int .i64 (cmpQ p q)))):=by
 refine ts_enter (Ts:=[.qa p L, .qa q K]) (vs:=[v0,v1]) Tryz.func51 rfl Tryz.ntmps51 qE hX ⟨h0,h1,trivial⟩ fun a h=> ?_
 clear h0 h1 hX
 simp only [argE,Nat.zero_add,Nat.reduceAdd] at h
 refine g_of h ?_
 clear h
 repeat' first|kernel_rfl|apply g_seq|apply g_reg|apply g_nil|apply g_box|apply g_all|apply g_sto|apply g_asg|apply g_st|apply g_skip|apply g_ct|apply g_cf|apply g_ret|refine r_1 rfl ?_|apply g_cl|exact ⟨fun _ _=>(is_is (congrArg (Value.int .i64) (cmpQ_sub p q)))⟩|exact lfGH|intro _
section
variable {w00:World} {N:Nat} {L:List Loc} {E:List (Nat×VTy)} {d:Nat} {t0:TypeId} {pos:String} {af:Array Edge} {gd:Option (Nat×Bool)} {ats:Array TypeId}
theorem e4_cmp:Enters Tryz.prog 51:=fun _ _=>by kernel_rfl
theorem s4_cmp[OpC E o0 T0] [a0:AsQ T0 p L0] [OpC E o1 T1] [a1:AsQ T1 q K0] (hb:L0≤90∧K0≤90):
 StepT Tryz.prog w00 N L E ⟨some d, .call { callee:= .value (.func 51),args:= #[o0,o1],argTypes:=ats },t0,pos,af,gd⟩ (.is (.int .i64 (cmpQ p q))):=
 sc2 e4_cmp fun X w v0 v1 hX _ _ h0 h1=>c4_cmp hX (a0.ok h0) (a1.ok h1) hb
end
theorem c4_sameQ(hX:∀ b∈X,b<w.heap.size) (h0:(VTy.qa p L).holds X w v0) (h1:(VTy.qa q K).holds X w v1) (hb:L≤90∧K≤90):
 Calls Tryz.prog 53 #[v0,v1] w (Gives X w (.is (.bool (cmpQ p q==0)))):=by
 refine ts_enter (Ts:=[.qa p L, .qa q K]) (vs:=[v0,v1]) Tryz.func53 rfl Tryz.ntmps53 qE hX ⟨h0,h1,trivial⟩ fun a h=> ?_
 clear h0 h1 hX
 simp only [argE,Nat.zero_add,Nat.reduceAdd] at h
 refine g_of h ?_
 clear h
 repeat' first|kernel_rfl|apply g_seq|apply g_reg|apply g_nil|apply g_box|apply g_all|apply g_sto|apply g_asg|apply g_st|apply g_skip|apply g_ct|apply g_cf|apply g_ret|refine r_1 rfl ?_|apply g_cl|exact lfGH|intro _
section
variable {w00:World} {N:Nat} {L:List Loc} {E:List (Nat×VTy)} {d:Nat} {t0:TypeId} {pos:String} {af:Array Edge} {gd:Option (Nat×Bool)} {ats:Array TypeId}
theorem e4_sameQ:Enters Tryz.prog 53:=fun _ _=>by kernel_rfl
theorem s4_sameQ[OpC E o0 T0] [a0:AsQ T0 p L0] [OpC E o1 T1] [a1:AsQ T1 q K0] (hb:L0≤90∧K0≤90):
 StepT Tryz.prog w00 N L E ⟨some d, .call { callee:= .value (.func 53),args:= #[o0,o1],argTypes:=ats },t0,pos,af,gd⟩ (.is (.bool (cmpQ p q==0))):=
 sc2 e4_sameQ fun X w v0 v1 hX _ _ h0 h1=>c4_sameQ hX (a0.ok h0) (a1.ok h1) hb
end
theorem Lq.whole(hk: -9223372036854775808≤k∧k≤9223372036854775807):Lq (k:Rat) 2:=⟨of_lt' hk,by rw [show ((k:Rat).den:Int)=1 from rfl];decide⟩
theorem c4_whole(hX:∀ b∈X,b<w.heap.size) (h0:(VTy.is (.int .i64 k)).holds X w v0) (hk: -9223372036854775808≤k∧k≤9223372036854775807):
 Calls Tryz.prog 52 #[v0] w (Gives X w (.qc (k:Rat) 2)):=by
 have hl:=Lq.whole hk
 refine ts_enter (Ts:=[.is (.int .i64 k)]) (vs:=[v0]) Tryz.func52 rfl Tryz.ntmps52 qE hX ⟨h0,trivial⟩ fun a h=> ?_
 clear h0 hX
 simp only [argE,Nat.zero_add,Nat.reduceAdd] at h
 refine g_of h ?_
 clear h
 repeat' first|kernel_rfl|apply g_seq|apply g_reg|apply g_nil|apply g_box|apply g_all|apply g_sto|apply g_asg|apply g_st|apply g_skip|apply g_ct|apply g_cf|apply g_ret|refine r_1 rfl ?_|apply g_cl|exact ⟨fun _ _=>(nd_qc rfl rfl hl)⟩|exact lfGH|intro _
section
variable {w00:World} {N:Nat} {L:List Loc} {E:List (Nat×VTy)} {d:Nat} {t0:TypeId} {pos:String} {af:Array Edge} {gd:Option (Nat×Bool)} {ats:Array TypeId}
theorem e4_whole:Enters Tryz.prog 52:=fun _ _=>by kernel_rfl
theorem s4_whole{k0:Int} [OpC E o0 (.is (.int .i64 k0))] (hk: -9223372036854775808≤k0∧k0≤9223372036854775807):
 StepT Tryz.prog w00 N L E ⟨some d, .call { callee:= .value (.func 52),args:= #[o0],argTypes:=ats },t0,pos,af,gd⟩ (.qc (k0:Rat) 2):=
 sc1 e4_whole fun X w v0 hX _ _ h0=>c4_whole hX h0 hk
end
section
variable {w00:World} {N:Nat} {L:List Loc} {E:List (Nat×VTy)} {d:Nat} {t0:TypeId} {pos:String} {af:Array Edge} {gd:Option (Nat×Bool)} {ats:Array TypeId}
end
def fewQ (L:Nat) (x:RawQ):Prop:=x.1.2.length≤L∧x.2.2.length≤L∧0<L
def VTy.rq (L:Nat) (l:List RawQ):VTy:=VTy.rw Rp.frac (fewQ L) l
instance {L:Nat} {x:RawQ}:AsQ (.el Rp.frac (fewQ L) x) (qv x) L:=⟨fun ⟨y,h,g⟩=>⟨y,by rw [h.1];exact ⟨rfl,by rw [←h.1];exact h.2⟩,g⟩⟩
theorem take_one{l:List RawQ} {i:Nat} (hx:l[i]? =some x):l.take (i+1)=l.take i++[x]:=by rw [List.take_add_one,hx];rfl
theorem i64_next{i:Nat} (hi:i<n) (hn:n≤9223372036854775807):IntKind.i64.wrap ((i:Int)+1)=((i+1:Nat):Int):=by
 rw [IntKind.wrap_i64]
 omega
theorem rq_max{l:List RawQ} (h:(VTy.rq L l).holds X w v):l.length≤9223372036854775807∧∀ x∈l,Lq (qv x) L:=by
 obtain ⟨hp,A,n,c,_,hs⟩:=h
 have h1:=hs.lenMax
 have h2:=hs.1
 refine ⟨by omega,fun x hx=> ?_⟩
 obtain ⟨j,hj⟩:=List.mem_iff_getElem?.1 hx
 have hjl:=(List.getElem?_eq_some_iff.1 hj).1
 obtain ⟨b,off,_,_,hc⟩:=hs.2.2.2.2 qO
 obtain ⟨cs,_,g⟩:=hc j x hj
 exact (qa_Lq (X:=X) (w:=w) (v:= .agg cs.toArray) (q:=qv x) ⟨x,⟨rfl,hp x hx⟩,cs,rfl,g⟩).1
end Go.Proofs.YtfepenpngklogaaGreatDoor
