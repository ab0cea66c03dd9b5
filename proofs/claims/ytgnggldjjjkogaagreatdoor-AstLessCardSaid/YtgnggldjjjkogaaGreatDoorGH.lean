/- Whole numbers and fractions in a typed walk: what slots hold; the structs of this program. -/
import Derived.Test.YtgnggldjjjkogaaGreatDoorGG
import Derived.Test.YtgnggldjjjkogaaGreatDoorGF
set_option maxHeartbeats 1000000
set_option maxRecDepth 20000
set_option linter.unusedSimpArgs false
set_option linter.unusedVariables false
namespace Go.Proofs.YtgnggldjjjkogaaGreatDoor
open Go Go.RowKit
def Rp.num:Rp RawI:=Rp.pair Rp.bool Rp.limbs
def Rp.frac:Rp RawQ:=Rp.pair Rp.num Rp.num
theorem num_rd {w:World} {S:Nat→Prop} {x:RawI} {cs:List Value}:Rp.num.rd w S x cs↔∃ A n c,cs=[.bool x.1, .slice A n c]∧SlF .u32 w S A n c x.2∧Dg 4294967296 x.2:=by
 constructor
 ·rintro ⟨c1,c2,rfl,rfl,A,n,c,rfl,h,d⟩
  exact ⟨A,n,c,rfl,h,d⟩
 ·rintro ⟨A,n,c,rfl,h,d⟩
  exact ⟨[.bool x.1],[.slice A n c],rfl,rfl,A,n,c,rfl,h,d⟩
def VTy.na (N:Int) (L:Nat):VTy:=VTy.ex Rp.num fun x=>iv x=N∧x.2.length≤L
def VTy.nc (N:Int) (L:Nat):VTy:=VTy.ex Rp.num fun x=>Whole N x.1 x.2∧(N.natAbs:Int)<4294967296^L
def VTy.nx (x:RawI) (L:Nat):VTy:=VTy.ex Rp.num fun y=>y=x∧x.2.length≤L
def VTy.qa (q:Rat) (L:Nat):VTy:=VTy.ex Rp.frac fun x=>qv x=q∧x.1.2.length≤L∧x.2.2.length≤L∧0<L
def VTy.qc (q:Rat) (L:Nat):VTy:=VTy.ex Rp.frac fun x=>Frac q x∧Lq q L
def VTy.qx (x:RawQ) (L:Nat):VTy:=VTy.ex Rp.frac fun y=>y=x∧x.1.2.length≤L∧x.2.2.length≤L∧0<L
def VTy.nd (N D:Int) (L:Nat):VTy:=VTy.ex Rp.frac fun x=>Whole N x.1.1 x.1.2∧Whole D x.2.1 x.2.2∧(N.natAbs:Int)<4294967296^L∧(D.natAbs:Int)<4294967296^L
instance {N:Int} {L:Nat}:SizeV (.na N L) 2 true:=inferInstanceAs (SizeV (.ex Rp.num _) Rp.num.k true)
instance {N:Int} {L:Nat}:SizeV (.nc N L) 2 true:=inferInstanceAs (SizeV (.ex Rp.num _) Rp.num.k true)
instance {x:RawI} {L:Nat}:SizeV (.nx x L) 2 true:=inferInstanceAs (SizeV (.ex Rp.num _) Rp.num.k true)
instance {q:Rat} {L:Nat}:SizeV (.qa q L) 4 true:=inferInstanceAs (SizeV (.ex Rp.frac _) Rp.frac.k true)
instance {q:Rat} {L:Nat}:SizeV (.qc q L) 4 true:=inferInstanceAs (SizeV (.ex Rp.frac _) Rp.frac.k true)
instance {x:RawQ} {L:Nat}:SizeV (.qx x L) 4 true:=inferInstanceAs (SizeV (.ex Rp.frac _) Rp.frac.k true)
instance {N D:Int} {L:Nat}:SizeV (.nd N D L) 4 true:=inferInstanceAs (SizeV (.ex Rp.frac _) Rp.frac.k true)
theorem PartC.whole {T:VTy} {k:Nat} (z:SizeV T k true):PartC T 0 k true T:=⟨(fun h=>by cases h),fun {X w v} h=>by
 obtain ⟨h1,_,h3,_⟩:=z.ok h
 refine ⟨v.cells.toList,by simpa using h1,fun j u hj=>by simpa using hj,fun u hu _=> ?_⟩
 rw [hu rfl]
 have:=h3 rfl
 rw [show (Value.agg v.cells.toList.toArray)=v by simpa using this.symm]
 exact h⟩
theorem PartC.single {T:VTy} (z:SizeV T 1 false):PartC T 0 1 false T:=⟨fun _=>rfl,fun {X w v} h=>by
 obtain ⟨h1,_,_,h4⟩:=z.ok h
 have e:=h4 rfl
 refine ⟨[v],rfl,fun j u hj=>by rw [e];simpa using hj,fun u _ hu=> ?_⟩
 have:=hu rfl
 simp at this
 rw [←this]
 exact h⟩
instance {N:Int} {L:Nat}:PartC (.na N L) 0 2 true (.na N L):= .whole inferInstance
instance {N:Int} {L:Nat}:PartC (.nc N L) 0 2 true (.nc N L):= .whole inferInstance
instance {x:RawI} {L:Nat}:PartC (.nx x L) 0 2 true (.nx x L):= .whole inferInstance
instance {q:Rat} {L:Nat}:PartC (.qa q L) 0 4 true (.qa q L):= .whole inferInstance
instance {q:Rat} {L:Nat}:PartC (.qc q L) 0 4 true (.qc q L):= .whole inferInstance
instance {x:RawQ} {L:Nat}:PartC (.qx x L) 0 4 true (.qx x L):= .whole inferInstance
instance {N D:Int} {L:Nat}:PartC (.nd N D L) 0 4 true (.nd N D L):= .whole inferInstance
theorem PartC.fst {p:RawQ→Prop} {p':RawI→Prop} (h:∀ x,p x→p' x.1):PartC (.ex Rp.frac p) 0 2 true (.ex Rp.num p'):=⟨(fun h=>by cases h),fun {X w v} hv=>by
 obtain ⟨x,hp,cs,rfl,c1,c2,rfl,h1,h2⟩:=hv
 have hl:c1.length=2:=Rp.num.len h1
 refine ⟨c1,hl,fun j u hj=> ?_,fun u hu _=>⟨x.1,h x hp,c1,hu rfl,h1⟩⟩
 have hjl:=(List.getElem?_eq_some_iff.1 hj).1
 simp [Value.cells,List.getElem?_append_left hjl,hj]⟩
theorem PartC.snd {p:RawQ→Prop} {p':RawI→Prop} (h:∀ x,p x→p' x.2):PartC (.ex Rp.frac p) 2 2 true (.ex Rp.num p'):=⟨(fun h=>by cases h),fun {X w v} hv=>by
 obtain ⟨x,hp,cs,rfl,c1,c2,rfl,h1,h2⟩:=hv
 have hl:c1.length=2:=Rp.num.len h1
 refine ⟨c2,Rp.num.len h2,fun j u hj=> ?_,fun u hu _=>⟨x.2,h x hp,c2,hu rfl,h2⟩⟩
 simp [Value.cells,List.getElem?_append_right (show c1.length≤2+j by omega),hl,hj]⟩
instance {q:Rat} {L:Nat}:PartC (.qc q L) 0 2 true (.nc q.num L):= .fst fun _ h=>⟨h.1.num,h.2.1⟩
instance {q:Rat} {L:Nat}:PartC (.qc q L) 2 2 true (.nc (q.den:Int) L):= .snd fun _ h=>⟨h.1.den,den_lt h.2⟩
instance {x:RawQ} {L:Nat}:PartC (.qx x L) 0 2 true (.nx x.1 L):= .fst fun y h=>⟨by rw [h.1],h.2.1⟩
instance {x:RawQ} {L:Nat}:PartC (.qx x L) 2 2 true (.nx x.2 L):= .snd fun y h=>⟨by rw [h.1],h.2.2.1⟩
class AsN (T:VTy) (N:outParam Int) (L:outParam Nat):Prop where
 ok:∀ {X w v},T.holds X w v→(VTy.na N L).holds X w v
instance {N:Int} {L:Nat}:AsN (.na N L) N L:=⟨fun h=>h⟩
instance {N:Int} {L:Nat}:AsN (.nc N L) N L:=⟨fun ⟨x,h,g⟩=>⟨x,⟨h.1.val,h.1.len h.2⟩,g⟩⟩
instance {x:RawI} {L:Nat}:AsN (.nx x L) (iv x) L:=⟨fun ⟨y,h,g⟩=>⟨y,⟨by rw [h.1],by rw [h.1];exact h.2⟩,g⟩⟩
class AsQ (T:VTy) (q:outParam Rat) (L:outParam Nat):Prop where
 ok:∀ {X w v},T.holds X w v→(VTy.qa q L).holds X w v
instance {q:Rat} {L:Nat}:AsQ (.qa q L) q L:=⟨fun h=>h⟩
instance {q:Rat} {L:Nat}:AsQ (.qc q L) q L:=⟨fun ⟨x,h,g⟩=>⟨x,⟨h.1.val,(h.1.len h.2).1,(h.1.len h.2).2,h.2.pos⟩,g⟩⟩
instance {x:RawQ} {L:Nat}:AsQ (.qx x L) (qv x) L:=⟨fun ⟨y,h,g⟩=>⟨y,by rw [h.1];exact ⟨rfl,h.2⟩,g⟩⟩
theorem na_open {X:List Nat} {w:World} {v:Value} {N:Int} {L:Nat} (h:(VTy.na N L).holds X w v):∃ s A n c xs,v= .agg #[.bool s, .slice A n c]∧Sl .u32 w w.heap.size A n c xs∧Dg 4294967296 xs∧ival s xs=N∧n≤L:=by
 obtain ⟨x,⟨h1,h2⟩,cs,rfl,hr⟩:=h
 obtain ⟨A,n,c,rfl,hs,hd⟩:=num_rd.1 hr
 exact ⟨x.1,A,n,c,x.2,rfl,hs.1,hd,h1,by rw [←hs.1.len];exact h2⟩
theorem nc_new {X:List Nat} {w':World} {B:Nat} {N:Int} {L:Nat} {s:Bool} {A:Option Addr} {n c:Nat} {ys:List Int} (hX:∀ b∈X,b<B) (h:Whole N s ys) (ho:Own .u32 76 w' B A n c ys) (hl:(N.natAbs:Int)<4294967296^L):(VTy.nc N L).holds X w' (.agg #[.bool s, .slice A n c]):=by
 refine ⟨(s,ys),⟨h,hl⟩,[.bool s, .slice A n c],rfl,num_rd.2 ⟨A,n,c,rfl,⟨ho.sl,fun hn b hb=> ?_⟩,h.row.dg⟩⟩
 obtain ⟨g1,g2⟩:=ho.blk_ b hb
 exact ⟨g2,fun hx=>by have:=hX b hx;omega⟩
theorem NewI.gives {X:List Nat} {w w':World} {N:Int} {L:Nat} {e:Ending} (h:NewI w N e w') (hX:∀ b∈X,b<w.heap.size) (hl:(N.natAbs:Int)<4294967296^L):Gives X w (.nc N L) e w':=by
 obtain ⟨s,ys,A,n,c,hW,rfl,ho,hb⟩:=h
 exact ⟨_,rfl,nc_new hX hW ho hl,hb⟩
instance:TyC Tryz.prog 28 2 true:=⟨⟨_,Tryz.underlying28,rfl⟩,by kernel_rfl⟩
instance:TyC Tryz.prog 30 4 true:=⟨⟨_,Tryz.underlying30,rfl⟩,by kernel_rfl⟩
instance:FieldC Tryz.prog 30 0 0 2 true:=⟨⟨_,_,Tryz.underlying30,rfl,rfl,by kernel_rfl,by decide,_,Tryz.underlying28,rfl⟩⟩
instance:FieldC Tryz.prog 30 1 2 2 true:=⟨⟨_,_,Tryz.underlying30,rfl,rfl,by kernel_rfl,by decide,_,Tryz.underlying28,rfl⟩⟩
instance:ZeroC Tryz.prog 28 (.na 0 0):=⟨⟨.agg #[.bool false, .slice none 0 0],fun X w=>⟨(false,[]),⟨rfl,Nat.le_refl _⟩,[.bool false, .slice none 0 0],rfl,num_rd.2 ⟨none,0,0,rfl,⟨Sl.nil,fun h=>by omega⟩,Dg.nil⟩⟩,fun o ρ w ho=>by
 unfold execOp
 rw [ho]
 go_simp⟩⟩
def VTy.q0:VTy:=VTy.ex Rp.frac fun x=>x=((false,[]),(false,[]))
instance:SizeV .q0 4 true:=inferInstanceAs (SizeV (.ex Rp.frac _) Rp.frac.k true)
instance:ZeroC Tryz.prog 30 .q0:=⟨⟨.agg #[.bool false, .slice none 0 0, .bool false, .slice none 0 0],fun X w=>⟨_,rfl,[.bool false, .slice none 0 0]++[.bool false, .slice none 0 0],rfl,_,_,rfl,num_rd.2 ⟨none,0,0,rfl,⟨Sl.nil,fun h=>by omega⟩,Dg.nil⟩,num_rd.2 ⟨none,0,0,rfl,⟨Sl.nil,fun h=>by omega⟩,Dg.nil⟩⟩,fun o ρ w ho=>by
 unfold execOp
 rw [ho]
 go_simp⟩⟩
theorem na_lt {X:List Nat} {w:World} {v:Value} {N:Int} {L:Nat} (h:(VTy.na N L).holds X w v):(N.natAbs:Int)<4294967296^L:=by
 obtain ⟨s,A,n,c,xs,_,hs,hd,e,hn⟩:=na_open h
 have h1:((ival s xs).natAbs:Int)≤val 4294967296 xs:=by
  have h0:=val_nonneg (β:=4294967296) (by decide) hd
  unfold ival sgv
  cases rgt s xs<;>cases s<;>simp<;>omega
 have h2:=val_lt (β:=4294967296) (by decide) hd
 have h3:=pow_mono (β:=4294967296) (by decide) (show xs.length≤L by rw [hs.len];exact hn)
 rw [e] at h1
 omega
theorem of_lt' {k:Int} (hk: -9223372036854775808≤k∧k≤9223372036854775807):(k.natAbs:Int)<4294967296^2:=by
 have e:(4294967296:Int)^2=18446744073709551616:=by decide
 omega
theorem gcd_lt' {N M:Int} {n m:Nat} (h1:(N.natAbs:Int)<4294967296^n) (h2:(M.natAbs:Int)<4294967296^m):((gcdI (N.natAbs:Int) (M.natAbs:Int)).natAbs:Int)<4294967296^(max n m):=by
 have h3:(4294967296:Int)^n≤4294967296^(max n m):=pow_mono (by decide) (by omega)
 have h4:(4294967296:Int)^m≤4294967296^(max n m):=pow_mono (by decide) (by omega)
 have e:(gcdI (N.natAbs:Int) (M.natAbs:Int)).natAbs=Nat.gcd N.natAbs M.natAbs:=by unfold gcdI;simp
 rw [e]
 rcases Nat.eq_zero_or_pos N.natAbs with h0|h0
 ·rw [h0,Nat.gcd_zero_left];omega
 ·have:=Nat.gcd_le_left M.natAbs h0;omega
theorem sgvS' (N:Int):sgv (decide (N<0)) (N.natAbs:Int)=N:=by
 by_cases h:N<0
 ·rw [decide_eq_true h,sgv_true];omega
 ·rw [decide_eq_false h,sgv_false];omega
theorem sgvA' (s:Bool) (a:Int):(sgv s a).natAbs=a.natAbs:=by cases s<;>simp [sgv]
theorem div_size (N:Int) {M:Int} (hM:M≠0):(N.fdiv M).natAbs≤N.natAbs+1∧(N.fmod M).natAbs<M.natAbs:=by
 have hU:0<(M.natAbs:Int):=by omega
 obtain ⟨k1,k2⟩:=floor_parts (s:=decide (N<0)) (t:=decide (M<0)) (V:=(N.natAbs:Int)) hU
 rw [sgvS',sgvS'] at k1 k2
 have h1:=Int.emod_nonneg (N.natAbs:Int) (show (M.natAbs:Int)≠0 by omega)
 have h2:=Int.emod_lt_of_pos (N.natAbs:Int) hU
 have h3:=Int.ediv_nonneg (show (0:Int)≤(N.natAbs:Int) by omega) (Int.le_of_lt hU)
 have h4:=Int.ediv_le_self (a:=(N.natAbs:Int)) (M.natAbs:Int) (by omega)
 generalize (N.natAbs:Int)%(M.natAbs:Int)=r at*
 generalize (N.natAbs:Int) / (M.natAbs:Int)=q at*
 by_cases hd:((decide (N<0)) != (decide (M<0)))=true∧r≠0
 ·obtain ⟨e1,e2⟩:=k2 hd
  rw [e1,e2,sgvA',sgvA']
  have:=hd.2
  omega
 ·have hor:((decide (N<0)) != (decide (M<0)))=false∨r=0:=by
   by_cases h0:r=0
   ·exact .inr h0
   ·refine .inl ?_
    cases hb:((decide (N<0)) != (decide (M<0))) with
    |false=>rfl
    |true=>exact absurd ⟨hb,h0⟩ hd
  obtain ⟨e1,e2⟩:=k1 hor
  rw [e1,e2,sgvA',sgvA']
  omega
theorem fdiv_lt' {N M:Int} {n:Nat} (h1:(N.natAbs:Int)<4294967296^n) (hM:M≠0):((N.fdiv M).natAbs:Int)<4294967296^(n+1):=by
 have h2:=(div_size N hM).1
 have p:=pow_pos' (show (0:Int)<4294967296 by decide) n
 rw [Int.pow_succ]
 omega
theorem fmod_lt' {N M:Int} {n:Nat} (h1:(M.natAbs:Int)<4294967296^n) (hM:M≠0):((N.fmod M).natAbs:Int)<4294967296^n:=by
 have h2:=(div_size N hM).2
 omega
section
variable {w00:World} {N:Nat} {L:List Loc} {E:List (Nat×VTy)} {d:Nat} {t0:TypeId} {pos:String} {af:Array Edge} {gd:Option (Nat×Bool)} {ats:Array TypeId}
theorem e3_gcd:Enters Tryz.prog 154:=fun _ _=>by kernel_rfl
theorem c3_gcd {X:List Nat} {w:World} {v0 v1:Value} {N M:Int} {L K:Nat} (hX:∀ b∈X,b<w.heap.size) (h0:(VTy.na N L).holds X w v0) (h1:(VTy.na M K).holds X w v1) (hb:L≤1000∧K≤1000):Calls Tryz.prog 154 #[v0,v1] w (Gives X w (.nc (gcdI (N.natAbs:Int) (M.natAbs:Int)) (max L K))):=by
 have l0:=na_lt h0
 have l1:=na_lt h1
 obtain ⟨s,A,n,c,xs,rfl,s0,d0,e0,n0⟩:=na_open h0
 obtain ⟨t,A2,m,c2,ys,rfl,s1,d1,e1,n1⟩:=na_open h1
 have:=gcd3_any (s:=s) (t:=t) s0 s1 (Nat.le_refl _) d0 d1 (by omega) (by omega)
 rw [e0,e1] at this
 exact this.mono fun e w' h=>h.gives hX (gcd_lt' l0 l1)
theorem s3_gcd {o0 o1:Operand} {T0 T1:VTy} {N0 M:Int} {L0 K:Nat} [OpC E o0 T0] [a0:AsN T0 N0 L0] [OpC E o1 T1] [a1:AsN T1 M K] (hb:L0≤1000∧K≤1000):
 StepT Tryz.prog w00 N L E ⟨some d, .call { callee:= .value (.func 154),args:= #[o0,o1],argTypes:=ats },t0,pos,af,gd⟩ (.nc (gcdI (N0.natAbs:Int) (M.natAbs:Int)) (max L0 K)):=
 sc2 e3_gcd fun X w v0 v1 hX _ _ h0 h1=>c3_gcd hX (a0.ok h0) (a1.ok h1) hb
theorem e3_neg:Enters Tryz.prog 114:=fun _ _=>by kernel_rfl
theorem c3_neg {X:List Nat} {w:World} {v0:Value} {N:Int} {L:Nat} (hX:∀ b∈X,b<w.heap.size) (h0:(VTy.na N L).holds X w v0) (hb:L≤1000):Calls Tryz.prog 114 #[v0] w (Gives X w (.nc (-N) (L))):=by
 have l0:=na_lt h0
 obtain ⟨s,A,n,c,xs,rfl,s0,d0,e0,n0⟩:=na_open h0
 have:=neg3_any (s:=s) s0 (Nat.le_refl _) d0 (by omega)
 rw [e0] at this
 exact this.mono fun e w' h=>h.gives hX (neg_lt l0)
theorem s3_neg {o0:Operand} {T0:VTy} {N0:Int} {L0:Nat} [OpC E o0 T0] [a0:AsN T0 N0 L0] (hb:L0≤1000):
 StepT Tryz.prog w00 N L E ⟨some d, .call { callee:= .value (.func 114),args:= #[o0],argTypes:=ats },t0,pos,af,gd⟩ (.nc (-N0) (L0)):=
 sc1 e3_neg fun X w v0 hX _ _ h0=>c3_neg hX (a0.ok h0) hb
theorem e3_sign:Enters Tryz.prog 112:=fun _ _=>by kernel_rfl
theorem c3_sign {X:List Nat} {w:World} {v0:Value} {N:Int} {L:Nat} (h0:(VTy.na N L).holds X w v0) (hb:L≤1000):Calls Tryz.prog 112 #[v0] w (Gives X w (.is (.int .i64 (cmpI N 0)))):=by
 obtain ⟨s,A,n,c,xs,rfl,s0,d0,e0,n0⟩:=na_open h0
 have:=sign3_any (s:=s) s0 (Nat.le_refl _) d0 (by omega)
 rw [e0] at this
 refine this.mono ?_
 rintro e w' ⟨rfl,hb⟩
 exact ⟨_,rfl,rfl,hb⟩
theorem s3_sign {o0:Operand} {T0:VTy} {N0:Int} {L0:Nat} [OpC E o0 T0] [a0:AsN T0 N0 L0] (hb:L0≤1000):
 StepT Tryz.prog w00 N L E ⟨some d, .call { callee:= .value (.func 112),args:= #[o0],argTypes:=ats },t0,pos,af,gd⟩ (.is (.int .i64 (cmpI N0 0))):=
 sc1 e3_sign fun X w v0 hX _ _ h0=>c3_sign (a0.ok h0) hb
theorem e3_of:Enters Tryz.prog 83:=fun _ _=>by kernel_rfl
theorem s3_of {o0:Operand} {k:Int} [OpC E o0 (.is (.int .i64 k))] (hk: -9223372036854775808≤k∧k≤9223372036854775807):
 StepT Tryz.prog w00 N L E ⟨some d, .call { callee:= .value (.func 83),args:= #[o0],argTypes:=ats },t0,pos,af,gd⟩ (.nc k 2):=
 sc1 e3_of fun X w v0 hX _ _ h0=>by
  obtain rfl:v0=_:=h0
  exact (of3_any hk).mono fun e w' h=>h.gives hX (of_lt' hk)
theorem e3_div:Enters Tryz.prog 110:=fun _ _=>by kernel_rfl
theorem c3_div {X:List Nat} {w:World} {v0 v1:Value} {N M:Int} {L K:Nat} (hX:∀ b∈X,b<w.heap.size) (h0:(VTy.na N L).holds X w v0) (h1:(VTy.na M K).holds X w v1) (hb:L≤1000∧K≤1000) (hM:M≠0):Calls Tryz.prog 110 #[v0,v1] w (Gives X w (.tup [.nc (N.fdiv M) (L+1), .nc (N.fmod M) K, .is (.int .i64 0)])):=by
 have l0:=fdiv_lt' (na_lt h0) hM
 have l1:=fmod_lt' (N:=N) (na_lt h1) hM
 obtain ⟨s,A,n,c,xs,rfl,s0,d0,e0,n0⟩:=na_open h0
 obtain ⟨t,A2,m,c2,ys,rfl,s1,d1,e1,n1⟩:=na_open h1
 have:=div3_any (s:=s) (t:=t) s0 s1 (Nat.le_refl _) d0 d1 (by omega) (by omega)
 rw [e0,e1] at this
 refine this.mono ?_
 rintro e w' (⟨hz,_⟩|⟨_,s1,qs,s2,rs,A1,n1,c1,A2,n2,c2,rfl,hq,hr,o1,o2,hb⟩)
 ·exact absurd hz hM
 ·exact ⟨_,rfl,⟨[_,_,_],rfl,nc_new hX hq o1 l0,nc_new hX hr o2 l1,rfl,trivial⟩,hb⟩
theorem s3_div {o0 o1:Operand} {T0 T1:VTy} {N0 M:Int} {L0 K:Nat} [OpC E o0 T0] [a0:AsN T0 N0 L0] [OpC E o1 T1] [a1:AsN T1 M K] (hb:L0≤1000∧K≤1000) (hM:M≠0):
 StepT Tryz.prog w00 N L E ⟨some d, .call { callee:= .value (.func 110),args:= #[o0,o1],argTypes:=ats },t0,pos,af,gd⟩ (.tup [.nc (N0.fdiv M) (L0+1), .nc (N0.fmod M) K, .is (.int .i64 0)]):=
 sc2 e3_div fun X w v0 v1 hX _ _ h0 h1=>c3_div hX (a0.ok h0) (a1.ok h1) hb hM
end
def NewB (B:Nat) (X:List Nat) (w:World) (b:Nat):Prop:=Free X w b∧B≤b∧∃ cs,w.heap[b]? =some (.cells cs 76 (0,0))
def VTy.nw (p:RawQ→Prop) (B:Nat):VTy:=⟨fun X w v=>∃ x,p x∧∃ cs:List Value,v= .agg cs.toArray∧Rp.frac.rd w (NewB B X w) x cs,fun ⟨x,hp,cs,e,h⟩ hk hX=>⟨x,hp,cs,e,Rp.frac.more (Rp.frac.keep h (fun b hb=>hk.block b hb.1.1 hb.1.2)) (fun b hb=>by
 obtain ⟨h1,h2,c,h3⟩:=hb
 exact ⟨Free.mono hk hX b h1,h2,c,(hk.block b h1.1 h1.2).trans h3⟩)⟩⟩
def VTy.qn (q:Rat) (L B:Nat):VTy:=VTy.nw (fun x=>Frac q x∧Lq q L) B
def VTy.qg (q:Rat) (L B:Nat):VTy:=VTy.nw (fun x=>qv x=q∧x.1.2.length≤L∧x.2.2.length≤L∧0<L) B
theorem nw_ex {p:RawQ→Prop} {B:Nat} {X:List Nat} {w:World} {v:Value} (h:(VTy.nw p B).holds X w v):(VTy.ex Rp.frac p).holds X w v:=by
 obtain ⟨x,hp,cs,e,h⟩:=h
 exact ⟨x,hp,cs,e,Rp.frac.more h (fun b hb=>hb.1)⟩
theorem nw_le {p:RawQ→Prop} {B B':Nat} {X:List Nat} {w:World} {v:Value} (h:(VTy.nw p B).holds X w v) (hB:B'≤B):(VTy.nw p B').holds X w v:=by
 obtain ⟨x,hp,cs,e,h⟩:=h
 exact ⟨x,hp,cs,e,Rp.frac.more h (fun b hb=>⟨hb.1,Nat.le_trans hB hb.2.1,hb.2.2⟩)⟩
instance {p:RawQ→Prop} {B:Nat}:SizeV (.nw p B) 4 true:=⟨fun h=>(inferInstance:SizeV (.ex Rp.frac p) Rp.frac.k true).ok (nw_ex h)⟩
instance {q:Rat} {L B:Nat}:SizeV (.qn q L B) 4 true:=inferInstanceAs (SizeV (.nw _ _) 4 true)
instance {q:Rat} {L B:Nat}:SizeV (.qg q L B) 4 true:=inferInstanceAs (SizeV (.nw _ _) 4 true)
instance {q:Rat} {L B:Nat}:PartC (.qn q L B) 0 4 true (.qn q L B):= .whole inferInstance
instance {q:Rat} {L B:Nat}:PartC (.qg q L B) 0 4 true (.qg q L B):= .whole inferInstance
instance {q:Rat} {L B:Nat}:AsQ (.qn q L B) q L:=⟨fun h=>(inferInstance:AsQ (.qc q L) q L).ok (nw_ex h)⟩
instance {q:Rat} {L B:Nat}:AsQ (.qg q L B) q L:=⟨fun h=>nw_ex h⟩
theorem qx_qc {X:List Nat} {w:World} {v:Value} {x:RawQ} {L:Nat} (hq:qrt x=true) (h:(VTy.qx x L).holds X w v):(VTy.qc (qv x) L).holds X w v:=by
 obtain ⟨y,⟨rfl,h1,h2,h3⟩,cs,e,c1,c2,e2,g1,g2⟩:=h
 obtain ⟨_,_,_,_,_,d1⟩:=num_rd.1 g1
 obtain ⟨_,_,_,_,_,d2⟩:=num_rd.1 g2
 have hf:=(Frac.of d1 d2 hq).1
 exact ⟨y,⟨hf,Lq.of hf h1 h2⟩,cs,e,c1,c2,e2,g1,g2⟩
theorem nd_qc {X:List Nat} {w:World} {q:Rat} {N D:Int} {L M:Nat} (hN:q.num=N) (hD:(q.den:Int)=D) (hL:Lq q M) (v:Value) (h:(VTy.nd N D L).holds X w v):(VTy.qc q M).holds X w v:=by
 obtain ⟨x,⟨h1,h2,_,_⟩,g⟩:=h
 exact ⟨x,⟨⟨by rw [hN];exact h1,by rw [hD];exact h2⟩,hL⟩,g⟩
theorem qc_qc {X:List Nat} {w:World} {p q:Rat} {L M:Nat} (hq:p=q) (hL:Lq q M) (v:Value) (h:(VTy.qc p L).holds X w v):(VTy.qc q M).holds X w v:=by
 obtain ⟨x,⟨h1,_⟩,g⟩:=h
 exact ⟨x,⟨by rw [←hq];exact h1,hL⟩,g⟩
theorem is_is {X:List Nat} {w:World} {a b:Value} (h:a=b) (v:Value) (hv:(VTy.is a).holds X w v):(VTy.is b).holds X w v:=by
 rw [←h];exact hv
theorem tup_imp {X:List Nat} {w:World} {T T' U U':VTy} (h1:∀ v,T.holds X w v→T'.holds X w v) (h2:∀ v,U.holds X w v→U'.holds X w v) (v:Value) (h:(VTy.tup [T,U]).holds X w v):(VTy.tup [T',U']).holds X w v:=by
 obtain ⟨vs,e,h⟩:=h
 match vs,h with
 |[a,b],⟨g1,g2,_⟩=>exact ⟨[a,b],e,h1 _ g1,h2 _ g2,trivial⟩
section
variable {w00:World} {N:Nat} {L:List Loc} {E:List (Nat×VTy)} {d:Nat} {t0:TypeId} {pos:String} {af:Array Edge} {gd:Option (Nat×Bool)} {ats:Array TypeId}
theorem s4_build {o0 o1:Operand} {N0 D0:Int} {L0 K0:Nat} [h0:OpC E o0 (.nc N0 L0)] [h1:OpC E o1 (.nc D0 K0)]:StepT Tryz.prog w00 N L E ⟨some d, .build 30 #[(0,o0),(1,o1)],t0,pos,af,gd⟩ (.nd N0 D0 (max L0 K0)):=by
 constructor
 intro X ρ w hc _ hN hm hsl
 obtain ⟨x,⟨a1,a2⟩,cs,e0,g0⟩:=h0.get (X:=X) (w:=w) hc fun p hp e=>hsl p hp (by simp [Op.operands,e])
 obtain ⟨y,⟨b1,b2⟩,ds,e1,g1⟩:=h1.get (X:=X) (w:=w) hc fun p hp e=>hsl p hp (by simp [Op.operands,e])
 obtain ⟨A,n,c,rfl,_⟩:=num_rd.1 g0
 obtain ⟨A2,n2,c2,rfl,_⟩:=num_rd.1 g1
 have hT:(VTy.nd N0 D0 (max L0 K0)).holds X w (.agg #[.bool x.1, .slice A n c, .bool y.1, .slice A2 n2 c2]):=
  ⟨(x,y),⟨a1,b1,Int.lt_of_lt_of_le a2 (pow_mono (by decide) (by omega)),Int.lt_of_lt_of_le b2 (pow_mono (by decide) (by omega))⟩,[.bool x.1, .slice A n c]++[.bool y.1, .slice A2 n2 c2],rfl,_,_,rfl,g0,g1⟩
 have HT:=Lib.hid hT
 clear hT hsl hm hc a1 a2 b1 b2 g0 g1 h0 h1
 unfold Yields
 go_simp
 exact ⟨HT.out,Below.refl _ _⟩
end
section
variable {w00:World} {N:Nat} {L:List Loc} {E:List (Nat×VTy)} {d:Nat} {t0:TypeId} {pos:String} {af:Array Edge} {gd:Option (Nat×Bool)} {ats:Array TypeId}
end
section
variable {w00:World} {N:Nat} {L:List Loc} {E:List (Nat×VTy)} {d:Nat} {t0:TypeId} {pos:String} {af:Array Edge} {gd:Option (Nat×Bool)} {ats:Array TypeId}
end
section
variable {w00:World} {N:Nat} {L:List Loc} {E:List (Nat×VTy)} {d:Nat} {t0:TypeId} {pos:String} {af:Array Edge} {gd:Option (Nat×Bool)} {ats:Array TypeId}
end
theorem c4_zero {X:List Nat} {w:World} (hX:∀ b∈X,b<w.heap.size):Calls Tryz.prog 153 #[] w (Gives X w (.qc 0 1)):=by
 refine ts_enter (Ts:=[]) (vs:=[]) Tryz.func153 rfl Tryz.ntmps153 (by simp) hX trivial fun a h=> ?_
 clear hX
 simp only [argE] at h
 refine g_of h ?_
 clear h
 repeat' first|kernel_rfl|apply g_seq|apply g_reg|apply g_nil|apply g_box|apply g_all|apply g_sto|apply g_asg|apply g_st|apply g_skip|apply g_ct|apply g_cf|apply g_ret|refine r_1 rfl ?_|apply g_cl|exact s3_of (by omega)|exact s4_build|exact ⟨fun _ _=>(nd_qc rfl rfl Lq.zero)⟩|exact Cv.rfl'|intro _
section
variable {w00:World} {N:Nat} {L:List Loc} {E:List (Nat×VTy)} {d:Nat} {t0:TypeId} {pos:String} {af:Array Edge} {gd:Option (Nat×Bool)} {ats:Array TypeId}
theorem e4_zero:Enters Tryz.prog 153:=fun _ _=>by kernel_rfl
theorem s4_zero:StepT Tryz.prog w00 N L E ⟨some d, .call { callee:= .value (.func 153),args:= #[],argTypes:=ats },t0,pos,af,gd⟩ (.qc 0 1):=sc0 e4_zero fun X w hX _ _=>c4_zero hX
end
section
variable {w00:World} {N:Nat} {L:List Loc} {E:List (Nat×VTy)} {d:Nat} {t0:TypeId} {pos:String} {af:Array Edge} {gd:Option (Nat×Bool)} {ats:Array TypeId}
end
theorem new_parts {N D:Int} (hD:0<D):0<gcdI (N.natAbs:Int) (D.natAbs:Int)∧(Rat.divInt N D).num=N.fdiv (gcdI (N.natAbs:Int) (D.natAbs:Int))∧((Rat.divInt N D).den:Int)=D.fdiv (gcdI (N.natAbs:Int) (D.natAbs:Int)):=by
 rw [gcdI_abs]
 have h1:(Int.gcd N D:Int)∣N:=Int.gcd_dvd_left ..
 have h2:(Int.gcd N D:Int)∣D:=Int.gcd_dvd_right ..
 have hg:0<Int.gcd N D:=Int.gcd_pos_of_ne_zero_right _ (by omega)
 have h3:Int.gcd (N / Int.gcd N D) (D / Int.gcd N D)=1:=Int.gcd_ediv_gcd_ediv_gcd hg
 have hg0:(0:Int)<(Int.gcd N D:Int):=by omega
 rw [Int.fdiv_eq_ediv_of_nonneg _ (Int.le_of_lt hg0),Int.fdiv_eq_ediv_of_nonneg _ (Int.le_of_lt hg0)]
 obtain ⟨e1,e2⟩:=divInt_parts (n:=N) (d:=D) (Int.ediv_mul_cancel h1).symm (Int.ediv_mul_cancel h2).symm (by omega) (Int.ediv_pos_of_pos_of_dvd hD (by omega) h2) h3
 exact ⟨hg0,e1,e2⟩
theorem new_neg (N D:Int):Rat.divInt (-N) (-D)=Rat.divInt N D:=Rat.neg_divInt_neg ..
theorem c4_newP {X:List Nat} {w:World} (hX:∀ b∈X,b<w.heap.size) {v0 v1:Value} {N D:Int} {L K:Nat} (h0:(VTy.na N L).holds X w v0) (h1:(VTy.na D K).holds X w v1) (hb:L≤1000∧K≤1000) (hD:0<D):
 Calls Tryz.prog 82 #[v0,v1] w (Gives X w (.tup [.qc (Rat.divInt N D) (max L K), .is (.int .i64 0)])):=by
 have l0:=na_lt h0
 have l1:=na_lt h1
 have hK:0<K:=by
  rcases Nat.eq_zero_or_pos K with h|h
  ·subst h
   simp at l1
   omega
  ·exact h
 have hL:Lq (Rat.divInt N D) (max L K):=Lq.divInt (Int.lt_of_lt_of_le l0 (pow_mono (by decide) (by omega))) (Int.lt_of_lt_of_le l1 (pow_mono (by decide) (by omega))) (by omega)
 clear l0 l1
 have hz:(cmpI D 0==0)=false:=by rw [cmpI_gt hD];rfl
 have hs:decide (cmpI D 0<0)=false:=by rw [cmpI_gt hD];rfl
 obtain ⟨e1,e2,e3⟩:=new_parts (N:=N) hD
 refine ts_enter (Ts:=[.na N L, .na D K]) (vs:=[v0,v1]) Tryz.func82 rfl Tryz.ntmps82 (by simp) hX ⟨h0,h1,trivial⟩ fun a h=> ?_
 clear h0 h1 hX
 simp only [argE,Nat.zero_add,Nat.reduceAdd] at h
 refine g_of h ?_
 clear h
 repeat' first|kernel_rfl|apply g_seq|apply g_reg|apply g_nil|apply g_box|apply g_all|apply g_sto|apply g_asg|apply g_st|apply g_skip|apply g_ct|apply g_cf|apply g_ret|refine r_2 rfl ?_|apply g_cl|exact s3_gcd (by omega)|exact s3_neg (by omega)|exact s3_sign (by omega)|exact s3_div (by omega) (by omega)|exact s4_build|exact s4_zero|exact st_move'|exact st_assign'|exact st_load'|exact st_extract'|exact st_eq' (by first|assumption|rfl)|exact st_lss' (by first|assumption|rfl)|exact st_loadE'|exact ⟨fun _ _=>(tup_imp (nd_qc e2 e3 hL) fun _ h=>h)⟩|exact Cv.rfl'|intro _
theorem c4_newM {X:List Nat} {w:World} (hX:∀ b∈X,b<w.heap.size) {v0 v1:Value} {N D:Int} {L K:Nat} (h0:(VTy.na N L).holds X w v0) (h1:(VTy.na D K).holds X w v1) (hb:L≤1000∧K≤1000) (hD:D<0):
 Calls Tryz.prog 82 #[v0,v1] w (Gives X w (.tup [.qc (Rat.divInt N D) (max L K), .is (.int .i64 0)])):=by
 have l0:=na_lt h0
 have l1:=na_lt h1
 have hK:0<K:=by
  rcases Nat.eq_zero_or_pos K with h|h
  ·subst h
   simp at l1
   omega
  ·exact h
 have hL:Lq (Rat.divInt N D) (max L K):=Lq.divInt (Int.lt_of_lt_of_le l0 (pow_mono (by decide) (by omega))) (Int.lt_of_lt_of_le l1 (pow_mono (by decide) (by omega))) (by omega)
 clear l0 l1
 have hz:(cmpI D 0==0)=false:=by rw [cmpI_lt hD];rfl
 have hs:decide (cmpI D 0<0)=true:=by rw [cmpI_lt hD];rfl
 obtain ⟨e1,e2,e3⟩:=new_parts (N:= -N) (D:= -D) (by omega)
 rw [new_neg] at e2 e3
 refine ts_enter (Ts:=[.na N L, .na D K]) (vs:=[v0,v1]) Tryz.func82 rfl Tryz.ntmps82 (by simp) hX ⟨h0,h1,trivial⟩ fun a h=> ?_
 clear h0 h1 hX
 simp only [argE,Nat.zero_add,Nat.reduceAdd] at h
 refine g_of h ?_
 clear h
 repeat' first|kernel_rfl|apply g_seq|apply g_reg|apply g_nil|apply g_box|apply g_all|apply g_sto|apply g_asg|apply g_st|apply g_skip|apply g_ct|apply g_cf|apply g_ret|refine r_2 rfl ?_|apply g_cl|exact s3_gcd (by omega)|exact s3_neg (by omega)|exact s3_sign (by omega)|exact s3_div (by omega) (by omega)|exact s4_build|exact s4_zero|exact st_move'|exact st_assign'|exact st_load'|exact st_extract'|exact st_eq' (by first|assumption|rfl)|exact st_lss' (by first|assumption|rfl)|exact st_loadE'|exact ⟨fun _ _=>(tup_imp (nd_qc e2 e3 hL) fun _ h=>h)⟩|exact Cv.rfl'|intro _
theorem c4_new {X:List Nat} {w:World} {v0 v1:Value} {N D:Int} {L K:Nat} (hX:∀ b∈X,b<w.heap.size) (h0:(VTy.na N L).holds X w v0) (h1:(VTy.na D K).holds X w v1) (hb:L≤1000∧K≤1000) (hD:D≠0):
 Calls Tryz.prog 82 #[v0,v1] w (Gives X w (.tup [.qc (Rat.divInt N D) (max L K), .is (.int .i64 0)])):=by
 rcases Int.lt_or_gt_of_ne hD with h|h
 ·exact c4_newM hX h0 h1 hb h
 ·exact c4_newP hX h0 h1 hb h
section
variable {w00:World} {N:Nat} {L:List Loc} {E:List (Nat×VTy)} {d:Nat} {t0:TypeId} {pos:String} {af:Array Edge} {gd:Option (Nat×Bool)} {ats:Array TypeId}
theorem e4_new:Enters Tryz.prog 82:=fun _ _=>by kernel_rfl
theorem s4_new {o0:Operand} {T0:VTy} {N0:Int} {L0:Nat} {o1:Operand} {T1:VTy} {M0:Int} {K0:Nat} [OpC E o0 T0] [a0:AsN T0 N0 L0] [OpC E o1 T1] [a1:AsN T1 M0 K0] (hb:L0≤1000∧K0≤1000) (hD:M0≠0):
 StepT Tryz.prog w00 N L E ⟨some d, .call { callee:= .value (.func 82),args:= #[o0,o1],argTypes:=ats },t0,pos,af,gd⟩ (.tup [.qc (Rat.divInt N0 M0) (max L0 K0), .is (.int .i64 0)]):=
 sc2 e4_new fun X w v0 v1 hX _ _ h0 h1=>c4_new hX (a0.ok h0) (a1.ok h1) hb hD
end
section
variable {w00:World} {N:Nat} {L:List Loc} {E:List (Nat×VTy)} {d:Nat} {t0:TypeId} {pos:String} {af:Array Edge} {gd:Option (Nat×Bool)} {ats:Array TypeId}
end
section
variable {w00:World} {N:Nat} {L:List Loc} {E:List (Nat×VTy)} {d:Nat} {t0:TypeId} {pos:String} {af:Array Edge} {gd:Option (Nat×Bool)} {ats:Array TypeId}
end
section
variable {w00:World} {N:Nat} {L:List Loc} {E:List (Nat×VTy)} {d:Nat} {t0:TypeId} {pos:String} {af:Array Edge} {gd:Option (Nat×Bool)} {ats:Array TypeId}
end
section
variable {w00:World} {N:Nat} {L:List Loc} {E:List (Nat×VTy)} {d:Nat} {t0:TypeId} {pos:String} {af:Array Edge} {gd:Option (Nat×Bool)} {ats:Array TypeId}
end
section
variable {w00:World} {N:Nat} {L:List Loc} {E:List (Nat×VTy)} {d:Nat} {t0:TypeId} {pos:String} {af:Array Edge} {gd:Option (Nat×Bool)} {ats:Array TypeId}
end
section
variable {w00:World} {N:Nat} {L:List Loc} {E:List (Nat×VTy)} {d:Nat} {t0:TypeId} {pos:String} {af:Array Edge} {gd:Option (Nat×Bool)} {ats:Array TypeId}
end
section
variable {w00:World} {N:Nat} {L:List Loc} {E:List (Nat×VTy)} {d:Nat} {t0:TypeId} {pos:String} {af:Array Edge} {gd:Option (Nat×Bool)} {ats:Array TypeId}
end
section
variable {w00:World} {N:Nat} {L:List Loc} {E:List (Nat×VTy)} {d:Nat} {t0:TypeId} {pos:String} {af:Array Edge} {gd:Option (Nat×Bool)} {ats:Array TypeId}
end
section
variable {w00:World} {N:Nat} {L:List Loc} {E:List (Nat×VTy)} {d:Nat} {t0:TypeId} {pos:String} {af:Array Edge} {gd:Option (Nat×Bool)} {ats:Array TypeId}
end
section
variable {w00:World} {N:Nat} {L:List Loc} {E:List (Nat×VTy)} {d:Nat} {t0:TypeId} {pos:String} {af:Array Edge} {gd:Option (Nat×Bool)} {ats:Array TypeId}
end
theorem Lq.whole {k:Int} (hk: -9223372036854775808≤k∧k≤9223372036854775807):Lq (k:Rat) 2:=⟨of_lt' hk,by rw [show ((k:Rat).den:Int)=1 from rfl];decide⟩
section
variable {w00:World} {N:Nat} {L:List Loc} {E:List (Nat×VTy)} {d:Nat} {t0:TypeId} {pos:String} {af:Array Edge} {gd:Option (Nat×Bool)} {ats:Array TypeId}
end
theorem c4_of {X:List Nat} {w:World} (hX:∀ b∈X,b<w.heap.size) {v0 v1:Value} {k m:Int} (h0:(VTy.is (.int .i64 k)).holds X w v0) (h1:(VTy.is (.int .i64 m)).holds X w v1) (hk: -9223372036854775808≤k∧k≤9223372036854775807) (hm: -9223372036854775808≤m∧m≤9223372036854775807) (hD:m≠0):
 Calls Tryz.prog 26 #[v0,v1] w (Gives X w (.tup [.qc (Rat.divInt k m) 2, .is (.int .i64 0)])):=by
 refine ts_enter (Ts:=[.is (.int .i64 k), .is (.int .i64 m)]) (vs:=[v0,v1]) Tryz.func26 rfl Tryz.ntmps26 (by simp) hX ⟨h0,h1,trivial⟩ fun a h=> ?_
 clear h0 h1 hX
 simp only [argE,Nat.zero_add,Nat.reduceAdd] at h
 refine g_of h ?_
 clear h
 repeat' first|kernel_rfl|apply g_seq|apply g_reg|apply g_nil|apply g_box|apply g_all|apply g_sto|apply g_asg|apply g_st|apply g_skip|apply g_ct|apply g_cf|apply g_ret|refine r_2 rfl ?_|apply g_cl|exact s3_of (by omega)|exact s4_new (by omega) hD|exact st_move'|exact st_assign'|exact st_extract'|exact Cv.rfl'|intro _
section
variable {w00:World} {N:Nat} {L:List Loc} {E:List (Nat×VTy)} {d:Nat} {t0:TypeId} {pos:String} {af:Array Edge} {gd:Option (Nat×Bool)} {ats:Array TypeId}
theorem e4_of:Enters Tryz.prog 26:=fun _ _=>by kernel_rfl
theorem s4_of {o0:Operand} {k0:Int} {o1:Operand} {k1:Int} [OpC E o0 (.is (.int .i64 k0))] [OpC E o1 (.is (.int .i64 k1))] (hk: -9223372036854775808≤k0∧k0≤9223372036854775807) (hm: -9223372036854775808≤k1∧k1≤9223372036854775807) (hD:k1≠0):
 StepT Tryz.prog w00 N L E ⟨some d, .call { callee:= .value (.func 26),args:= #[o0,o1],argTypes:=ats },t0,pos,af,gd⟩ (.tup [.qc (Rat.divInt k0 k1) 2, .is (.int .i64 0)]):=
 sc2 e4_of fun X w v0 v1 hX _ _ h0 h1=>c4_of hX h0 h1 hk hm hD
end
def fewQ (L:Nat) (x:RawQ):Prop:=x.1.2.length≤L∧x.2.2.length≤L∧0<L
def VTy.rq (L:Nat) (l:List RawQ):VTy:=VTy.rw Rp.frac (fewQ L) l
instance {L:Nat} {x:RawQ}:AsQ (.el Rp.frac (fewQ L) x) (qv x) L:=⟨fun ⟨y,h,g⟩=>⟨y,by rw [h.1];exact ⟨rfl,by rw [←h.1];exact h.2⟩,g⟩⟩
end Go.Proofs.YtgnggldjjjkogaaGreatDoor
