/- Package big in a typed walk: what each call answers, as a step. -/
import Derived.Test.YtgnggldjjjkogaaGreatDoorGH
import Derived.Test.YtgnggldjjjkogaaGreatDoorGE
import Derived.Test.YtgnggldjjjkogaaGreatDoorGD
import Derived.Test.YtgnggldjjjkogaaGreatDoorGB
set_option maxHeartbeats 4000000
set_option maxRecDepth 20000
set_option linter.unusedSimpArgs false
set_option linter.unusedVariables false
namespace Go.Proofs.YtgnggldjjjkogaaGreatDoor
open Go Go.RowKit
structure Tab (w:World):Prop where
 half:HalfT w
 hz:3<w.heap.size
theorem Tab.below {w w':World} (h:Tab w) (hb:Below w.heap.size w w'):Tab w':=⟨fun i hi=>(hb.cell (p:=⟨3,i,none⟩) h.hz).trans (h.half i hi),Nat.lt_of_lt_of_le h.hz hb.size⟩
section
variable {w00:World} {N:Nat} {L:List Loc} {E:List (Nat×VTy)} {d:Nat} {t0:TypeId} {pos:String} {af:Array Edge} {gd:Option (Nat×Bool)} {ats:Array TypeId}
theorem eb_mul:Enters Tryz.prog 163:=fun _ _=>by kernel_rfl
theorem cb_mul {X:List Nat} {w:World} {v0 v1:Value} {N M:Int} {L K:Nat} (hX:∀ b∈X,b<w.heap.size) (h0:(VTy.na N L).holds X w v0) (h1:(VTy.na M K).holds X w v1) (hb:L≤1000∧K≤1000):Calls Tryz.prog 163 #[v0,v1] w (Gives X w (.nc (N*M) (L+K))):=by
 have l0:=na_lt h0
 have l1:=na_lt h1
 obtain ⟨s,A,n,c,xs,rfl,s0,d0,e0,n0⟩:=na_open h0
 obtain ⟨t,A2,m,c2,ys,rfl,s1,d1,e1,n1⟩:=na_open h1
 have:=bmul_any (s:=s) (t:=t) s0 s1 (Nat.le_refl _) d0 d1 (by omega) (by omega)
 rw [e0,e1] at this
 exact this.mono fun e w' h=>h.gives hX (mul_lt l0 l1)
theorem sb_mul {o0 o1:Operand} {T0 T1:VTy} {N0 M:Int} {L0 K:Nat} [OpC E o0 T0] [a0:AsN T0 N0 L0] [OpC E o1 T1] [a1:AsN T1 M K] (hb:L0≤1000∧K≤1000):
 StepT Tryz.prog w00 N L E ⟨some d, .call { callee:= .value (.func 163),args:= #[o0,o1],argTypes:=ats },t0,pos,af,gd⟩ (.nc (N0*M) (L0+K)):=
 sc2 eb_mul fun X w v0 v1 hX _ _ h0 h1=>cb_mul hX (a0.ok h0) (a1.ok h1) hb
theorem eb_gcd:Enters Tryz.prog 160:=fun _ _=>by kernel_rfl
theorem eb_neg:Enters Tryz.prog 164:=fun _ _=>by kernel_rfl
theorem eb_cmp:Enters Tryz.prog 173:=fun _ _=>by kernel_rfl
theorem cb_cmp {X:List Nat} {w:World} {v0 v1:Value} {N M:Int} {L K:Nat} (h0:(VTy.na N L).holds X w v0) (h1:(VTy.na M K).holds X w v1) (hb:L≤1000∧K≤1000):Calls Tryz.prog 173 #[v0,v1] w (Gives X w (.is (.int .i64 (cmpI N M)))):=by
 obtain ⟨s,A,n,c,xs,rfl,s0,d0,e0,n0⟩:=na_open h0
 obtain ⟨t,A2,m,c2,ys,rfl,s1,d1,e1,n1⟩:=na_open h1
 have:=bcmp_any (s:=s) (t:=t) s0 s1 (Nat.le_refl _) d0 d1 (by omega) (by omega)
 rw [e0,e1] at this
 refine this.mono ?_
 rintro e w' ⟨rfl,hb⟩
 exact ⟨_,rfl,rfl,hb⟩
theorem sb_cmp {o0 o1:Operand} {T0 T1:VTy} {N0 M:Int} {L0 K:Nat} [OpC E o0 T0] [a0:AsN T0 N0 L0] [OpC E o1 T1] [a1:AsN T1 M K] (hb:L0≤1000∧K≤1000):
 StepT Tryz.prog w00 N L E ⟨some d, .call { callee:= .value (.func 173),args:= #[o0,o1],argTypes:=ats },t0,pos,af,gd⟩ (.is (.int .i64 (cmpI N0 M))):=
 sc2 eb_cmp fun X w v0 v1 hX _ _ h0 h1=>cb_cmp (a0.ok h0) (a1.ok h1) hb
theorem eb_sign:Enters Tryz.prog 106:=fun _ _=>by kernel_rfl
theorem cb_sign {X:List Nat} {w:World} {v0:Value} {N:Int} {L:Nat} (h0:(VTy.na N L).holds X w v0) (hb:L≤1000):Calls Tryz.prog 106 #[v0] w (Gives X w (.is (.int .i64 (cmpI N 0)))):=by
 obtain ⟨s,A,n,c,xs,rfl,s0,d0,e0,n0⟩:=na_open h0
 have:=bsign_any (s:=s) s0 (Nat.le_refl _) d0 (by omega)
 rw [e0] at this
 refine this.mono ?_
 rintro e w' ⟨rfl,hb⟩
 exact ⟨_,rfl,rfl,hb⟩
theorem sb_sign {o0:Operand} {T0:VTy} {N0:Int} {L0:Nat} [OpC E o0 T0] [a0:AsN T0 N0 L0] (hb:L0≤1000):
 StepT Tryz.prog w00 N L E ⟨some d, .call { callee:= .value (.func 106),args:= #[o0],argTypes:=ats },t0,pos,af,gd⟩ (.is (.int .i64 (cmpI N0 0))):=
 sc1 eb_sign fun X w v0 hX _ _ h0=>cb_sign (a0.ok h0) hb
theorem eb_right:Enters Tryz.prog 172:=fun _ _=>by kernel_rfl
theorem sb_right {o0:Operand} {x:RawI} {L0:Nat} {u:Bool} [OpC E o0 (.nx x L0)] (hu:rgt x.1 x.2=u):
 StepT Tryz.prog w00 N L E ⟨some d, .call { callee:= .value (.func 172),args:= #[o0],argTypes:=ats },t0,pos,af,gd⟩ (.is (.bool u)):=
 sc1 eb_right fun X w v0 hX _ _ h0=>by
  obtain ⟨y,⟨rfl,_⟩,cs,rfl,hr⟩:=h0
  obtain ⟨A,n,c,rfl,hs,hd⟩:=num_rd.1 hr
  refine (bright_any (s:=y.1) hs.1 (Nat.le_refl _)).mono ?_
  rintro e w' ⟨rfl,hb⟩
  exact ⟨_,rfl,by rw [hu];rfl,hb⟩
theorem eb_of:Enters Tryz.prog 107:=fun _ _=>by kernel_rfl
theorem eb_div:Enters Tryz.prog 207:=fun _ _=>by kernel_rfl
end
def VTy.nwn (p:RawI→Prop) (B:Nat):VTy:=⟨fun X w v=>∃ x,p x∧∃ cs:List Value,v= .agg cs.toArray∧Rp.num.rd w (NewB B X w) x cs,fun ⟨x,hp,cs,e,h⟩ hk hX=>⟨x,hp,cs,e,Rp.num.more (Rp.num.keep h (fun b hb=>hk.block b hb.1.1 hb.1.2)) (fun b hb=>by
 obtain ⟨h1,h2,c,h3⟩:=hb
 exact ⟨Free.mono hk hX b h1,h2,c,(hk.block b h1.1 h1.2).trans h3⟩)⟩⟩
def VTy.nn (N:Int) (L B:Nat):VTy:=VTy.nwn (fun x=>Whole N x.1 x.2∧(N.natAbs:Int)<4294967296^L) B
def VTy.ndn (N D:Int) (L B:Nat):VTy:=VTy.nw (fun x=>Whole N x.1.1 x.1.2∧Whole D x.2.1 x.2.2∧(N.natAbs:Int)<4294967296^L∧(D.natAbs:Int)<4294967296^L) B
theorem nwn_ex {p:RawI→Prop} {B:Nat} {X:List Nat} {w:World} {v:Value} (h:(VTy.nwn p B).holds X w v):(VTy.ex Rp.num p).holds X w v:=by
 obtain ⟨x,hp,cs,e,h⟩:=h
 exact ⟨x,hp,cs,e,Rp.num.more h (fun b hb=>hb.1)⟩
theorem nwn_le {p:RawI→Prop} {B B':Nat} {X:List Nat} {w:World} {v:Value} (h:(VTy.nwn p B).holds X w v) (hB:B'≤B):(VTy.nwn p B').holds X w v:=by
 obtain ⟨x,hp,cs,e,h⟩:=h
 exact ⟨x,hp,cs,e,Rp.num.more h (fun b hb=>⟨hb.1,Nat.le_trans hB hb.2.1,hb.2.2⟩)⟩
instance {p:RawI→Prop} {B:Nat}:SizeV (.nwn p B) 2 true:=⟨fun h=>(inferInstance:SizeV (.ex Rp.num p) Rp.num.k true).ok (nwn_ex h)⟩
instance {N:Int} {L B:Nat}:SizeV (.nn N L B) 2 true:=inferInstanceAs (SizeV (.nwn _ _) 2 true)
instance {N D:Int} {L B:Nat}:SizeV (.ndn N D L B) 4 true:=inferInstanceAs (SizeV (.nw _ _) 4 true)
instance {N:Int} {L B:Nat}:PartC (.nn N L B) 0 2 true (.nn N L B):= .whole inferInstance
instance {N D:Int} {L B:Nat}:PartC (.ndn N D L B) 0 4 true (.ndn N D L B):= .whole inferInstance
instance {N:Int} {L B:Nat}:AsN (.nn N L B) N L:=⟨fun h=>(inferInstance:AsN (.nc N L) N L).ok (nwn_ex h)⟩
instance:ZeroC Tryz.prog 24 (.na 0 0):=⟨⟨.agg #[.bool false, .slice none 0 0],fun X w=>⟨(false,[]),⟨rfl,Nat.le_refl _⟩,[.bool false, .slice none 0 0],rfl,num_rd.2 ⟨none,0,0,rfl,⟨Sl.nil,fun h=>by omega⟩,Dg.nil⟩⟩,fun o ρ w ho=>by
 unfold execOp
 rw [ho]
 go_simp⟩⟩
theorem Own.cellsAt {k:IntKind} {e:TypeId} {w:World} {B:Nat} {A:Option Addr} {n c:Nat} {xs:List Int} (h:Own k e w B A n c xs) {g:Nat} (hg:blk A=some g):∃ cur,w.heap[g]? =some (.cells cur e (0,0)):=by
 rcases h.2 with ⟨h1,_⟩|⟨g',cap,cur,h1,h2,h3,h4⟩
 ·injection h1 with h1
  rw [h1] at hg;cases hg
 ·injection h1 with h1
  rw [h1] at hg
  injection hg with hg
  subst hg
  exact ⟨cur,h3⟩
theorem nn_new {X:List Nat} {w':World} {B:Nat} {N:Int} {L:Nat} {s:Bool} {A:Option Addr} {n c:Nat} {ys:List Int} (hX:∀ b∈X,b<B) (h:Whole N s ys) (ho:Own .u32 76 w' B A n c ys) (hl:(N.natAbs:Int)<4294967296^L):(VTy.nn N L B).holds X w' (.agg #[.bool s, .slice A n c]):=by
 refine ⟨(s,ys),⟨h,hl⟩,[.bool s, .slice A n c],rfl,num_rd.2 ⟨A,n,c,rfl,⟨ho.sl,fun hn b hb=> ?_⟩,h.row.dg⟩⟩
 obtain ⟨g1,g2⟩:=ho.blk_ b hb
 exact ⟨⟨g2,fun hx=>by have:=hX b hx;omega⟩,g1,ho.cellsAt hb⟩
theorem NewI.givesN {X:List Nat} {w w':World} {N:Int} {L:Nat} {e:Ending} (h:NewI w N e w') (hX:∀ b∈X,b<w.heap.size) (hl:(N.natAbs:Int)<4294967296^L):Gives X w (.nn N L w.heap.size) e w':=by
 obtain ⟨s,ys,A,n,c,hW,rfl,ho,hb⟩:=h
 exact ⟨_,rfl,nn_new hX hW ho hl,hb⟩
section
variable {w00:World} {N:Nat} {L:List Loc} {E:List (Nat×VTy)} {d:Nat} {t0:TypeId} {pos:String} {af:Array Edge} {gd:Option (Nat×Bool)} {ats:Array TypeId}
theorem cbn_mul {X:List Nat} {w:World} {v0 v1:Value} {N M:Int} {L K:Nat} (hX:∀ b∈X,b<w.heap.size) (h0:(VTy.na N L).holds X w v0) (h1:(VTy.na M K).holds X w v1) (hb:L≤1000∧K≤1000):Calls Tryz.prog 163 #[v0,v1] w (Gives X w (.nn (N*M) (L+K) w.heap.size)):=by
 have l0:=na_lt h0
 have l1:=na_lt h1
 obtain ⟨s,A,n,c,xs,rfl,s0,d0,e0,n0⟩:=na_open h0
 obtain ⟨t,A2,m,c2,ys,rfl,s1,d1,e1,n1⟩:=na_open h1
 have:=bmul_any (s:=s) (t:=t) s0 s1 (Nat.le_refl _) d0 d1 (by omega) (by omega)
 rw [e0,e1] at this
 exact this.mono fun e w' h=>h.givesN hX (mul_lt l0 l1)
theorem sbn_mul {o0 o1:Operand} {T0 T1:VTy} {N0 M:Int} {L0 K:Nat} [OpC E o0 T0] [a0:AsN T0 N0 L0] [OpC E o1 T1] [a1:AsN T1 M K] (hb:L0≤1000∧K≤1000):
 StepT Tryz.prog w00 N L E ⟨some d, .call { callee:= .value (.func 163),args:= #[o0,o1],argTypes:=ats },t0,pos,af,gd⟩ (.nn (N0*M) (L0+K) w00.heap.size):=
 sc2 eb_mul fun X w v0 v1 hX _ hB h0 h1=>(cbn_mul hX (a0.ok h0) (a1.ok h1) hb).mono fun e w' h=>h.imp fun v hv=>nwn_le hv hB.size
theorem cbn_gcd {X:List Nat} {w:World} {v0 v1:Value} {N M:Int} {L K:Nat} (hE:Tab w) (hX:∀ b∈X,b<w.heap.size) (h0:(VTy.na N L).holds X w v0) (h1:(VTy.na M K).holds X w v1) (hb:L≤1000∧K≤1000):Calls Tryz.prog 160 #[v0,v1] w (Gives X w (.nn (gcdI (N.natAbs:Int) (M.natAbs:Int)) (max L K) w.heap.size)):=by
 have l0:=na_lt h0
 have l1:=na_lt h1
 obtain ⟨s,A,n,c,xs,rfl,s0,d0,e0,n0⟩:=na_open h0
 obtain ⟨t,A2,m,c2,ys,rfl,s1,d1,e1,n1⟩:=na_open h1
 have:=bgcd_any (s:=s) (t:=t) s0 s1 (Nat.le_refl _) hE.half hE.hz d0 d1 (by omega) (by omega)
 rw [e0,e1] at this
 exact this.mono fun e w' h=>h.givesN hX (gcd_lt' l0 l1)
theorem sbn_gcd {o0 o1:Operand} {T0 T1:VTy} {N0 M:Int} {L0 K:Nat} [OpC E o0 T0] [a0:AsN T0 N0 L0] [OpC E o1 T1] [a1:AsN T1 M K] (hE:Tab w00) (hb:L0≤1000∧K≤1000):
 StepT Tryz.prog w00 N L E ⟨some d, .call { callee:= .value (.func 160),args:= #[o0,o1],argTypes:=ats },t0,pos,af,gd⟩ (.nn (gcdI (N0.natAbs:Int) (M.natAbs:Int)) (max L0 K) w00.heap.size):=
 sc2 eb_gcd fun X w v0 v1 hX _ hB h0 h1=>(cbn_gcd (hE.below hB) hX (a0.ok h0) (a1.ok h1) hb).mono fun e w' h=>h.imp fun v hv=>nwn_le hv hB.size
theorem cbn_neg {X:List Nat} {w:World} {v0:Value} {N:Int} {L:Nat} (hX:∀ b∈X,b<w.heap.size) (h0:(VTy.na N L).holds X w v0) (hb:L≤1000):Calls Tryz.prog 164 #[v0] w (Gives X w (.nn (-N) (L) w.heap.size)):=by
 have l0:=na_lt h0
 obtain ⟨s,A,n,c,xs,rfl,s0,d0,e0,n0⟩:=na_open h0
 have:=bneg_any (s:=s) s0 (Nat.le_refl _) d0 (by omega)
 rw [e0] at this
 exact this.mono fun e w' h=>h.givesN hX (neg_lt l0)
theorem sbn_neg {o0:Operand} {T0:VTy} {N0:Int} {L0:Nat} [OpC E o0 T0] [a0:AsN T0 N0 L0] (hb:L0≤1000):
 StepT Tryz.prog w00 N L E ⟨some d, .call { callee:= .value (.func 164),args:= #[o0],argTypes:=ats },t0,pos,af,gd⟩ (.nn (-N0) (L0) w00.heap.size):=
 sc1 eb_neg fun X w v0 hX _ hB h0=>(cbn_neg hX (a0.ok h0) hb).mono fun e w' h=>h.imp fun v hv=>nwn_le hv hB.size
theorem sbn_of {o0:Operand} {k:Int} [OpC E o0 (.is (.int .i64 k))] (hk: -9223372036854775808≤k∧k≤9223372036854775807):
 StepT Tryz.prog w00 N L E ⟨some d, .call { callee:= .value (.func 107),args:= #[o0],argTypes:=ats },t0,pos,af,gd⟩ (.nn k 2 w00.heap.size):=
 sc1 eb_of fun X w v0 hX _ hB h0=>by
  obtain rfl:v0=_:=h0
  exact (bof_any hk).mono fun e w' h=>(h.givesN hX (of_lt' hk)).imp fun v hv=>nwn_le hv hB.size
theorem sbn_div {o0 o1:Operand} {T0 T1:VTy} {N0 M:Int} {L0 K:Nat} [OpC E o0 T0] [a0:AsN T0 N0 L0] [OpC E o1 T1] [a1:AsN T1 M K] (hE:Tab w00) (hb:L0≤1000∧K≤1000) (hM:M≠0):
 StepT Tryz.prog w00 N L E ⟨some d, .call { callee:= .value (.func 207),args:= #[o0,o1],argTypes:=ats },t0,pos,af,gd⟩ (.tup [.nn (N0.fdiv M) (L0+1) w00.heap.size, .nn (N0.fmod M) K w00.heap.size, .is (.int .i64 0)]):=
 sc2 eb_div fun X w v0 v1 hX _ hB h0 h1=>by
  have hE:=hE.below hB
  have l0:=fdiv_lt' (na_lt (a0.ok h0)) hM
  have l1:=fmod_lt' (N:=N0) (na_lt (a1.ok h1)) hM
  obtain ⟨s,A,n,c,xs,rfl,s0,d0,e0,n0⟩:=na_open (a0.ok h0)
  obtain ⟨t,A2,m,c2,ys,rfl,s1,d1,e1,n1⟩:=na_open (a1.ok h1)
  have:=bdivmod_any (s:=s) (t:=t) s0 s1 (Nat.le_refl _) hE.half hE.hz d0 d1 (by omega) (by omega)
  rw [e0,e1] at this
  refine this.mono ?_
  rintro e w' (⟨hz,_⟩|⟨_,s1,qs,s2,rs,A1,n1,c1,A2,n2,c2,rfl,hq,hr,o1,o2,_,hb⟩)
  ·exact absurd hz hM
  ·exact ⟨_,rfl,⟨[_,_,_],rfl,nwn_le (nn_new hX hq o1 l0) hB.size,nwn_le (nn_new hX hr o2 l1) hB.size,rfl,trivial⟩,hb⟩
theorem sr_build {o0 o1:Operand} {N0 D0:Int} {L0 K0 B:Nat} [h0:OpC E o0 (.nn N0 L0 B)] [h1:OpC E o1 (.nn D0 K0 B)]:StepT Tryz.prog w00 N L E ⟨some d, .build 26 #[(0,o0),(1,o1)],t0,pos,af,gd⟩ (.ndn N0 D0 (max L0 K0) B):=by
 constructor
 intro X ρ w hc _ hN hm hsl
 obtain ⟨x,⟨a1,a2⟩,cs,e0,g0⟩:=h0.get (X:=X) (w:=w) hc fun p hp e=>hsl p hp (by simp [Op.operands,e])
 obtain ⟨y,⟨b1,b2⟩,ds,e1,g1⟩:=h1.get (X:=X) (w:=w) hc fun p hp e=>hsl p hp (by simp [Op.operands,e])
 obtain ⟨A,n,c,rfl,_⟩:=num_rd.1 g0
 obtain ⟨A2,n2,c2,rfl,_⟩:=num_rd.1 g1
 have p1:(4294967296:Int)^L0≤4294967296^(max L0 K0):=pow_mono (by decide) (by omega)
 have p2:(4294967296:Int)^K0≤4294967296^(max L0 K0):=pow_mono (by decide) (by omega)
 have hT:(VTy.ndn N0 D0 (max L0 K0) B).holds X w (.agg #[.bool x.1, .slice A n c, .bool y.1, .slice A2 n2 c2]):=
  ⟨(x,y),⟨a1,b1,Int.lt_of_lt_of_le a2 p1,Int.lt_of_lt_of_le b2 p2⟩,[.bool x.1, .slice A n c]++[.bool y.1, .slice A2 n2 c2],rfl,_,_,rfl,g0,g1⟩
 have e0':ρ o0= .agg #[.bool x.1, .slice A n c]:=e0
 have e1':ρ o1= .agg #[.bool y.1, .slice A2 n2 c2]:=e1
 have HT:=Lib.hid hT
 clear hT hsl hm hc a1 a2 b1 b2 g0 g1 h0 h1 p1 p2 e0 e1
 unfold Yields
 go_simp
 exact ⟨HT.out,Below.refl _ _⟩
end
theorem ndn_qn {X:List Nat} {w:World} {q:Rat} {N D:Int} {L M B:Nat} (hN:q.num=N) (hD:(q.den:Int)=D) (hL:Lq q M) (v:Value) (h:(VTy.ndn N D L B).holds X w v):(VTy.qn q M B).holds X w v:=by
 obtain ⟨x,⟨h1,h2,_,_⟩,g⟩:=h
 exact ⟨x,⟨⟨by rw [hN];exact h1,by rw [hD];exact h2⟩,hL⟩,g⟩
instance:TyC Tryz.prog 24 2 true:=⟨⟨_,Tryz.underlying24,rfl⟩,by kernel_rfl⟩
instance:TyC Tryz.prog 26 4 true:=⟨⟨_,Tryz.underlying26,rfl⟩,by kernel_rfl⟩
instance:TyC Tryz.prog 22 1 false:=⟨⟨_,Tryz.underlying22,rfl⟩,by kernel_rfl⟩
instance:FieldC Tryz.prog 26 0 0 2 true:=⟨⟨_,_,Tryz.underlying26,rfl,rfl,by kernel_rfl,by decide,_,Tryz.underlying24,rfl⟩⟩
instance:FieldC Tryz.prog 26 1 2 2 true:=⟨⟨_,_,Tryz.underlying26,rfl,rfl,by kernel_rfl,by decide,_,Tryz.underlying24,rfl⟩⟩
instance:FieldC Tryz.prog 24 1 1 1 false:=⟨⟨_,_,Tryz.underlying24,rfl,rfl,by kernel_rfl,by decide,_,Tryz.underlying22,rfl⟩⟩
instance:ZeroC Tryz.prog 26 .q0:=⟨⟨.agg #[.bool false, .slice none 0 0, .bool false, .slice none 0 0],fun X w=>⟨_,rfl,[.bool false, .slice none 0 0]++[.bool false, .slice none 0 0],rfl,_,_,rfl,num_rd.2 ⟨none,0,0,rfl,⟨Sl.nil,fun h=>by omega⟩,Dg.nil⟩,num_rd.2 ⟨none,0,0,rfl,⟨Sl.nil,fun h=>by omega⟩,Dg.nil⟩⟩,fun o ρ w ho=>by
 unfold execOp
 rw [ho]
 go_simp⟩⟩
instance:AddC 2 1 3:=⟨rfl⟩
def VTy.qz (x:RawQ):VTy:=VTy.ex Rp.frac fun y=>y=x
instance {x:RawQ}:SizeV (.qz x) 4 true:=inferInstanceAs (SizeV (.ex Rp.frac _) Rp.frac.k true)
instance {x:RawQ}:PartC (.qz x) 0 4 true (.qz x):= .whole inferInstance
theorem PartC.limbs1 {p:RawQ→Prop} {xs:List Int} (h:∀ x,p x→x.1.2=xs):PartC (.ex Rp.frac p) 1 1 false (.rc Rp.limbs xs):=⟨fun _=>rfl,fun {X w v} hv=>by
 obtain ⟨x,hp,cs,rfl,c1,c2,rfl,h1,h2⟩:=hv
 obtain ⟨A,n,c,rfl,hs,hd⟩:=num_rd.1 h1
 refine ⟨[.slice A n c],rfl,fun j u hj=> ?_,fun u _ hu=> ?_⟩
 ·have hj0:j=0:=by have:=(List.getElem?_eq_some_iff.1 hj).1;simpa using this
  subst hj0
  simpa [Value.cells] using hj
 ·have:=hu rfl
  simp at this
  subst this
  exact ⟨A,n,c,rfl,by rw [←h x hp];exact hs,by rw [←h x hp];exact hd⟩⟩
theorem PartC.limbs3 {p:RawQ→Prop} {xs:List Int} (h:∀ x,p x→x.2.2=xs):PartC (.ex Rp.frac p) 3 1 false (.rc Rp.limbs xs):=⟨fun _=>rfl,fun {X w v} hv=>by
 obtain ⟨x,hp,cs,rfl,c1,c2,rfl,h1,h2⟩:=hv
 obtain ⟨A0,n0,c0,rfl,_,_⟩:=num_rd.1 h1
 obtain ⟨A,n,c,rfl,hs,hd⟩:=num_rd.1 h2
 refine ⟨[.slice A n c],rfl,fun j u hj=> ?_,fun u _ hu=> ?_⟩
 ·have hj0:j=0:=by have:=(List.getElem?_eq_some_iff.1 hj).1;simpa using this
  subst hj0
  simpa [Value.cells] using hj
 ·have:=hu rfl
  simp at this
  subst this
  exact ⟨A,n,c,rfl,by rw [←h x hp];exact hs,by rw [←h x hp];exact hd⟩⟩
instance {x:RawQ}:PartC (.qz x) 1 1 false (.rc Rp.limbs x.1.2):= .limbs1 fun _ h=>by rw [h]
instance {x:RawQ}:PartC (.qz x) 3 1 false (.rc Rp.limbs x.2.2):= .limbs3 fun _ h=>by rw [h]
instance {x:RawQ} {L:Nat}:PartC (.qx x L) 1 1 false (.rc Rp.limbs x.1.2):= .limbs1 fun _ h=>by rw [h.1]
instance {x:RawQ} {L:Nat}:PartC (.qx x L) 3 1 false (.rc Rp.limbs x.2.2):= .limbs3 fun _ h=>by rw [h.1]
section
variable {w00:World} {N:Nat} {L:List Loc} {E:List (Nat×VTy)} {d:Nat} {t0:TypeId} {pos:String} {af:Array Edge} {gd:Option (Nat×Bool)} {ats:Array TypeId}
theorem st_lenL {s:Nat} {xs:List Int} [ho:Look E s (.rc Rp.limbs xs)]:StepT Tryz.prog w00 N L E ⟨some d, .call { callee:= .builtin .len,args:= #[.tmp s],argTypes:= #[22] },t0,pos,af,gd⟩ (.is (.int .i64 xs.length)):=by
 constructor
 intro X ρ w hc _ hN hm hsl
 obtain ⟨A,n,c,e,⟨h,_⟩,_⟩:=hsl _ ho.mem (by simp [Op.operands,Call.operands])
 have e1:ρ (.tmp s)= .slice A n c:=by simpa using e
 have hl:=h.1
 clear hc hsl ho h e hm
 unfold Yields
 go_simp
 exact ⟨rfl,Below.refl _ _⟩
end
section
variable {w00:World} {N:Nat} {L:List Loc} {E:List (Nat×VTy)} {d:Nat} {t0:TypeId} {pos:String} {af:Array Edge} {gd:Option (Nat×Bool)} {ats:Array TypeId}
end
def VTy.rv (qs:List Rat) (L:Nat):VTy:=⟨fun X w v=>∃ l:List RawQ,l.map qv=qs∧(VTy.rq L l).holds X w v,fun ⟨l,e,h⟩ hk hX=>⟨l,e,(VTy.rq L l).stable h hk hX⟩⟩
class AsR (T:VTy) (qs:outParam (List Rat)) (L:outParam Nat):Prop where
 ok:∀ {X w v},T.holds X w v→(VTy.rv qs L).holds X w v
instance {qs:List Rat} {L:Nat}:AsR (.rv qs L) qs L:=⟨fun h=>h⟩
instance {l:List RawQ} {L:Nat}:AsR (.rq L l) (l.map qv) L:=⟨fun h=>⟨l,rfl,h⟩⟩
section
variable {w00:World} {N:Nat} {L:List Loc} {E:List (Nat×VTy)} {d:Nat} {t0:TypeId} {pos:String} {af:Array Edge} {gd:Option (Nat×Bool)} {ats:Array TypeId}
end
theorem prod_parts (p q:Rat) {g h:Int} (hg:(Int.gcd p.num (q.den:Int):Int)=g) (hh:(Int.gcd q.num (p.den:Int):Int)=h):
 (g≠0∧g∣p.num∧g∣(q.den:Int))∧(h≠0∧h∣q.num∧h∣(p.den:Int))∧(p*q).num=p.num / g*(q.num / h)∧((p*q).den:Int)=(p.den:Int) / h*((q.den:Int) / g):=by
 have hp:=den_pos p
 have hq:=den_pos q
 have g1:g∣p.num:=by rw [←hg];exact Int.gcd_dvd_left ..
 have g2:g∣(q.den:Int):=by rw [←hg];exact Int.gcd_dvd_right ..
 have h1:h∣q.num:=by rw [←hh];exact Int.gcd_dvd_left ..
 have h2:h∣(p.den:Int):=by rw [←hh];exact Int.gcd_dvd_right ..
 have g0:g≠0:=fun e=>by rw [e] at g2;have:=Int.zero_dvd.1 g2;omega
 have h0:h≠0:=fun e=>by rw [e] at h2;have:=Int.zero_dvd.1 h2;omega
 refine ⟨⟨g0,g1,g2⟩,⟨h0,h1,h2⟩,?_⟩
 show (Rat.mul p q).num=_∧((Rat.mul p q).den:Int)=_
 unfold Rat.mul
 simp only [Int.divExact_eq_ediv,Nat.divExact_eq_div]
 have eg:(Nat.gcd p.num.natAbs q.den:Int)=g:=by rw [←hg];simp [Int.gcd]
 have eh:(Nat.gcd q.num.natAbs p.den:Int)=h:=by rw [←hh];simp [Int.gcd]
 constructor
 ·rw [eg,eh]
 ·rw [Int.natCast_mul,Int.natCast_ediv,Int.natCast_ediv,eg,eh]
theorem qc_Lq {X:List Nat} {w:World} {v:Value} {q:Rat} {L:Nat} (h:(VTy.qc q L).holds X w v):Lq q L:=by
 obtain ⟨x,⟨_,hl⟩,_⟩:=h
 exact hl
theorem qa_raw {X:List Nat} {w:World} {v:Value} {q:Rat} {L:Nat} (h:(VTy.qa q L).holds X w v):∃ x,qv x=q∧(VTy.qx x L).holds X w v:=by
 obtain ⟨x,⟨h1,h2⟩,g⟩:=h
 exact ⟨x,h1,x,⟨rfl,h2⟩,g⟩
theorem qx_pos {X:List Nat} {w:World} {v:Value} {x:RawQ} {L:Nat} (h:(VTy.qx x L).holds X w v):0<L:=by
 obtain ⟨y,h2,g⟩:=h
 exact h2.2.2.2
theorem nn_by {X:List Nat} {w:World} {N M:Int} {L B:Nat} (hM:M≠0) (hd:M∣N) (hl:(N.natAbs:Int)<4294967296^L) (v:Value) (h:(VTy.nn (N.fdiv M) (L+1) B).holds X w v):(VTy.nn (N / M) L B).holds X w v:=by
 have e:N.fdiv M=N / M:=Int.fdiv_eq_ediv_of_dvd hd
 obtain ⟨x,⟨h1,_⟩,g⟩:=h
 rw [e] at h1
 refine ⟨x,⟨h1,?_⟩,g⟩
 have:=Int.natAbs_ediv_le_natAbs N M
 omega
class AsC (T:VTy) (q:outParam Rat) (L:outParam Nat):Prop where
 ok:∀ {X w v},T.holds X w v→(VTy.qc q L).holds X w v
instance {q:Rat} {L:Nat}:AsC (.qc q L) q L:=⟨fun h=>h⟩
instance {q:Rat} {L B:Nat}:AsC (.qn q L B) q L:=⟨fun h=>nw_ex h⟩
class AsWn (T:VTy) (N:outParam Int) (L:outParam Nat):Prop where
 ok:∀ {X w v},T.holds X w v→(VTy.nc N L).holds X w v
instance {N:Int} {L:Nat}:AsWn (.nc N L) N L:=⟨fun h=>h⟩
instance {N:Int} {L B:Nat}:AsWn (.nn N L B) N L:=⟨fun h=>nwn_ex h⟩
def VTy.n1 (N:Int) (L:Nat):VTy:=⟨fun X w v=>∃ (x:RawI) (cs:List Value) (b:Nat),iv x=N∧x.2.length≤L∧v= .slice (some ⟨b,0,none⟩) 1 1∧Free X w b∧w.rangeAt b 0 cs∧Rp.num.rd w (Free X w) x cs,
 fun ⟨x,cs,b,h1,h2,e,hb,h3,h4⟩ hk hX=>⟨x,cs,b,h1,h2,e,Free.mono hk hX b hb,rangeAt_keep h3 (hk.block b hb.1 hb.2),Rp.num.up h4 hk hX⟩⟩
section
variable {w00:World} {N:Nat} {L:List Loc} {E:List (Nat×VTy)} {d:Nat} {t0:TypeId} {pos:String} {af:Array Edge} {gd:Option (Nat×Bool)} {ats:Array TypeId}
theorem si_gcd {o0 o1:Operand} {T0 T1:VTy} {N0 M:Int} {L0 K:Nat} [OpC E o0 T0] [a0:AsN T0 N0 L0] [OpC E o1 T1] [a1:AsN T1 M K] (hE:Tab w00) (hb:L0≤1000∧K≤1000):
 StepT Tryz.prog w00 N L E ⟨some d, .call { callee:= .value (.func 160),args:= #[o0,o1],argTypes:=ats },t0,pos,af,gd⟩ (.nn (Int.gcd N0 M:Int) (max L0 K) w00.heap.size):=by
 rw [←gcdI_abs]
 exact sbn_gcd hE hb
theorem sr_buildC {o0 o1:Operand} {T0 T1:VTy} {N0 D0:Int} {L0 K0:Nat} [h0:OpC E o0 T0] [a0:AsWn T0 N0 L0] [h1:OpC E o1 T1] [a1:AsWn T1 D0 K0]:StepT Tryz.prog w00 N L E ⟨some d, .build 26 #[(0,o0),(1,o1)],t0,pos,af,gd⟩ (.nd N0 D0 (max L0 K0)):=by
 constructor
 intro X ρ w hc _ hN hm hsl
 obtain ⟨x,⟨p1,p2⟩,cs,e0,g0⟩:=a0.ok (h0.get (X:=X) (w:=w) hc fun p hp e=>hsl p hp (by simp [Op.operands,e]))
 obtain ⟨y,⟨q1,q2⟩,ds,e1,g1⟩:=a1.ok (h1.get (X:=X) (w:=w) hc fun p hp e=>hsl p hp (by simp [Op.operands,e]))
 obtain ⟨A,n,c,rfl,_⟩:=num_rd.1 g0
 obtain ⟨A2,n2,c2,rfl,_⟩:=num_rd.1 g1
 have hT:(VTy.nd N0 D0 (max L0 K0)).holds X w (.agg #[.bool x.1, .slice A n c, .bool y.1, .slice A2 n2 c2]):=
  ⟨(x,y),⟨p1,q1,Int.lt_of_lt_of_le p2 (pow_mono (by decide) (by omega)),Int.lt_of_lt_of_le q2 (pow_mono (by decide) (by omega))⟩,[.bool x.1, .slice A n c]++[.bool y.1, .slice A2 n2 c2],rfl,_,_,rfl,g0,g1⟩
 have HT:=Lib.hid hT
 clear hT hsl hm hc p1 p2 q1 q2 g0 g1 h0 h1 a0 a1
 unfold Yields
 go_simp
 exact ⟨HT.out,Below.refl _ _⟩
theorem sN_one {o0:Operand} {T0:VTy} {N0:Int} {L0:Nat} [h0:OpC E o0 T0] [a0:AsN T0 N0 L0]:StepT Tryz.prog w00 N L E ⟨some d, .buildSlice 274 1 #[(0,o0)],t0,pos,af,gd⟩ (.n1 N0 L0):=by
 constructor
 intro X ρ w hc _ hN hm hsl
 obtain ⟨x,⟨h1,h2⟩,cs,e0,g⟩:=a0.ok (h0.get (X:=X) (w:=w) hc fun p hp e=>hsl p hp (by simp [Op.operands,e]))
 obtain ⟨A,n,c,rfl,hs,hd⟩:=num_rd.1 g
 have hT:(VTy.n1 N0 L0).holds X (w.alloc (.cells #[.bool x.1, .slice A n c] 24)) (.slice (some ⟨w.heap.size,0,none⟩) 1 1):=by
  refine ⟨x,[.bool x.1, .slice A n c],w.heap.size,h1,h2,rfl,⟨by rw [size_one];exact Nat.lt_succ_self _,fun h=>by have:=hm.far _ h;omega⟩,fun j v hv=> ?_,Rp.num.up g (Below.keeps ((Below.refl _ _).alloc (Nat.le_refl _) _) X) fun _ h _=>h⟩
  rw [Nat.zero_add]
  exact cell_at (heap_new _ _) (by simpa using hv)
 have HT:=Lib.hid hT
 clear hT hsl hm hc g hs hd h0 a0
 unfold Yields
 go_simp
 exact ⟨HT.out,(Below.refl _ _).alloc (Nat.le_refl _) _⟩
theorem eb_sum:Enters Tryz.prog 165:=fun _ _=>by kernel_rfl
theorem sb_sum1 {o0:Operand} {N0:Int} {L0:Nat} [h0:OpC E o0 (.n1 N0 L0)] (hb:L0≤1000):StepT Tryz.prog w00 N L E ⟨some d, .call { callee:= .value (.func 165),args:= #[o0],argTypes:=ats },t0,pos,af,gd⟩ (.nn N0 L0 w00.heap.size):=
 sc1 eb_sum fun X w v0 hX _ hB h0=>by
  obtain ⟨x,cs,b,rfl,h2,rfl,hb',h3,h4⟩:=h0
  obtain ⟨A,n,c,rfl,hs,hd⟩:=num_rd.1 h4
  have hS:SlB w w.heap.size (some ⟨b,0,none⟩) 1 1 [x]:=⟨rfl,Nat.le_refl _,by unfold maxLen;omega,(fun h=>by cases h),fun _=>⟨b,0,rfl,hb'.1,fun j u zs hz=>by
   have hj:j<1:=(List.getElem?_eq_some_iff.1 hz).1
   obtain rfl:j=0:=by omega
   have hz':x=(u,zs):=by simpa using hz
   subst hz'
   exact ⟨A,n,c,h3 0 _ rfl,h3 1 _ rfl,hs.1⟩⟩⟩
  have hv:isum [x]=iv x:=by simp [isum,iv]
  have hl:((iv x).natAbs:Int)<4294967296^L0:=by
   have:(VTy.na (iv x) L0).holds X w (.agg #[.bool x.1, .slice A n c]):=⟨x,⟨rfl,h2⟩,_,rfl,h4⟩
   exact na_lt this
  refine (bsum_any (L:=L0) hS (Nat.le_refl _) (fun p hp=>by rw [List.mem_singleton.1 hp];exact hd) (fun p hp=>by rw [List.mem_singleton.1 hp];exact h2) (by omega) (by omega)).mono fun e w' h=> ?_
  rw [hv] at h
  exact (h.givesN hX hl).imp fun v hv=>nwn_le hv hB.size
end
theorem crn_by {X:List Nat} {w:World} (hE:Tab w) (hX:∀ b∈X,b<w.heap.size) {v0 v1:Value} {N0:Int} {L0:Nat} {M0:Int} {K0:Nat} (h0:(VTy.na N0 L0).holds X w v0) (h1:(VTy.na M0 K0).holds X w v1) (hb:L0≤1000∧K0≤1000) (hM:M0≠0) (hd:M0∣N0)  :
 Calls Tryz.prog 161 #[v0,v1] w (Gives X w (.nn (N0 / M0) L0 w.heap.size)):=by
 have l0:=na_lt h0
 refine g_enter (Ts:=[.na N0 L0, .na M0 K0]) (vs:=[v0,v1]) Tryz.func161 rfl Tryz.ntmps161 (by simp) hX ⟨h0,h1,trivial⟩ ?_
 clear h0 h1 hX
 simp only [argE,Nat.zero_add,Nat.reduceAdd]
 repeat' first|kernel_rfl|apply g_seq|apply g_reg|apply g_nil|apply g_box|apply g_all|apply g_sto|apply g_asg|apply g_st|apply g_skip|apply g_ct|apply g_cf|apply g_ret|refine r_1 rfl ?_|apply g_cl|exact sbn_div hE (by omega) (by assumption)|exact st_move'|exact st_assign'|exact st_load'|exact st_extract'|exact st_loadE'|exact ⟨fun _ _=>(nn_by hM hd l0)⟩|exact Cv.rfl'|intro _
theorem ei_by:Enters Tryz.prog 161:=fun _ _=>by kernel_rfl
section
variable {w00:World} {N:Nat} {L:List Loc} {E:List (Nat×VTy)} {d:Nat} {t0:TypeId} {pos:String} {af:Array Edge} {gd:Option (Nat×Bool)} {ats:Array TypeId}
theorem si_by {o0:Operand} {T0:VTy} {N0:Int} {L0:Nat} {o1:Operand} {T1:VTy} {M0:Int} {K0:Nat} [OpC E o0 T0] [a0:AsN T0 N0 L0] [OpC E o1 T1] [a1:AsN T1 M0 K0] (hE:Tab w00) (hb:L0≤1000∧K0≤1000) (hM:M0≠0) (hd:M0∣N0):
 StepT Tryz.prog w00 N L E ⟨some d, .call { callee:= .value (.func 161),args:= #[o0,o1],argTypes:=ats },t0,pos,af,gd⟩ (.nn (N0 / M0) L0 w00.heap.size):=
 sc2 ei_by fun X w v0 v1 hX _ hB h0 h1=>(crn_by (hE.below hB) hX (a0.ok h0) (a1.ok h1) hb hM hd).mono fun e w' h=>h.imp fun _ g=>nwn_le g hB.size
end
theorem crn_whole {X:List Nat} {w:World} (hE:Tab w) (hX:∀ b∈X,b<w.heap.size) {v0:Value} {k0:Int} (h0:(VTy.is (.int .i64 k0)).holds X w v0) (hk: -9223372036854775808≤k0∧k0≤9223372036854775807)  :
 Calls Tryz.prog 39 #[v0] w (Gives X w (.qn (k0:Rat) 2 w.heap.size)):=by
 refine g_enter (Ts:=[.is (.int .i64 k0)]) (vs:=[v0]) Tryz.func39 rfl Tryz.ntmps39 (by simp) hX ⟨h0,trivial⟩ ?_
 clear h0 hX
 simp only [argE,Nat.zero_add,Nat.reduceAdd]
 repeat' first|kernel_rfl|apply g_seq|apply g_reg|apply g_nil|apply g_box|apply g_all|apply g_sto|apply g_asg|apply g_st|apply g_skip|apply g_ct|apply g_cf|apply g_ret|refine r_1 rfl ?_|apply g_cl|exact sbn_of (by omega)|exact sr_build|exact st_move'|exact ⟨fun _ _=>(ndn_qn rfl rfl (Lq.whole hk))⟩|exact Cv.rfl'|intro _
theorem ei_whole:Enters Tryz.prog 39:=fun _ _=>by kernel_rfl
section
variable {w00:World} {N:Nat} {L:List Loc} {E:List (Nat×VTy)} {d:Nat} {t0:TypeId} {pos:String} {af:Array Edge} {gd:Option (Nat×Bool)} {ats:Array TypeId}
theorem si_whole {o0:Operand} {k0:Int} [OpC E o0 (.is (.int .i64 k0))] (hE:Tab w00) (hk: -9223372036854775808≤k0∧k0≤9223372036854775807):
 StepT Tryz.prog w00 N L E ⟨some d, .call { callee:= .value (.func 39),args:= #[o0],argTypes:=ats },t0,pos,af,gd⟩ (.qn (k0:Rat) 2 w00.heap.size):=
 sc1 ei_whole fun X w v0 hX _ hB h0=>(crn_whole (hE.below hB) hX h0 hk).mono fun e w' h=>h.imp fun _ g=>nw_le g hB.size
end
theorem crn_right {X:List Nat} {w:World} (hE:Tab w) (hX:∀ b∈X,b<w.heap.size) {v0:Value} {x:RawQ} {L:Nat} (h0:(VTy.qx x L).holds X w v0) (hb:L≤1000)  :
 Calls Tryz.prog 105 #[v0] w (Gives X w (.is (.bool (qrt x)))):=by
 have key:qrt x=(rgt x.1.1 x.1.2&&rgt x.2.1 x.2.2&&decide (0<cmpI (iv x.2) 0)&&(cmpI (Int.gcd (iv x.1) (iv x.2):Int) 1==0)):=by
  unfold qrt
  have e1:decide (0<cmpI (iv x.2) 0)=decide (0<iv x.2):=by simp only [cmpI_pos_gt]
  have e2:(cmpI (Int.gcd (iv x.1) (iv x.2):Int) 1==0)=((Int.gcd (iv x.1) (iv x.2):Int)==1):=by
   have:=cmpI_zero (a:=(Int.gcd (iv x.1) (iv x.2):Int)) (b:=1)
   rw [Bool.eq_iff_iff]
   simp only [beq_iff_eq,this]
  rw [e1,e2,gcdI_abs]
 cases e1:rgt x.1.1 x.1.2 with
 |false=>
  have e:qrt x=false:=by rw [key];simp [e1]
  clear key
  refine g_enter (Ts:=[.qx x L]) (vs:=[v0]) Tryz.func105 rfl Tryz.ntmps105 (by simp) hX ⟨h0,trivial⟩ ?_
  clear h0 hX
  simp only [argE,Nat.zero_add,Nat.reduceAdd]
  repeat' first|kernel_rfl|apply g_seq|apply g_reg|apply g_nil|apply g_box|apply g_all|apply g_sto|apply g_asg|refine g_run rfl inferInstance (by first|exact sb_right (by assumption)|exact si_gcd hE (by omega)|exact sb_sign (by omega)|exact sb_cmp (by omega)|exact sbn_of (by omega)|exact st_load'|exact st_fieldAddr'|exact st_eq' (by first|assumption|rfl)|exact st_gtr' (by first|assumption|rfl)|exact st_loadE') (by kernel_rfl) ?_|refine g_sk rfl inferInstance rfl (by kernel_rfl) ?_|refine g_un rfl inferInstance (by kernel_rfl) ?_|apply g_st|apply g_skip|apply g_ct|apply g_cf|apply g_ret|refine r_1 rfl ?_|apply g_cl|exact sb_right (by assumption)|exact si_gcd hE (by omega)|exact sb_sign (by omega)|exact sb_cmp (by omega)|exact sbn_of (by omega)|exact st_move'|exact st_assign'|exact st_load'|exact st_fieldAddr'|exact st_and_t'|exact st_and_f'|exact st_eq' (by first|assumption|rfl)|exact st_gtr' (by first|assumption|rfl)|exact st_loadE'|exact ⟨fun _ _=>(is_is (congrArg Value.bool e.symm))⟩|exact Cv.rfl'|intro _
 |true=>
 cases e2:rgt x.2.1 x.2.2 with
 |false=>
  have e:qrt x=false:=by rw [key];simp [e1,e2]
  clear key
  refine g_enter (Ts:=[.qx x L]) (vs:=[v0]) Tryz.func105 rfl Tryz.ntmps105 (by simp) hX ⟨h0,trivial⟩ ?_
  clear h0 hX
  simp only [argE,Nat.zero_add,Nat.reduceAdd]
  repeat' first|kernel_rfl|apply g_seq|apply g_reg|apply g_nil|apply g_box|apply g_all|apply g_sto|apply g_asg|refine g_run rfl inferInstance (by first|exact sb_right (by assumption)|exact si_gcd hE (by omega)|exact sb_sign (by omega)|exact sb_cmp (by omega)|exact sbn_of (by omega)|exact st_load'|exact st_fieldAddr'|exact st_eq' (by first|assumption|rfl)|exact st_gtr' (by first|assumption|rfl)|exact st_loadE') (by kernel_rfl) ?_|refine g_sk rfl inferInstance rfl (by kernel_rfl) ?_|refine g_un rfl inferInstance (by kernel_rfl) ?_|apply g_st|apply g_skip|apply g_ct|apply g_cf|apply g_ret|refine r_1 rfl ?_|apply g_cl|exact sb_right (by assumption)|exact si_gcd hE (by omega)|exact sb_sign (by omega)|exact sb_cmp (by omega)|exact sbn_of (by omega)|exact st_move'|exact st_assign'|exact st_load'|exact st_fieldAddr'|exact st_and_t'|exact st_and_f'|exact st_eq' (by first|assumption|rfl)|exact st_gtr' (by first|assumption|rfl)|exact st_loadE'|exact ⟨fun _ _=>(is_is (congrArg Value.bool e.symm))⟩|exact Cv.rfl'|intro _
 |true=>
 cases e3:decide (0<cmpI (iv x.2) 0) with
 |false=>
  have e:qrt x=false:=by rw [key];simp [e1,e2,e3]
  clear key
  refine g_enter (Ts:=[.qx x L]) (vs:=[v0]) Tryz.func105 rfl Tryz.ntmps105 (by simp) hX ⟨h0,trivial⟩ ?_
  clear h0 hX
  simp only [argE,Nat.zero_add,Nat.reduceAdd]
  repeat' first|kernel_rfl|apply g_seq|apply g_reg|apply g_nil|apply g_box|apply g_all|apply g_sto|apply g_asg|refine g_run rfl inferInstance (by first|exact sb_right (by assumption)|exact si_gcd hE (by omega)|exact sb_sign (by omega)|exact sb_cmp (by omega)|exact sbn_of (by omega)|exact st_load'|exact st_fieldAddr'|exact st_eq' (by first|assumption|rfl)|exact st_gtr' (by first|assumption|rfl)|exact st_loadE') (by kernel_rfl) ?_|refine g_sk rfl inferInstance rfl (by kernel_rfl) ?_|refine g_un rfl inferInstance (by kernel_rfl) ?_|apply g_st|apply g_skip|apply g_ct|apply g_cf|apply g_ret|refine r_1 rfl ?_|apply g_cl|exact sb_right (by assumption)|exact si_gcd hE (by omega)|exact sb_sign (by omega)|exact sb_cmp (by omega)|exact sbn_of (by omega)|exact st_move'|exact st_assign'|exact st_load'|exact st_fieldAddr'|exact st_and_t'|exact st_and_f'|exact st_eq' (by first|assumption|rfl)|exact st_gtr' (by first|assumption|rfl)|exact st_loadE'|exact ⟨fun _ _=>(is_is (congrArg Value.bool e.symm))⟩|exact Cv.rfl'|intro _
 |true=>
 cases e4:(cmpI (Int.gcd (iv x.1) (iv x.2):Int) 1==0) with
 |false=>
  have e:qrt x=false:=by rw [key];simp [e1,e2,e3,e4]
  clear key
  refine g_enter (Ts:=[.qx x L]) (vs:=[v0]) Tryz.func105 rfl Tryz.ntmps105 (by simp) hX ⟨h0,trivial⟩ ?_
  clear h0 hX
  simp only [argE,Nat.zero_add,Nat.reduceAdd]
  repeat' first|kernel_rfl|apply g_seq|apply g_reg|apply g_nil|apply g_box|apply g_all|apply g_sto|apply g_asg|refine g_run rfl inferInstance (by first|exact sb_right (by assumption)|exact si_gcd hE (by omega)|exact sb_sign (by omega)|exact sb_cmp (by omega)|exact sbn_of (by omega)|exact st_load'|exact st_fieldAddr'|exact st_eq' (by first|assumption|rfl)|exact st_gtr' (by first|assumption|rfl)|exact st_loadE') (by kernel_rfl) ?_|refine g_sk rfl inferInstance rfl (by kernel_rfl) ?_|refine g_un rfl inferInstance (by kernel_rfl) ?_|apply g_st|apply g_skip|apply g_ct|apply g_cf|apply g_ret|refine r_1 rfl ?_|apply g_cl|exact sb_right (by assumption)|exact si_gcd hE (by omega)|exact sb_sign (by omega)|exact sb_cmp (by omega)|exact sbn_of (by omega)|exact st_move'|exact st_assign'|exact st_load'|exact st_fieldAddr'|exact st_and_t'|exact st_and_f'|exact st_eq' (by first|assumption|rfl)|exact st_gtr' (by first|assumption|rfl)|exact st_loadE'|exact ⟨fun _ _=>(is_is (congrArg Value.bool e.symm))⟩|exact Cv.rfl'|intro _
 |true=>
  have e:qrt x=true:=by rw [key];simp [e1,e2,e3,e4]
  clear key
  refine g_enter (Ts:=[.qx x L]) (vs:=[v0]) Tryz.func105 rfl Tryz.ntmps105 (by simp) hX ⟨h0,trivial⟩ ?_
  clear h0 hX
  simp only [argE,Nat.zero_add,Nat.reduceAdd]
  repeat' first|kernel_rfl|apply g_seq|apply g_reg|apply g_nil|apply g_box|apply g_all|apply g_sto|apply g_asg|refine g_run rfl inferInstance (by first|exact sb_right (by assumption)|exact si_gcd hE (by omega)|exact sb_sign (by omega)|exact sb_cmp (by omega)|exact sbn_of (by omega)|exact st_load'|exact st_fieldAddr'|exact st_eq' (by first|assumption|rfl)|exact st_gtr' (by first|assumption|rfl)|exact st_loadE') (by kernel_rfl) ?_|refine g_sk rfl inferInstance rfl (by kernel_rfl) ?_|refine g_un rfl inferInstance (by kernel_rfl) ?_|apply g_st|apply g_skip|apply g_ct|apply g_cf|apply g_ret|refine r_1 rfl ?_|apply g_cl|exact sb_right (by assumption)|exact si_gcd hE (by omega)|exact sb_sign (by omega)|exact sb_cmp (by omega)|exact sbn_of (by omega)|exact st_move'|exact st_assign'|exact st_load'|exact st_fieldAddr'|exact st_and_t'|exact st_and_f'|exact st_eq' (by first|assumption|rfl)|exact st_gtr' (by first|assumption|rfl)|exact st_loadE'|exact ⟨fun _ _=>(is_is (congrArg Value.bool e.symm))⟩|exact Cv.rfl'|intro _
theorem ei_right:Enters Tryz.prog 105:=fun _ _=>by kernel_rfl
section
variable {w00:World} {N:Nat} {L:List Loc} {E:List (Nat×VTy)} {d:Nat} {t0:TypeId} {pos:String} {af:Array Edge} {gd:Option (Nat×Bool)} {ats:Array TypeId}
theorem si_right {o0:Operand} {x:RawQ} {L0:Nat} {u:Bool} [OpC E o0 (.qx x L0)] (hE:Tab w00) (hb:L0≤1000) (hu:qrt x=u):
 StepT Tryz.prog w00 N L E ⟨some d, .call { callee:= .value (.func 105),args:= #[o0],argTypes:=ats },t0,pos,af,gd⟩ (.is (.bool u)):=by
 rw [←hu]
 exact sc1 ei_right fun X w v0 hX _ hB h0=>crn_right (hE.below hB) hX h0 hb
end
theorem crn_counted {X:List Nat} {w:World} (hE:Tab w) (hX:∀ b∈X,b<w.heap.size) {v0:Value} {p:Rat} {L0:Nat} (h0:(VTy.qa p L0).holds X w v0) (hb:L0≤1000)  :
 Calls Tryz.prog 87 #[v0] w (Gives X w (.qc p L0)):=by
 obtain ⟨x,rfl,g0⟩:=qa_raw h0
 clear h0
 have h0:=g0
 have hp:=qx_pos g0
 clear g0
 cases hq:qrt x with
 |true=>
  refine g_enter (Ts:=[.qx x L0]) (vs:=[v0]) Tryz.func87 rfl Tryz.ntmps87 (by simp) hX ⟨h0,trivial⟩ ?_
  clear h0 hX
  simp only [argE,Nat.zero_add,Nat.reduceAdd]
  repeat' first|kernel_rfl|apply g_seq|apply g_reg|apply g_nil|apply g_box|apply g_all|apply g_sto|apply g_asg|apply g_st|apply g_skip|apply g_ct|apply g_cf|apply g_ret|refine r_1 rfl ?_|apply g_cl|exact si_right hE (by omega) hq|exact st_load'|exact st_not' (b:=true) (u:=false) rfl|exact st_not' (b:=false) (u:=true) rfl|exact st_not' rfl|exact st_loadE'|exact ⟨fun _ _=>fun _ g=>qx_qc hq g⟩|exact Cv.rfl'|intro _
 |false=>
  have hz:((0:Int):Rat)=qv x:=(qv_wrong hq).symm
  have hl:Lq (qv x) L0:=by rw [qv_wrong hq];exact Lq.zero.mono hp
  refine g_enter (Ts:=[.qx x L0]) (vs:=[v0]) Tryz.func87 rfl Tryz.ntmps87 (by simp) hX ⟨h0,trivial⟩ ?_
  clear h0 hX
  simp only [argE,Nat.zero_add,Nat.reduceAdd]
  repeat' first|kernel_rfl|apply g_seq|apply g_reg|apply g_nil|apply g_box|apply g_all|apply g_sto|apply g_asg|apply g_st|apply g_skip|apply g_ct|apply g_cf|apply g_ret|refine r_1 rfl ?_|apply g_cl|exact si_right hE (by omega) hq|exact si_whole hE (by decide)|exact st_load'|exact st_not' (b:=true) (u:=false) rfl|exact st_not' (b:=false) (u:=true) rfl|exact st_not' rfl|exact st_loadE'|exact ⟨fun _ _=>fun v g=>qc_qc hz hl v (nw_ex g)⟩|exact Cv.rfl'|intro _
theorem ei_counted:Enters Tryz.prog 87:=fun _ _=>by kernel_rfl
section
variable {w00:World} {N:Nat} {L:List Loc} {E:List (Nat×VTy)} {d:Nat} {t0:TypeId} {pos:String} {af:Array Edge} {gd:Option (Nat×Bool)} {ats:Array TypeId}
theorem si_counted {o0:Operand} {T0:VTy} {p:Rat} {L0:Nat} [OpC E o0 T0] [a0:AsQ T0 p L0] (hE:Tab w00) (hb:L0≤1000):
 StepT Tryz.prog w00 N L E ⟨some d, .call { callee:= .value (.func 87),args:= #[o0],argTypes:=ats },t0,pos,af,gd⟩ (.qc p L0):=
 sc1 ei_counted fun X w v0 hX _ hB h0=>(crn_counted (hE.below hB) hX (a0.ok h0) hb)
end
theorem crn_turned {X:List Nat} {w:World} (hE:Tab w) (hX:∀ b∈X,b<w.heap.size) {v0:Value} {p:Rat} {L0:Nat} (h0:(VTy.qc p L0).holds X w v0) (hb:L0≤1000)  :
 Calls Tryz.prog 88 #[v0] w (Gives X w (.qc (-p) L0)):=by
 have hl0:=qc_Lq h0
 refine g_enter (Ts:=[.qc p L0]) (vs:=[v0]) Tryz.func88 rfl Tryz.ntmps88 (by simp) hX ⟨h0,trivial⟩ ?_
 clear h0 hX
 simp only [argE,Nat.zero_add,Nat.reduceAdd]
 repeat' first|kernel_rfl|apply g_seq|apply g_reg|apply g_nil|apply g_draw (id:=1) [] [] 6|apply o_all|apply o_go|exact OpsT.nil|exact GuardC.nil|exact UndefC.nil|apply g_box|apply g_all|apply g_sto|apply g_asg|apply g_st|apply g_skip|apply g_ct|apply g_cf|apply g_ret|refine r_1 rfl ?_|apply g_cl|exact sbn_neg (by omega)|exact sr_buildC|exact st_load'|exact st_fieldAddr'|exact st_loadE'|exact ⟨fun _ _=>(nd_qc rfl rfl hl0.neg)⟩|exact Cv.rfl'|(intro _;simp only[newX,newL,ptrs,List.map,List.cons_append,List.nil_append])|intro _
theorem ei_turned:Enters Tryz.prog 88:=fun _ _=>by kernel_rfl
section
variable {w00:World} {N:Nat} {L:List Loc} {E:List (Nat×VTy)} {d:Nat} {t0:TypeId} {pos:String} {af:Array Edge} {gd:Option (Nat×Bool)} {ats:Array TypeId}
theorem si_turned {o0:Operand} {T0:VTy} {p:Rat} {L0:Nat} [OpC E o0 T0] [a0:AsC T0 p L0] (hE:Tab w00) (hb:L0≤1000):
 StepT Tryz.prog w00 N L E ⟨some d, .call { callee:= .value (.func 88),args:= #[o0],argTypes:=ats },t0,pos,af,gd⟩ (.qc (-p) L0):=
 sc1 ei_turned fun X w v0 hX _ hB h0=>(crn_turned (hE.below hB) hX (a0.ok h0) hb)
end
section
variable {w00:World} {N:Nat} {L:List Loc} {E:List (Nat×VTy)} {d:Nat} {t0:TypeId} {pos:String} {af:Array Edge} {gd:Option (Nat×Bool)} {ats:Array TypeId}
end
theorem crn_compared {X:List Nat} {w:World} (hE:Tab w) (hX:∀ b∈X,b<w.heap.size) {v0 v1:Value} {p:Rat} {L0:Nat} {q:Rat} {K0:Nat} (h0:(VTy.qc p L0).holds X w v0) (h1:(VTy.qc q K0).holds X w v1) (hb:L0≤450∧K0≤450)  :
 Calls Tryz.prog 108 #[v0,v1] w (Gives X w (.is (.int .i64 (cmpQ p q)))):=by
 refine g_enter (Ts:=[.qc p L0, .qc q K0]) (vs:=[v0,v1]) Tryz.func108 rfl Tryz.ntmps108 (by simp) hX ⟨h0,h1,trivial⟩ ?_
 clear h0 h1 hX
 simp only [argE,Nat.zero_add,Nat.reduceAdd]
 repeat' first|kernel_rfl|apply g_seq|apply g_reg|apply g_nil|apply g_draw (id:=1) [] [] 11|apply o_all|apply o_go|exact OpsT.nil|exact GuardC.nil|exact UndefC.nil|apply g_box|apply g_all|apply g_sto|apply g_asg|apply g_st|apply g_skip|apply g_ct|apply g_cf|apply g_ret|refine r_1 rfl ?_|apply g_cl|exact sb_mul (by omega)|exact sb_cmp (by omega)|exact st_assign'|exact st_load'|exact st_fieldAddr'|exact st_loadE'|exact ⟨fun _ _=>(is_is (by rw [cmpQ_num]))⟩|exact Cv.rfl'|(intro _;simp only[newX,newL,ptrs,List.map,List.cons_append,List.nil_append])|intro _
theorem ei_compared:Enters Tryz.prog 108:=fun _ _=>by kernel_rfl
section
variable {w00:World} {N:Nat} {L:List Loc} {E:List (Nat×VTy)} {d:Nat} {t0:TypeId} {pos:String} {af:Array Edge} {gd:Option (Nat×Bool)} {ats:Array TypeId}
theorem si_compared {o0:Operand} {T0:VTy} {p:Rat} {L0:Nat} {o1:Operand} {T1:VTy} {q:Rat} {K0:Nat} [OpC E o0 T0] [a0:AsC T0 p L0] [OpC E o1 T1] [a1:AsC T1 q K0] (hE:Tab w00) (hb:L0≤450∧K0≤450):
 StepT Tryz.prog w00 N L E ⟨some d, .call { callee:= .value (.func 108),args:= #[o0,o1],argTypes:=ats },t0,pos,af,gd⟩ (.is (.int .i64 (cmpQ p q))):=
 sc2 ei_compared fun X w v0 v1 hX _ hB h0 h1=>(crn_compared (hE.below hB) hX (a0.ok h0) (a1.ok h1) hb)
end
theorem crn_productoftwo {X:List Nat} {w:World} (hE:Tab w) (hX:∀ b∈X,b<w.heap.size) {v0 v1:Value} {p:Rat} {L0:Nat} {q:Rat} {K0:Nat} (h0:(VTy.qc p L0).holds X w v0) (h1:(VTy.qc q K0).holds X w v1) (hb:L0≤450∧K0≤450)  :
 Calls Tryz.prog 109 #[v0,v1] w (Gives X w (.qn (p*q) (L0+K0) w.heap.size)):=by
 have hl0:=qc_Lq h0
 have hl1:=qc_Lq h1
 obtain ⟨⟨x1,x2,x3⟩,⟨y1,y2,y3⟩,en,ed⟩:=prod_parts p q rfl rfl
 refine g_enter (Ts:=[.qc p L0, .qc q K0]) (vs:=[v0,v1]) Tryz.func109 rfl Tryz.ntmps109 (by simp) hX ⟨h0,h1,trivial⟩ ?_
 clear h0 h1 hX
 simp only [argE,Nat.zero_add,Nat.reduceAdd]
 repeat' first|kernel_rfl|apply g_seq|apply g_reg|apply g_nil|apply g_draw (id:=1) [] [] 12|apply g_draw (id:=2) [] [] 19|apply o_all|apply o_go|exact OpsT.nil|exact GuardC.nil|exact UndefC.nil|apply g_box|apply g_all|apply g_sto|apply g_asg|apply g_st|apply g_skip|apply g_ct|apply g_cf|apply g_ret|refine r_1 rfl ?_|apply g_cl|exact sbn_mul (by omega)|exact si_gcd hE (by omega)|exact si_by hE (by omega) (by assumption) (by assumption)|exact sr_build|exact st_load'|exact st_fieldAddr'|exact st_loadE'|exact ⟨fun _ _=>(ndn_qn en ed (hl0.mul hl1))⟩|exact Cv.rfl'|(intro _;simp only[newX,newL,ptrs,List.map,List.cons_append,List.nil_append])|intro _
theorem ei_productoftwo:Enters Tryz.prog 109:=fun _ _=>by kernel_rfl
section
variable {w00:World} {N:Nat} {L:List Loc} {E:List (Nat×VTy)} {d:Nat} {t0:TypeId} {pos:String} {af:Array Edge} {gd:Option (Nat×Bool)} {ats:Array TypeId}
theorem si_productoftwo {o0:Operand} {T0:VTy} {p:Rat} {L0:Nat} {o1:Operand} {T1:VTy} {q:Rat} {K0:Nat} [OpC E o0 T0] [a0:AsC T0 p L0] [OpC E o1 T1] [a1:AsC T1 q K0] (hE:Tab w00) (hb:L0≤450∧K0≤450):
 StepT Tryz.prog w00 N L E ⟨some d, .call { callee:= .value (.func 109),args:= #[o0,o1],argTypes:=ats },t0,pos,af,gd⟩ (.qn (p*q) (L0+K0) w00.heap.size):=
 sc2 ei_productoftwo fun X w v0 v1 hX _ hB h0 h1=>(crn_productoftwo (hE.below hB) hX (a0.ok h0) (a1.ok h1) hb).mono fun e w' h=>h.imp fun _ g=>nw_le g hB.size
end
section
variable {w00:World} {N:Nat} {L:List Loc} {E:List (Nat×VTy)} {d:Nat} {t0:TypeId} {pos:String} {af:Array Edge} {gd:Option (Nat×Bool)} {ats:Array TypeId}
end
theorem crn_copied {X:List Nat} {w:World} (hE:Tab w) (hX:∀ b∈X,b<w.heap.size) {v0:Value} {p:Rat} {L0:Nat} (h0:(VTy.qc p L0).holds X w v0) (hb:L0≤1000)  :
 Calls Tryz.prog 89 #[v0] w (Gives X w (.qn p L0 w.heap.size)):=by
 have hl0:=qc_Lq h0
 refine g_enter (Ts:=[.qc p L0]) (vs:=[v0]) Tryz.func89 rfl Tryz.ntmps89 (by simp) hX ⟨h0,trivial⟩ ?_
 clear h0 hX
 simp only [argE,Nat.zero_add,Nat.reduceAdd]
 repeat' first|kernel_rfl|apply g_seq|apply g_reg|apply g_nil|apply g_draw (id:=1) [] [] 9|apply o_all|apply o_go|exact OpsT.nil|exact GuardC.nil|exact UndefC.nil|apply g_box|apply g_all|apply g_sto|apply g_asg|apply g_st|apply g_skip|apply g_ct|apply g_cf|apply g_ret|refine r_1 rfl ?_|apply g_cl|exact sN_one|exact sb_sum1 (by omega)|exact sr_build|exact st_load'|exact st_fieldAddr'|exact st_loadE'|exact ⟨fun _ _=>(ndn_qn rfl rfl hl0)⟩|exact Cv.rfl'|(intro _;simp only[newX,newL,ptrs,List.map,List.cons_append,List.nil_append])|intro _
theorem ei_copied:Enters Tryz.prog 89:=fun _ _=>by kernel_rfl
section
variable {w00:World} {N:Nat} {L:List Loc} {E:List (Nat×VTy)} {d:Nat} {t0:TypeId} {pos:String} {af:Array Edge} {gd:Option (Nat×Bool)} {ats:Array TypeId}
theorem si_copied {o0:Operand} {T0:VTy} {p:Rat} {L0:Nat} [OpC E o0 T0] [a0:AsC T0 p L0] (hE:Tab w00) (hb:L0≤1000):
 StepT Tryz.prog w00 N L E ⟨some d, .call { callee:= .value (.func 89),args:= #[o0],argTypes:=ats },t0,pos,af,gd⟩ (.qn p L0 w00.heap.size):=
 sc1 ei_copied fun X w v0 hX _ hB h0=>(crn_copied (hE.below hB) hX (a0.ok h0) hb).mono fun e w' h=>h.imp fun _ g=>nw_le g hB.size
end
section
variable {w00:World} {N:Nat} {L:List Loc} {E:List (Nat×VTy)} {d:Nat} {t0:TypeId} {pos:String} {af:Array Edge} {gd:Option (Nat×Bool)} {ats:Array TypeId}
end
section
variable {w00:World} {N:Nat} {L:List Loc} {E:List (Nat×VTy)} {d:Nat} {t0:TypeId} {pos:String} {af:Array Edge} {gd:Option (Nat×Bool)} {ats:Array TypeId}
end
section
variable {w00:World} {N:Nat} {L:List Loc} {E:List (Nat×VTy)} {d:Nat} {t0:TypeId} {pos:String} {af:Array Edge} {gd:Option (Nat×Bool)} {ats:Array TypeId}
end
section
variable {w00:World} {N:Nat} {L:List Loc} {E:List (Nat×VTy)} {d:Nat} {t0:TypeId} {pos:String} {af:Array Edge} {gd:Option (Nat×Bool)} {ats:Array TypeId}
end
section
variable {w00:World} {N:Nat} {L:List Loc} {E:List (Nat×VTy)} {d:Nat} {t0:TypeId} {pos:String} {af:Array Edge} {gd:Option (Nat×Bool)} {ats:Array TypeId}
end
section
variable {w00:World} {N:Nat} {L:List Loc} {E:List (Nat×VTy)} {d:Nat} {t0:TypeId} {pos:String} {af:Array Edge} {gd:Option (Nat×Bool)} {ats:Array TypeId}
end
theorem crn_mul {X:List Nat} {w:World} (hE:Tab w) (hX:∀ b∈X,b<w.heap.size) {v0 v1:Value} {p:Rat} {L0:Nat} {q:Rat} {K0:Nat} (h0:(VTy.qa p L0).holds X w v0) (h1:(VTy.qa q K0).holds X w v1) (hb:L0≤90∧K0≤90)  :
 Calls Tryz.prog 41 #[v0,v1] w (Gives X w (.qn (p*q) (L0+K0) w.heap.size)):=by
 refine g_enter (Ts:=[.qa p L0, .qa q K0]) (vs:=[v0,v1]) Tryz.func41 rfl Tryz.ntmps41 (by simp) hX ⟨h0,h1,trivial⟩ ?_
 clear h0 h1 hX
 simp only [argE,Nat.zero_add,Nat.reduceAdd]
 repeat' first|kernel_rfl|apply g_seq|apply g_reg|apply g_nil|apply g_draw (id:=1) [] [] 5|apply o_all|apply o_go|exact OpsT.nil|exact GuardC.nil|exact UndefC.nil|apply g_box|apply g_all|apply g_sto|apply g_asg|apply g_st|apply g_skip|apply g_ct|apply g_cf|apply g_ret|refine r_1 rfl ?_|apply g_cl|exact si_counted hE (by omega)|exact si_productoftwo hE (by omega)|exact st_load'|exact st_loadE'|exact Cv.rfl'|(intro _;simp only[newX,newL,ptrs,List.map,List.cons_append,List.nil_append])|intro _
section
variable {w00:World} {N:Nat} {L:List Loc} {E:List (Nat×VTy)} {d:Nat} {t0:TypeId} {pos:String} {af:Array Edge} {gd:Option (Nat×Bool)} {ats:Array TypeId}
end
section
variable {w00:World} {N:Nat} {L:List Loc} {E:List (Nat×VTy)} {d:Nat} {t0:TypeId} {pos:String} {af:Array Edge} {gd:Option (Nat×Bool)} {ats:Array TypeId}
end
section
variable {w00:World} {N:Nat} {L:List Loc} {E:List (Nat×VTy)} {d:Nat} {t0:TypeId} {pos:String} {af:Array Edge} {gd:Option (Nat×Bool)} {ats:Array TypeId}
end
theorem crn_neg {X:List Nat} {w:World} (hE:Tab w) (hX:∀ b∈X,b<w.heap.size) {v0:Value} {p:Rat} {L0:Nat} (h0:(VTy.qa p L0).holds X w v0) (hb:L0≤90)  :
 Calls Tryz.prog 31 #[v0] w (Gives X w (.qn (-p) L0 w.heap.size)):=by
 refine g_enter (Ts:=[.qa p L0]) (vs:=[v0]) Tryz.func31 rfl Tryz.ntmps31 (by simp) hX ⟨h0,trivial⟩ ?_
 clear h0 hX
 simp only [argE,Nat.zero_add,Nat.reduceAdd]
 repeat' first|kernel_rfl|apply g_seq|apply g_reg|apply g_nil|apply g_box|apply g_all|apply g_sto|apply g_asg|apply g_st|apply g_skip|apply g_ct|apply g_cf|apply g_ret|refine r_1 rfl ?_|apply g_cl|exact si_counted hE (by omega)|exact si_turned hE (by omega)|exact si_copied hE (by omega)|exact st_load'|exact st_loadE'|exact Cv.rfl'|intro _
section
variable {w00:World} {N:Nat} {L:List Loc} {E:List (Nat×VTy)} {d:Nat} {t0:TypeId} {pos:String} {af:Array Edge} {gd:Option (Nat×Bool)} {ats:Array TypeId}
end
theorem crn_cmp {X:List Nat} {w:World} (hE:Tab w) (hX:∀ b∈X,b<w.heap.size) {v0 v1:Value} {p:Rat} {L0:Nat} {q:Rat} {K0:Nat} (h0:(VTy.qa p L0).holds X w v0) (h1:(VTy.qa q K0).holds X w v1) (hb:L0≤90∧K0≤90)  :
 Calls Tryz.prog 40 #[v0,v1] w (Gives X w (.is (.int .i64 (cmpQ p q)))):=by
 refine g_enter (Ts:=[.qa p L0, .qa q K0]) (vs:=[v0,v1]) Tryz.func40 rfl Tryz.ntmps40 (by simp) hX ⟨h0,h1,trivial⟩ ?_
 clear h0 h1 hX
 simp only [argE,Nat.zero_add,Nat.reduceAdd]
 repeat' first|kernel_rfl|apply g_seq|apply g_reg|apply g_nil|apply g_draw (id:=1) [] [] 5|apply o_all|apply o_go|exact OpsT.nil|exact GuardC.nil|exact UndefC.nil|apply g_box|apply g_all|apply g_sto|apply g_asg|apply g_st|apply g_skip|apply g_ct|apply g_cf|apply g_ret|refine r_1 rfl ?_|apply g_cl|exact si_counted hE (by omega)|exact si_compared hE (by omega)|exact st_assign'|exact st_load'|exact st_loadE'|exact Cv.rfl'|(intro _;simp only[newX,newL,ptrs,List.map,List.cons_append,List.nil_append])|intro _
section
variable {w00:World} {N:Nat} {L:List Loc} {E:List (Nat×VTy)} {d:Nat} {t0:TypeId} {pos:String} {af:Array Edge} {gd:Option (Nat×Bool)} {ats:Array TypeId}
end
theorem crn_sign {X:List Nat} {w:World} (hE:Tab w) (hX:∀ b∈X,b<w.heap.size) {v0:Value} {p:Rat} {L0:Nat} (h0:(VTy.qa p L0).holds X w v0) (hb:L0≤90)  :
 Calls Tryz.prog 38 #[v0] w (Gives X w (.is (.int .i64 (cmpQ p 0)))):=by
 refine g_enter (Ts:=[.qa p L0]) (vs:=[v0]) Tryz.func38 rfl Tryz.ntmps38 (by simp) hX ⟨h0,trivial⟩ ?_
 clear h0 hX
 simp only [argE,Nat.zero_add,Nat.reduceAdd]
 repeat' first|kernel_rfl|apply g_seq|apply g_reg|apply g_nil|apply g_box|apply g_all|apply g_sto|apply g_asg|apply g_st|apply g_skip|apply g_ct|apply g_cf|apply g_ret|refine r_1 rfl ?_|apply g_cl|exact si_counted hE (by omega)|exact sb_sign (by omega)|exact st_assign'|exact st_load'|exact st_field'|exact st_loadE'|exact ⟨fun _ _=>(is_is (by rw [←cmpQ_sign]))⟩|exact Cv.rfl'|intro _
section
variable {w00:World} {N:Nat} {L:List Loc} {E:List (Nat×VTy)} {d:Nat} {t0:TypeId} {pos:String} {af:Array Edge} {gd:Option (Nat×Bool)} {ats:Array TypeId}
end
end Go.Proofs.YtgnggldjjjkogaaGreatDoor
