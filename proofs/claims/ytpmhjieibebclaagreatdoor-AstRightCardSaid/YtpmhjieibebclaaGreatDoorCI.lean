/- Package big in a typed walk: what each call answers, as a step. -/
import Derived.Test.YtpmhjieibebclaaGreatDoorCH
import Derived.Test.YtpmhjieibebclaaGreatDoorCE
import Derived.Test.YtpmhjieibebclaaGreatDoorCD
import Derived.Test.YtpmhjieibebclaaGreatDoorCB
set_option maxHeartbeats 4000000
set_option maxRecDepth 20000
set_option linter.unusedSimpArgs false
set_option linter.unusedVariables false
namespace Go.Proofs.YtpmhjieibebclaaGreatDoor
open Go Go.RowKit
variable {L0 K K0 L B:Nat} {w w':World} {X:List Nat} {o0 o1:Operand} {v0 v1 v:Value} {T0 T1:aa} {N0 M N:Int} {p q:Rat} {xs:List Int} {x:aR}
structure cK (w:World):Prop where
 half:f_ w
 hz:3<w.heap.size
theorem cK.below(h:cK w) (hb:Below w.heap.size w w'):cK w':=⟨fun i hi=>(hb.cell (p:=⟨3,i,none⟩) h.hz).trans (h.half i hi),Nat.lt_of_lt_of_le h.hz hb.size⟩
section
variable {w00:World} {N:Nat} {L:List Loc} {E:List (Nat×aa)} {d:Nat} {t0:TypeId} {pos:String} {af:Array Edge} {gd:Option (Nat×Bool)} {ats:Array TypeId}
theorem AE:aJ Tryz.prog 123:=fun _ _=>by kernel_rfl
theorem GQ{N:Int} {L:Nat} (hX:∀ b∈X,b<w.heap.size) (h0:(aa.na N L).holds X w v0) (h1:(aa.na M K).holds X w v1) (hb:L≤1000∧K≤1000):Calls Tryz.prog 123 #[v0,v1] w (bj X w (.nc (N*M) (L+K))):=by
 have l0:=fg h0
 have l1:=fg h1
 obtain ⟨s,A,n,c,xs,rfl,s0,d0,e0,n0⟩:=cb h0
 obtain ⟨t,A2,m,c2,ys,rfl,s1,d1,e1,n1⟩:=cb h1
 have:=vW (s:=s) (t:=t) s0 s1 (Nat.le_refl _) d0 d1 qO qO
 rw [e0,e1] at this
 exact this.mono fun e w' h=>h.gives hX (lu l0 l1)
theorem GF[bD E o0 T0] [a0:i7 T0 N0 L0] [bD E o1 T1] [a1:i7 T1 M K] (hb:L0≤1000∧K≤1000):
 au Tryz.prog w00 N L E ⟨some d, .call { callee:= .value (.func 123),args:= #[o0,o1],argTypes:=ats },t0,pos,af,gd⟩ (.nc (N0*M) (L0+K)):=
 qi AE fun X w v0 v1 hX _ _ h0 h1=>GQ hX (a0.ok h0) (a1.ok h1) hb
theorem Gv:aJ Tryz.prog 118:=fun _ _=>by kernel_rfl
theorem Gc:aJ Tryz.prog 120:=fun _ _=>by kernel_rfl
theorem H6:aJ Tryz.prog 117:=fun _ _=>by kernel_rfl
theorem Hh{N:Int} {L:Nat} (h0:(aa.na N L).holds X w v0) (h1:(aa.na M K).holds X w v1) (hb:L≤1000∧K≤1000):Calls Tryz.prog 117 #[v0,v1] w (bj X w (.is (.int .i64 (b_ N M)))):=by
 obtain ⟨s,A,n,c,xs,rfl,s0,d0,e0,n0⟩:=cb h0
 obtain ⟨t,A2,m,c2,ys,rfl,s1,d1,e1,n1⟩:=cb h1
 have:=v6 (s:=s) (t:=t) s0 s1 (Nat.le_refl _) d0 d1 qO qO
 rw [e0,e1] at this
 refine this.mono ?_
 rintro e w' ⟨rfl,hb⟩
 exact ⟨_,rfl,rfl,hb⟩
theorem He[bD E o0 T0] [a0:i7 T0 N0 L0] [bD E o1 T1] [a1:i7 T1 M K] (hb:L0≤1000∧K≤1000):
 au Tryz.prog w00 N L E ⟨some d, .call { callee:= .value (.func 117),args:= #[o0,o1],argTypes:=ats },t0,pos,af,gd⟩ (.is (.int .i64 (b_ N0 M))):=
 qi H6 fun X w v0 v1 hX _ _ h0 h1=>Hh (a0.ok h0) (a1.ok h1) hb
theorem Ef:aJ Tryz.prog 76:=fun _ _=>by kernel_rfl
theorem Eg{N:Int} {L:Nat} (h0:(aa.na N L).holds X w v0) (hb:L≤1000):Calls Tryz.prog 76 #[v0] w (bj X w (.is (.int .i64 (b_ N 0)))):=by
 obtain ⟨s,A,n,c,xs,rfl,s0,d0,e0,n0⟩:=cb h0
 have:=zG (s:=s) s0 (Nat.le_refl _) d0 qO
 rw [e0] at this
 refine this.mono ?_
 rintro e w' ⟨rfl,hb⟩
 exact ⟨_,rfl,rfl,hb⟩
theorem FN[bD E o0 T0] [a0:i7 T0 N0 L0] (hb:L0≤1000):
 au Tryz.prog w00 N L E ⟨some d, .call { callee:= .value (.func 76),args:= #[o0],argTypes:=ats },t0,pos,af,gd⟩ (.is (.int .i64 (b_ N0 0))):=
 pm Ef fun X w v0 hX _ _ h0=>Eg (a0.ok h0) hb
theorem BH:aJ Tryz.prog 116:=fun _ _=>by kernel_rfl
theorem Cq{x:fa} {u:Bool} [bD E o0 (.nx x L0)] (hu:jN x.1 x.2=u):
 au Tryz.prog w00 N L E ⟨some d, .call { callee:= .value (.func 116),args:= #[o0],argTypes:=ats },t0,pos,af,gd⟩ (.is (.bool u)):=
 pm BH fun X w v0 hX _ _ h0=>by
  obtain ⟨y,⟨rfl,_⟩,cs,rfl,hr⟩:=h0
  obtain ⟨A,n,c,rfl,hs,hd⟩:=b9.1 hr
  refine (mu (s:=y.1) hs.1 (Nat.le_refl _)).mono ?_
  rintro e w' ⟨rfl,hb⟩
  exact ⟨_,rfl,by rw [hu];rfl,hb⟩
theorem IV:aJ Tryz.prog 80:=fun _ _=>by kernel_rfl
theorem Gr:aJ Tryz.prog 150:=fun _ _=>by kernel_rfl
end
def aa.nwn (p:fa→Prop) (B:Nat):aa:=⟨fun X w v=>∃ x,p x∧∃ cs:List Value,v= .agg cs.toArray∧Rp.num.rd w (Ih B X w) x cs,fun ⟨x,hp,cs,e,h⟩ hk hX=>⟨x,hp,cs,e,Rp.num.more (Rp.num.keep h (fun b hb=>hk.block b hb.1.1 hb.1.2)) (fun b hb=>by
 obtain ⟨h1,h2,c,h3⟩:=hb
 exact ⟨cU.mono hk hX b h1,h2,c,(hk.block b h1.1 h1.2).trans h3⟩)⟩⟩
def aa.nn (N:Int) (L B:Nat):aa:=aa.nwn (fun x=>Whole N x.1 x.2∧(N.natAbs:Int)<4294967296^L) B
def aa.ndn (N D:Int) (L B:Nat):aa:=aa.nw (fun x=>Whole N x.1.1 x.1.2∧Whole D x.2.1 x.2.2∧(N.natAbs:Int)<4294967296^L∧(D.natAbs:Int)<4294967296^L) B
theorem nL{p:fa→Prop} (h:(aa.nwn p B).holds X w v):(aa.ex Rp.num p).holds X w v:=by
 obtain ⟨x,hp,cs,e,h⟩:=h
 exact ⟨x,hp,cs,e,Rp.num.more h (fun b hb=>hb.1)⟩
theorem iU{p:fa→Prop} {B':Nat} (h:(aa.nwn p B).holds X w v) (hB:B'≤B):(aa.nwn p B').holds X w v:=by
 obtain ⟨x,hp,cs,e,h⟩:=h
 exact ⟨x,hp,cs,e,Rp.num.more h (fun b hb=>⟨hb.1,Nat.le_trans hB hb.2.1,hb.2.2⟩)⟩
instance {p:fa→Prop} {B:Nat}:aL (.nwn p B) 2 true:=⟨fun h=>(inferInstance:aL (.ex Rp.num p) Rp.num.k true).ok (nL h)⟩
instance {N:Int} {L B:Nat}:aL (.nn N L B) 2 true:=inferInstanceAs (aL (.nwn _ _) 2 true)
instance {N D:Int} {L B:Nat}:aL (.ndn N D L B) 4 true:=inferInstanceAs (aL (.nw _ _) 4 true)
instance {N:Int} {L B:Nat}:ai (.nn N L B) 0 2 true (.nn N L B):= .whole inferInstance
instance {N D:Int} {L B:Nat}:ai (.ndn N D L B) 0 4 true (.ndn N D L B):= .whole inferInstance
instance {N:Int} {L B:Nat}:i7 (.nn N L B) N L:=⟨fun h=>(inferInstance:i7 (.nc N L) N L).ok (nL h)⟩
instance:cQ Tryz.prog 25 (.na 0 0):=⟨⟨.agg #[.bool false, .slice none 0 0],fun X w=>⟨(false,[]),⟨rfl,Nat.le_refl _⟩,[.bool false, .slice none 0 0],rfl,b9.2 ⟨none,0,0,rfl,⟨Sl.nil,fun h=>by omega⟩,Dg.nil⟩⟩,fun o ρ w ho=>by
 unfold execOp
 rw [ho]
 go_simp⟩⟩
theorem bH.cellsAt{k:IntKind} {e:TypeId} {A:Option Addr} {n c:Nat} (h:bH k e w B A n c xs) {g:Nat} (hg:fh A=some g):∃ cur,w.heap[g]? =some (.cells cur e (0,0)):=by
 rcases h.2 with ⟨h1,_⟩|⟨g',cap,cur,h1,h2,h3,h4⟩
 ·injection h1 with h1
  rw [h1] at hg;cases hg
 ·injection h1 with h1
  rw [h1] at hg
  injection hg with hg
  subst hg
  exact ⟨cur,h3⟩
theorem wF{s:Bool} {A:Option Addr} {n c:Nat} {ys:List Int} (hX:∀ b∈X,b<B) (h:Whole N s ys) (ho:bH .u32 115 w' B A n c ys) (hl:(N.natAbs:Int)<4294967296^L):(aa.nn N L B).holds X w' (.agg #[.bool s, .slice A n c]):=by
 refine ⟨(s,ys),⟨h,hl⟩,[.bool s, .slice A n c],rfl,b9.2 ⟨A,n,c,rfl,⟨ho.sl,fun hn b hb=> ?_⟩,h.row.dg⟩⟩
 obtain ⟨g1,g2⟩:=ho.blk_ b hb
 exact ⟨⟨g2,fun hx=>by have:=hX b hx;omega⟩,g1,ho.cellsAt hb⟩
theorem d7.givesN{e:Ending} (h:d7 w N e w') (hX:∀ b∈X,b<w.heap.size) (hl:(N.natAbs:Int)<4294967296^L):bj X w (.nn N L w.heap.size) e w':=by
 obtain ⟨s,ys,A,n,c,hW,rfl,ho,hb⟩:=h
 exact ⟨_,rfl,wF hX hW ho hl,hb⟩
section
variable {w00:World} {N:Nat} {L:List Loc} {E:List (Nat×aa)} {d:Nat} {t0:TypeId} {pos:String} {af:Array Edge} {gd:Option (Nat×Bool)} {ats:Array TypeId}
theorem EM{N:Int} {L:Nat} (hX:∀ b∈X,b<w.heap.size) (h0:(aa.na N L).holds X w v0) (h1:(aa.na M K).holds X w v1) (hb:L≤1000∧K≤1000):Calls Tryz.prog 123 #[v0,v1] w (bj X w (.nn (N*M) (L+K) w.heap.size)):=by
 have l0:=fg h0
 have l1:=fg h1
 obtain ⟨s,A,n,c,xs,rfl,s0,d0,e0,n0⟩:=cb h0
 obtain ⟨t,A2,m,c2,ys,rfl,s1,d1,e1,n1⟩:=cb h1
 have:=vW (s:=s) (t:=t) s0 s1 (Nat.le_refl _) d0 d1 qO qO
 rw [e0,e1] at this
 exact this.mono fun e w' h=>h.givesN hX (lu l0 l1)
theorem DG[bD E o0 T0] [a0:i7 T0 N0 L0] [bD E o1 T1] [a1:i7 T1 M K] (hb:L0≤1000∧K≤1000):
 au Tryz.prog w00 N L E ⟨some d, .call { callee:= .value (.func 123),args:= #[o0,o1],argTypes:=ats },t0,pos,af,gd⟩ (.nn (N0*M) (L0+K) w00.heap.size):=
 qi AE fun X w v0 v1 hX _ hB h0 h1=>(EM hX (a0.ok h0) (a1.ok h1) hb).mono fun e w' h=>h.imp fun v hv=>iU hv hB.size
theorem DF{N:Int} {L:Nat} (hE:cK w) (hX:∀ b∈X,b<w.heap.size) (h0:(aa.na N L).holds X w v0) (h1:(aa.na M K).holds X w v1) (hb:L≤1000∧K≤1000):Calls Tryz.prog 118 #[v0,v1] w (bj X w (.nn (cJ (N.natAbs:Int) (M.natAbs:Int)) (max L K) w.heap.size)):=by
 have l0:=fg h0
 have l1:=fg h1
 obtain ⟨s,A,n,c,xs,rfl,s0,d0,e0,n0⟩:=cb h0
 obtain ⟨t,A2,m,c2,ys,rfl,s1,d1,e1,n1⟩:=cb h1
 have:=Bu (s:=s) (t:=t) s0 s1 (Nat.le_refl _) hE.half hE.hz d0 d1 qO qO
 rw [e0,e1] at this
 exact this.mono fun e w' h=>h.givesN hX (x9 l0 l1)
theorem FP[bD E o0 T0] [a0:i7 T0 N0 L0] [bD E o1 T1] [a1:i7 T1 M K] (hE:cK w00) (hb:L0≤1000∧K≤1000):
 au Tryz.prog w00 N L E ⟨some d, .call { callee:= .value (.func 118),args:= #[o0,o1],argTypes:=ats },t0,pos,af,gd⟩ (.nn (cJ (N0.natAbs:Int) (M.natAbs:Int)) (max L0 K) w00.heap.size):=
 qi Gv fun X w v0 v1 hX _ hB h0 h1=>(DF (hE.below hB) hX (a0.ok h0) (a1.ok h1) hb).mono fun e w' h=>h.imp fun v hv=>iU hv hB.size
theorem EO{N:Int} {L:Nat} (hX:∀ b∈X,b<w.heap.size) (h0:(aa.na N L).holds X w v0) (hb:L≤1000):Calls Tryz.prog 120 #[v0] w (bj X w (.nn (-N) (L) w.heap.size)):=by
 have l0:=fg h0
 obtain ⟨s,A,n,c,xs,rfl,s0,d0,e0,n0⟩:=cb h0
 have:=AP (s:=s) s0 (Nat.le_refl _) d0 qO
 rw [e0] at this
 exact this.mono fun e w' h=>h.givesN hX (wZ l0)
theorem EW[bD E o0 T0] [a0:i7 T0 N0 L0] (hb:L0≤1000):
 au Tryz.prog w00 N L E ⟨some d, .call { callee:= .value (.func 120),args:= #[o0],argTypes:=ats },t0,pos,af,gd⟩ (.nn (-N0) (L0) w00.heap.size):=
 pm Gc fun X w v0 hX _ hB h0=>(EO hX (a0.ok h0) hb).mono fun e w' h=>h.imp fun v hv=>iU hv hB.size
theorem Dp{k:Int} [bD E o0 (.is (.int .i64 k))] (hk: -9223372036854775808≤k∧k≤9223372036854775807):
 au Tryz.prog w00 N L E ⟨some d, .call { callee:= .value (.func 80),args:= #[o0],argTypes:=ats },t0,pos,af,gd⟩ (.nn k 2 w00.heap.size):=
 pm IV fun X w v0 hX _ hB h0=>by
  obtain rfl:v0=_:=h0
  exact (DB hk).mono fun e w' h=>(h.givesN hX (w_ hk)).imp fun v hv=>iU hv hB.size
theorem DJ[bD E o0 T0] [a0:i7 T0 N0 L0] [bD E o1 T1] [a1:i7 T1 M K] (hE:cK w00) (hb:L0≤1000∧K≤1000) (hM:M≠0):
 au Tryz.prog w00 N L E ⟨some d, .call { callee:= .value (.func 150),args:= #[o0,o1],argTypes:=ats },t0,pos,af,gd⟩ (.tup [.nn (N0.fdiv M) (L0+1) w00.heap.size, .nn (N0.fmod M) K w00.heap.size, .is (.int .i64 0)]):=
 qi Gr fun X w v0 v1 hX _ hB h0 h1=>by
  have hE:=hE.below hB
  have l0:=ud (fg (a0.ok h0)) hM
  have l1:=uv (N:=N0) (fg (a1.ok h1)) hM
  obtain ⟨s,A,n,c,xs,rfl,s0,d0,e0,n0⟩:=cb (a0.ok h0)
  obtain ⟨t,A2,m,c2,ys,rfl,s1,d1,e1,n1⟩:=cb (a1.ok h1)
  have:=tZ (s:=s) (t:=t) s0 s1 (Nat.le_refl _) hE.half hE.hz d0 d1 qO qO
  rw [e0,e1] at this
  refine this.mono ?_
  rintro e w' (⟨hz,_⟩|⟨_,s1,qs,s2,rs,A1,n1,c1,A2,n2,c2,rfl,hq,hr,o1,o2,_,hb⟩)
  ·exact absurd hz hM
  ·exact ⟨_,rfl,⟨[_,_,_],rfl,iU (wF hX hq o1 l0) hB.size,iU (wF hX hr o2 l1) hB.size,rfl,trivial⟩,hb⟩
theorem pX{D0:Int} [h0:bD E o0 (.nn N0 L0 B)] [h1:bD E o1 (.nn D0 K0 B)]:au Tryz.prog w00 N L E ⟨some d, .build 27 #[(0,o0),(1,o1)],t0,pos,af,gd⟩ (.ndn N0 D0 (max L0 K0) B):=by
 constructor
 intro X ρ w hc _ hN hm hsl
 obtain ⟨x,⟨a1,a2⟩,cs,e0,g0⟩:=h0.get (X:=X) (w:=w) hc fun p hp e=>hsl p hp qS
 obtain ⟨y,⟨b1,b2⟩,ds,e1,g1⟩:=h1.get (X:=X) (w:=w) hc fun p hp e=>hsl p hp qS
 obtain ⟨A,n,c,rfl,_⟩:=b9.1 g0
 obtain ⟨A2,n2,c2,rfl,_⟩:=b9.1 g1
 have p1:(4294967296:Int)^L0≤4294967296^(max L0 K0):=aP qD qO
 have p2:(4294967296:Int)^K0≤4294967296^(max L0 K0):=aP qD qO
 have hT:(aa.ndn N0 D0 (max L0 K0) B).holds X w (.agg #[.bool x.1, .slice A n c, .bool y.1, .slice A2 n2 c2]):=
  ⟨(x,y),⟨a1,b1,Int.lt_of_lt_of_le a2 p1,Int.lt_of_lt_of_le b2 p2⟩,[.bool x.1, .slice A n c]++[.bool y.1, .slice A2 n2 c2],rfl,_,_,rfl,g0,g1⟩
 have e0':ρ o0= .agg #[.bool x.1, .slice A n c]:=e0
 have e1':ρ o1= .agg #[.bool y.1, .slice A2 n2 c2]:=e1
 have HT:=Lib.hid hT
 clear hT hsl hm hc a1 a2 b1 b2 g0 g1 h0 h1 p1 p2 e0 e1
 unfold Yields
 go_simp
 exact ⟨HT.out,Below.refl _ _⟩
end
theorem wP{D:Int} {M:Nat} (hN:q.num=N) (hD:(q.den:Int)=D) (hL:Lq q M) (v:Value) (h:(aa.ndn N D L B).holds X w v):(aa.qn q M B).holds X w v:=by
 obtain ⟨x,⟨h1,h2,_,_⟩,g⟩:=h
 exact ⟨x,⟨⟨by rw [hN];exact h1,by rw [hD];exact h2⟩,hL⟩,g⟩
instance:fw Tryz.prog 25 2 true:=⟨⟨_,Tryz.underlying25,rfl⟩,by kernel_rfl⟩
instance:fw Tryz.prog 27 4 true:=⟨⟨_,Tryz.underlying27,rfl⟩,by kernel_rfl⟩
instance:fw Tryz.prog 23 1 false:=⟨⟨_,Tryz.underlying23,rfl⟩,by kernel_rfl⟩
instance:aq Tryz.prog 27 0 0 2 true:=⟨⟨_,_,Tryz.underlying27,rfl,rfl,by kernel_rfl,by decide,_,Tryz.underlying25,rfl⟩⟩
instance:aq Tryz.prog 27 1 2 2 true:=⟨⟨_,_,Tryz.underlying27,rfl,rfl,by kernel_rfl,by decide,_,Tryz.underlying25,rfl⟩⟩
instance:aq Tryz.prog 25 1 1 1 false:=⟨⟨_,_,Tryz.underlying25,rfl,rfl,by kernel_rfl,by decide,_,Tryz.underlying23,rfl⟩⟩
instance:cQ Tryz.prog 27 .q0:=⟨⟨.agg #[.bool false, .slice none 0 0, .bool false, .slice none 0 0],fun X w=>⟨_,rfl,[.bool false, .slice none 0 0]++[.bool false, .slice none 0 0],rfl,_,_,rfl,b9.2 ⟨none,0,0,rfl,⟨Sl.nil,fun h=>by omega⟩,Dg.nil⟩,b9.2 ⟨none,0,0,rfl,⟨Sl.nil,fun h=>by omega⟩,Dg.nil⟩⟩,fun o ρ w ho=>by
 unfold execOp
 rw [ho]
 go_simp⟩⟩
instance:zZ 2 1 3:=⟨rfl⟩
def aa.qz (x:aR):aa:=aa.ex Rp.frac fun y=>y=x
instance {x:aR}:aL (.qz x) 4 true:=inferInstanceAs (aL (.ex Rp.frac _) Rp.frac.k true)
instance {x:aR}:ai (.qz x) 0 4 true (.qz x):= .whole inferInstance
theorem ai.limbs1{p:aR→Prop} (h:∀ x,p x→x.1.2=xs):ai (.ex Rp.frac p) 1 1 false (.rc Rp.limbs xs):=⟨fun _=>rfl,fun {X w v} hv=>by
 obtain ⟨x,hp,cs,rfl,c1,c2,rfl,h1,h2⟩:=hv
 obtain ⟨A,n,c,rfl,hs,hd⟩:=b9.1 h1
 refine ⟨[.slice A n c],rfl,fun j u hj=> ?_,fun u _ hu=> ?_⟩
 ·have hj0:j=0:=by have:=(List.getElem?_eq_some_iff.1 hj).1;simpa using this
  subst hj0
  simpa [Value.cells] using hj
 ·have:=hu rfl
  simp at this
  subst this
  exact ⟨A,n,c,rfl,by rw [←h x hp];exact hs,by rw [←h x hp];exact hd⟩⟩
theorem ai.limbs3{p:aR→Prop} (h:∀ x,p x→x.2.2=xs):ai (.ex Rp.frac p) 3 1 false (.rc Rp.limbs xs):=⟨fun _=>rfl,fun {X w v} hv=>by
 obtain ⟨x,hp,cs,rfl,c1,c2,rfl,h1,h2⟩:=hv
 obtain ⟨A0,n0,c0,rfl,_,_⟩:=b9.1 h1
 obtain ⟨A,n,c,rfl,hs,hd⟩:=b9.1 h2
 refine ⟨[.slice A n c],rfl,fun j u hj=> ?_,fun u _ hu=> ?_⟩
 ·have hj0:j=0:=by have:=(List.getElem?_eq_some_iff.1 hj).1;simpa using this
  subst hj0
  simpa [Value.cells] using hj
 ·have:=hu rfl
  simp at this
  subst this
  exact ⟨A,n,c,rfl,by rw [←h x hp];exact hs,by rw [←h x hp];exact hd⟩⟩
instance {x:aR}:ai (.qz x) 1 1 false (.rc Rp.limbs x.1.2):= .limbs1 fun _ h=>by rw [h]
instance {x:aR}:ai (.qz x) 3 1 false (.rc Rp.limbs x.2.2):= .limbs3 fun _ h=>by rw [h]
instance {x:aR} {L:Nat}:ai (.qx x L) 1 1 false (.rc Rp.limbs x.1.2):= .limbs1 fun _ h=>by rw [h.1]
instance {x:aR} {L:Nat}:ai (.qx x L) 3 1 false (.rc Rp.limbs x.2.2):= .limbs3 fun _ h=>by rw [h.1]
section
variable {w00:World} {N:Nat} {L:List Loc} {E:List (Nat×aa)} {d:Nat} {t0:TypeId} {pos:String} {af:Array Edge} {gd:Option (Nat×Bool)} {ats:Array TypeId}
theorem yl{s:Nat} [ho:ck E s (.rc Rp.limbs xs)]:au Tryz.prog w00 N L E ⟨some d, .call { callee:= .builtin .len,args:= #[.tmp s],argTypes:= #[23] },t0,pos,af,gd⟩ (.is (.int .i64 xs.length)):=by
 constructor
 intro X ρ w hc _ hN hm hsl
 obtain ⟨A,n,c,e,⟨h,_⟩,_⟩:=hsl _ ho.mem qJ
 have e1:ρ (.tmp s)= .slice A n c:=by simpa using e
 have hl:=h.1
 clear hc hsl ho h e hm
 unfold Yields
 go_simp
 exact ⟨rfl,Below.refl _ _⟩
end
section
variable {w00:World} {N:Nat} {L:List Loc} {E:List (Nat×aa)} {d:Nat} {t0:TypeId} {pos:String} {af:Array Edge} {gd:Option (Nat×Bool)} {ats:Array TypeId}
end
def aa.rv (qs:List Rat) (L:Nat):aa:=⟨fun X w v=>∃ l:List aR,l.map qv=qs∧(aa.rq L l).holds X w v,fun ⟨l,e,h⟩ hk hX=>⟨l,e,(aa.rq L l).stable h hk hX⟩⟩
class Jz (T:aa) (qs:outParam (List Rat)) (L:outParam Nat):Prop where
 ok:∀ {X w v},T.holds X w v→(aa.rv qs L).holds X w v
instance {qs:List Rat} {L:Nat}:Jz (.rv qs L) qs L:=⟨fun h=>h⟩
instance {l:List aR} {L:Nat}:Jz (.rq L l) (l.map qv) L:=⟨fun h=>⟨l,rfl,h⟩⟩
section
variable {w00:World} {N:Nat} {L:List Loc} {E:List (Nat×aa)} {d:Nat} {t0:TypeId} {pos:String} {af:Array Edge} {gd:Option (Nat×Bool)} {ats:Array TypeId}
end
theorem wU (p q:Rat) {g h:Int} (hg:(Int.gcd p.num (q.den:Int):Int)=g) (hh:(Int.gcd q.num (p.den:Int):Int)=h):
 (g≠0∧g∣p.num∧g∣(q.den:Int))∧(h≠0∧h∣q.num∧h∣(p.den:Int))∧(p*q).num=p.num / g*(q.num / h)∧((p*q).den:Int)=(p.den:Int) / h*((q.den:Int) / g):=by
 have hp:=den_pos p
 have hq:=den_pos q
 have g1:g∣p.num:=by rw [←hg];exact Int.gcd_dvd_left ..
 have g2:g∣(q.den:Int):=by rw [←hg];exact Int.gcd_dvd_right ..
 have h1:h∣q.num:=by rw [←hh];exact Int.gcd_dvd_left ..
 have h2:h∣(p.den:Int):=by rw [←hh];exact Int.gcd_dvd_right ..
 have g0:g≠0:=fun e=>by rw [e] at g2;have:=Int.zero_dvd.1 g2;omega
 have h0:h≠0:=fun e=>by rw [e] at h2;have:=Int.zero_dvd.1 h2;omega
 refine ⟨⟨g0,g1,g2⟩,⟨h0,h1,h2⟩,?_⟩
 show (Rat.mul p q).num=_∧((Rat.mul p q).den:Int)=_
 unfold Rat.mul
 simp only [Int.divExact_eq_ediv,Nat.divExact_eq_div]
 have eg:(Nat.gcd p.num.natAbs q.den:Int)=g:=by rw [←hg];simp [Int.gcd]
 have eh:(Nat.gcd q.num.natAbs p.den:Int)=h:=by rw [←hh];simp [Int.gcd]
 constructor
 ·rw [eg,eh]
 ·rw [Int.natCast_mul,Int.natCast_ediv,Int.natCast_ediv,eg,eh]
theorem yo(h:(aa.qc q L).holds X w v):Lq q L:=by
 obtain ⟨x,⟨_,hl⟩,_⟩:=h
 exact hl
theorem Hz(h:(aa.qa q L).holds X w v):∃ x,qv x=q∧(aa.qx x L).holds X w v:=by
 obtain ⟨x,⟨h1,h2⟩,g⟩:=h
 exact ⟨x,h1,x,⟨rfl,h2⟩,g⟩
theorem Gs(h:(aa.qx x L).holds X w v):0<L:=by
 obtain ⟨y,h2,g⟩:=h
 exact h2.2.2.2
theorem Jf(hM:M≠0) (hd:M∣N) (hl:(N.natAbs:Int)<4294967296^L) (v:Value) (h:(aa.nn (N.fdiv M) (L+1) B).holds X w v):(aa.nn (N / M) L B).holds X w v:=by
 have e:N.fdiv M=N / M:=Int.fdiv_eq_ediv_of_dvd hd
 obtain ⟨x,⟨h1,_⟩,g⟩:=h
 rw [e] at h1
 refine ⟨x,⟨h1,?_⟩,g⟩
 have:=Int.natAbs_ediv_le_natAbs N M
 omega
class BD (T:aa) (q:outParam Rat) (L:outParam Nat):Prop where
 ok:∀ {X w v},T.holds X w v→(aa.qc q L).holds X w v
instance {q:Rat} {L:Nat}:BD (.qc q L) q L:=⟨fun h=>h⟩
instance {q:Rat} {L B:Nat}:BD (.qn q L B) q L:=⟨fun h=>oE h⟩
class DA (T:aa) (N:outParam Int) (L:outParam Nat):Prop where
 ok:∀ {X w v},T.holds X w v→(aa.nc N L).holds X w v
instance {N:Int} {L:Nat}:DA (.nc N L) N L:=⟨fun h=>h⟩
instance {N:Int} {L B:Nat}:DA (.nn N L B) N L:=⟨fun h=>nL h⟩
def aa.n1 (N:Int) (L:Nat):aa:=⟨fun X w v=>∃ (x:fa) (cs:List Value) (b:Nat),iv x=N∧x.2.length≤L∧v= .slice (some ⟨b,0,none⟩) 1 1∧cU X w b∧w.rangeAt b 0 cs∧Rp.num.rd w (cU X w) x cs,
 fun ⟨x,cs,b,h1,h2,e,hb,h3,h4⟩ hk hX=>⟨x,cs,b,h1,h2,e,cU.mono hk hX b hb,gu h3 (hk.block b hb.1 hb.2),Rp.num.up h4 hk hX⟩⟩
section
variable {w00:World} {N:Nat} {L:List Loc} {E:List (Nat×aa)} {d:Nat} {t0:TypeId} {pos:String} {af:Array Edge} {gd:Option (Nat×Bool)} {ats:Array TypeId}
theorem AJ[bD E o0 T0] [a0:i7 T0 N0 L0] [bD E o1 T1] [a1:i7 T1 M K] (hE:cK w00) (hb:L0≤1000∧K≤1000):
 au Tryz.prog w00 N L E ⟨some d, .call { callee:= .value (.func 118),args:= #[o0,o1],argTypes:=ats },t0,pos,af,gd⟩ (.nn (Int.gcd N0 M:Int) (max L0 K) w00.heap.size):=by
 rw [←lF]
 exact FP hE hb
theorem zJ{D0:Int} [h0:bD E o0 T0] [a0:DA T0 N0 L0] [h1:bD E o1 T1] [a1:DA T1 D0 K0]:au Tryz.prog w00 N L E ⟨some d, .build 27 #[(0,o0),(1,o1)],t0,pos,af,gd⟩ (.nd N0 D0 (max L0 K0)):=by
 constructor
 intro X ρ w hc _ hN hm hsl
 obtain ⟨x,⟨p1,p2⟩,cs,e0,g0⟩:=a0.ok (h0.get (X:=X) (w:=w) hc fun p hp e=>hsl p hp qS)
 obtain ⟨y,⟨q1,q2⟩,ds,e1,g1⟩:=a1.ok (h1.get (X:=X) (w:=w) hc fun p hp e=>hsl p hp qS)
 obtain ⟨A,n,c,rfl,_⟩:=b9.1 g0
 obtain ⟨A2,n2,c2,rfl,_⟩:=b9.1 g1
 have hT:(aa.nd N0 D0 (max L0 K0)).holds X w (.agg #[.bool x.1, .slice A n c, .bool y.1, .slice A2 n2 c2]):=
  ⟨(x,y),⟨p1,q1,Int.lt_of_lt_of_le p2 (aP qD qO),Int.lt_of_lt_of_le q2 (aP qD qO)⟩,[.bool x.1, .slice A n c]++[.bool y.1, .slice A2 n2 c2],rfl,_,_,rfl,g0,g1⟩
 have HT:=Lib.hid hT
 clear hT hsl hm hc p1 p2 q1 q2 g0 g1 h0 h1 a0 a1
 unfold Yields
 go_simp
 exact ⟨HT.out,Below.refl _ _⟩
theorem Hl[h0:bD E o0 T0] [a0:i7 T0 N0 L0]:au Tryz.prog w00 N L E ⟨some d, .buildSlice 212 1 #[(0,o0)],t0,pos,af,gd⟩ (.n1 N0 L0):=by
 constructor
 intro X ρ w hc _ hN hm hsl
 obtain ⟨x,⟨h1,h2⟩,cs,e0,g⟩:=a0.ok (h0.get (X:=X) (w:=w) hc fun p hp e=>hsl p hp qS)
 obtain ⟨A,n,c,rfl,hs,hd⟩:=b9.1 g
 have hT:(aa.n1 N0 L0).holds X (w.alloc (.cells #[.bool x.1, .slice A n c] 25)) (.slice (some ⟨w.heap.size,0,none⟩) 1 1):=by
  refine ⟨x,[.bool x.1, .slice A n c],w.heap.size,h1,h2,rfl,⟨by rw [ak];exact Nat.lt_succ_self _,fun h=>by have:=hm.far _ h;omega⟩,fun j v hv=> ?_,Rp.num.up g (Below.keeps ((Below.refl _ _).alloc (Nat.le_refl _) _) X) fun _ h _=>h⟩
  rw [Nat.zero_add]
  exact gg (i6 _ _) (by simpa using hv)
 have HT:=Lib.hid hT
 clear hT hsl hm hc g hs hd h0 a0
 unfold Yields
 go_simp
 exact ⟨HT.out,(Below.refl _ _).alloc (Nat.le_refl _) _⟩
theorem Iu:aJ Tryz.prog 119:=fun _ _=>by kernel_rfl
theorem Eo[h0:bD E o0 (.n1 N0 L0)] (hb:L0≤1000):au Tryz.prog w00 N L E ⟨some d, .call { callee:= .value (.func 119),args:= #[o0],argTypes:=ats },t0,pos,af,gd⟩ (.nn N0 L0 w00.heap.size):=
 pm Iu fun X w v0 hX _ hB h0=>by
  obtain ⟨x,cs,b,rfl,h2,rfl,hb',h3,h4⟩:=h0
  obtain ⟨A,n,c,rfl,hs,hd⟩:=b9.1 h4
  have hS:mA w w.heap.size (some ⟨b,0,none⟩) 1 1 [x]:=⟨rfl,Nat.le_refl _,by unfold maxLen;omega,(fun h=>by cases h),fun _=>⟨b,0,rfl,hb'.1,fun j u zs hz=>by
   have hj:j<1:=(List.getElem?_eq_some_iff.1 hz).1
   obtain rfl:j=0:=qO
   have hz':x=(u,zs):=by simpa using hz
   subst hz'
   exact ⟨A,n,c,h3 0 _ rfl,h3 1 _ rfl,hs.1⟩⟩⟩
  have hv:jo [x]=iv x:=by simp [jo,iv]
  have hl:((iv x).natAbs:Int)<4294967296^L0:=by
   have:(aa.na (iv x) L0).holds X w (.agg #[.bool x.1, .slice A n c]):=⟨x,⟨rfl,h2⟩,_,rfl,h4⟩
   exact fg this
  refine (un (L:=L0) hS (Nat.le_refl _) (fun p hp=>by rw [List.mem_singleton.1 hp];exact hd) (fun p hp=>by rw [List.mem_singleton.1 hp];exact h2) qO qO).mono fun e w' h=> ?_
  rw [hv] at h
  exact (h.givesN hX hl).imp fun v hv=>iU hv hB.size
end
theorem kt {p:Prop} (h:p:=by first|exact dt|exact dE|exact du|exact fi|exact bm|exact eI|exact eH|exact jT (by first|assumption|rfl)|exact lZ (by first|assumption|rfl)|exact bO (b:=true) (u:=false) rfl|exact bO (b:=false) (u:=true) rfl|exact bO rfl|exact sn|exact dA|exact DJ hE (by omega) (by assumption)|exact Cq (by assumption)|exact AJ hE (by omega)|exact CJ hE (by decide)|exact d8.nil|exact bG.nil|exact bE.nil|exact EW (by omega)|exact zJ|exact GF (by omega)|exact xw hE (by omega)|exact FN (by omega)|exact He (by omega)|exact Dp (by omega)|exact pu hE (by omega)|exact zE hE (by omega)|exact Ab hE (by omega)|exact uz hE (by omega)|exact ⟨fun _ _=>(sC (congrArg Value.bool e.symm))⟩|exact Cv.rfl'):p:=h
theorem HH(hE:cK w) (hX:∀ b∈X,b<w.heap.size) {M0:Int} (h0:(aa.na N0 L0).holds X w v0) (h1:(aa.na M0 K0).holds X w v1) (hb:L0≤1000∧K0≤1000) (hM:M0≠0) (hd:M0∣N0)  :
 Calls Tryz.prog 124 #[v0,v1] w (bj X w (.nn (N0 / M0) L0 w.heap.size)):=by
 have l0:=fg h0
 refine dG (Ts:=[.na N0 L0, .na M0 K0]) (vs:=[v0,v1]) Tryz.func124 rfl Tryz.ntmps124 qE hX ⟨h0,h1,trivial⟩ ?_
 clear h0 h1 hX
 repeat' first|kernel_rfl|apply Bt.mk|refine nx ?_|apply ae|refine aQ rfl ?_|exact ⟨fun _ _=>(Jf hM hd l0)⟩|exact kt|intro _
theorem I3:aJ Tryz.prog 124:=fun _ _=>by kernel_rfl
section
variable {w00:World} {N:Nat} {L:List Loc} {E:List (Nat×aa)} {d:Nat} {t0:TypeId} {pos:String} {af:Array Edge} {gd:Option (Nat×Bool)} {ats:Array TypeId}
theorem Jo{M0:Int} [bD E o0 T0] [a0:i7 T0 N0 L0] [bD E o1 T1] [a1:i7 T1 M0 K0] (hE:cK w00) (hb:L0≤1000∧K0≤1000) (hM:M0≠0) (hd:M0∣N0):
 au Tryz.prog w00 N L E ⟨some d, .call { callee:= .value (.func 124),args:= #[o0,o1],argTypes:=ats },t0,pos,af,gd⟩ (.nn (N0 / M0) L0 w00.heap.size):=
 qi I3 fun X w v0 v1 hX _ hB h0 h1=>(HH (hE.below hB) hX (a0.ok h0) (a1.ok h1) hb hM hd).mono fun e w' h=>h.imp fun _ g=>iU g hB.size
end
theorem si(hE:cK w) (hX:∀ b∈X,b<w.heap.size) {k0:Int} (h0:(aa.is (.int .i64 k0)).holds X w v0) (hk: -9223372036854775808≤k0∧k0≤9223372036854775807)  :
 Calls Tryz.prog 44 #[v0] w (bj X w (.qn (k0:Rat) 2 w.heap.size)):=by
 refine dG (Ts:=[.is (.int .i64 k0)]) (vs:=[v0]) Tryz.func44 rfl Tryz.ntmps44 qE hX ⟨h0,trivial⟩ ?_
 clear h0 hX
 repeat' first|kernel_rfl|apply Bt.mk|refine nx ?_|apply ae|refine aQ rfl ?_|exact Dp qO|exact pX|exact dt|exact ⟨fun _ _=>(wP rfl rfl (Lq.whole hk))⟩|exact Cv.rfl'|intro _
theorem Df:aJ Tryz.prog 44:=fun _ _=>by kernel_rfl
section
variable {w00:World} {N:Nat} {L:List Loc} {E:List (Nat×aa)} {d:Nat} {t0:TypeId} {pos:String} {af:Array Edge} {gd:Option (Nat×Bool)} {ats:Array TypeId}
theorem CJ{k0:Int} [bD E o0 (.is (.int .i64 k0))] (hE:cK w00) (hk: -9223372036854775808≤k0∧k0≤9223372036854775807):
 au Tryz.prog w00 N L E ⟨some d, .call { callee:= .value (.func 44),args:= #[o0],argTypes:=ats },t0,pos,af,gd⟩ (.qn (k0:Rat) 2 w00.heap.size):=
 pm Df fun X w v0 hX _ hB h0=>(si (hE.below hB) hX h0 hk).mono fun e w' h=>h.imp fun _ g=>rU g hB.size
end
theorem rK(hE:cK w) (hX:∀ b∈X,b<w.heap.size) (h0:(aa.qx x L).holds X w v0) (hb:L≤1000)  :
 Calls Tryz.prog 75 #[v0] w (bj X w (.is (.bool (jB x)))):=by
 have key:jB x=(jN x.1.1 x.1.2&&jN x.2.1 x.2.2&&decide (0<b_ (iv x.2) 0)&&(b_ (Int.gcd (iv x.1) (iv x.2):Int) 1==0)):=by
  unfold jB
  have e1:decide (0<b_ (iv x.2) 0)=decide (0<iv x.2):=by simp only [oH]
  have e2:(b_ (Int.gcd (iv x.1) (iv x.2):Int) 1==0)=((Int.gcd (iv x.1) (iv x.2):Int)==1):=by
   have:=nJ (a:=(Int.gcd (iv x.1) (iv x.2):Int)) (b:=1)
   rw [Bool.eq_iff_iff]
   simp only [beq_iff_eq,this]
  rw [e1,e2,lF]
 cases e1:jN x.1.1 x.1.2 with
 |false=>
  have e:jB x=false:=by rw [key];simp [e1]
  clear key
  refine dG (Ts:=[.qx x L]) (vs:=[v0]) Tryz.func75 rfl Tryz.ntmps75 qE hX ⟨h0,trivial⟩ ?_
  clear h0 hX
  repeat' first|kernel_rfl|apply Bt.mk|refine nx ?_|refine aE rfl kt ?_|refine aD rfl ?_|refine aF rfl ?_|apply ae|refine aQ rfl ?_|exact kt|intro _
 |true=>
 cases e2:jN x.2.1 x.2.2 with
 |false=>
  have e:jB x=false:=by rw [key];simp [e1,e2]
  clear key
  refine dG (Ts:=[.qx x L]) (vs:=[v0]) Tryz.func75 rfl Tryz.ntmps75 qE hX ⟨h0,trivial⟩ ?_
  clear h0 hX
  repeat' first|kernel_rfl|apply Bt.mk|refine nx ?_|refine aE rfl kt ?_|refine aD rfl ?_|refine aF rfl ?_|apply ae|refine aQ rfl ?_|exact kt|intro _
 |true=>
 cases e3:decide (0<b_ (iv x.2) 0) with
 |false=>
  have e:jB x=false:=by rw [key];simp [e1,e2,e3]
  clear key
  refine dG (Ts:=[.qx x L]) (vs:=[v0]) Tryz.func75 rfl Tryz.ntmps75 qE hX ⟨h0,trivial⟩ ?_
  clear h0 hX
  repeat' first|kernel_rfl|apply Bt.mk|refine nx ?_|refine aE rfl kt ?_|refine aD rfl ?_|refine aF rfl ?_|apply ae|refine aQ rfl ?_|exact kt|intro _
 |true=>
 cases e4:(b_ (Int.gcd (iv x.1) (iv x.2):Int) 1==0) with
 |false=>
  have e:jB x=false:=by rw [key];simp [e1,e2,e3,e4]
  clear key
  refine dG (Ts:=[.qx x L]) (vs:=[v0]) Tryz.func75 rfl Tryz.ntmps75 qE hX ⟨h0,trivial⟩ ?_
  clear h0 hX
  repeat' first|kernel_rfl|apply Bt.mk|refine nx ?_|refine aE rfl kt ?_|refine aD rfl ?_|refine aF rfl ?_|apply ae|refine aQ rfl ?_|exact kt|intro _
 |true=>
  have e:jB x=true:=by rw [key];simp [e1,e2,e3,e4]
  clear key
  refine dG (Ts:=[.qx x L]) (vs:=[v0]) Tryz.func75 rfl Tryz.ntmps75 qE hX ⟨h0,trivial⟩ ?_
  clear h0 hX
  repeat' first|kernel_rfl|apply Bt.mk|refine nx ?_|refine aE rfl kt ?_|refine aD rfl ?_|refine aF rfl ?_|apply ae|refine aQ rfl ?_|exact kt|intro _
theorem C1:aJ Tryz.prog 75:=fun _ _=>by kernel_rfl
section
variable {w00:World} {N:Nat} {L:List Loc} {E:List (Nat×aa)} {d:Nat} {t0:TypeId} {pos:String} {af:Array Edge} {gd:Option (Nat×Bool)} {ats:Array TypeId}
theorem v2{u:Bool} [bD E o0 (.qx x L0)] (hE:cK w00) (hb:L0≤1000) (hu:jB x=u):
 au Tryz.prog w00 N L E ⟨some d, .call { callee:= .value (.func 75),args:= #[o0],argTypes:=ats },t0,pos,af,gd⟩ (.is (.bool u)):=by
 rw [←hu]
 exact pm C1 fun X w v0 hX _ hB h0=>rK (hE.below hB) hX h0 hb
end
theorem vr(hE:cK w) (hX:∀ b∈X,b<w.heap.size) (h0:(aa.qa p L0).holds X w v0) (hb:L0≤1000)  :
 Calls Tryz.prog 77 #[v0] w (bj X w (.qc p L0)):=by
 obtain ⟨x,rfl,g0⟩:=Hz h0
 clear h0
 have h0:=g0
 have hp:=Gs g0
 clear g0
 cases hq:jB x with
 |true=>
  refine dG (Ts:=[.qx x L0]) (vs:=[v0]) Tryz.func77 rfl Tryz.ntmps77 qE hX ⟨h0,trivial⟩ ?_
  clear h0 hX
  repeat' first|kernel_rfl|apply Bt.mk|refine nx ?_|apply ae|refine aQ rfl ?_|exact v2 hE qO hq|exact ⟨fun _ _=>fun _ g=>BG hq g⟩|exact kt|intro _
 |false=>
  have hz:((0:Int):Rat)=qv x:=(iR hq).symm
  have hl:Lq (qv x) L0:=by rw [iR hq];exact Lq.zero.mono hp
  refine dG (Ts:=[.qx x L0]) (vs:=[v0]) Tryz.func77 rfl Tryz.ntmps77 qE hX ⟨h0,trivial⟩ ?_
  clear h0 hX
  repeat' first|kernel_rfl|apply Bt.mk|refine nx ?_|apply ae|refine aQ rfl ?_|exact v2 hE qO hq|exact ⟨fun _ _=>fun v g=>rH hz hl v (oE g)⟩|exact kt|intro _
theorem wO:aJ Tryz.prog 77:=fun _ _=>by kernel_rfl
section
variable {w00:World} {N:Nat} {L:List Loc} {E:List (Nat×aa)} {d:Nat} {t0:TypeId} {pos:String} {af:Array Edge} {gd:Option (Nat×Bool)} {ats:Array TypeId}
theorem xw[bD E o0 T0] [a0:mq T0 p L0] (hE:cK w00) (hb:L0≤1000):
 au Tryz.prog w00 N L E ⟨some d, .call { callee:= .value (.func 77),args:= #[o0],argTypes:=ats },t0,pos,af,gd⟩ (.qc p L0):=
 pm wO fun X w v0 hX _ hB h0=>(vr (hE.below hB) hX (a0.ok h0) hb)
end
theorem wR(hE:cK w) (hX:∀ b∈X,b<w.heap.size) (h0:(aa.qc p L0).holds X w v0) (hb:L0≤1000)  :
 Calls Tryz.prog 79 #[v0] w (bj X w (.qc (-p) L0)):=by
 have hl0:=yo h0
 refine dG (Ts:=[.qc p L0]) (vs:=[v0]) Tryz.func79 rfl Tryz.ntmps79 qE hX ⟨h0,trivial⟩ ?_
 clear h0 hX
 repeat' first|kernel_rfl|apply Bt.mk|refine nx ?_|apply ar (id:=1) [] [] 6|apply az|apply aW|apply ae|refine aQ rfl ?_|exact ⟨fun _ _=>(sG rfl rfl hl0.neg)⟩|exact kt|intro _
theorem An:aJ Tryz.prog 79:=fun _ _=>by kernel_rfl
section
variable {w00:World} {N:Nat} {L:List Loc} {E:List (Nat×aa)} {d:Nat} {t0:TypeId} {pos:String} {af:Array Edge} {gd:Option (Nat×Bool)} {ats:Array TypeId}
theorem zE[bD E o0 T0] [a0:BD T0 p L0] (hE:cK w00) (hb:L0≤1000):
 au Tryz.prog w00 N L E ⟨some d, .call { callee:= .value (.func 79),args:= #[o0],argTypes:=ats },t0,pos,af,gd⟩ (.qc (-p) L0):=
 pm An fun X w v0 hX _ hB h0=>(wR (hE.below hB) hX (a0.ok h0) hb)
end
section
variable {w00:World} {N:Nat} {L:List Loc} {E:List (Nat×aa)} {d:Nat} {t0:TypeId} {pos:String} {af:Array Edge} {gd:Option (Nat×Bool)} {ats:Array TypeId}
end
theorem tg(hE:cK w) (hX:∀ b∈X,b<w.heap.size) (h0:(aa.qc p L0).holds X w v0) (h1:(aa.qc q K0).holds X w v1) (hb:L0≤450∧K0≤450)  :
 Calls Tryz.prog 81 #[v0,v1] w (bj X w (.is (.int .i64 (de p q)))):=by
 refine dG (Ts:=[.qc p L0, .qc q K0]) (vs:=[v0,v1]) Tryz.func81 rfl Tryz.ntmps81 qE hX ⟨h0,h1,trivial⟩ ?_
 clear h0 h1 hX
 repeat' first|kernel_rfl|apply Bt.mk|refine nx ?_|apply ar (id:=1) [] [] 11|apply az|apply aW|apply ae|refine aQ rfl ?_|exact ⟨fun _ _=>(sC (by rw [uP]))⟩|exact kt|intro _
theorem uL:aJ Tryz.prog 81:=fun _ _=>by kernel_rfl
section
variable {w00:World} {N:Nat} {L:List Loc} {E:List (Nat×aa)} {d:Nat} {t0:TypeId} {pos:String} {af:Array Edge} {gd:Option (Nat×Bool)} {ats:Array TypeId}
theorem uz[bD E o0 T0] [a0:BD T0 p L0] [bD E o1 T1] [a1:BD T1 q K0] (hE:cK w00) (hb:L0≤450∧K0≤450):
 au Tryz.prog w00 N L E ⟨some d, .call { callee:= .value (.func 81),args:= #[o0,o1],argTypes:=ats },t0,pos,af,gd⟩ (.is (.int .i64 (de p q))):=
 qi uL fun X w v0 v1 hX _ hB h0 h1=>(tg (hE.below hB) hX (a0.ok h0) (a1.ok h1) hb)
end
theorem nM(hE:cK w) (hX:∀ b∈X,b<w.heap.size) (h0:(aa.qc p L0).holds X w v0) (h1:(aa.qc q K0).holds X w v1) (hb:L0≤450∧K0≤450)  :
 Calls Tryz.prog 82 #[v0,v1] w (bj X w (.qn (p*q) (L0+K0) w.heap.size)):=by
 have hl0:=yo h0
 have hl1:=yo h1
 obtain ⟨⟨x1,x2,x3⟩,⟨y1,y2,y3⟩,en,ed⟩:=wU p q rfl rfl
 refine dG (Ts:=[.qc p L0, .qc q K0]) (vs:=[v0,v1]) Tryz.func82 rfl Tryz.ntmps82 qE hX ⟨h0,h1,trivial⟩ ?_
 clear h0 h1 hX
 repeat' first|kernel_rfl|apply Bt.mk|refine nx ?_|apply ar (id:=1) [] [] 12|apply ar (id:=2) [] [] 19|apply az|apply aW|exact d8.nil|infer_instance|apply ae|refine aQ rfl ?_|exact DG qO|exact AJ hE qO|exact Jo hE qO qL qL|exact pX|exact du|exact bm|exact dA|exact ⟨fun _ _=>(wP en ed (hl0.mul hl1))⟩|exact Cv.rfl'|intro _
theorem pq:aJ Tryz.prog 82:=fun _ _=>by kernel_rfl
section
variable {w00:World} {N:Nat} {L:List Loc} {E:List (Nat×aa)} {d:Nat} {t0:TypeId} {pos:String} {af:Array Edge} {gd:Option (Nat×Bool)} {ats:Array TypeId}
theorem pu[bD E o0 T0] [a0:BD T0 p L0] [bD E o1 T1] [a1:BD T1 q K0] (hE:cK w00) (hb:L0≤450∧K0≤450):
 au Tryz.prog w00 N L E ⟨some d, .call { callee:= .value (.func 82),args:= #[o0,o1],argTypes:=ats },t0,pos,af,gd⟩ (.qn (p*q) (L0+K0) w00.heap.size):=
 qi pq fun X w v0 v1 hX _ hB h0 h1=>(nM (hE.below hB) hX (a0.ok h0) (a1.ok h1) hb).mono fun e w' h=>h.imp fun _ g=>rU g hB.size
end
section
variable {w00:World} {N:Nat} {L:List Loc} {E:List (Nat×aa)} {d:Nat} {t0:TypeId} {pos:String} {af:Array Edge} {gd:Option (Nat×Bool)} {ats:Array TypeId}
end
theorem wE(hE:cK w) (hX:∀ b∈X,b<w.heap.size) (h0:(aa.qc p L0).holds X w v0) (hb:L0≤1000)  :
 Calls Tryz.prog 78 #[v0] w (bj X w (.qn p L0 w.heap.size)):=by
 have hl0:=yo h0
 refine dG (Ts:=[.qc p L0]) (vs:=[v0]) Tryz.func78 rfl Tryz.ntmps78 qE hX ⟨h0,trivial⟩ ?_
 clear h0 hX
 repeat' first|kernel_rfl|apply Bt.mk|refine nx ?_|apply ar (id:=1) [] [] 9|apply az|apply aW|exact d8.nil|infer_instance|apply ae|refine aQ rfl ?_|exact Hl|exact Eo qO|exact pX|exact du|exact bm|exact dA|exact ⟨fun _ _=>(wP rfl rfl hl0)⟩|exact Cv.rfl'|intro _
theorem y8:aJ Tryz.prog 78:=fun _ _=>by kernel_rfl
section
variable {w00:World} {N:Nat} {L:List Loc} {E:List (Nat×aa)} {d:Nat} {t0:TypeId} {pos:String} {af:Array Edge} {gd:Option (Nat×Bool)} {ats:Array TypeId}
theorem Ab[bD E o0 T0] [a0:BD T0 p L0] (hE:cK w00) (hb:L0≤1000):
 au Tryz.prog w00 N L E ⟨some d, .call { callee:= .value (.func 78),args:= #[o0],argTypes:=ats },t0,pos,af,gd⟩ (.qn p L0 w00.heap.size):=
 pm y8 fun X w v0 hX _ hB h0=>(wE (hE.below hB) hX (a0.ok h0) hb).mono fun e w' h=>h.imp fun _ g=>rU g hB.size
end
section
variable {w00:World} {N:Nat} {L:List Loc} {E:List (Nat×aa)} {d:Nat} {t0:TypeId} {pos:String} {af:Array Edge} {gd:Option (Nat×Bool)} {ats:Array TypeId}
end
section
variable {w00:World} {N:Nat} {L:List Loc} {E:List (Nat×aa)} {d:Nat} {t0:TypeId} {pos:String} {af:Array Edge} {gd:Option (Nat×Bool)} {ats:Array TypeId}
end
section
variable {w00:World} {N:Nat} {L:List Loc} {E:List (Nat×aa)} {d:Nat} {t0:TypeId} {pos:String} {af:Array Edge} {gd:Option (Nat×Bool)} {ats:Array TypeId}
end
section
variable {w00:World} {N:Nat} {L:List Loc} {E:List (Nat×aa)} {d:Nat} {t0:TypeId} {pos:String} {af:Array Edge} {gd:Option (Nat×Bool)} {ats:Array TypeId}
end
section
variable {w00:World} {N:Nat} {L:List Loc} {E:List (Nat×aa)} {d:Nat} {t0:TypeId} {pos:String} {af:Array Edge} {gd:Option (Nat×Bool)} {ats:Array TypeId}
end
section
variable {w00:World} {N:Nat} {L:List Loc} {E:List (Nat×aa)} {d:Nat} {t0:TypeId} {pos:String} {af:Array Edge} {gd:Option (Nat×Bool)} {ats:Array TypeId}
end
theorem EN(hE:cK w) (hX:∀ b∈X,b<w.heap.size) (h0:(aa.qa p L0).holds X w v0) (h1:(aa.qa q K0).holds X w v1) (hb:L0≤90∧K0≤90)  :
 Calls Tryz.prog 46 #[v0,v1] w (bj X w (.qn (p*q) (L0+K0) w.heap.size)):=by
 refine dG (Ts:=[.qa p L0, .qa q K0]) (vs:=[v0,v1]) Tryz.func46 rfl Tryz.ntmps46 qE hX ⟨h0,h1,trivial⟩ ?_
 clear h0 h1 hX
 repeat' first|kernel_rfl|apply Bt.mk|refine nx ?_|apply ar (id:=1) [] [] 5|apply az|apply aW|apply ae|refine aQ rfl ?_|exact kt|intro _
section
variable {w00:World} {N:Nat} {L:List Loc} {E:List (Nat×aa)} {d:Nat} {t0:TypeId} {pos:String} {af:Array Edge} {gd:Option (Nat×Bool)} {ats:Array TypeId}
end
section
variable {w00:World} {N:Nat} {L:List Loc} {E:List (Nat×aa)} {d:Nat} {t0:TypeId} {pos:String} {af:Array Edge} {gd:Option (Nat×Bool)} {ats:Array TypeId}
end
section
variable {w00:World} {N:Nat} {L:List Loc} {E:List (Nat×aa)} {d:Nat} {t0:TypeId} {pos:String} {af:Array Edge} {gd:Option (Nat×Bool)} {ats:Array TypeId}
end
theorem EY(hE:cK w) (hX:∀ b∈X,b<w.heap.size) (h0:(aa.qa p L0).holds X w v0) (hb:L0≤90)  :
 Calls Tryz.prog 43 #[v0] w (bj X w (.qn (-p) L0 w.heap.size)):=by
 refine dG (Ts:=[.qa p L0]) (vs:=[v0]) Tryz.func43 rfl Tryz.ntmps43 qE hX ⟨h0,trivial⟩ ?_
 clear h0 hX
 repeat' first|kernel_rfl|apply Bt.mk|refine nx ?_|apply ae|refine aQ rfl ?_|exact kt|intro _
section
variable {w00:World} {N:Nat} {L:List Loc} {E:List (Nat×aa)} {d:Nat} {t0:TypeId} {pos:String} {af:Array Edge} {gd:Option (Nat×Bool)} {ats:Array TypeId}
end
theorem DU(hE:cK w) (hX:∀ b∈X,b<w.heap.size) (h0:(aa.qa p L0).holds X w v0) (h1:(aa.qa q K0).holds X w v1) (hb:L0≤90∧K0≤90)  :
 Calls Tryz.prog 45 #[v0,v1] w (bj X w (.is (.int .i64 (de p q)))):=by
 refine dG (Ts:=[.qa p L0, .qa q K0]) (vs:=[v0,v1]) Tryz.func45 rfl Tryz.ntmps45 qE hX ⟨h0,h1,trivial⟩ ?_
 clear h0 h1 hX
 repeat' first|kernel_rfl|apply Bt.mk|refine nx ?_|apply ar (id:=1) [] [] 5|apply az|apply aW|apply ae|refine aQ rfl ?_|exact kt|intro _
section
variable {w00:World} {N:Nat} {L:List Loc} {E:List (Nat×aa)} {d:Nat} {t0:TypeId} {pos:String} {af:Array Edge} {gd:Option (Nat×Bool)} {ats:Array TypeId}
end
theorem Da(hE:cK w) (hX:∀ b∈X,b<w.heap.size) (h0:(aa.qa p L0).holds X w v0) (hb:L0≤90)  :
 Calls Tryz.prog 42 #[v0] w (bj X w (.is (.int .i64 (de p 0)))):=by
 refine dG (Ts:=[.qa p L0]) (vs:=[v0]) Tryz.func42 rfl Tryz.ntmps42 qE hX ⟨h0,trivial⟩ ?_
 clear h0 hX
 repeat' first|kernel_rfl|apply Bt.mk|refine nx ?_|apply ae|refine aQ rfl ?_|exact ⟨fun _ _=>(sC (by rw [←rR]))⟩|exact kt|intro _
section
variable {w00:World} {N:Nat} {L:List Loc} {E:List (Nat×aa)} {d:Nat} {t0:TypeId} {pos:String} {af:Array Edge} {gd:Option (Nat×Bool)} {ats:Array TypeId}
end
end Go.Proofs.YtpmhjieibebclaaGreatDoor
