/- Package big in a typed walk: what each call answers, as a step. -/
import Derived.Test.YtjjkikchncfekaaGreatDoorCH
import Derived.Test.YtjjkikchncfekaaGreatDoorCE
import Derived.Test.YtjjkikchncfekaaGreatDoorCD
import Derived.Test.YtjjkikchncfekaaGreatDoorCB
set_option maxHeartbeats 4000000
set_option maxRecDepth 20000
set_option linter.unusedSimpArgs false
set_option linter.unusedVariables false
namespace Go.Proofs.YtjjkikchncfekaaGreatDoor
open Go Go.RowKit
variable {L0 K K0 L B:Nat} {w w':World} {X:List Nat} {o0 o1:Operand} {v0 v1 v:Value} {T0 T1:aa} {N0 M N:Int} {p q:Rat} {xs:List Int} {x:aP}
structure dk (w:World):Prop where
 half:gk w
 hz:3<w.heap.size
theorem dk.below(h:dk w) (hb:Below w.heap.size w w'):dk w':=⟨fun i hi=>(hb.cell (p:=⟨3,i,none⟩) h.hz).trans (h.half i hi),Nat.lt_of_lt_of_le h.hz hb.size⟩
section
variable {w00:World} {N:Nat} {L:List Loc} {E:List (Nat×aa)} {d:Nat} {t0:TypeId} {pos:String} {af:Array Edge} {gd:Option (Nat×Bool)} {ats:Array TypeId}
theorem z5:a7 Tryz.prog 132:=fun _ _=>by kernel_rfl
theorem Ga{N:Int} {L:Nat} (hX:∀ b∈X,b<w.heap.size) (h0:(aa.na N L).holds X w v0) (h1:(aa.na M K).holds X w v1) (hb:L≤1000∧K≤1000):Calls Tryz.prog 132 #[v0,v1] w (bL X w (.nc (N*M) (L+K))):=by
 have l0:=fP h0
 have l1:=fP h1
 obtain ⟨s,A,n,c,xs,rfl,s0,d0,e0,n0⟩:=dw h0
 obtain ⟨t,A2,m,c2,ys,rfl,s1,d1,e1,n1⟩:=dw h1
 have:=uX (s:=s) (t:=t) s0 s1 (Nat.le_refl _) d0 d1 qO qO
 rw [e0,e1] at this
 exact this.mono fun e w' h=>h.gives hX (l7 l0 l1)
theorem F0[cb E o0 T0] [a0:kX T0 N0 L0] [cb E o1 T1] [a1:kX T1 M K] (hb:L0≤1000∧K≤1000):
 ay Tryz.prog w00 N L E ⟨some d, .call { callee:= .value (.func 132),args:= #[o0,o1],argTypes:=ats },t0,pos,af,gd⟩ (.nc (N0*M) (L0+K)):=
 xC z5 fun X w v0 v1 hX _ _ h0 h1=>Ga hX (a0.ok h0) (a1.ok h1) hb
theorem FV:a7 Tryz.prog 129:=fun _ _=>by kernel_rfl
theorem FI:a7 Tryz.prog 134:=fun _ _=>by kernel_rfl
theorem G4:a7 Tryz.prog 182:=fun _ _=>by kernel_rfl
theorem Gr{N:Int} {L:Nat} (h0:(aa.na N L).holds X w v0) (h1:(aa.na M K).holds X w v1) (hb:L≤1000∧K≤1000):Calls Tryz.prog 182 #[v0,v1] w (bL X w (.is (.int .i64 (cF N M)))):=by
 obtain ⟨s,A,n,c,xs,rfl,s0,d0,e0,n0⟩:=dw h0
 obtain ⟨t,A2,m,c2,ys,rfl,s1,d1,e1,n1⟩:=dw h1
 have:=u7 (s:=s) (t:=t) s0 s1 (Nat.le_refl _) d0 d1 qO qO
 rw [e0,e1] at this
 refine this.mono ?_
 rintro e w' ⟨rfl,hb⟩
 exact ⟨_,rfl,rfl,hb⟩
theorem Gp[cb E o0 T0] [a0:kX T0 N0 L0] [cb E o1 T1] [a1:kX T1 M K] (hb:L0≤1000∧K≤1000):
 ay Tryz.prog w00 N L E ⟨some d, .call { callee:= .value (.func 182),args:= #[o0,o1],argTypes:=ats },t0,pos,af,gd⟩ (.is (.int .i64 (cF N0 M))):=
 xC G4 fun X w v0 v1 hX _ _ h0 h1=>Gr (a0.ok h0) (a1.ok h1) hb
theorem Dr:a7 Tryz.prog 161:=fun _ _=>by kernel_rfl
theorem Ds{N:Int} {L:Nat} (h0:(aa.na N L).holds X w v0) (hb:L≤1000):Calls Tryz.prog 161 #[v0] w (bL X w (.is (.int .i64 (cF N 0)))):=by
 obtain ⟨s,A,n,c,xs,rfl,s0,d0,e0,n0⟩:=dw h0
 have:=y9 (s:=s) s0 (Nat.le_refl _) d0 qO
 rw [e0] at this
 refine this.mono ?_
 rintro e w' ⟨rfl,hb⟩
 exact ⟨_,rfl,rfl,hb⟩
theorem Fh[cb E o0 T0] [a0:kX T0 N0 L0] (hb:L0≤1000):
 ay Tryz.prog w00 N L E ⟨some d, .call { callee:= .value (.func 161),args:= #[o0],argTypes:=ats },t0,pos,af,gd⟩ (.is (.int .i64 (cF N0 0))):=
 tC Dr fun X w v0 hX _ _ h0=>Ds (a0.ok h0) hb
theorem AG:a7 Tryz.prog 181:=fun _ _=>by kernel_rfl
theorem Bh{x:eS} {u:Bool} [cb E o0 (.nx x L0)] (hu:kJ x.1 x.2=u):
 ay Tryz.prog w00 N L E ⟨some d, .call { callee:= .value (.func 181),args:= #[o0],argTypes:=ats },t0,pos,af,gd⟩ (.is (.bool u)):=
 tC AG fun X w v0 hX _ _ h0=>by
  obtain ⟨y,⟨rfl,_⟩,cs,rfl,hr⟩:=h0
  obtain ⟨A,n,c,rfl,hs,hd⟩:=cC.1 hr
  refine (lO (s:=y.1) hs.1 (Nat.le_refl _)).mono ?_
  rintro e w' ⟨rfl,hb⟩
  exact ⟨_,rfl,by rw [hu];rfl,hb⟩
theorem Ii:a7 Tryz.prog 162:=fun _ _=>by kernel_rfl
theorem FT:a7 Tryz.prog 178:=fun _ _=>by kernel_rfl
end
def aa.nwn (p:eS→Prop) (B:Nat):aa:=⟨fun X w v=>∃ x,p x∧∃ cs:List Value,v= .agg cs.toArray∧Rp.num.rd w (Hi B X w) x cs,fun ⟨x,hp,cs,e,h⟩ hk hX=>⟨x,hp,cs,e,Rp.num.more (Rp.num.keep h (fun b hb=>hk.block b hb.1.1 hb.1.2)) (fun b hb=>by
 obtain ⟨h1,h2,c,h3⟩:=hb
 exact ⟨bt.mono hk hX b h1,h2,c,(hk.block b h1.1 h1.2).trans h3⟩)⟩⟩
def aa.nn (N:Int) (L B:Nat):aa:=aa.nwn (fun x=>Whole N x.1 x.2∧(N.natAbs:Int)<4294967296^L) B
def aa.ndn (N D:Int) (L B:Nat):aa:=aa.nw (fun x=>Whole N x.1.1 x.1.2∧Whole D x.2.1 x.2.2∧(N.natAbs:Int)<4294967296^L∧(D.natAbs:Int)<4294967296^L) B
theorem mN{p:eS→Prop} (h:(aa.nwn p B).holds X w v):(aa.ex Rp.num p).holds X w v:=by
 obtain ⟨x,hp,cs,e,h⟩:=h
 exact ⟨x,hp,cs,e,Rp.num.more h (fun b hb=>hb.1)⟩
theorem iJ{p:eS→Prop} {B':Nat} (h:(aa.nwn p B).holds X w v) (hB:B'≤B):(aa.nwn p B').holds X w v:=by
 obtain ⟨x,hp,cs,e,h⟩:=h
 exact ⟨x,hp,cs,e,Rp.num.more h (fun b hb=>⟨hb.1,Nat.le_trans hB hb.2.1,hb.2.2⟩)⟩
instance {p:eS→Prop} {B:Nat}:aJ (.nwn p B) 2 true:=⟨fun h=>(inferInstance:aJ (.ex Rp.num p) Rp.num.k true).ok (mN h)⟩
instance {N:Int} {L B:Nat}:aJ (.nn N L B) 2 true:=inferInstanceAs (aJ (.nwn _ _) 2 true)
instance {N D:Int} {L B:Nat}:aJ (.ndn N D L B) 4 true:=inferInstanceAs (aJ (.nw _ _) 4 true)
instance {N:Int} {L B:Nat}:ai (.nn N L B) 0 2 true (.nn N L B):= .whole inferInstance
instance {N D:Int} {L B:Nat}:ai (.ndn N D L B) 0 4 true (.ndn N D L B):= .whole inferInstance
instance {N:Int} {L B:Nat}:kX (.nn N L B) N L:=⟨fun h=>(inferInstance:kX (.nc N L) N L).ok (mN h)⟩
instance:cH Tryz.prog 25 (.na 0 0):=⟨⟨.agg #[.bool false, .slice none 0 0],fun X w=>⟨(false,[]),⟨rfl,Nat.le_refl _⟩,[.bool false, .slice none 0 0],rfl,cC.2 ⟨none,0,0,rfl,⟨Sl.nil,fun h=>by omega⟩,Dg.nil⟩⟩,fun o ρ w ho=>by
 unfold execOp
 rw [ho]
 go_simp⟩⟩
theorem bB.cellsAt{k:IntKind} {e:TypeId} {A:Option Addr} {n c:Nat} (h:bB k e w B A n c xs) {g:Nat} (hg:eT A=some g):∃ cur,w.heap[g]? =some (.cells cur e (0,0)):=by
 rcases h.2 with ⟨h1,_⟩|⟨g',cap,cur,h1,h2,h3,h4⟩
 ·injection h1 with h1
  rw [h1] at hg;cases hg
 ·injection h1 with h1
  rw [h1] at hg
  injection hg with hg
  subst hg
  exact ⟨cur,h3⟩
theorem vF{s:Bool} {A:Option Addr} {n c:Nat} {ys:List Int} (hX:∀ b∈X,b<B) (h:Whole N s ys) (ho:bB .u32 117 w' B A n c ys) (hl:(N.natAbs:Int)<4294967296^L):(aa.nn N L B).holds X w' (.agg #[.bool s, .slice A n c]):=by
 refine ⟨(s,ys),⟨h,hl⟩,[.bool s, .slice A n c],rfl,cC.2 ⟨A,n,c,rfl,⟨ho.sl,fun hn b hb=> ?_⟩,h.row.dg⟩⟩
 obtain ⟨g1,g2⟩:=ho.blk_ b hb
 exact ⟨⟨g2,fun hx=>by have:=hX b hx;omega⟩,g1,ho.cellsAt hb⟩
theorem dR.givesN{e:Ending} (h:dR w N e w') (hX:∀ b∈X,b<w.heap.size) (hl:(N.natAbs:Int)<4294967296^L):bL X w (.nn N L w.heap.size) e w':=by
 obtain ⟨s,ys,A,n,c,hW,rfl,ho,hb⟩:=h
 exact ⟨_,rfl,vF hX hW ho hl,hb⟩
section
variable {w00:World} {N:Nat} {L:List Loc} {E:List (Nat×aa)} {d:Nat} {t0:TypeId} {pos:String} {af:Array Edge} {gd:Option (Nat×Bool)} {ats:Array TypeId}
theorem Ef{N:Int} {L:Nat} (hX:∀ b∈X,b<w.heap.size) (h0:(aa.na N L).holds X w v0) (h1:(aa.na M K).holds X w v1) (hb:L≤1000∧K≤1000):Calls Tryz.prog 132 #[v0,v1] w (bL X w (.nn (N*M) (L+K) w.heap.size)):=by
 have l0:=fP h0
 have l1:=fP h1
 obtain ⟨s,A,n,c,xs,rfl,s0,d0,e0,n0⟩:=dw h0
 obtain ⟨t,A2,m,c2,ys,rfl,s1,d1,e1,n1⟩:=dw h1
 have:=uX (s:=s) (t:=t) s0 s1 (Nat.le_refl _) d0 d1 qO qO
 rw [e0,e1] at this
 exact this.mono fun e w' h=>h.givesN hX (l7 l0 l1)
theorem CV[cb E o0 T0] [a0:kX T0 N0 L0] [cb E o1 T1] [a1:kX T1 M K] (hb:L0≤1000∧K≤1000):
 ay Tryz.prog w00 N L E ⟨some d, .call { callee:= .value (.func 132),args:= #[o0,o1],argTypes:=ats },t0,pos,af,gd⟩ (.nn (N0*M) (L0+K) w00.heap.size):=
 xC z5 fun X w v0 v1 hX _ hB h0 h1=>(Ef hX (a0.ok h0) (a1.ok h1) hb).mono fun e w' h=>h.imp fun v hv=>iJ hv hB.size
theorem CU{N:Int} {L:Nat} (hE:dk w) (hX:∀ b∈X,b<w.heap.size) (h0:(aa.na N L).holds X w v0) (h1:(aa.na M K).holds X w v1) (hb:L≤1000∧K≤1000):Calls Tryz.prog 129 #[v0,v1] w (bL X w (.nn (cG (N.natAbs:Int) (M.natAbs:Int)) (max L K) w.heap.size)):=by
 have l0:=fP h0
 have l1:=fP h1
 obtain ⟨s,A,n,c,xs,rfl,s0,d0,e0,n0⟩:=dw h0
 obtain ⟨t,A2,m,c2,ys,rfl,s1,d1,e1,n1⟩:=dw h1
 have:=AA (s:=s) (t:=t) s0 s1 (Nat.le_refl _) hE.half hE.hz d0 d1 qO qO
 rw [e0,e1] at this
 exact this.mono fun e w' h=>h.givesN hX (xq l0 l1)
theorem Fj[cb E o0 T0] [a0:kX T0 N0 L0] [cb E o1 T1] [a1:kX T1 M K] (hE:dk w00) (hb:L0≤1000∧K≤1000):
 ay Tryz.prog w00 N L E ⟨some d, .call { callee:= .value (.func 129),args:= #[o0,o1],argTypes:=ats },t0,pos,af,gd⟩ (.nn (cG (N0.natAbs:Int) (M.natAbs:Int)) (max L0 K) w00.heap.size):=
 xC FV fun X w v0 v1 hX _ hB h0 h1=>(CU (hE.below hB) hX (a0.ok h0) (a1.ok h1) hb).mono fun e w' h=>h.imp fun v hv=>iJ hv hB.size
theorem Ei{N:Int} {L:Nat} (hX:∀ b∈X,b<w.heap.size) (h0:(aa.na N L).holds X w v0) (hb:L≤1000):Calls Tryz.prog 134 #[v0] w (bL X w (.nn (-N) (L) w.heap.size)):=by
 have l0:=fP h0
 obtain ⟨s,A,n,c,xs,rfl,s0,d0,e0,n0⟩:=dw h0
 have:=Ab (s:=s) s0 (Nat.le_refl _) d0 qO
 rw [e0] at this
 exact this.mono fun e w' h=>h.givesN hX (v8 l0)
theorem Em[cb E o0 T0] [a0:kX T0 N0 L0] (hb:L0≤1000):
 ay Tryz.prog w00 N L E ⟨some d, .call { callee:= .value (.func 134),args:= #[o0],argTypes:=ats },t0,pos,af,gd⟩ (.nn (-N0) (L0) w00.heap.size):=
 tC FI fun X w v0 hX _ hB h0=>(Ei hX (a0.ok h0) hb).mono fun e w' h=>h.imp fun v hv=>iJ hv hB.size
theorem CB{k:Int} [cb E o0 (.is (.int .i64 k))] (hk: -9223372036854775808≤k∧k≤9223372036854775807):
 ay Tryz.prog w00 N L E ⟨some d, .call { callee:= .value (.func 162),args:= #[o0],argTypes:=ats },t0,pos,af,gd⟩ (.nn k 2 w00.heap.size):=
 tC Ii fun X w v0 hX _ hB h0=>by
  obtain rfl:v0=_:=h0
  exact (CS hk).mono fun e w' h=>(h.givesN hX (v9 hk)).imp fun v hv=>iJ hv hB.size
theorem CZ[cb E o0 T0] [a0:kX T0 N0 L0] [cb E o1 T1] [a1:kX T1 M K] (hE:dk w00) (hb:L0≤1000∧K≤1000) (hM:M≠0):
 ay Tryz.prog w00 N L E ⟨some d, .call { callee:= .value (.func 178),args:= #[o0,o1],argTypes:=ats },t0,pos,af,gd⟩ (.tup [.nn (N0.fdiv M) (L0+1) w00.heap.size, .nn (N0.fmod M) K w00.heap.size, .is (.int .i64 0)]):=
 xC FT fun X w v0 v1 hX _ hB h0 h1=>by
  have hE:=hE.below hB
  have l0:=tB (fP (a0.ok h0)) hM
  have l1:=tQ (N:=N0) (fP (a1.ok h1)) hM
  obtain ⟨s,A,n,c,xs,rfl,s0,d0,e0,n0⟩:=dw (a0.ok h0)
  obtain ⟨t,A2,m,c2,ys,rfl,s1,d1,e1,n1⟩:=dw (a1.ok h1)
  have:=tm (s:=s) (t:=t) s0 s1 (Nat.le_refl _) hE.half hE.hz d0 d1 qO qO
  rw [e0,e1] at this
  refine this.mono ?_
  rintro e w' (⟨hz,_⟩|⟨_,s1,qs,s2,rs,A1,n1,c1,A2,n2,c2,rfl,hq,hr,o1,o2,_,hb⟩)
  ·exact absurd hz hM
  ·exact ⟨_,rfl,⟨[_,_,_],rfl,iJ (vF hX hq o1 l0) hB.size,iJ (vF hX hr o2 l1) hB.size,rfl,trivial⟩,hb⟩
theorem pj{D0:Int} [h0:cb E o0 (.nn N0 L0 B)] [h1:cb E o1 (.nn D0 K0 B)]:ay Tryz.prog w00 N L E ⟨some d, .build 27 #[(0,o0),(1,o1)],t0,pos,af,gd⟩ (.ndn N0 D0 (max L0 K0) B):=by
 constructor
 intro X ρ w hc _ hN hm hsl
 obtain ⟨x,⟨a1,a2⟩,cs,e0,g0⟩:=h0.get (X:=X) (w:=w) hc fun p hp e=>hsl p hp qS
 obtain ⟨y,⟨b1,b2⟩,ds,e1,g1⟩:=h1.get (X:=X) (w:=w) hc fun p hp e=>hsl p hp qS
 obtain ⟨A,n,c,rfl,_⟩:=cC.1 g0
 obtain ⟨A2,n2,c2,rfl,_⟩:=cC.1 g1
 have p1:(4294967296:Int)^L0≤4294967296^(max L0 K0):=aX qD qO
 have p2:(4294967296:Int)^K0≤4294967296^(max L0 K0):=aX qD qO
 have hT:(aa.ndn N0 D0 (max L0 K0) B).holds X w (.agg #[.bool x.1, .slice A n c, .bool y.1, .slice A2 n2 c2]):=
  ⟨(x,y),⟨a1,b1,Int.lt_of_lt_of_le a2 p1,Int.lt_of_lt_of_le b2 p2⟩,[.bool x.1, .slice A n c]++[.bool y.1, .slice A2 n2 c2],rfl,_,_,rfl,g0,g1⟩
 have e0':ρ o0= .agg #[.bool x.1, .slice A n c]:=e0
 have e1':ρ o1= .agg #[.bool y.1, .slice A2 n2 c2]:=e1
 have HT:=Lib.hid hT
 clear hT hsl hm hc a1 a2 b1 b2 g0 g1 h0 h1 p1 p2 e0 e1
 unfold Yields
 go_simp
 exact ⟨HT.out,Below.refl _ _⟩
end
theorem vO{D:Int} {M:Nat} (hN:q.num=N) (hD:(q.den:Int)=D) (hL:Lq q M) (v:Value) (h:(aa.ndn N D L B).holds X w v):(aa.qn q M B).holds X w v:=by
 obtain ⟨x,⟨h1,h2,_,_⟩,g⟩:=h
 exact ⟨x,⟨⟨by rw [hN];exact h1,by rw [hD];exact h2⟩,hL⟩,g⟩
instance:eP Tryz.prog 25 2 true:=⟨⟨_,Tryz.underlying25,rfl⟩,by kernel_rfl⟩
instance:eP Tryz.prog 27 4 true:=⟨⟨_,Tryz.underlying27,rfl⟩,by kernel_rfl⟩
instance:eP Tryz.prog 23 1 false:=⟨⟨_,Tryz.underlying23,rfl⟩,by kernel_rfl⟩
instance:au Tryz.prog 27 0 0 2 true:=⟨⟨_,_,Tryz.underlying27,rfl,rfl,by kernel_rfl,by decide,_,Tryz.underlying25,rfl⟩⟩
instance:au Tryz.prog 27 1 2 2 true:=⟨⟨_,_,Tryz.underlying27,rfl,rfl,by kernel_rfl,by decide,_,Tryz.underlying25,rfl⟩⟩
instance:au Tryz.prog 25 1 1 1 false:=⟨⟨_,_,Tryz.underlying25,rfl,rfl,by kernel_rfl,by decide,_,Tryz.underlying23,rfl⟩⟩
instance:cH Tryz.prog 27 .q0:=⟨⟨.agg #[.bool false, .slice none 0 0, .bool false, .slice none 0 0],fun X w=>⟨_,rfl,[.bool false, .slice none 0 0]++[.bool false, .slice none 0 0],rfl,_,_,rfl,cC.2 ⟨none,0,0,rfl,⟨Sl.nil,fun h=>by omega⟩,Dg.nil⟩,cC.2 ⟨none,0,0,rfl,⟨Sl.nil,fun h=>by omega⟩,Dg.nil⟩⟩,fun o ρ w ho=>by
 unfold execOp
 rw [ho]
 go_simp⟩⟩
instance:zv 2 1 3:=⟨rfl⟩
def aa.qz (x:aP):aa:=aa.ex Rp.frac fun y=>y=x
instance {x:aP}:aJ (.qz x) 4 true:=inferInstanceAs (aJ (.ex Rp.frac _) Rp.frac.k true)
instance {x:aP}:ai (.qz x) 0 4 true (.qz x):= .whole inferInstance
theorem ai.limbs1{p:aP→Prop} (h:∀ x,p x→x.1.2=xs):ai (.ex Rp.frac p) 1 1 false (.rc Rp.limbs xs):=⟨fun _=>rfl,fun {X w v} hv=>by
 obtain ⟨x,hp,cs,rfl,c1,c2,rfl,h1,h2⟩:=hv
 obtain ⟨A,n,c,rfl,hs,hd⟩:=cC.1 h1
 refine ⟨[.slice A n c],rfl,fun j u hj=> ?_,fun u _ hu=> ?_⟩
 ·have hj0:j=0:=by have:=(List.getElem?_eq_some_iff.1 hj).1;simpa using this
  subst hj0
  simpa [Value.cells] using hj
 ·have:=hu rfl
  simp at this
  subst this
  exact ⟨A,n,c,rfl,by rw [←h x hp];exact hs,by rw [←h x hp];exact hd⟩⟩
theorem ai.limbs3{p:aP→Prop} (h:∀ x,p x→x.2.2=xs):ai (.ex Rp.frac p) 3 1 false (.rc Rp.limbs xs):=⟨fun _=>rfl,fun {X w v} hv=>by
 obtain ⟨x,hp,cs,rfl,c1,c2,rfl,h1,h2⟩:=hv
 obtain ⟨A0,n0,c0,rfl,_,_⟩:=cC.1 h1
 obtain ⟨A,n,c,rfl,hs,hd⟩:=cC.1 h2
 refine ⟨[.slice A n c],rfl,fun j u hj=> ?_,fun u _ hu=> ?_⟩
 ·have hj0:j=0:=by have:=(List.getElem?_eq_some_iff.1 hj).1;simpa using this
  subst hj0
  simpa [Value.cells] using hj
 ·have:=hu rfl
  simp at this
  subst this
  exact ⟨A,n,c,rfl,by rw [←h x hp];exact hs,by rw [←h x hp];exact hd⟩⟩
instance {x:aP}:ai (.qz x) 1 1 false (.rc Rp.limbs x.1.2):= .limbs1 fun _ h=>by rw [h]
instance {x:aP}:ai (.qz x) 3 1 false (.rc Rp.limbs x.2.2):= .limbs3 fun _ h=>by rw [h]
instance {x:aP} {L:Nat}:ai (.qx x L) 1 1 false (.rc Rp.limbs x.1.2):= .limbs1 fun _ h=>by rw [h.1]
instance {x:aP} {L:Nat}:ai (.qx x L) 3 1 false (.rc Rp.limbs x.2.2):= .limbs3 fun _ h=>by rw [h.1]
section
variable {w00:World} {N:Nat} {L:List Loc} {E:List (Nat×aa)} {d:Nat} {t0:TypeId} {pos:String} {af:Array Edge} {gd:Option (Nat×Bool)} {ats:Array TypeId}
theorem xM{s:Nat} [ho:bH E s (.rc Rp.limbs xs)]:ay Tryz.prog w00 N L E ⟨some d, .call { callee:= .builtin .len,args:= #[.tmp s],argTypes:= #[23] },t0,pos,af,gd⟩ (.is (.int .i64 xs.length)):=by
 constructor
 intro X ρ w hc _ hN hm hsl
 obtain ⟨A,n,c,e,⟨h,_⟩,_⟩:=hsl _ ho.mem qJ
 have e1:ρ (.tmp s)= .slice A n c:=by simpa using e
 have hl:=h.1
 clear hc hsl ho h e hm
 unfold Yields
 go_simp
 exact ⟨rfl,Below.refl _ _⟩
end
section
variable {w00:World} {N:Nat} {L:List Loc} {E:List (Nat×aa)} {d:Nat} {t0:TypeId} {pos:String} {af:Array Edge} {gd:Option (Nat×Bool)} {ats:Array TypeId}
end
def aa.rv (qs:List Rat) (L:Nat):aa:=⟨fun X w v=>∃ l:List aP,l.map qv=qs∧(aa.rq L l).holds X w v,fun ⟨l,e,h⟩ hk hX=>⟨l,e,(aa.rq L l).stable h hk hX⟩⟩
class Jd (T:aa) (qs:outParam (List Rat)) (L:outParam Nat):Prop where
 ok:∀ {X w v},T.holds X w v→(aa.rv qs L).holds X w v
instance {qs:List Rat} {L:Nat}:Jd (.rv qs L) qs L:=⟨fun h=>h⟩
instance {l:List aP} {L:Nat}:Jd (.rq L l) (l.map qv) L:=⟨fun h=>⟨l,rfl,h⟩⟩
section
variable {w00:World} {N:Nat} {L:List Loc} {E:List (Nat×aa)} {d:Nat} {t0:TypeId} {pos:String} {af:Array Edge} {gd:Option (Nat×Bool)} {ats:Array TypeId}
end
theorem vS (p q:Rat) {g h:Int} (hg:(Int.gcd p.num (q.den:Int):Int)=g) (hh:(Int.gcd q.num (p.den:Int):Int)=h):
 (g≠0∧g∣p.num∧g∣(q.den:Int))∧(h≠0∧h∣q.num∧h∣(p.den:Int))∧(p*q).num=p.num / g*(q.num / h)∧((p*q).den:Int)=(p.den:Int) / h*((q.den:Int) / g):=by
 have hp:=den_pos p
 have hq:=den_pos q
 have g1:g∣p.num:=by rw [←hg];exact Int.gcd_dvd_left ..
 have g2:g∣(q.den:Int):=by rw [←hg];exact Int.gcd_dvd_right ..
 have h1:h∣q.num:=by rw [←hh];exact Int.gcd_dvd_left ..
 have h2:h∣(p.den:Int):=by rw [←hh];exact Int.gcd_dvd_right ..
 have g0:g≠0:=fun e=>by rw [e] at g2;have:=Int.zero_dvd.1 g2;omega
 have h0:h≠0:=fun e=>by rw [e] at h2;have:=Int.zero_dvd.1 h2;omega
 refine ⟨⟨g0,g1,g2⟩,⟨h0,h1,h2⟩,?_⟩
 show (Rat.mul p q).num=_∧((Rat.mul p q).den:Int)=_
 unfold Rat.mul
 simp only [Int.divExact_eq_ediv,Nat.divExact_eq_div]
 have eg:(Nat.gcd p.num.natAbs q.den:Int)=g:=by rw [←hg];simp [Int.gcd]
 have eh:(Nat.gcd q.num.natAbs p.den:Int)=h:=by rw [←hh];simp [Int.gcd]
 constructor
 ·rw [eg,eh]
 ·rw [Int.natCast_mul,Int.natCast_ediv,Int.natCast_ediv,eg,eh]
theorem xP(h:(aa.qc q L).holds X w v):Lq q L:=by
 obtain ⟨x,⟨_,hl⟩,_⟩:=h
 exact hl
theorem GU(h:(aa.qa q L).holds X w v):∃ x,qv x=q∧(aa.qx x L).holds X w v:=by
 obtain ⟨x,⟨h1,h2⟩,g⟩:=h
 exact ⟨x,h1,x,⟨rfl,h2⟩,g⟩
theorem FU(h:(aa.qx x L).holds X w v):0<L:=by
 obtain ⟨y,h2,g⟩:=h
 exact h2.2.2.2
theorem IR(hM:M≠0) (hd:M∣N) (hl:(N.natAbs:Int)<4294967296^L) (v:Value) (h:(aa.nn (N.fdiv M) (L+1) B).holds X w v):(aa.nn (N / M) L B).holds X w v:=by
 have e:N.fdiv M=N / M:=Int.fdiv_eq_ediv_of_dvd hd
 obtain ⟨x,⟨h1,_⟩,g⟩:=h
 rw [e] at h1
 refine ⟨x,⟨h1,?_⟩,g⟩
 have:=Int.natAbs_ediv_le_natAbs N M
 omega
class AE (T:aa) (q:outParam Rat) (L:outParam Nat):Prop where
 ok:∀ {X w v},T.holds X w v→(aa.qc q L).holds X w v
instance {q:Rat} {L:Nat}:AE (.qc q L) q L:=⟨fun h=>h⟩
instance {q:Rat} {L B:Nat}:AE (.qn q L B) q L:=⟨fun h=>nr h⟩
class CR (T:aa) (N:outParam Int) (L:outParam Nat):Prop where
 ok:∀ {X w v},T.holds X w v→(aa.nc N L).holds X w v
instance {N:Int} {L:Nat}:CR (.nc N L) N L:=⟨fun h=>h⟩
instance {N:Int} {L B:Nat}:CR (.nn N L B) N L:=⟨fun h=>mN h⟩
def aa.n1 (N:Int) (L:Nat):aa:=⟨fun X w v=>∃ (x:eS) (cs:List Value) (b:Nat),iv x=N∧x.2.length≤L∧v= .slice (some ⟨b,0,none⟩) 1 1∧bt X w b∧w.rangeAt b 0 cs∧Rp.num.rd w (bt X w) x cs,
 fun ⟨x,cs,b,h1,h2,e,hb,h3,h4⟩ hk hX=>⟨x,cs,b,h1,h2,e,bt.mono hk hX b hb,gc h3 (hk.block b hb.1 hb.2),Rp.num.up h4 hk hX⟩⟩
section
variable {w00:World} {N:Nat} {L:List Loc} {E:List (Nat×aa)} {d:Nat} {t0:TypeId} {pos:String} {af:Array Edge} {gd:Option (Nat×Bool)} {ats:Array TypeId}
theorem z8[cb E o0 T0] [a0:kX T0 N0 L0] [cb E o1 T1] [a1:kX T1 M K] (hE:dk w00) (hb:L0≤1000∧K≤1000):
 ay Tryz.prog w00 N L E ⟨some d, .call { callee:= .value (.func 129),args:= #[o0,o1],argTypes:=ats },t0,pos,af,gd⟩ (.nn (Int.gcd N0 M:Int) (max L0 K) w00.heap.size):=by
 rw [←kS]
 exact Fj hE hb
theorem zc{D0:Int} [h0:cb E o0 T0] [a0:CR T0 N0 L0] [h1:cb E o1 T1] [a1:CR T1 D0 K0]:ay Tryz.prog w00 N L E ⟨some d, .build 27 #[(0,o0),(1,o1)],t0,pos,af,gd⟩ (.nd N0 D0 (max L0 K0)):=by
 constructor
 intro X ρ w hc _ hN hm hsl
 obtain ⟨x,⟨p1,p2⟩,cs,e0,g0⟩:=a0.ok (h0.get (X:=X) (w:=w) hc fun p hp e=>hsl p hp qS)
 obtain ⟨y,⟨q1,q2⟩,ds,e1,g1⟩:=a1.ok (h1.get (X:=X) (w:=w) hc fun p hp e=>hsl p hp qS)
 obtain ⟨A,n,c,rfl,_⟩:=cC.1 g0
 obtain ⟨A2,n2,c2,rfl,_⟩:=cC.1 g1
 have hT:(aa.nd N0 D0 (max L0 K0)).holds X w (.agg #[.bool x.1, .slice A n c, .bool y.1, .slice A2 n2 c2]):=
  ⟨(x,y),⟨p1,q1,Int.lt_of_lt_of_le p2 (aX qD qO),Int.lt_of_lt_of_le q2 (aX qD qO)⟩,[.bool x.1, .slice A n c]++[.bool y.1, .slice A2 n2 c2],rfl,_,_,rfl,g0,g1⟩
 have HT:=Lib.hid hT
 clear hT hsl hm hc p1 p2 q1 q2 g0 g1 h0 h1 a0 a1
 unfold Yields
 go_simp
 exact ⟨HT.out,Below.refl _ _⟩
theorem Gw[h0:cb E o0 T0] [a0:kX T0 N0 L0]:ay Tryz.prog w00 N L E ⟨some d, .buildSlice 257 1 #[(0,o0)],t0,pos,af,gd⟩ (.n1 N0 L0):=by
 constructor
 intro X ρ w hc _ hN hm hsl
 obtain ⟨x,⟨h1,h2⟩,cs,e0,g⟩:=a0.ok (h0.get (X:=X) (w:=w) hc fun p hp e=>hsl p hp qS)
 obtain ⟨A,n,c,rfl,hs,hd⟩:=cC.1 g
 have hT:(aa.n1 N0 L0).holds X (w.alloc (.cells #[.bool x.1, .slice A n c] 25)) (.slice (some ⟨w.heap.size,0,none⟩) 1 1):=by
  refine ⟨x,[.bool x.1, .slice A n c],w.heap.size,h1,h2,rfl,⟨by rw [aj];exact Nat.lt_succ_self _,fun h=>by have:=hm.far _ h;omega⟩,fun j v hv=> ?_,Rp.num.up g (Below.keeps ((Below.refl _ _).alloc (Nat.le_refl _) _) X) fun _ h _=>h⟩
  rw [Nat.zero_add]
  exact d7 (iT _ _) (by simpa using hv)
 have HT:=Lib.hid hT
 clear hT hsl hm hc g hs hd h0 a0
 unfold Yields
 go_simp
 exact ⟨HT.out,(Below.refl _ _).alloc (Nat.le_refl _) _⟩
theorem Hr:a7 Tryz.prog 135:=fun _ _=>by kernel_rfl
theorem DB[h0:cb E o0 (.n1 N0 L0)] (hb:L0≤1000):ay Tryz.prog w00 N L E ⟨some d, .call { callee:= .value (.func 135),args:= #[o0],argTypes:=ats },t0,pos,af,gd⟩ (.nn N0 L0 w00.heap.size):=
 tC Hr fun X w v0 hX _ hB h0=>by
  obtain ⟨x,cs,b,rfl,h2,rfl,hb',h3,h4⟩:=h0
  obtain ⟨A,n,c,rfl,hs,hd⟩:=cC.1 h4
  have hS:l8 w w.heap.size (some ⟨b,0,none⟩) 1 1 [x]:=⟨rfl,Nat.le_refl _,by unfold maxLen;omega,(fun h=>by cases h),fun _=>⟨b,0,rfl,hb'.1,fun j u zs hz=>by
   have hj:j<1:=(List.getElem?_eq_some_iff.1 hz).1
   obtain rfl:j=0:=qO
   have hz':x=(u,zs):=by simpa using hz
   subst hz'
   exact ⟨A,n,c,h3 0 _ rfl,h3 1 _ rfl,hs.1⟩⟩⟩
  have hv:je [x]=iv x:=by simp [je,iv]
  have hl:((iv x).natAbs:Int)<4294967296^L0:=by
   have:(aa.na (iv x) L0).holds X w (.agg #[.bool x.1, .slice A n c]):=⟨x,⟨rfl,h2⟩,_,rfl,h4⟩
   exact fP this
  refine (tJ (L:=L0) hS (Nat.le_refl _) (fun p hp=>by rw [List.mem_singleton.1 hp];exact hd) (fun p hp=>by rw [List.mem_singleton.1 hp];exact h2) qO qO).mono fun e w' h=> ?_
  rw [hv] at h
  exact (h.givesN hX hl).imp fun v hv=>iJ hv hB.size
end
theorem jV {p:Prop} (h:p:=by first|exact cZ|exact cQ|exact c_|exact iX|exact bC|exact gB|exact gw|exact mO (by first|assumption|rfl)|exact tf (by first|assumption|rfl)|exact dK (b:=true) (u:=false) rfl|exact dK (b:=false) (u:=true) rfl|exact dK rfl|exact yS|exact dc|exact CZ hE (by omega) (by assumption)|exact Bh (by assumption)|exact z8 hE (by omega)|exact BD hE (by decide)|exact dW.nil|exact eM.nil|exact eI.nil|exact Em (by omega)|exact zc|exact F0 (by omega)|exact wE hE (by omega)|exact Fh (by omega)|exact Gp (by omega)|exact CB (by omega)|exact ou hE (by omega)|exact y5 hE (by omega)|exact zG hE (by omega)|exact tV hE (by omega)|exact ⟨fun _ _=>(Bf (congrArg Value.bool e.symm))⟩|exact Cv.rfl'):p:=h
theorem GV(hE:dk w) (hX:∀ b∈X,b<w.heap.size) {M0:Int} (h0:(aa.na N0 L0).holds X w v0) (h1:(aa.na M0 K0).holds X w v1) (hb:L0≤1000∧K0≤1000) (hM:M0≠0) (hd:M0∣N0)  :
 Calls Tryz.prog 130 #[v0,v1] w (bL X w (.nn (N0 / M0) L0 w.heap.size)):=by
 have l0:=fP h0
 refine dz (Ts:=[.na N0 L0, .na M0 K0]) (vs:=[v0,v1]) Tryz.func130 rfl Tryz.ntmps130 qE hX ⟨h0,h1,trivial⟩ ?_
 clear h0 h1 hX
 repeat' first|kernel_rfl|apply Bt.mk|refine nx ?_|apply ae|refine bc rfl ?_|exact ⟨fun _ _=>(IR hM hd l0)⟩|exact jV|intro _
theorem Iw:a7 Tryz.prog 130:=fun _ _=>by kernel_rfl
section
variable {w00:World} {N:Nat} {L:List Loc} {E:List (Nat×aa)} {d:Nat} {t0:TypeId} {pos:String} {af:Array Edge} {gd:Option (Nat×Bool)} {ats:Array TypeId}
theorem I2{M0:Int} [cb E o0 T0] [a0:kX T0 N0 L0] [cb E o1 T1] [a1:kX T1 M0 K0] (hE:dk w00) (hb:L0≤1000∧K0≤1000) (hM:M0≠0) (hd:M0∣N0):
 ay Tryz.prog w00 N L E ⟨some d, .call { callee:= .value (.func 130),args:= #[o0,o1],argTypes:=ats },t0,pos,af,gd⟩ (.nn (N0 / M0) L0 w00.heap.size):=
 xC Iw fun X w v0 v1 hX _ hB h0 h1=>(GV (hE.below hB) hX (a0.ok h0) (a1.ok h1) hb hM hd).mono fun e w' h=>h.imp fun _ g=>iJ g hB.size
end
theorem qU(hE:dk w) (hX:∀ b∈X,b<w.heap.size) {k0:Int} (h0:(aa.is (.int .i64 k0)).holds X w v0) (hk: -9223372036854775808≤k0∧k0≤9223372036854775807)  :
 Calls Tryz.prog 85 #[v0] w (bL X w (.qn (k0:Rat) 2 w.heap.size)):=by
 refine dz (Ts:=[.is (.int .i64 k0)]) (vs:=[v0]) Tryz.func85 rfl Tryz.ntmps85 qE hX ⟨h0,trivial⟩ ?_
 clear h0 hX
 repeat' first|kernel_rfl|apply Bt.mk|refine nx ?_|apply ae|refine bc rfl ?_|exact CB qO|exact pj|exact cZ|exact ⟨fun _ _=>(vO rfl rfl (Lq.whole hk))⟩|exact Cv.rfl'|intro _
theorem Cs:a7 Tryz.prog 85:=fun _ _=>by kernel_rfl
section
variable {w00:World} {N:Nat} {L:List Loc} {E:List (Nat×aa)} {d:Nat} {t0:TypeId} {pos:String} {af:Array Edge} {gd:Option (Nat×Bool)} {ats:Array TypeId}
theorem BD{k0:Int} [cb E o0 (.is (.int .i64 k0))] (hE:dk w00) (hk: -9223372036854775808≤k0∧k0≤9223372036854775807):
 ay Tryz.prog w00 N L E ⟨some d, .call { callee:= .value (.func 85),args:= #[o0],argTypes:=ats },t0,pos,af,gd⟩ (.qn (k0:Rat) 2 w00.heap.size):=
 tC Cs fun X w v0 hX _ hB h0=>(qU (hE.below hB) hX h0 hk).mono fun e w' h=>h.imp fun _ g=>qC g hB.size
end
theorem ql(hE:dk w) (hX:∀ b∈X,b<w.heap.size) (h0:(aa.qx x L).holds X w v0) (hb:L≤1000)  :
 Calls Tryz.prog 133 #[v0] w (bL X w (.is (.bool (oJ x)))):=by
 have key:oJ x=(kJ x.1.1 x.1.2&&kJ x.2.1 x.2.2&&decide (0<cF (iv x.2) 0)&&(cF (Int.gcd (iv x.1) (iv x.2):Int) 1==0)):=by
  unfold oJ
  have e1:decide (0<cF (iv x.2) 0)=decide (0<iv x.2):=by simp only [tL]
  have e2:(cF (Int.gcd (iv x.1) (iv x.2):Int) 1==0)=((Int.gcd (iv x.1) (iv x.2):Int)==1):=by
   have:=ym (a:=(Int.gcd (iv x.1) (iv x.2):Int)) (b:=1)
   rw [Bool.eq_iff_iff]
   simp only [beq_iff_eq,this]
  rw [e1,e2,kS]
 cases e1:kJ x.1.1 x.1.2 with
 |false=>
  have e:oJ x=false:=by rw [key];simp [e1]
  clear key
  refine dz (Ts:=[.qx x L]) (vs:=[v0]) Tryz.func133 rfl Tryz.ntmps133 qE hX ⟨h0,trivial⟩ ?_
  clear h0 hX
  repeat' first|kernel_rfl|apply Bt.mk|refine nx ?_|refine bl rfl jV ?_|refine bj rfl ?_|refine bm rfl ?_|apply ae|refine bc rfl ?_|exact jV|intro _
 |true=>
 cases e2:kJ x.2.1 x.2.2 with
 |false=>
  have e:oJ x=false:=by rw [key];simp [e1,e2]
  clear key
  refine dz (Ts:=[.qx x L]) (vs:=[v0]) Tryz.func133 rfl Tryz.ntmps133 qE hX ⟨h0,trivial⟩ ?_
  clear h0 hX
  repeat' first|kernel_rfl|apply Bt.mk|refine nx ?_|refine bl rfl jV ?_|refine bj rfl ?_|refine bm rfl ?_|apply ae|refine bc rfl ?_|exact jV|intro _
 |true=>
 cases e3:decide (0<cF (iv x.2) 0) with
 |false=>
  have e:oJ x=false:=by rw [key];simp [e1,e2,e3]
  clear key
  refine dz (Ts:=[.qx x L]) (vs:=[v0]) Tryz.func133 rfl Tryz.ntmps133 qE hX ⟨h0,trivial⟩ ?_
  clear h0 hX
  repeat' first|kernel_rfl|apply Bt.mk|refine nx ?_|refine bl rfl jV ?_|refine bj rfl ?_|refine bm rfl ?_|apply ae|refine bc rfl ?_|exact jV|intro _
 |true=>
 cases e4:(cF (Int.gcd (iv x.1) (iv x.2):Int) 1==0) with
 |false=>
  have e:oJ x=false:=by rw [key];simp [e1,e2,e3,e4]
  clear key
  refine dz (Ts:=[.qx x L]) (vs:=[v0]) Tryz.func133 rfl Tryz.ntmps133 qE hX ⟨h0,trivial⟩ ?_
  clear h0 hX
  repeat' first|kernel_rfl|apply Bt.mk|refine nx ?_|refine bl rfl jV ?_|refine bj rfl ?_|refine bm rfl ?_|apply ae|refine bc rfl ?_|exact jV|intro _
 |true=>
  have e:oJ x=true:=by rw [key];simp [e1,e2,e3,e4]
  clear key
  refine dz (Ts:=[.qx x L]) (vs:=[v0]) Tryz.func133 rfl Tryz.ntmps133 qE hX ⟨h0,trivial⟩ ?_
  clear h0 hX
  repeat' first|kernel_rfl|apply Bt.mk|refine nx ?_|refine bl rfl jV ?_|refine bj rfl ?_|refine bm rfl ?_|apply ae|refine bc rfl ?_|exact jV|intro _
theorem Ce:a7 Tryz.prog 133:=fun _ _=>by kernel_rfl
section
variable {w00:World} {N:Nat} {L:List Loc} {E:List (Nat×aa)} {d:Nat} {t0:TypeId} {pos:String} {af:Array Edge} {gd:Option (Nat×Bool)} {ats:Array TypeId}
theorem uZ{u:Bool} [cb E o0 (.qx x L0)] (hE:dk w00) (hb:L0≤1000) (hu:oJ x=u):
 ay Tryz.prog w00 N L E ⟨some d, .call { callee:= .value (.func 133),args:= #[o0],argTypes:=ats },t0,pos,af,gd⟩ (.is (.bool u)):=by
 rw [←hu]
 exact tC Ce fun X w v0 hX _ hB h0=>ql (hE.below hB) hX h0 hb
end
theorem uD(hE:dk w) (hX:∀ b∈X,b<w.heap.size) (h0:(aa.qa p L0).holds X w v0) (hb:L0≤1000)  :
 Calls Tryz.prog 64 #[v0] w (bL X w (.qc p L0)):=by
 obtain ⟨x,rfl,g0⟩:=GU h0
 clear h0
 have h0:=g0
 have hp:=FU g0
 clear g0
 cases hq:oJ x with
 |true=>
  refine dz (Ts:=[.qx x L0]) (vs:=[v0]) Tryz.func64 rfl Tryz.ntmps64 qE hX ⟨h0,trivial⟩ ?_
  clear h0 hX
  repeat' first|kernel_rfl|apply Bt.mk|refine nx ?_|apply ae|refine bc rfl ?_|exact uZ hE qO hq|exact ⟨fun _ _=>fun _ g=>It hq g⟩|exact jV|intro _
 |false=>
  have hz:((0:Int):Rat)=qv x:=(tn hq).symm
  have hl:Lq (qv x) L0:=by rw [tn hq];exact Lq.zero.mono hp
  refine dz (Ts:=[.qx x L0]) (vs:=[v0]) Tryz.func64 rfl Tryz.ntmps64 qE hX ⟨h0,trivial⟩ ?_
  clear h0 hX
  repeat' first|kernel_rfl|apply Bt.mk|refine nx ?_|apply ae|refine bc rfl ?_|exact uZ hE qO hq|exact ⟨fun _ _=>fun v g=>H_ hz hl v (nr g)⟩|exact jV|intro _
theorem vN:a7 Tryz.prog 64:=fun _ _=>by kernel_rfl
section
variable {w00:World} {N:Nat} {L:List Loc} {E:List (Nat×aa)} {d:Nat} {t0:TypeId} {pos:String} {af:Array Edge} {gd:Option (Nat×Bool)} {ats:Array TypeId}
theorem wE[cb E o0 T0] [a0:tk T0 p L0] (hE:dk w00) (hb:L0≤1000):
 ay Tryz.prog w00 N L E ⟨some d, .call { callee:= .value (.func 64),args:= #[o0],argTypes:=ats },t0,pos,af,gd⟩ (.qc p L0):=
 tC vN fun X w v0 hX _ hB h0=>(uD (hE.below hB) hX (a0.ok h0) hb)
end
theorem vP(hE:dk w) (hX:∀ b∈X,b<w.heap.size) (h0:(aa.qc p L0).holds X w v0) (hb:L0≤1000)  :
 Calls Tryz.prog 65 #[v0] w (bL X w (.qc (-p) L0)):=by
 have hl0:=xP h0
 refine dz (Ts:=[.qc p L0]) (vs:=[v0]) Tryz.func65 rfl Tryz.ntmps65 qE hX ⟨h0,trivial⟩ ?_
 clear h0 hX
 repeat' first|kernel_rfl|apply Bt.mk|refine nx ?_|apply aw (id:=1) [] [] 6|apply aG|apply be|apply ae|refine bc rfl ?_|exact ⟨fun _ _=>(xQ rfl rfl hl0.neg)⟩|exact jV|intro _
theorem zL:a7 Tryz.prog 65:=fun _ _=>by kernel_rfl
section
variable {w00:World} {N:Nat} {L:List Loc} {E:List (Nat×aa)} {d:Nat} {t0:TypeId} {pos:String} {af:Array Edge} {gd:Option (Nat×Bool)} {ats:Array TypeId}
theorem y5[cb E o0 T0] [a0:AE T0 p L0] (hE:dk w00) (hb:L0≤1000):
 ay Tryz.prog w00 N L E ⟨some d, .call { callee:= .value (.func 65),args:= #[o0],argTypes:=ats },t0,pos,af,gd⟩ (.qc (-p) L0):=
 tC zL fun X w v0 hX _ hB h0=>(vP (hE.below hB) hX (a0.ok h0) hb)
end
section
variable {w00:World} {N:Nat} {L:List Loc} {E:List (Nat×aa)} {d:Nat} {t0:TypeId} {pos:String} {af:Array Edge} {gd:Option (Nat×Bool)} {ats:Array TypeId}
end
theorem rU(hE:dk w) (hX:∀ b∈X,b<w.heap.size) (h0:(aa.qc p L0).holds X w v0) (h1:(aa.qc q K0).holds X w v1) (hb:L0≤450∧K0≤450)  :
 Calls Tryz.prog 163 #[v0,v1] w (bL X w (.is (.int .i64 (ee p q)))):=by
 refine dz (Ts:=[.qc p L0, .qc q K0]) (vs:=[v0,v1]) Tryz.func163 rfl Tryz.ntmps163 qE hX ⟨h0,h1,trivial⟩ ?_
 clear h0 h1 hX
 repeat' first|kernel_rfl|apply Bt.mk|refine nx ?_|apply aw (id:=1) [] [] 11|apply aG|apply be|apply ae|refine bc rfl ?_|exact ⟨fun _ _=>(Bf (by rw [ub]))⟩|exact jV|intro _
theorem t9:a7 Tryz.prog 163:=fun _ _=>by kernel_rfl
section
variable {w00:World} {N:Nat} {L:List Loc} {E:List (Nat×aa)} {d:Nat} {t0:TypeId} {pos:String} {af:Array Edge} {gd:Option (Nat×Bool)} {ats:Array TypeId}
theorem tV[cb E o0 T0] [a0:AE T0 p L0] [cb E o1 T1] [a1:AE T1 q K0] (hE:dk w00) (hb:L0≤450∧K0≤450):
 ay Tryz.prog w00 N L E ⟨some d, .call { callee:= .value (.func 163),args:= #[o0,o1],argTypes:=ats },t0,pos,af,gd⟩ (.is (.int .i64 (ee p q))):=
 xC t9 fun X w v0 v1 hX _ hB h0 h1=>(rU (hE.below hB) hX (a0.ok h0) (a1.ok h1) hb)
end
theorem mP(hE:dk w) (hX:∀ b∈X,b<w.heap.size) (h0:(aa.qc p L0).holds X w v0) (h1:(aa.qc q K0).holds X w v1) (hb:L0≤450∧K0≤450)  :
 Calls Tryz.prog 164 #[v0,v1] w (bL X w (.qn (p*q) (L0+K0) w.heap.size)):=by
 have hl0:=xP h0
 have hl1:=xP h1
 obtain ⟨⟨x1,x2,x3⟩,⟨y1,y2,y3⟩,en,ed⟩:=vS p q rfl rfl
 refine dz (Ts:=[.qc p L0, .qc q K0]) (vs:=[v0,v1]) Tryz.func164 rfl Tryz.ntmps164 qE hX ⟨h0,h1,trivial⟩ ?_
 clear h0 h1 hX
 repeat' first|kernel_rfl|apply Bt.mk|refine nx ?_|apply aw (id:=1) [] [] 12|apply aw (id:=2) [] [] 19|apply aG|apply be|exact dW.nil|infer_instance|apply ae|refine bc rfl ?_|exact CV qO|exact z8 hE qO|exact I2 hE qO qL qL|exact pj|exact c_|exact bC|exact dc|exact ⟨fun _ _=>(vO en ed (hl0.mul hl1))⟩|exact Cv.rfl'|intro _
theorem oh:a7 Tryz.prog 164:=fun _ _=>by kernel_rfl
section
variable {w00:World} {N:Nat} {L:List Loc} {E:List (Nat×aa)} {d:Nat} {t0:TypeId} {pos:String} {af:Array Edge} {gd:Option (Nat×Bool)} {ats:Array TypeId}
theorem ou[cb E o0 T0] [a0:AE T0 p L0] [cb E o1 T1] [a1:AE T1 q K0] (hE:dk w00) (hb:L0≤450∧K0≤450):
 ay Tryz.prog w00 N L E ⟨some d, .call { callee:= .value (.func 164),args:= #[o0,o1],argTypes:=ats },t0,pos,af,gd⟩ (.qn (p*q) (L0+K0) w00.heap.size):=
 xC oh fun X w v0 v1 hX _ hB h0 h1=>(mP (hE.below hB) hX (a0.ok h0) (a1.ok h1) hb).mono fun e w' h=>h.imp fun _ g=>qC g hB.size
end
section
variable {w00:World} {N:Nat} {L:List Loc} {E:List (Nat×aa)} {d:Nat} {t0:TypeId} {pos:String} {af:Array Edge} {gd:Option (Nat×Bool)} {ats:Array TypeId}
end
theorem vD(hE:dk w) (hX:∀ b∈X,b<w.heap.size) (h0:(aa.qc p L0).holds X w v0) (hb:L0≤1000)  :
 Calls Tryz.prog 66 #[v0] w (bL X w (.qn p L0 w.heap.size)):=by
 have hl0:=xP h0
 refine dz (Ts:=[.qc p L0]) (vs:=[v0]) Tryz.func66 rfl Tryz.ntmps66 qE hX ⟨h0,trivial⟩ ?_
 clear h0 hX
 repeat' first|kernel_rfl|apply Bt.mk|refine nx ?_|apply aw (id:=1) [] [] 9|apply aG|apply be|exact dW.nil|infer_instance|apply ae|refine bc rfl ?_|exact Gw|exact DB qO|exact pj|exact c_|exact bC|exact dc|exact ⟨fun _ _=>(vO rfl rfl hl0)⟩|exact Cv.rfl'|intro _
theorem yv:a7 Tryz.prog 66:=fun _ _=>by kernel_rfl
section
variable {w00:World} {N:Nat} {L:List Loc} {E:List (Nat×aa)} {d:Nat} {t0:TypeId} {pos:String} {af:Array Edge} {gd:Option (Nat×Bool)} {ats:Array TypeId}
theorem zG[cb E o0 T0] [a0:AE T0 p L0] (hE:dk w00) (hb:L0≤1000):
 ay Tryz.prog w00 N L E ⟨some d, .call { callee:= .value (.func 66),args:= #[o0],argTypes:=ats },t0,pos,af,gd⟩ (.qn p L0 w00.heap.size):=
 tC yv fun X w v0 hX _ hB h0=>(vD (hE.below hB) hX (a0.ok h0) hb).mono fun e w' h=>h.imp fun _ g=>qC g hB.size
end
section
variable {w00:World} {N:Nat} {L:List Loc} {E:List (Nat×aa)} {d:Nat} {t0:TypeId} {pos:String} {af:Array Edge} {gd:Option (Nat×Bool)} {ats:Array TypeId}
end
section
variable {w00:World} {N:Nat} {L:List Loc} {E:List (Nat×aa)} {d:Nat} {t0:TypeId} {pos:String} {af:Array Edge} {gd:Option (Nat×Bool)} {ats:Array TypeId}
end
section
variable {w00:World} {N:Nat} {L:List Loc} {E:List (Nat×aa)} {d:Nat} {t0:TypeId} {pos:String} {af:Array Edge} {gd:Option (Nat×Bool)} {ats:Array TypeId}
end
section
variable {w00:World} {N:Nat} {L:List Loc} {E:List (Nat×aa)} {d:Nat} {t0:TypeId} {pos:String} {af:Array Edge} {gd:Option (Nat×Bool)} {ats:Array TypeId}
end
section
variable {w00:World} {N:Nat} {L:List Loc} {E:List (Nat×aa)} {d:Nat} {t0:TypeId} {pos:String} {af:Array Edge} {gd:Option (Nat×Bool)} {ats:Array TypeId}
end
section
variable {w00:World} {N:Nat} {L:List Loc} {E:List (Nat×aa)} {d:Nat} {t0:TypeId} {pos:String} {af:Array Edge} {gd:Option (Nat×Bool)} {ats:Array TypeId}
end
theorem Eg(hE:dk w) (hX:∀ b∈X,b<w.heap.size) (h0:(aa.qa p L0).holds X w v0) (h1:(aa.qa q K0).holds X w v1) (hb:L0≤90∧K0≤90)  :
 Calls Tryz.prog 87 #[v0,v1] w (bL X w (.qn (p*q) (L0+K0) w.heap.size)):=by
 refine dz (Ts:=[.qa p L0, .qa q K0]) (vs:=[v0,v1]) Tryz.func87 rfl Tryz.ntmps87 qE hX ⟨h0,h1,trivial⟩ ?_
 clear h0 h1 hX
 repeat' first|kernel_rfl|apply Bt.mk|refine nx ?_|apply aw (id:=1) [] [] 5|apply aG|apply be|apply ae|refine bc rfl ?_|exact jV|intro _
section
variable {w00:World} {N:Nat} {L:List Loc} {E:List (Nat×aa)} {d:Nat} {t0:TypeId} {pos:String} {af:Array Edge} {gd:Option (Nat×Bool)} {ats:Array TypeId}
end
section
variable {w00:World} {N:Nat} {L:List Loc} {E:List (Nat×aa)} {d:Nat} {t0:TypeId} {pos:String} {af:Array Edge} {gd:Option (Nat×Bool)} {ats:Array TypeId}
end
section
variable {w00:World} {N:Nat} {L:List Loc} {E:List (Nat×aa)} {d:Nat} {t0:TypeId} {pos:String} {af:Array Edge} {gd:Option (Nat×Bool)} {ats:Array TypeId}
end
theorem Eo(hE:dk w) (hX:∀ b∈X,b<w.heap.size) (h0:(aa.qa p L0).holds X w v0) (hb:L0≤90)  :
 Calls Tryz.prog 21 #[v0] w (bL X w (.qn (-p) L0 w.heap.size)):=by
 refine dz (Ts:=[.qa p L0]) (vs:=[v0]) Tryz.func21 rfl Tryz.ntmps21 qE hX ⟨h0,trivial⟩ ?_
 clear h0 hX
 repeat' first|kernel_rfl|apply Bt.mk|refine nx ?_|apply ae|refine bc rfl ?_|exact jV|intro _
section
variable {w00:World} {N:Nat} {L:List Loc} {E:List (Nat×aa)} {d:Nat} {t0:TypeId} {pos:String} {af:Array Edge} {gd:Option (Nat×Bool)} {ats:Array TypeId}
end
theorem C9(hE:dk w) (hX:∀ b∈X,b<w.heap.size) (h0:(aa.qa p L0).holds X w v0) (h1:(aa.qa q K0).holds X w v1) (hb:L0≤90∧K0≤90)  :
 Calls Tryz.prog 86 #[v0,v1] w (bL X w (.is (.int .i64 (ee p q)))):=by
 refine dz (Ts:=[.qa p L0, .qa q K0]) (vs:=[v0,v1]) Tryz.func86 rfl Tryz.ntmps86 qE hX ⟨h0,h1,trivial⟩ ?_
 clear h0 h1 hX
 repeat' first|kernel_rfl|apply Bt.mk|refine nx ?_|apply aw (id:=1) [] [] 5|apply aG|apply be|apply ae|refine bc rfl ?_|exact jV|intro _
section
variable {w00:World} {N:Nat} {L:List Loc} {E:List (Nat×aa)} {d:Nat} {t0:TypeId} {pos:String} {af:Array Edge} {gd:Option (Nat×Bool)} {ats:Array TypeId}
end
theorem Cp(hE:dk w) (hX:∀ b∈X,b<w.heap.size) (h0:(aa.qa p L0).holds X w v0) (hb:L0≤90)  :
 Calls Tryz.prog 84 #[v0] w (bL X w (.is (.int .i64 (ee p 0)))):=by
 refine dz (Ts:=[.qa p L0]) (vs:=[v0]) Tryz.func84 rfl Tryz.ntmps84 qE hX ⟨h0,trivial⟩ ?_
 clear h0 hX
 repeat' first|kernel_rfl|apply Bt.mk|refine nx ?_|apply ae|refine bc rfl ?_|exact ⟨fun _ _=>(Bf (by rw [←yE]))⟩|exact jV|intro _
section
variable {w00:World} {N:Nat} {L:List Loc} {E:List (Nat×aa)} {d:Nat} {t0:TypeId} {pos:String} {af:Array Edge} {gd:Option (Nat×Bool)} {ats:Array TypeId}
end
end Go.Proofs.YtjjkikchncfekaaGreatDoor
