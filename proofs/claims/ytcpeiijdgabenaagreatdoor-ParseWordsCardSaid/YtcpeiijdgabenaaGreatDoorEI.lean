/- Package big in a typed walk: what each call answers, as a step. -/
import Derived.Test.YtcpeiijdgabenaaGreatDoorEH
import Derived.Test.YtcpeiijdgabenaaGreatDoorEE
import Derived.Test.YtcpeiijdgabenaaGreatDoorED
import Derived.Test.YtcpeiijdgabenaaGreatDoorEB
set_option maxHeartbeats 4000000
set_option maxRecDepth 20000
set_option linter.unusedSimpArgs false
set_option linter.unusedVariables false
namespace Go.Proofs.YtcpeiijdgabenaaGreatDoor
open Go Go.RowKit
variable {L0 K0 K L B:Nat} {w w':World} {X:List Nat} {o0 o1:Operand} {v0 v1 v:Value} {p q:Rat} {T0 T1:ai} {N0 M N M0 D g:Int} {xs:List Int} {x:bA}
structure g9 (w:World):Prop where
 half:iq w
 hz:11<w.heap.size
theorem g9.below(h:g9 w) (hb:Below w.heap.size w w'):g9 w':=⟨fun i hi=>(hb.cell (p:=⟨11,i,none⟩) h.hz).trans (h.half i hi),Nat.lt_of_lt_of_le h.hz hb.size⟩
section
variable {w00:World} {N:Nat} {L:List Loc} {E:List (Nat×ai)} {d:Nat} {t0:TypeId} {pos:String} {af:Array Edge} {gd:Option (Nat×Bool)} {ats:Array TypeId}
theorem zx:bE Tryz.prog 256:=fun _ _=>by kernel_rfl
theorem FE{N:Int} {L:Nat} (hX:∀ b∈X,b<w.heap.size) (h0:(ai.na N L).holds X w v0) (h1:(ai.na M K).holds X w v1) (hb:L≤1000∧K≤1000):Calls Tryz.prog 256 #[v0,v1] w (cE X w (.nc (N*M) (L+K))):=by
 have l0:=j9 h0
 have l1:=j9 h1
 obtain ⟨s,A,n,c,xs,rfl,s0,d0,e0,n0⟩:=fS h0
 obtain ⟨t,A2,m,c2,ys,rfl,s1,d1,e1,n1⟩:=fS h1
 have:=vw (s:=s) (t:=t) s0 s1 (Nat.le_refl _) d0 d1 qO qO
 rw [e0,e1] at this
 exact this.mono fun e w' h=>h.gives hX (mp l0 l1)
theorem Fo[b_ E o0 T0] [a0:my T0 N0 L0] [b_ E o1 T1] [a1:my T1 M K] (hb:L0≤1000∧K≤1000):
 aR Tryz.prog w00 N L E ⟨some d, .call { callee:= .value (.func 256),args:= #[o0,o1],argTypes:=ats },t0,pos,af,gd⟩ (.nc (N0*M) (L0+K)):=
 yt zx fun X w v0 v1 hX _ _ h0 h1=>FE hX (a0.ok h0) (a1.ok h1) hb
theorem Fk:bE Tryz.prog 251:=fun _ _=>by kernel_rfl
theorem E3:bE Tryz.prog 253:=fun _ _=>by kernel_rfl
theorem Gm:bE Tryz.prog 250:=fun _ _=>by kernel_rfl
theorem FS{N:Int} {L:Nat} (h0:(ai.na N L).holds X w v0) (h1:(ai.na M K).holds X w v1) (hb:L≤1000∧K≤1000):Calls Tryz.prog 250 #[v0,v1] w (cE X w (.is (.int .i64 (eP N M)))):=by
 obtain ⟨s,A,n,c,xs,rfl,s0,d0,e0,n0⟩:=fS h0
 obtain ⟨t,A2,m,c2,ys,rfl,s1,d1,e1,n1⟩:=fS h1
 have:=vz (s:=s) (t:=t) s0 s1 (Nat.le_refl _) d0 d1 qO qO
 rw [e0,e1] at this
 refine this.mono ?_
 rintro e w' ⟨rfl,hb⟩
 exact ⟨_,rfl,rfl,hb⟩
theorem i8[b_ E o0 T0] [a0:my T0 N0 L0] [b_ E o1 T1] [a1:my T1 M K] (hb:L0≤1000∧K≤1000):
 aR Tryz.prog w00 N L E ⟨some d, .call { callee:= .value (.func 250),args:= #[o0,o1],argTypes:=ats },t0,pos,af,gd⟩ (.is (.int .i64 (eP N0 M))):=
 yt Gm fun X w v0 v1 hX _ _ h0 h1=>FS (a0.ok h0) (a1.ok h1) hb
theorem CY:bE Tryz.prog 213:=fun _ _=>by kernel_rfl
theorem CZ{N:Int} {L:Nat} (h0:(ai.na N L).holds X w v0) (hb:L≤1000):Calls Tryz.prog 213 #[v0] w (cE X w (.is (.int .i64 (eP N 0)))):=by
 obtain ⟨s,A,n,c,xs,rfl,s0,d0,e0,n0⟩:=fS h0
 have:=yF (s:=s) s0 (Nat.le_refl _) d0 qO
 rw [e0] at this
 refine this.mono ?_
 rintro e w' ⟨rfl,hb⟩
 exact ⟨_,rfl,rfl,hb⟩
theorem eZ[b_ E o0 T0] [a0:my T0 N0 L0] (hb:L0≤1000):
 aR Tryz.prog w00 N L E ⟨some d, .call { callee:= .value (.func 213),args:= #[o0],argTypes:=ats },t0,pos,af,gd⟩ (.is (.int .i64 (eP N0 0))):=
 vL CY fun X w v0 hX _ _ h0=>CZ (a0.ok h0) hb
theorem Am:bE Tryz.prog 249:=fun _ _=>by kernel_rfl
theorem f9{x:gp} {u:Bool} [b_ E o0 (.nx x L0)] (hu:mz x.1 x.2=u):
 aR Tryz.prog w00 N L E ⟨some d, .call { callee:= .value (.func 249),args:= #[o0],argTypes:=ats },t0,pos,af,gd⟩ (.is (.bool u)):=
 vL Am fun X w v0 hX _ _ h0=>by
  obtain ⟨y,⟨rfl,_⟩,cs,rfl,hr⟩:=h0
  obtain ⟨A,n,c,rfl,hs,hd⟩:=dc.1 hr
  refine (mg (s:=y.1) hs.1 (Nat.le_refl _)).mono ?_
  rintro e w' ⟨rfl,hb⟩
  exact ⟨_,rfl,by rw [hu];rfl,hb⟩
theorem Hq:bE Tryz.prog 217:=fun _ _=>by kernel_rfl
theorem Fh:bE Tryz.prog 292:=fun _ _=>by kernel_rfl
end
def ai.nwn (p:gp→Prop) (B:Nat):ai:=⟨fun X w v=>∃ x,p x∧∃ cs:List Value,v= .agg cs.toArray∧Rp.num.rd w (GA B X w) x cs,fun ⟨x,hp,cs,e,h⟩ hk hX=>⟨x,hp,cs,e,Rp.num.more (Rp.num.keep h (fun b hb=>hk.block b hb.1.1 hb.1.2)) (fun b hb=>by
 obtain ⟨h1,h2,c,h3⟩:=hb
 exact ⟨cZ.mono hk hX b h1,h2,c,(hk.block b h1.1 h1.2).trans h3⟩)⟩⟩
def ai.nn (N:Int) (L B:Nat):ai:=ai.nwn (fun x=>Whole N x.1 x.2∧(N.natAbs:Int)<4294967296^L) B
def ai.ndn (N D:Int) (L B:Nat):ai:=ai.nw (fun x=>Whole N x.1.1 x.1.2∧Whole D x.2.1 x.2.2∧(N.natAbs:Int)<4294967296^L∧(D.natAbs:Int)<4294967296^L) B
theorem nC{p:gp→Prop} (h:(ai.nwn p B).holds X w v):(ai.ex Rp.num p).holds X w v:=by
 obtain ⟨x,hp,cs,e,h⟩:=h
 exact ⟨x,hp,cs,e,Rp.num.more h (fun b hb=>hb.1)⟩
theorem i6{p:gp→Prop} {B':Nat} (h:(ai.nwn p B).holds X w v) (hB:B'≤B):(ai.nwn p B').holds X w v:=by
 obtain ⟨x,hp,cs,e,h⟩:=h
 exact ⟨x,hp,cs,e,Rp.num.more h (fun b hb=>⟨hb.1,Nat.le_trans hB hb.2.1,hb.2.2⟩)⟩
instance {p:gp→Prop} {B:Nat}:bi (.nwn p B) 2 true:=⟨fun h=>(inferInstance:bi (.ex Rp.num p) Rp.num.k true).ok (nC h)⟩
instance {N:Int} {L B:Nat}:bi (.nn N L B) 2 true:=inferInstanceAs (bi (.nwn _ _) 2 true)
instance {N D:Int} {L B:Nat}:bi (.ndn N D L B) 4 true:=inferInstanceAs (bi (.nw _ _) 4 true)
instance {N:Int} {L B:Nat}:az (.nn N L B) 0 2 true (.nn N L B):= .whole inferInstance
instance {N D:Int} {L B:Nat}:az (.ndn N D L B) 0 4 true (.ndn N D L B):= .whole inferInstance
instance {N:Int} {L B:Nat}:my (.nn N L B) N L:=⟨fun h=>(inferInstance:my (.nc N L) N L).ok (nC h)⟩
instance:cX Tryz.prog 38 (.na 0 0):=⟨⟨.agg #[.bool false, .slice none 0 0],fun X w=>⟨(false,[]),⟨rfl,Nat.le_refl _⟩,[.bool false, .slice none 0 0],rfl,dc.2 ⟨none,0,0,rfl,⟨Sl.nil,fun h=>by omega⟩,Dg.nil⟩⟩,fun o ρ w ho=>by
 unfold execOp
 rw [ho]
 go_simp⟩⟩
theorem cG.cellsAt{k:IntKind} {e:TypeId} {A:Option Addr} {n c:Nat} (h:cG k e w B A n c xs) {g:Nat} (hg:fC A=some g):∃ cur,w.heap[g]? =some (.cells cur e (0,0)):=by
 rcases h.2 with ⟨h1,_⟩|⟨g',cap,cur,h1,h2,h3,h4⟩
 ·injection h1 with h1
  rw [h1] at hg;cases hg
 ·injection h1 with h1
  rw [h1] at hg
  injection hg with hg
  subst hg
  exact ⟨cur,h3⟩
theorem vY{s:Bool} {A:Option Addr} {n c:Nat} {ys:List Int} (hX:∀ b∈X,b<B) (h:Whole N s ys) (ho:cG .u32 128 w' B A n c ys) (hl:(N.natAbs:Int)<4294967296^L):(ai.nn N L B).holds X w' (.agg #[.bool s, .slice A n c]):=by
 refine ⟨(s,ys),⟨h,hl⟩,[.bool s, .slice A n c],rfl,dc.2 ⟨A,n,c,rfl,⟨ho.sl,fun hn b hb=> ?_⟩,h.row.dg⟩⟩
 obtain ⟨g1,g2⟩:=ho.blk_ b hb
 exact ⟨⟨g2,fun hx=>by have:=hX b hx;omega⟩,g1,ho.cellsAt hb⟩
theorem jj.givesN{e:Ending} (h:jj w N e w') (hX:∀ b∈X,b<w.heap.size) (hl:(N.natAbs:Int)<4294967296^L):cE X w (.nn N L w.heap.size) e w':=by
 obtain ⟨s,ys,A,n,c,hW,rfl,ho,hb⟩:=h
 exact ⟨_,rfl,vY hX hW ho hl,hb⟩
section
variable {w00:World} {N:Nat} {L:List Loc} {E:List (Nat×ai)} {d:Nat} {t0:TypeId} {pos:String} {af:Array Edge} {gd:Option (Nat×Bool)} {ats:Array TypeId}
theorem Dz{N:Int} {L:Nat} (hX:∀ b∈X,b<w.heap.size) (h0:(ai.na N L).holds X w v0) (h1:(ai.na M K).holds X w v1) (hb:L≤1000∧K≤1000):Calls Tryz.prog 256 #[v0,v1] w (cE X w (.nn (N*M) (L+K) w.heap.size)):=by
 have l0:=j9 h0
 have l1:=j9 h1
 obtain ⟨s,A,n,c,xs,rfl,s0,d0,e0,n0⟩:=fS h0
 obtain ⟨t,A2,m,c2,ys,rfl,s1,d1,e1,n1⟩:=fS h1
 have:=vw (s:=s) (t:=t) s0 s1 (Nat.le_refl _) d0 d1 qO qO
 rw [e0,e1] at this
 exact this.mono fun e w' h=>h.givesN hX (mp l0 l1)
theorem CB[b_ E o0 T0] [a0:my T0 N0 L0] [b_ E o1 T1] [a1:my T1 M K] (hb:L0≤1000∧K≤1000):
 aR Tryz.prog w00 N L E ⟨some d, .call { callee:= .value (.func 256),args:= #[o0,o1],argTypes:=ats },t0,pos,af,gd⟩ (.nn (N0*M) (L0+K) w00.heap.size):=
 yt zx fun X w v0 v1 hX _ hB h0 h1=>(Dz hX (a0.ok h0) (a1.ok h1) hb).mono fun e w' h=>h.imp fun v hv=>i6 hv hB.size
theorem CA{N:Int} {L:Nat} (hE:g9 w) (hX:∀ b∈X,b<w.heap.size) (h0:(ai.na N L).holds X w v0) (h1:(ai.na M K).holds X w v1) (hb:L≤1000∧K≤1000):Calls Tryz.prog 251 #[v0,v1] w (cE X w (.nn (ej (N.natAbs:Int) (M.natAbs:Int)) (max L K) w.heap.size)):=by
 have l0:=j9 h0
 have l1:=j9 h1
 obtain ⟨s,A,n,c,xs,rfl,s0,d0,e0,n0⟩:=fS h0
 obtain ⟨t,A2,m,c2,ys,rfl,s1,d1,e1,n1⟩:=fS h1
 have:=zY (s:=s) (t:=t) s0 s1 (Nat.le_refl _) hE.half hE.hz d0 d1 qO qO
 rw [e0,e1] at this
 exact this.mono fun e w' h=>h.givesN hX (Da l0 l1)
theorem EA[b_ E o0 T0] [a0:my T0 N0 L0] [b_ E o1 T1] [a1:my T1 M K] (hE:g9 w00) (hb:L0≤1000∧K≤1000):
 aR Tryz.prog w00 N L E ⟨some d, .call { callee:= .value (.func 251),args:= #[o0,o1],argTypes:=ats },t0,pos,af,gd⟩ (.nn (ej (N0.natAbs:Int) (M.natAbs:Int)) (max L0 K) w00.heap.size):=
 yt Fk fun X w v0 v1 hX _ hB h0 h1=>(CA (hE.below hB) hX (a0.ok h0) (a1.ok h1) hb).mono fun e w' h=>h.imp fun v hv=>i6 hv hB.size
theorem DD{N:Int} {L:Nat} (hX:∀ b∈X,b<w.heap.size) (h0:(ai.na N L).holds X w v0) (hb:L≤1000):Calls Tryz.prog 253 #[v0] w (cE X w (.nn (-N) (L) w.heap.size)):=by
 have l0:=j9 h0
 obtain ⟨s,A,n,c,xs,rfl,s0,d0,e0,n0⟩:=fS h0
 have:=zB (s:=s) s0 (Nat.le_refl _) d0 qO
 rw [e0] at this
 exact this.mono fun e w' h=>h.givesN hX (FU l0)
theorem m5[b_ E o0 T0] [a0:my T0 N0 L0] (hb:L0≤1000):
 aR Tryz.prog w00 N L E ⟨some d, .call { callee:= .value (.func 253),args:= #[o0],argTypes:=ats },t0,pos,af,gd⟩ (.nn (-N0) (L0) w00.heap.size):=
 vL E3 fun X w v0 hX _ hB h0=>(DD hX (a0.ok h0) hb).mono fun e w' h=>h.imp fun v hv=>i6 hv hB.size
theorem ji{k:Int} [b_ E o0 (.is (.int .i64 k))] (hk: -9223372036854775808≤k∧k≤9223372036854775807):
 aR Tryz.prog w00 N L E ⟨some d, .call { callee:= .value (.func 217),args:= #[o0],argTypes:=ats },t0,pos,af,gd⟩ (.nn k 2 w00.heap.size):=
 vL Hq fun X w v0 hX _ hB h0=>by
  obtain rfl:v0=_:=h0
  exact (Cx hk).mono fun e w' h=>(h.givesN hX (Au hk)).imp fun v hv=>i6 hv hB.size
theorem CD[b_ E o0 T0] [a0:my T0 N0 L0] [b_ E o1 T1] [a1:my T1 M K] (hE:g9 w00) (hb:L0≤1000∧K≤1000) (hM:M≠0):
 aR Tryz.prog w00 N L E ⟨some d, .call { callee:= .value (.func 292),args:= #[o0,o1],argTypes:=ats },t0,pos,af,gd⟩ (.tup [.nn (N0.fdiv M) (L0+1) w00.heap.size, .nn (N0.fmod M) K w00.heap.size, .is (.int .i64 0)]):=
 yt Fh fun X w v0 v1 hX _ hB h0 h1=>by
  have hE:=hE.below hB
  have l0:=zt (j9 (a0.ok h0)) hM
  have l1:=zX (N:=N0) (j9 (a1.ok h1)) hM
  obtain ⟨s,A,n,c,xs,rfl,s0,d0,e0,n0⟩:=fS (a0.ok h0)
  obtain ⟨t,A2,m,c2,ys,rfl,s1,d1,e1,n1⟩:=fS (a1.ok h1)
  have:=tR (s:=s) (t:=t) s0 s1 (Nat.le_refl _) hE.half hE.hz d0 d1 qO qO
  rw [e0,e1] at this
  refine this.mono ?_
  rintro e w' (⟨hz,_⟩|⟨_,s1,qs,s2,rs,A1,n1,c1,A2,n2,c2,rfl,hq,hr,o1,o2,_,hb⟩)
  ·exact absurd hz hM
  ·exact ⟨_,rfl,⟨[_,_,_],rfl,i6 (vY hX hq o1 l0) hB.size,i6 (vY hX hr o2 l1) hB.size,rfl,trivial⟩,hb⟩
theorem kU{D0:Int} [h0:b_ E o0 (.nn N0 L0 B)] [h1:b_ E o1 (.nn D0 K0 B)]:aR Tryz.prog w00 N L E ⟨some d, .build 40 #[(0,o0),(1,o1)],t0,pos,af,gd⟩ (.ndn N0 D0 (max L0 K0) B):=by
 constructor
 intro X ρ w hc _ hN hm hsl
 obtain ⟨x,⟨a1,a2⟩,cs,e0,g0⟩:=h0.get (X:=X) (w:=w) hc fun p hp e=>hsl p hp qS
 obtain ⟨y,⟨b1,b2⟩,ds,e1,g1⟩:=h1.get (X:=X) (w:=w) hc fun p hp e=>hsl p hp qS
 obtain ⟨A,n,c,rfl,_⟩:=dc.1 g0
 obtain ⟨A2,n2,c2,rfl,_⟩:=dc.1 g1
 have p1:(4294967296:Int)^L0≤4294967296^(max L0 K0):=bz qD qO
 have p2:(4294967296:Int)^K0≤4294967296^(max L0 K0):=bz qD qO
 have hT:(ai.ndn N0 D0 (max L0 K0) B).holds X w (.agg #[.bool x.1, .slice A n c, .bool y.1, .slice A2 n2 c2]):=
  ⟨(x,y),⟨a1,b1,Int.lt_of_lt_of_le a2 p1,Int.lt_of_lt_of_le b2 p2⟩,[.bool x.1, .slice A n c]++[.bool y.1, .slice A2 n2 c2],rfl,_,_,rfl,g0,g1⟩
 have e0':ρ o0= .agg #[.bool x.1, .slice A n c]:=e0
 have e1':ρ o1= .agg #[.bool y.1, .slice A2 n2 c2]:=e1
 have HT:=Lib.hid hT
 clear hT hsl hm hc a1 a2 b1 b2 g0 g1 h0 h1 p1 p2 e0 e1
 unfold Yields
 go_simp
 exact ⟨HT.out,Below.refl _ _⟩
end
theorem pV{M:Nat} (hN:q.num=N) (hD:(q.den:Int)=D) (hL:Lq q M) (v:Value) (h:(ai.ndn N D L B).holds X w v):(ai.qn q M B).holds X w v:=by
 obtain ⟨x,⟨h1,h2,_,_⟩,g⟩:=h
 exact ⟨x,⟨⟨by rw [hN];exact h1,by rw [hD];exact h2⟩,hL⟩,g⟩
instance:eV Tryz.prog 38 2 true:=⟨⟨_,Tryz.underlying38,rfl⟩,by kernel_rfl⟩
instance:eV Tryz.prog 40 4 true:=⟨⟨_,Tryz.underlying40,rfl⟩,by kernel_rfl⟩
instance:eV Tryz.prog 24 1 false:=⟨⟨_,Tryz.underlying24,rfl⟩,by kernel_rfl⟩
instance:aP Tryz.prog 40 0 0 2 true:=⟨⟨_,_,Tryz.underlying40,rfl,rfl,by kernel_rfl,by decide,_,Tryz.underlying38,rfl⟩⟩
instance:aP Tryz.prog 40 1 2 2 true:=⟨⟨_,_,Tryz.underlying40,rfl,rfl,by kernel_rfl,by decide,_,Tryz.underlying38,rfl⟩⟩
instance:aP Tryz.prog 38 1 1 1 false:=⟨⟨_,_,Tryz.underlying38,rfl,rfl,by kernel_rfl,by decide,_,Tryz.underlying24,rfl⟩⟩
instance:cX Tryz.prog 40 .q0:=⟨⟨.agg #[.bool false, .slice none 0 0, .bool false, .slice none 0 0],fun X w=>⟨_,rfl,[.bool false, .slice none 0 0]++[.bool false, .slice none 0 0],rfl,_,_,rfl,dc.2 ⟨none,0,0,rfl,⟨Sl.nil,fun h=>by omega⟩,Dg.nil⟩,dc.2 ⟨none,0,0,rfl,⟨Sl.nil,fun h=>by omega⟩,Dg.nil⟩⟩,fun o ρ w ho=>by
 unfold execOp
 rw [ho]
 go_simp⟩⟩
instance:wJ 2 1 3:=⟨rfl⟩
def ai.qz (x:bA):ai:=ai.ex Rp.frac fun y=>y=x
instance {x:bA}:bi (.qz x) 4 true:=inferInstanceAs (bi (.ex Rp.frac _) Rp.frac.k true)
instance {x:bA}:az (.qz x) 0 4 true (.qz x):= .whole inferInstance
theorem az.limbs1{p:bA→Prop} (h:∀ x,p x→x.1.2=xs):az (.ex Rp.frac p) 1 1 false (.rc Rp.limbs xs):=⟨fun _=>rfl,fun {X w v} hv=>by
 obtain ⟨x,hp,cs,rfl,c1,c2,rfl,h1,h2⟩:=hv
 obtain ⟨A,n,c,rfl,hs,hd⟩:=dc.1 h1
 refine ⟨[.slice A n c],rfl,fun j u hj=> ?_,fun u _ hu=> ?_⟩
 ·have hj0:j=0:=by have:=(List.getElem?_eq_some_iff.1 hj).1;simpa using this
  subst hj0
  simpa [Value.cells] using hj
 ·have:=hu rfl
  simp at this
  subst this
  exact ⟨A,n,c,rfl,by rw [←h x hp];exact hs,by rw [←h x hp];exact hd⟩⟩
theorem az.limbs3{p:bA→Prop} (h:∀ x,p x→x.2.2=xs):az (.ex Rp.frac p) 3 1 false (.rc Rp.limbs xs):=⟨fun _=>rfl,fun {X w v} hv=>by
 obtain ⟨x,hp,cs,rfl,c1,c2,rfl,h1,h2⟩:=hv
 obtain ⟨A0,n0,c0,rfl,_,_⟩:=dc.1 h1
 obtain ⟨A,n,c,rfl,hs,hd⟩:=dc.1 h2
 refine ⟨[.slice A n c],rfl,fun j u hj=> ?_,fun u _ hu=> ?_⟩
 ·have hj0:j=0:=by have:=(List.getElem?_eq_some_iff.1 hj).1;simpa using this
  subst hj0
  simpa [Value.cells] using hj
 ·have:=hu rfl
  simp at this
  subst this
  exact ⟨A,n,c,rfl,by rw [←h x hp];exact hs,by rw [←h x hp];exact hd⟩⟩
instance {x:bA}:az (.qz x) 1 1 false (.rc Rp.limbs x.1.2):= .limbs1 fun _ h=>by rw [h]
instance {x:bA}:az (.qz x) 3 1 false (.rc Rp.limbs x.2.2):= .limbs3 fun _ h=>by rw [h]
instance {x:bA} {L:Nat}:az (.qx x L) 1 1 false (.rc Rp.limbs x.1.2):= .limbs1 fun _ h=>by rw [h.1]
instance {x:bA} {L:Nat}:az (.qx x L) 3 1 false (.rc Rp.limbs x.2.2):= .limbs3 fun _ h=>by rw [h.1]
section
variable {w00:World} {N:Nat} {L:List Loc} {E:List (Nat×ai)} {d:Nat} {t0:TypeId} {pos:String} {af:Array Edge} {gd:Option (Nat×Bool)} {ats:Array TypeId}
theorem pu{s:Nat} [ho:ce E s (.rc Rp.limbs xs)]:aR Tryz.prog w00 N L E ⟨some d, .call { callee:= .builtin .len,args:= #[.tmp s],argTypes:= #[24] },t0,pos,af,gd⟩ (.is (.int .i64 xs.length)):=by
 constructor
 intro X ρ w hc _ hN hm hsl
 obtain ⟨A,n,c,e,⟨h,_⟩,_⟩:=hsl _ ho.mem qJ
 have e1:ρ (.tmp s)= .slice A n c:=by simpa using e
 have hl:=h.1
 clear hc hsl ho h e hm
 unfold Yields
 go_simp
 exact ⟨rfl,Below.refl _ _⟩
end
section
variable {w00:World} {N:Nat} {L:List Loc} {E:List (Nat×ai)} {d:Nat} {t0:TypeId} {pos:String} {af:Array Edge} {gd:Option (Nat×Bool)} {ats:Array TypeId}
end
def ai.rv (qs:List Rat) (L:Nat):ai:=⟨fun X w v=>∃ l:List bA,l.map qv=qs∧(ai.rq L l).holds X w v,fun ⟨l,e,h⟩ hk hX=>⟨l,e,(ai.rq L l).stable h hk hX⟩⟩
class IK (T:ai) (qs:outParam (List Rat)) (L:outParam Nat):Prop where
 ok:∀ {X w v},T.holds X w v→(ai.rv qs L).holds X w v
instance {qs:List Rat} {L:Nat}:IK (.rv qs L) qs L:=⟨fun h=>h⟩
instance {l:List bA} {L:Nat}:IK (.rq L l) (l.map qv) L:=⟨fun h=>⟨l,rfl,h⟩⟩
theorem ov{cs ds pre:List Value} {T:TypeId} (h:pre++cs <+: ds):(w.alloc (.cells ds.toArray T)).rangeAt w.heap.size pre.length cs:=by
 intro j v hv
 obtain ⟨t,rfl⟩:=h
 refine eX (iw _ _) ?_
 have hj:=(List.getElem?_eq_some_iff.1 hv).1
 simp only [List.getElem?_toArray,List.append_assoc]
 rw [List.getElem?_append_right qO,Nat.add_sub_cancel_left,List.getElem?_append_left hj]
 exact hv
section
variable {w00:World} {N:Nat} {L:List Loc} {E:List (Nat×ai)} {d:Nat} {t0:TypeId} {pos:String} {af:Array Edge} {gd:Option (Nat×Bool)} {ats:Array TypeId}
end
theorem wj(p q:Rat) {h:Int} (hg:(Int.gcd p.num (q.den:Int):Int)=g) (hh:(Int.gcd q.num (p.den:Int):Int)=h):
 (g≠0∧g∣p.num∧g∣(q.den:Int))∧(h≠0∧h∣q.num∧h∣(p.den:Int))∧(p*q).num=p.num / g*(q.num / h)∧((p*q).den:Int)=(p.den:Int) / h*((q.den:Int) / g):=by
 have hp:=den_pos p
 have hq:=den_pos q
 have g1:g∣p.num:=by rw [←hg];exact Int.gcd_dvd_left ..
 have g2:g∣(q.den:Int):=by rw [←hg];exact Int.gcd_dvd_right ..
 have h1:h∣q.num:=by rw [←hh];exact Int.gcd_dvd_left ..
 have h2:h∣(p.den:Int):=by rw [←hh];exact Int.gcd_dvd_right ..
 have g0:g≠0:=fun e=>by rw [e] at g2;have:=Int.zero_dvd.1 g2;omega
 have h0:h≠0:=fun e=>by rw [e] at h2;have:=Int.zero_dvd.1 h2;omega
 refine ⟨⟨g0,g1,g2⟩,⟨h0,h1,h2⟩,?_⟩
 show (Rat.mul p q).num=_∧((Rat.mul p q).den:Int)=_
 unfold Rat.mul
 simp only [Int.divExact_eq_ediv,Nat.divExact_eq_div]
 have eg:(Nat.gcd p.num.natAbs q.den:Int)=g:=by rw [←hg];simp [Int.gcd]
 have eh:(Nat.gcd q.num.natAbs p.den:Int)=h:=by rw [←hh];simp [Int.gcd]
 constructor
 ·rw [eg,eh]
 ·rw [Int.natCast_mul,Int.natCast_ediv,Int.natCast_ediv,eg,eh]
theorem xl (q:Rat) (h:q.num<0):(q⁻¹).num= -(q.den:Int)∧((q⁻¹).den:Int)= -q.num:=by
 show (Rat.inv q).num=_∧((Rat.inv q).den:Int)=_
 unfold Rat.inv
 rw [dif_pos h]
 exact ⟨rfl,by show ((q.num.natAbs:Nat):Int)=_;omega⟩
theorem wV (q:Rat) (h:0<q.num):(q⁻¹).num=(q.den:Int)∧((q⁻¹).den:Int)=q.num:=by
 show (Rat.inv q).num=_∧((Rat.inv q).den:Int)=_
 unfold Rat.inv
 rw [dif_neg qO,dif_pos h]
 exact ⟨rfl,by show ((q.num.natAbs:Nat):Int)=_;omega⟩
theorem rV(hD:0<D) (hg:(Int.gcd N D:Int)=g):(g≠0∧g∣N∧g∣D)∧(Rat.divInt N D).num=N / g∧((Rat.divInt N D).den:Int)=D / g:=by
 have g1:g∣N:=by rw [←hg];exact Int.gcd_dvd_left ..
 have g2:g∣D:=by rw [←hg];exact Int.gcd_dvd_right ..
 have g0:g≠0:=fun e=>by rw [e] at g2;have:=Int.zero_dvd.1 g2;omega
 have hp:0<g:=by
  have:0≤g:=by rw [←hg];exact Int.natCast_nonneg _
  omega
 refine ⟨⟨g0,g1,g2⟩,?_⟩
 have e:=yZ (N:=N) hD
 rw [j5,hg,Int.fdiv_eq_ediv_of_nonneg _ (Int.le_of_lt hp),Int.fdiv_eq_ediv_of_nonneg _ (Int.le_of_lt hp)] at e
 exact e.2
theorem yY(hD:D<0) (hg:(Int.gcd N D:Int)=g):(-g≠0∧ -g∣N∧ -g∣D)∧(Rat.divInt N D).num=N / -g∧((Rat.divInt N D).den:Int)=D / -g:=by
 obtain ⟨⟨g0,g1,g2⟩,e1,e2⟩:=rV (N:= -N) (D:= -D) qO (g:=g) (by rw [←hg,Int.neg_gcd,Int.gcd_neg])
 rw [C3] at e1 e2
 rw [Int.dvd_neg] at g1 g2
 refine ⟨⟨by omega,Int.neg_dvd.2 g1,Int.neg_dvd.2 g2⟩,?_,?_⟩
 ·rw [e1,Int.ediv_neg,Int.neg_ediv_of_dvd g1]
 ·rw [e2,Int.ediv_neg,Int.neg_ediv_of_dvd g2]
theorem Lq.inv(hl:Lq p L) (hp:p≠0):Lq p⁻¹ L:=by
 have hn:p.num≠0:=fun h=>hp (Rat.num_eq_zero.1 h)
 have h1:=hl.1
 have h2:=hl.2
 rcases Int.lt_or_lt_of_ne hn with h|h
 ·obtain ⟨e1,e2⟩:=xl p h
  exact ⟨by rw [e1];omega,by rw [e2];omega⟩
 ·obtain ⟨e1,e2⟩:=wV p h
  exact ⟨by rw [e1];omega,by rw [e2];omega⟩
theorem va(h:(ai.qc q L).holds X w v):Lq q L:=by
 obtain ⟨x,⟨_,hl⟩,_⟩:=h
 exact hl
theorem Gf(h:(ai.qa q L).holds X w v):∃ x,qv x=q∧(ai.qx x L).holds X w v:=by
 obtain ⟨x,⟨h1,h2⟩,g⟩:=h
 exact ⟨x,h1,x,⟨rfl,h2⟩,g⟩
theorem Fi(h:(ai.qx x L).holds X w v):0<L:=by
 obtain ⟨y,h2,g⟩:=h
 exact h2.2.2.2
theorem IG(e:p=q) (v:Value) (h:(ai.qn p L B).holds X w v):(ai.qn q L B).holds X w v:=by rw [←e];exact h
theorem Io(hM:M≠0) (hd:M∣N) (hl:(N.natAbs:Int)<4294967296^L) (v:Value) (h:(ai.nn (N.fdiv M) (L+1) B).holds X w v):(ai.nn (N / M) L B).holds X w v:=by
 have e:N.fdiv M=N / M:=Int.fdiv_eq_ediv_of_dvd hd
 obtain ⟨x,⟨h1,_⟩,g⟩:=h
 rw [e] at h1
 refine ⟨x,⟨h1,?_⟩,g⟩
 have:=Int.natAbs_ediv_le_natAbs N M
 omega
class zk (T:ai) (q:outParam Rat) (L:outParam Nat):Prop where
 ok:∀ {X w v},T.holds X w v→(ai.qc q L).holds X w v
instance {q:Rat} {L:Nat}:zk (.qc q L) q L:=⟨fun h=>h⟩
instance {q:Rat} {L B:Nat}:zk (.qn q L B) q L:=⟨fun h=>mC h⟩
class Cu (T:ai) (N:outParam Int) (L:outParam Nat):Prop where
 ok:∀ {X w v},T.holds X w v→(ai.nc N L).holds X w v
instance {N:Int} {L:Nat}:Cu (.nc N L) N L:=⟨fun h=>h⟩
instance {N:Int} {L B:Nat}:Cu (.nn N L B) N L:=⟨fun h=>nC h⟩
def ai.n1 (N:Int) (L:Nat):ai:=⟨fun X w v=>∃ (x:gp) (cs:List Value) (b:Nat),iv x=N∧x.2.length≤L∧v= .slice (some ⟨b,0,none⟩) 1 1∧cZ X w b∧w.rangeAt b 0 cs∧Rp.num.rd w (cZ X w) x cs,
 fun ⟨x,cs,b,h1,h2,e,hb,h3,h4⟩ hk hX=>⟨x,cs,b,h1,h2,e,cZ.mono hk hX b hb,iK h3 (hk.block b hb.1 hb.2),Rp.num.up h4 hk hX⟩⟩
section
variable {w00:World} {N:Nat} {L:List Loc} {E:List (Nat×ai)} {d:Nat} {t0:TypeId} {pos:String} {af:Array Edge} {gd:Option (Nat×Bool)} {ats:Array TypeId}
theorem gP[b_ E o0 T0] [a0:my T0 N0 L0] [b_ E o1 T1] [a1:my T1 M K] (hE:g9 w00) (hb:L0≤1000∧K≤1000):
 aR Tryz.prog w00 N L E ⟨some d, .call { callee:= .value (.func 251),args:= #[o0,o1],argTypes:=ats },t0,pos,af,gd⟩ (.nn (Int.gcd N0 M:Int) (max L0 K) w00.heap.size):=by
 rw [←j5]
 exact EA hE hb
theorem dZ:aR Tryz.prog w00 N L E ⟨some d, .build 40 #[],t0,pos,af,gd⟩ .q0:=by
 constructor
 intro X ρ w hc _ hN hm hsl
 have hT:ai.q0.holds X w (.agg #[.bool false, .slice none 0 0, .bool false, .slice none 0 0]):=⟨_,rfl,[.bool false, .slice none 0 0]++[.bool false, .slice none 0 0],rfl,_,_,rfl,dc.2 ⟨none,0,0,rfl,⟨Sl.nil,fun h=>by omega⟩,Dg.nil⟩,dc.2 ⟨none,0,0,rfl,⟨Sl.nil,fun h=>by omega⟩,Dg.nil⟩⟩
 have HT:=Lib.hid hT
 clear hT hsl hm hc
 unfold Yields
 go_simp
 exact ⟨HT.out,Below.refl _ _⟩
theorem nU{D0:Int} [h0:b_ E o0 T0] [a0:Cu T0 N0 L0] [h1:b_ E o1 T1] [a1:Cu T1 D0 K0]:aR Tryz.prog w00 N L E ⟨some d, .build 40 #[(0,o0),(1,o1)],t0,pos,af,gd⟩ (.nd N0 D0 (max L0 K0)):=by
 constructor
 intro X ρ w hc _ hN hm hsl
 obtain ⟨x,⟨p1,p2⟩,cs,e0,g0⟩:=a0.ok (h0.get (X:=X) (w:=w) hc fun p hp e=>hsl p hp qS)
 obtain ⟨y,⟨q1,q2⟩,ds,e1,g1⟩:=a1.ok (h1.get (X:=X) (w:=w) hc fun p hp e=>hsl p hp qS)
 obtain ⟨A,n,c,rfl,_⟩:=dc.1 g0
 obtain ⟨A2,n2,c2,rfl,_⟩:=dc.1 g1
 have hT:(ai.nd N0 D0 (max L0 K0)).holds X w (.agg #[.bool x.1, .slice A n c, .bool y.1, .slice A2 n2 c2]):=
  ⟨(x,y),⟨p1,q1,Int.lt_of_lt_of_le p2 (bz qD qO),Int.lt_of_lt_of_le q2 (bz qD qO)⟩,[.bool x.1, .slice A n c]++[.bool y.1, .slice A2 n2 c2],rfl,_,_,rfl,g0,g1⟩
 have HT:=Lib.hid hT
 clear hT hsl hm hc p1 p2 q1 q2 g0 g1 h0 h1 a0 a1
 unfold Yields
 go_simp
 exact ⟨HT.out,Below.refl _ _⟩
theorem FW[h0:b_ E o0 T0] [a0:my T0 N0 L0]:aR Tryz.prog w00 N L E ⟨some d, .buildSlice 385 1 #[(0,o0)],t0,pos,af,gd⟩ (.n1 N0 L0):=by
 constructor
 intro X ρ w hc _ hN hm hsl
 obtain ⟨x,⟨h1,h2⟩,cs,e0,g⟩:=a0.ok (h0.get (X:=X) (w:=w) hc fun p hp e=>hsl p hp qS)
 obtain ⟨A,n,c,rfl,hs,hd⟩:=dc.1 g
 have hT:(ai.n1 N0 L0).holds X (w.alloc (.cells #[.bool x.1, .slice A n c] 38)) (.slice (some ⟨w.heap.size,0,none⟩) 1 1):=by
  refine ⟨x,[.bool x.1, .slice A n c],w.heap.size,h1,h2,rfl,⟨by rw [aX];exact Nat.lt_succ_self _,fun h=>by have:=hm.far _ h;omega⟩,fun j v hv=> ?_,Rp.num.up g (Below.keeps ((Below.refl _ _).alloc (Nat.le_refl _) _) X) fun _ h _=>h⟩
  rw [Nat.zero_add]
  exact eX (iw _ _) (by simpa using hv)
 have HT:=Lib.hid hT
 clear hT hsl hm hc g hs hd h0 a0
 unfold Yields
 go_simp
 exact ⟨HT.out,(Below.refl _ _).alloc (Nat.le_refl _) _⟩
theorem GM:bE Tryz.prog 252:=fun _ _=>by kernel_rfl
theorem C_[h0:b_ E o0 (.n1 N0 L0)] (hb:L0≤1000):aR Tryz.prog w00 N L E ⟨some d, .call { callee:= .value (.func 252),args:= #[o0],argTypes:=ats },t0,pos,af,gd⟩ (.nn N0 L0 w00.heap.size):=
 vL GM fun X w v0 hX _ hB h0=>by
  obtain ⟨x,cs,b,rfl,h2,rfl,hb',h3,h4⟩:=h0
  obtain ⟨A,n,c,rfl,hs,hd⟩:=dc.1 h4
  have hS:mq w w.heap.size (some ⟨b,0,none⟩) 1 1 [x]:=⟨rfl,Nat.le_refl _,by unfold maxLen;omega,(fun h=>by cases h),fun _=>⟨b,0,rfl,hb'.1,fun j u zs hz=>by
   have hj:j<1:=(List.getElem?_eq_some_iff.1 hz).1
   obtain rfl:j=0:=qO
   have hz':x=(u,zs):=by simpa using hz
   subst hz'
   exact ⟨A,n,c,h3 0 _ rfl,h3 1 _ rfl,hs.1⟩⟩⟩
  have hv:jB [x]=iv x:=by simp [jB,iv]
  have hl:((iv x).natAbs:Int)<4294967296^L0:=by
   have:(ai.na (iv x) L0).holds X w (.agg #[.bool x.1, .slice A n c]):=⟨x,⟨rfl,h2⟩,_,rfl,h4⟩
   exact j9 this
  refine (uk (L:=L0) hS (Nat.le_refl _) (fun p hp=>by rw [List.mem_singleton.1 hp];exact hd) (fun p hp=>by rw [List.mem_singleton.1 hp];exact h2) qO qO).mono fun e w' h=> ?_
  rw [hv] at h
  exact (h.givesN hX hl).imp fun v hv=>i6 hv hB.size
end
theorem Gg(hE:g9 w) (hX:∀ b∈X,b<w.heap.size) (h0:(ai.na N0 L0).holds X w v0) (h1:(ai.na M0 K0).holds X w v1) (hb:L0≤1000∧K0≤1000) (hM:M0≠0) (hd:M0∣N0)  :
 Calls Tryz.prog 257 #[v0,v1] w (cE X w (.nn (N0 / M0) L0 w.heap.size)):=by
 have l0:=j9 h0
 refine dm (Ts:=[.na N0 L0, .na M0 K0]) (vs:=[v0,v1]) Tryz.func257 rfl Tryz.ntmps257 qE hX ⟨h0,h1,trivial⟩ ?_
 clear h0 h1 hX
 simp only [bf,Nat.zero_add,Nat.reduceAdd]
 repeat' first|kernel_rfl|apply aF|apply aG|apply aI|apply aD|apply aH|apply aA|apply aE|apply be|apply aq|apply a_|apply a8|apply aB|refine fm rfl ?_|apply bc|exact CD hE qO qL|exact aj|exact ab|exact ah|exact aJ|exact ae|exact ⟨fun _ _=>(Io hM hd l0)⟩|exact Cv.rfl'|intro _
theorem H4:bE Tryz.prog 257:=fun _ _=>by kernel_rfl
section
variable {w00:World} {N:Nat} {L:List Loc} {E:List (Nat×ai)} {d:Nat} {t0:TypeId} {pos:String} {af:Array Edge} {gd:Option (Nat×Bool)} {ats:Array TypeId}
theorem Cd[b_ E o0 T0] [a0:my T0 N0 L0] [b_ E o1 T1] [a1:my T1 M0 K0] (hE:g9 w00) (hb:L0≤1000∧K0≤1000) (hM:M0≠0) (hd:M0∣N0):
 aR Tryz.prog w00 N L E ⟨some d, .call { callee:= .value (.func 257),args:= #[o0,o1],argTypes:=ats },t0,pos,af,gd⟩ (.nn (N0 / M0) L0 w00.heap.size):=
 yt H4 fun X w v0 v1 hX _ hB h0 h1=>(Gg (hE.below hB) hX (a0.ok h0) (a1.ok h1) hb hM hd).mono fun e w' h=>h.imp fun _ g=>i6 g hB.size
end
theorem sa(hE:g9 w) (hX:∀ b∈X,b<w.heap.size) {k0:Int} (h0:(ai.is (.int .i64 k0)).holds X w v0) (hk: -9223372036854775808≤k0∧k0≤9223372036854775807)  :
 Calls Tryz.prog 178 #[v0] w (cE X w (.qn (k0:Rat) 2 w.heap.size)):=by
 refine dm (Ts:=[.is (.int .i64 k0)]) (vs:=[v0]) Tryz.func178 rfl Tryz.ntmps178 qE hX ⟨h0,trivial⟩ ?_
 clear h0 hX
 simp only [bf,Nat.zero_add,Nat.reduceAdd]
 repeat' first|kernel_rfl|apply aF|apply aG|apply aI|apply aD|apply aH|apply aA|apply aE|apply be|apply aq|apply a_|apply a8|apply aB|refine fm rfl ?_|apply bc|exact ji qO|exact kU|exact aj|exact ⟨fun _ _=>(pV rfl rfl (Lq.whole hk))⟩|exact Cv.rfl'|intro _
theorem B_:bE Tryz.prog 178:=fun _ _=>by kernel_rfl
section
variable {w00:World} {N:Nat} {L:List Loc} {E:List (Nat×ai)} {d:Nat} {t0:TypeId} {pos:String} {af:Array Edge} {gd:Option (Nat×Bool)} {ats:Array TypeId}
theorem Bl{k0:Int} [b_ E o0 (.is (.int .i64 k0))] (hE:g9 w00) (hk: -9223372036854775808≤k0∧k0≤9223372036854775807):
 aR Tryz.prog w00 N L E ⟨some d, .call { callee:= .value (.func 178),args:= #[o0],argTypes:=ats },t0,pos,af,gd⟩ (.qn (k0:Rat) 2 w00.heap.size):=
 vL B_ fun X w v0 hX _ hB h0=>(sa (hE.below hB) hX h0 hk).mono fun e w' h=>h.imp fun _ g=>mP g hB.size
end
theorem rI(hE:g9 w) (hX:∀ b∈X,b<w.heap.size) (h0:(ai.qx x L).holds X w v0) (hb:L≤1000)  :
 Calls Tryz.prog 212 #[v0] w (cE X w (.is (.bool (pO x)))):=by
 have key:pO x=(mz x.1.1 x.1.2&&mz x.2.1 x.2.2&&decide (0<eP (iv x.2) 0)&&(eP (Int.gcd (iv x.1) (iv x.2):Int) 1==0)):=by
  unfold pO
  have e1:decide (0<eP (iv x.2) 0)=decide (0<iv x.2):=by simp only [un]
  have e2:(eP (Int.gcd (iv x.1) (iv x.2):Int) 1==0)=((Int.gcd (iv x.1) (iv x.2):Int)==1):=by
   have:=rH (a:=(Int.gcd (iv x.1) (iv x.2):Int)) (b:=1)
   rw [Bool.eq_iff_iff]
   simp only [beq_iff_eq,this]
  rw [e1,e2,j5]
 cases e1:mz x.1.1 x.1.2 with
 |false=>
  have e:pO x=false:=by rw [key];simp [e1]
  clear key
  refine dm (Ts:=[.qx x L]) (vs:=[v0]) Tryz.func212 rfl Tryz.ntmps212 qE hX ⟨h0,trivial⟩ ?_
  clear h0 hX
  simp only [bf,Nat.zero_add,Nat.reduceAdd]
  repeat' first|kernel_rfl|apply aF|apply aG|apply aI|apply aD|apply aH|apply aA|apply aE|refine bw rfl inferInstance (by first|exact f9 (by assumption)|exact gP hE (by omega)|exact eZ (by omega)|exact i8 (by omega)|exact ji (by omega)|exact ah|exact aa|exact au (by first|assumption|rfl)|exact ay (by first|assumption|rfl)|exact ae) qK ?_|refine bZ rfl inferInstance rfl qK ?_|refine bW rfl inferInstance qK ?_|apply be|apply aq|apply a_|apply a8|apply aB|refine fm rfl ?_|apply bc|exact f9 qL|exact gP hE qO|exact eZ qO|exact i8 qO|exact ji qO|exact aj|exact ab|exact ah|exact aa|exact aQ|exact aW|exact au qG|exact ay qG|exact ae|exact ⟨fun _ _=>(qd (congrArg Value.bool e.symm))⟩|exact Cv.rfl'|intro _
 |true=>
 cases e2:mz x.2.1 x.2.2 with
 |false=>
  have e:pO x=false:=by rw [key];simp [e1,e2]
  clear key
  refine dm (Ts:=[.qx x L]) (vs:=[v0]) Tryz.func212 rfl Tryz.ntmps212 qE hX ⟨h0,trivial⟩ ?_
  clear h0 hX
  simp only [bf,Nat.zero_add,Nat.reduceAdd]
  repeat' first|kernel_rfl|apply aF|apply aG|apply aI|apply aD|apply aH|apply aA|apply aE|refine bw rfl inferInstance (by first|exact f9 (by assumption)|exact gP hE (by omega)|exact eZ (by omega)|exact i8 (by omega)|exact ji (by omega)|exact ah|exact aa|exact au (by first|assumption|rfl)|exact ay (by first|assumption|rfl)|exact ae) qK ?_|refine bZ rfl inferInstance rfl qK ?_|refine bW rfl inferInstance qK ?_|apply be|apply aq|apply a_|apply a8|apply aB|refine fm rfl ?_|apply bc|exact f9 qL|exact gP hE qO|exact eZ qO|exact i8 qO|exact ji qO|exact aj|exact ab|exact ah|exact aa|exact aQ|exact aW|exact au qG|exact ay qG|exact ae|exact ⟨fun _ _=>(qd (congrArg Value.bool e.symm))⟩|exact Cv.rfl'|intro _
 |true=>
 cases e3:decide (0<eP (iv x.2) 0) with
 |false=>
  have e:pO x=false:=by rw [key];simp [e1,e2,e3]
  clear key
  refine dm (Ts:=[.qx x L]) (vs:=[v0]) Tryz.func212 rfl Tryz.ntmps212 qE hX ⟨h0,trivial⟩ ?_
  clear h0 hX
  simp only [bf,Nat.zero_add,Nat.reduceAdd]
  repeat' first|kernel_rfl|apply aF|apply aG|apply aI|apply aD|apply aH|apply aA|apply aE|refine bw rfl inferInstance (by first|exact f9 (by assumption)|exact gP hE (by omega)|exact eZ (by omega)|exact i8 (by omega)|exact ji (by omega)|exact ah|exact aa|exact au (by first|assumption|rfl)|exact ay (by first|assumption|rfl)|exact ae) qK ?_|refine bZ rfl inferInstance rfl qK ?_|refine bW rfl inferInstance qK ?_|apply be|apply aq|apply a_|apply a8|apply aB|refine fm rfl ?_|apply bc|exact f9 qL|exact gP hE qO|exact eZ qO|exact i8 qO|exact ji qO|exact aj|exact ab|exact ah|exact aa|exact aQ|exact aW|exact au qG|exact ay qG|exact ae|exact ⟨fun _ _=>(qd (congrArg Value.bool e.symm))⟩|exact Cv.rfl'|intro _
 |true=>
 cases e4:(eP (Int.gcd (iv x.1) (iv x.2):Int) 1==0) with
 |false=>
  have e:pO x=false:=by rw [key];simp [e1,e2,e3,e4]
  clear key
  refine dm (Ts:=[.qx x L]) (vs:=[v0]) Tryz.func212 rfl Tryz.ntmps212 qE hX ⟨h0,trivial⟩ ?_
  clear h0 hX
  simp only [bf,Nat.zero_add,Nat.reduceAdd]
  repeat' first|kernel_rfl|apply aF|apply aG|apply aI|apply aD|apply aH|apply aA|apply aE|refine bw rfl inferInstance (by first|exact f9 (by assumption)|exact gP hE (by omega)|exact eZ (by omega)|exact i8 (by omega)|exact ji (by omega)|exact ah|exact aa|exact au (by first|assumption|rfl)|exact ay (by first|assumption|rfl)|exact ae) qK ?_|refine bZ rfl inferInstance rfl qK ?_|refine bW rfl inferInstance qK ?_|apply be|apply aq|apply a_|apply a8|apply aB|refine fm rfl ?_|apply bc|exact f9 qL|exact gP hE qO|exact eZ qO|exact i8 qO|exact ji qO|exact aj|exact ab|exact ah|exact aa|exact aQ|exact aW|exact au qG|exact ay qG|exact ae|exact ⟨fun _ _=>(qd (congrArg Value.bool e.symm))⟩|exact Cv.rfl'|intro _
 |true=>
  have e:pO x=true:=by rw [key];simp [e1,e2,e3,e4]
  clear key
  refine dm (Ts:=[.qx x L]) (vs:=[v0]) Tryz.func212 rfl Tryz.ntmps212 qE hX ⟨h0,trivial⟩ ?_
  clear h0 hX
  simp only [bf,Nat.zero_add,Nat.reduceAdd]
  repeat' first|kernel_rfl|apply aF|apply aG|apply aI|apply aD|apply aH|apply aA|apply aE|refine bw rfl inferInstance (by first|exact f9 (by assumption)|exact gP hE (by omega)|exact eZ (by omega)|exact i8 (by omega)|exact ji (by omega)|exact ah|exact aa|exact au (by first|assumption|rfl)|exact ay (by first|assumption|rfl)|exact ae) qK ?_|refine bZ rfl inferInstance rfl qK ?_|refine bW rfl inferInstance qK ?_|apply be|apply aq|apply a_|apply a8|apply aB|refine fm rfl ?_|apply bc|exact f9 qL|exact gP hE qO|exact eZ qO|exact i8 qO|exact ji qO|exact aj|exact ab|exact ah|exact aa|exact aQ|exact aW|exact au qG|exact ay qG|exact ae|exact ⟨fun _ _=>(qd (congrArg Value.bool e.symm))⟩|exact Cv.rfl'|intro _
theorem BM:bE Tryz.prog 212:=fun _ _=>by kernel_rfl
section
variable {w00:World} {N:Nat} {L:List Loc} {E:List (Nat×ai)} {d:Nat} {t0:TypeId} {pos:String} {af:Array Edge} {gd:Option (Nat×Bool)} {ats:Array TypeId}
theorem vx{u:Bool} [b_ E o0 (.qx x L0)] (hE:g9 w00) (hb:L0≤1000) (hu:pO x=u):
 aR Tryz.prog w00 N L E ⟨some d, .call { callee:= .value (.func 212),args:= #[o0],argTypes:=ats },t0,pos,af,gd⟩ (.is (.bool u)):=by
 rw [←hu]
 exact vL BM fun X w v0 hX _ hB h0=>rI (hE.below hB) hX h0 hb
end
theorem vd(hE:g9 w) (hX:∀ b∈X,b<w.heap.size) (h0:(ai.qa p L0).holds X w v0) (hb:L0≤1000)  :
 Calls Tryz.prog 214 #[v0] w (cE X w (.qc p L0)):=by
 obtain ⟨x,rfl,g0⟩:=Gf h0
 clear h0
 have h0:=g0
 have hp:=Fi g0
 clear g0
 cases hq:pO x with
 |true=>
  refine dm (Ts:=[.qx x L0]) (vs:=[v0]) Tryz.func214 rfl Tryz.ntmps214 qE hX ⟨h0,trivial⟩ ?_
  clear h0 hX
  simp only [bf,Nat.zero_add,Nat.reduceAdd]
  repeat' first|kernel_rfl|apply aF|apply aG|apply aI|apply aD|apply aH|apply aA|apply aE|apply be|apply aq|apply a_|apply a8|apply aB|refine fm rfl ?_|apply bc|exact vx hE qO hq|exact ah|exact ak (b:=true) (u:=false) rfl|exact ak (b:=false) (u:=true) rfl|exact ak rfl|exact ae|exact ⟨fun _ _=>fun _ g=>Hz hq g⟩|exact Cv.rfl'|intro _
 |false=>
  have hz:((0:Int):Rat)=qv x:=(tV hq).symm
  have hl:Lq (qv x) L0:=by rw [tV hq];exact Lq.zero.mono hp
  refine dm (Ts:=[.qx x L0]) (vs:=[v0]) Tryz.func214 rfl Tryz.ntmps214 qE hX ⟨h0,trivial⟩ ?_
  clear h0 hX
  simp only [bf,Nat.zero_add,Nat.reduceAdd]
  repeat' first|kernel_rfl|apply aF|apply aG|apply aI|apply aD|apply aH|apply aA|apply aE|apply be|apply aq|apply a_|apply a8|apply aB|refine fm rfl ?_|apply bc|exact vx hE qO hq|exact Bl hE qD|exact ah|exact ak (b:=true) (u:=false) rfl|exact ak (b:=false) (u:=true) rfl|exact ak rfl|exact ae|exact ⟨fun _ _=>fun v g=>Hg hz hl v (mC g)⟩|exact Cv.rfl'|intro _
theorem wa:bE Tryz.prog 214:=fun _ _=>by kernel_rfl
section
variable {w00:World} {N:Nat} {L:List Loc} {E:List (Nat×ai)} {d:Nat} {t0:TypeId} {pos:String} {af:Array Edge} {gd:Option (Nat×Bool)} {ats:Array TypeId}
theorem je[b_ E o0 T0] [a0:qV T0 p L0] (hE:g9 w00) (hb:L0≤1000):
 aR Tryz.prog w00 N L E ⟨some d, .call { callee:= .value (.func 214),args:= #[o0],argTypes:=ats },t0,pos,af,gd⟩ (.qc p L0):=
 vL wa fun X w v0 hX _ hB h0=>(vd (hE.below hB) hX (a0.ok h0) hb)
end
theorem wg(hE:g9 w) (hX:∀ b∈X,b<w.heap.size) (h0:(ai.qc p L0).holds X w v0) (hb:L0≤1000)  :
 Calls Tryz.prog 216 #[v0] w (cE X w (.qc (-p) L0)):=by
 have hl0:=va h0
 refine dm (Ts:=[.qc p L0]) (vs:=[v0]) Tryz.func216 rfl Tryz.ntmps216 qE hX ⟨h0,trivial⟩ ?_
 clear h0 hX
 simp only [bf,Nat.zero_add,Nat.reduceAdd]
 repeat' first|kernel_rfl|apply aF|apply aG|apply aI|apply b9 (id:=1) [] [] 6|apply bQ|apply de|exact bT.nil|exact aZ.nil|exact aY.nil|apply aD|apply aH|apply aA|apply aE|apply be|apply aq|apply a_|apply a8|apply aB|refine fm rfl ?_|apply bc|exact m5 qO|exact nU|exact ah|exact aa|exact ae|exact ⟨fun _ _=>(Bi rfl rfl hl0.neg)⟩|exact Cv.rfl'|(intro _;simp only[cP,cQ,cS,List.map,List.cons_append,List.nil_append])|intro _
theorem zd:bE Tryz.prog 216:=fun _ _=>by kernel_rfl
section
variable {w00:World} {N:Nat} {L:List Loc} {E:List (Nat×ai)} {d:Nat} {t0:TypeId} {pos:String} {af:Array Edge} {gd:Option (Nat×Bool)} {ats:Array TypeId}
theorem yA[b_ E o0 T0] [a0:zk T0 p L0] (hE:g9 w00) (hb:L0≤1000):
 aR Tryz.prog w00 N L E ⟨some d, .call { callee:= .value (.func 216),args:= #[o0],argTypes:=ats },t0,pos,af,gd⟩ (.qc (-p) L0):=
 vL zd fun X w v0 hX _ hB h0=>(wg (hE.below hB) hX (a0.ok h0) hb)
end
theorem p_(hE:g9 w) (hX:∀ b∈X,b<w.heap.size) (h0:(ai.qc p L0).holds X w v0) (hb:L0≤1000) (hp:p≠0)  :
 Calls Tryz.prog 238 #[v0] w (cE X w (.qc p⁻¹ L0)):=by
 have hl0:=va h0
 have hn:p.num≠0:=fun h=>hp (Rat.num_eq_zero.1 h)
 have hli:=Lq.inv hl0 hp
 rcases Int.lt_or_lt_of_ne hn with hs|hs
 ·have hc0:decide (eP p.num 0<0)=true:=by rw [fN hs];rfl
  obtain ⟨e1,e2⟩:=xl p hs
  refine dm (Ts:=[.qc p L0]) (vs:=[v0]) Tryz.func238 rfl Tryz.ntmps238 qE hX ⟨h0,trivial⟩ ?_
  clear h0 hX
  simp only [bf,Nat.zero_add,Nat.reduceAdd]
  repeat' first|kernel_rfl|apply aF|apply aG|apply aI|apply b9 (id:=2) [] [] 7|apply bQ|apply de|exact bT.nil|exact aZ.nil|exact aY.nil|apply aD|apply aH|apply aA|apply aE|apply be|apply aq|apply a_|apply a8|apply aB|refine fm rfl ?_|apply bc|exact m5 qO|exact eZ qO|exact nU|exact ah|exact aa|exact bu qG|exact ae|exact ⟨fun _ _=>(Bi e1 e2 hli)⟩|exact Cv.rfl'|(intro _;simp only[cP,cQ,cS,List.map,List.cons_append,List.nil_append])|intro _
 ·have hc0:decide (eP p.num 0<0)=false:=by rw [iJ hs];rfl
  obtain ⟨e1,e2⟩:=wV p hs
  refine dm (Ts:=[.qc p L0]) (vs:=[v0]) Tryz.func238 rfl Tryz.ntmps238 qE hX ⟨h0,trivial⟩ ?_
  clear h0 hX
  simp only [bf,Nat.zero_add,Nat.reduceAdd]
  repeat' first|kernel_rfl|apply aF|apply aG|apply aI|apply b9 (id:=2) [] [] 7|apply bQ|apply de|exact bT.nil|exact aZ.nil|exact aY.nil|apply aD|apply aH|apply aA|apply aE|apply be|apply aq|apply a_|apply a8|apply aB|refine fm rfl ?_|apply bc|exact m5 qO|exact eZ qO|exact nU|exact ah|exact aa|exact bu qG|exact ae|exact ⟨fun _ _=>(Bi e1 e2 hli)⟩|exact Cv.rfl'|(intro _;simp only[cP,cQ,cS,List.map,List.cons_append,List.nil_append])|intro _
theorem rg:bE Tryz.prog 238:=fun _ _=>by kernel_rfl
section
variable {w00:World} {N:Nat} {L:List Loc} {E:List (Nat×ai)} {d:Nat} {t0:TypeId} {pos:String} {af:Array Edge} {gd:Option (Nat×Bool)} {ats:Array TypeId}
theorem rn[b_ E o0 T0] [a0:zk T0 p L0] (hE:g9 w00) (hb:L0≤1000) (hp:p≠0):
 aR Tryz.prog w00 N L E ⟨some d, .call { callee:= .value (.func 238),args:= #[o0],argTypes:=ats },t0,pos,af,gd⟩ (.qc p⁻¹ L0):=
 vL rg fun X w v0 hX _ hB h0=>(p_ (hE.below hB) hX (a0.ok h0) hb hp)
end
theorem s5(hE:g9 w) (hX:∀ b∈X,b<w.heap.size) (h0:(ai.qc p L0).holds X w v0) (h1:(ai.qc q K0).holds X w v1) (hb:L0≤450∧K0≤450)  :
 Calls Tryz.prog 218 #[v0,v1] w (cE X w (.is (.int .i64 (gb p q)))):=by
 refine dm (Ts:=[.qc p L0, .qc q K0]) (vs:=[v0,v1]) Tryz.func218 rfl Tryz.ntmps218 qE hX ⟨h0,h1,trivial⟩ ?_
 clear h0 h1 hX
 simp only [bf,Nat.zero_add,Nat.reduceAdd]
 repeat' first|kernel_rfl|apply aF|apply aG|apply aI|apply b9 (id:=1) [] [] 11|apply bQ|apply de|exact bT.nil|exact aZ.nil|exact aY.nil|apply aD|apply aH|apply aA|apply aE|apply be|apply aq|apply a_|apply a8|apply aB|refine fm rfl ?_|apply bc|exact Fo qO|exact i8 qO|exact ab|exact ah|exact aa|exact ae|exact ⟨fun _ _=>(qd (by rw [uJ]))⟩|exact Cv.rfl'|(intro _;simp only[cP,cQ,cS,List.map,List.cons_append,List.nil_append])|intro _
theorem uE:bE Tryz.prog 218:=fun _ _=>by kernel_rfl
section
variable {w00:World} {N:Nat} {L:List Loc} {E:List (Nat×ai)} {d:Nat} {t0:TypeId} {pos:String} {af:Array Edge} {gd:Option (Nat×Bool)} {ats:Array TypeId}
theorem uv[b_ E o0 T0] [a0:zk T0 p L0] [b_ E o1 T1] [a1:zk T1 q K0] (hE:g9 w00) (hb:L0≤450∧K0≤450):
 aR Tryz.prog w00 N L E ⟨some d, .call { callee:= .value (.func 218),args:= #[o0,o1],argTypes:=ats },t0,pos,af,gd⟩ (.is (.int .i64 (gb p q))):=
 yt uE fun X w v0 v1 hX _ hB h0 h1=>(s5 (hE.below hB) hX (a0.ok h0) (a1.ok h1) hb)
end
theorem nF(hE:g9 w) (hX:∀ b∈X,b<w.heap.size) (h0:(ai.qc p L0).holds X w v0) (h1:(ai.qc q K0).holds X w v1) (hb:L0≤450∧K0≤450)  :
 Calls Tryz.prog 219 #[v0,v1] w (cE X w (.qn (p*q) (L0+K0) w.heap.size)):=by
 have hl0:=va h0
 have hl1:=va h1
 obtain ⟨⟨x1,x2,x3⟩,⟨y1,y2,y3⟩,en,ed⟩:=wj p q rfl rfl
 refine dm (Ts:=[.qc p L0, .qc q K0]) (vs:=[v0,v1]) Tryz.func219 rfl Tryz.ntmps219 qE hX ⟨h0,h1,trivial⟩ ?_
 clear h0 h1 hX
 simp only [bf,Nat.zero_add,Nat.reduceAdd]
 repeat' first|kernel_rfl|apply aF|apply aG|apply aI|apply b9 (id:=1) [] [] 12|apply b9 (id:=2) [] [] 19|apply bQ|apply de|exact bT.nil|exact aZ.nil|exact aY.nil|apply aD|apply aH|apply aA|apply aE|apply be|apply aq|apply a_|apply a8|apply aB|refine fm rfl ?_|apply bc|exact CB qO|exact gP hE qO|exact Cd hE qO qL qL|exact kU|exact ah|exact aa|exact ae|exact ⟨fun _ _=>(pV en ed (hl0.mul hl1))⟩|exact Cv.rfl'|(intro _;simp only[cP,cQ,cS,List.map,List.cons_append,List.nil_append])|intro _
theorem pi:bE Tryz.prog 219:=fun _ _=>by kernel_rfl
section
variable {w00:World} {N:Nat} {L:List Loc} {E:List (Nat×ai)} {d:Nat} {t0:TypeId} {pos:String} {af:Array Edge} {gd:Option (Nat×Bool)} {ats:Array TypeId}
theorem kG[b_ E o0 T0] [a0:zk T0 p L0] [b_ E o1 T1] [a1:zk T1 q K0] (hE:g9 w00) (hb:L0≤450∧K0≤450):
 aR Tryz.prog w00 N L E ⟨some d, .call { callee:= .value (.func 219),args:= #[o0,o1],argTypes:=ats },t0,pos,af,gd⟩ (.qn (p*q) (L0+K0) w00.heap.size):=
 yt pi fun X w v0 v1 hX _ hB h0 h1=>(nF (hE.below hB) hX (a0.ok h0) (a1.ok h1) hb).mono fun e w' h=>h.imp fun _ g=>mP g hB.size
end
section
variable {w00:World} {N:Nat} {L:List Loc} {E:List (Nat×ai)} {d:Nat} {t0:TypeId} {pos:String} {af:Array Edge} {gd:Option (Nat×Bool)} {ats:Array TypeId}
end
theorem vX(hE:g9 w) (hX:∀ b∈X,b<w.heap.size) (h0:(ai.qc p L0).holds X w v0) (hb:L0≤1000)  :
 Calls Tryz.prog 215 #[v0] w (cE X w (.qn p L0 w.heap.size)):=by
 have hl0:=va h0
 refine dm (Ts:=[.qc p L0]) (vs:=[v0]) Tryz.func215 rfl Tryz.ntmps215 qE hX ⟨h0,trivial⟩ ?_
 clear h0 hX
 simp only [bf,Nat.zero_add,Nat.reduceAdd]
 repeat' first|kernel_rfl|apply aF|apply aG|apply aI|apply b9 (id:=1) [] [] 9|apply bQ|apply de|exact bT.nil|exact aZ.nil|exact aY.nil|apply aD|apply aH|apply aA|apply aE|apply be|apply aq|apply a_|apply a8|apply aB|refine fm rfl ?_|apply bc|exact FW|exact C_ qO|exact kU|exact ah|exact aa|exact ae|exact ⟨fun _ _=>(pV rfl rfl hl0)⟩|exact Cv.rfl'|(intro _;simp only[cP,cQ,cS,List.map,List.cons_append,List.nil_append])|intro _
theorem yd:bE Tryz.prog 215:=fun _ _=>by kernel_rfl
section
variable {w00:World} {N:Nat} {L:List Loc} {E:List (Nat×ai)} {d:Nat} {t0:TypeId} {pos:String} {af:Array Edge} {gd:Option (Nat×Bool)} {ats:Array TypeId}
theorem y8[b_ E o0 T0] [a0:zk T0 p L0] (hE:g9 w00) (hb:L0≤1000):
 aR Tryz.prog w00 N L E ⟨some d, .call { callee:= .value (.func 215),args:= #[o0],argTypes:=ats },t0,pos,af,gd⟩ (.qn p L0 w00.heap.size):=
 vL yd fun X w v0 hX _ hB h0=>(vX (hE.below hB) hX (a0.ok h0) hb).mono fun e w' h=>h.imp fun _ g=>mP g hB.size
end
theorem xI(hE:g9 w) (hX:∀ b∈X,b<w.heap.size) (h0:(ai.na N0 L0).holds X w v0) (h1:(ai.na M0 K0).holds X w v1) (hb:L0≤500∧K0≤500) (hD:M0≠0)  :
 Calls Tryz.prog 273 #[v0,v1] w (cE X w (.tup [.qn (Rat.divInt N0 M0) (max L0 K0) w.heap.size, .is (.int .i64 0)])):=by
 have l0:=j9 h0
 have l1:=j9 h1
 have hK:0<K0:=by
  rcases Nat.eq_zero_or_pos K0 with h|h
  ·subst h
   simp at l1
   omega
  ·exact h
 have hL:Lq (Rat.divInt N0 M0) (max L0 K0):=Lq.divInt (Int.lt_of_lt_of_le l0 (bz qD qO)) (Int.lt_of_lt_of_le l1 (bz qD qO)) qO
 clear l0 l1 hK
 rcases Int.lt_or_lt_of_ne hD with hs|hs
 ·have hc0:(eP M0 0==0)=false:=by rw [fN hs];rfl
  have hc1:decide (eP M0 0<0)=true:=by rw [fN hs];rfl
  obtain ⟨⟨x1,x2,x3⟩,en,ed⟩:=yY (N:=N0) hs rfl
  refine dm (Ts:=[.na N0 L0, .na M0 K0]) (vs:=[v0,v1]) Tryz.func273 rfl Tryz.ntmps273 qE hX ⟨h0,h1,trivial⟩ ?_
  clear h0 h1 hX
  simp only [bf,Nat.zero_add,Nat.reduceAdd]
  repeat' first|kernel_rfl|apply aF|apply aG|apply aI|apply b9 (id:=6) [] [] 7|apply bQ|apply de|exact bT.nil|exact aZ.nil|exact aY.nil|apply aD|apply aH|apply aA|apply aE|apply be|apply aq|apply a_|apply a8|apply aB|refine oI rfl ?_|apply bc|exact gP hE qO|exact m5 qO|exact eZ qO|exact Cd hE qO qL qL|exact kU|exact ab|exact ah|exact au qG|exact bu qG|exact ae|exact ⟨fun _ _=>(cM (pV en ed hL) fun _ h=>h)⟩|exact Cv.rfl'|(intro _;simp only[cP,cQ,cS,List.map,List.cons_append,List.nil_append])|intro _
 ·have hc0:(eP M0 0==0)=false:=by rw [iJ hs];rfl
  have hc1:decide (eP M0 0<0)=false:=by rw [iJ hs];rfl
  obtain ⟨⟨x1,x2,x3⟩,en,ed⟩:=rV (N:=N0) hs rfl
  refine dm (Ts:=[.na N0 L0, .na M0 K0]) (vs:=[v0,v1]) Tryz.func273 rfl Tryz.ntmps273 qE hX ⟨h0,h1,trivial⟩ ?_
  clear h0 h1 hX
  simp only [bf,Nat.zero_add,Nat.reduceAdd]
  repeat' first|kernel_rfl|apply aF|apply aG|apply aI|apply b9 (id:=6) [] [] 7|apply bQ|apply de|exact bT.nil|exact aZ.nil|exact aY.nil|apply aD|apply aH|apply aA|apply aE|apply be|apply aq|apply a_|apply a8|apply aB|refine oI rfl ?_|apply bc|exact gP hE qO|exact m5 qO|exact eZ qO|exact Cd hE qO qL qL|exact kU|exact ab|exact ah|exact au qG|exact bu qG|exact ae|exact ⟨fun _ _=>(cM (pV en ed hL) fun _ h=>h)⟩|exact Cv.rfl'|(intro _;simp only[cP,cQ,cS,List.map,List.cons_append,List.nil_append])|intro _
theorem F0:bE Tryz.prog 273:=fun _ _=>by kernel_rfl
section
variable {w00:World} {N:Nat} {L:List Loc} {E:List (Nat×ai)} {d:Nat} {t0:TypeId} {pos:String} {af:Array Edge} {gd:Option (Nat×Bool)} {ats:Array TypeId}
theorem Fm[b_ E o0 T0] [a0:my T0 N0 L0] [b_ E o1 T1] [a1:my T1 M0 K0] (hE:g9 w00) (hb:L0≤500∧K0≤500) (hD:M0≠0):
 aR Tryz.prog w00 N L E ⟨some d, .call { callee:= .value (.func 273),args:= #[o0,o1],argTypes:=ats },t0,pos,af,gd⟩ (.tup [.qn (Rat.divInt N0 M0) (max L0 K0) w00.heap.size, .is (.int .i64 0)]):=
 yt F0 fun X w v0 v1 hX _ hB h0 h1=>(xI (hE.below hB) hX (a0.ok h0) (a1.ok h1) hb hD).mono fun e w' h=>h.imp (cM (fun _ g=>mP g hB.size) fun _ h=>h)
end
section
variable {w00:World} {N:Nat} {L:List Loc} {E:List (Nat×ai)} {d:Nat} {t0:TypeId} {pos:String} {af:Array Edge} {gd:Option (Nat×Bool)} {ats:Array TypeId}
end
section
variable {w00:World} {N:Nat} {L:List Loc} {E:List (Nat×ai)} {d:Nat} {t0:TypeId} {pos:String} {af:Array Edge} {gd:Option (Nat×Bool)} {ats:Array TypeId}
end
section
variable {w00:World} {N:Nat} {L:List Loc} {E:List (Nat×ai)} {d:Nat} {t0:TypeId} {pos:String} {af:Array Edge} {gd:Option (Nat×Bool)} {ats:Array TypeId}
end
section
variable {w00:World} {N:Nat} {L:List Loc} {E:List (Nat×ai)} {d:Nat} {t0:TypeId} {pos:String} {af:Array Edge} {gd:Option (Nat×Bool)} {ats:Array TypeId}
end
section
variable {w00:World} {N:Nat} {L:List Loc} {E:List (Nat×ai)} {d:Nat} {t0:TypeId} {pos:String} {af:Array Edge} {gd:Option (Nat×Bool)} {ats:Array TypeId}
end
theorem DC(hE:g9 w) (hX:∀ b∈X,b<w.heap.size) (h0:(ai.qa p L0).holds X w v0) (h1:(ai.qa q K0).holds X w v1) (hb:L0≤90∧K0≤90)  :
 Calls Tryz.prog 180 #[v0,v1] w (cE X w (.qn (p*q) (L0+K0) w.heap.size)):=by
 refine dm (Ts:=[.qa p L0, .qa q K0]) (vs:=[v0,v1]) Tryz.func180 rfl Tryz.ntmps180 qE hX ⟨h0,h1,trivial⟩ ?_
 clear h0 h1 hX
 simp only [bf,Nat.zero_add,Nat.reduceAdd]
 repeat' first|kernel_rfl|apply aF|apply aG|apply aI|apply b9 (id:=1) [] [] 5|apply bQ|apply de|exact bT.nil|exact aZ.nil|exact aY.nil|apply aD|apply aH|apply aA|apply aE|apply be|apply aq|apply a_|apply a8|apply aB|refine fm rfl ?_|apply bc|exact je hE qO|exact kG hE qO|exact ah|exact ae|exact Cv.rfl'|(intro _;simp only[cP,cQ,cS,List.map,List.cons_append,List.nil_append])|intro _
section
variable {w00:World} {N:Nat} {L:List Loc} {E:List (Nat×ai)} {d:Nat} {t0:TypeId} {pos:String} {af:Array Edge} {gd:Option (Nat×Bool)} {ats:Array TypeId}
end
theorem El(hE:g9 w) (hX:∀ b∈X,b<w.heap.size) (h0:(ai.qa p L0).holds X w v0) (h1:(ai.qa q K0).holds X w v1) (hb:L0≤90∧K0≤90) (hq:q≠0)  :
 Calls Tryz.prog 198 #[v0,v1] w (cE X w (.tup [.qn (p / q) (L0+K0) w.heap.size, .is (.int .i64 0)])):=by
 have hc0:(eP q.num 0==0)=false:=by
  have:q.num≠0:=fun h=>hq (Rat.num_eq_zero.1 h)
  rw [beq_eq_false_iff_ne]
  exact fun h=>this (rH.1 h)
 refine dm (Ts:=[.qa p L0, .qa q K0]) (vs:=[v0,v1]) Tryz.func198 rfl Tryz.ntmps198 qE hX ⟨h0,h1,trivial⟩ ?_
 clear h0 h1 hX
 simp only [bf,Nat.zero_add,Nat.reduceAdd]
 repeat' first|kernel_rfl|apply aF|apply aG|apply aI|apply b9 (id:=4) [] [] 5|apply bQ|apply de|exact bT.nil|exact aZ.nil|exact aY.nil|apply aD|apply aH|apply aA|apply aE|apply be|apply aq|apply a_|apply a8|apply aB|refine oI rfl ?_|apply bc|exact je hE qO|exact eZ qO|exact rn hE qO hq|exact kG hE qO|exact dZ|exact ab|exact ah|exact aa|exact au qG|exact ae|exact ⟨fun _ _=>(cM (IG (Rat.div_def ..).symm) fun _ h=>h)⟩|exact Cv.rfl'|(intro _;simp only[cP,cQ,cS,List.map,List.cons_append,List.nil_append])|intro _
theorem GP:bE Tryz.prog 198:=fun _ _=>by kernel_rfl
section
variable {w00:World} {N:Nat} {L:List Loc} {E:List (Nat×ai)} {d:Nat} {t0:TypeId} {pos:String} {af:Array Edge} {gd:Option (Nat×Bool)} {ats:Array TypeId}
theorem nG[b_ E o0 T0] [a0:qV T0 p L0] [b_ E o1 T1] [a1:qV T1 q K0] (hE:g9 w00) (hb:L0≤90∧K0≤90) (hq:q≠0):
 aR Tryz.prog w00 N L E ⟨some d, .call { callee:= .value (.func 198),args:= #[o0,o1],argTypes:=ats },t0,pos,af,gd⟩ (.tup [.qn (p / q) (L0+K0) w00.heap.size, .is (.int .i64 0)]):=
 yt GP fun X w v0 v1 hX _ hB h0 h1=>(El (hE.below hB) hX (a0.ok h0) (a1.ok h1) hb hq).mono fun e w' h=>h.imp (cM (fun _ g=>mP g hB.size) fun _ h=>h)
end
section
variable {w00:World} {N:Nat} {L:List Loc} {E:List (Nat×ai)} {d:Nat} {t0:TypeId} {pos:String} {af:Array Edge} {gd:Option (Nat×Bool)} {ats:Array TypeId}
end
theorem DG(hE:g9 w) (hX:∀ b∈X,b<w.heap.size) (h0:(ai.qa p L0).holds X w v0) (hb:L0≤90)  :
 Calls Tryz.prog 177 #[v0] w (cE X w (.qn (-p) L0 w.heap.size)):=by
 refine dm (Ts:=[.qa p L0]) (vs:=[v0]) Tryz.func177 rfl Tryz.ntmps177 qE hX ⟨h0,trivial⟩ ?_
 clear h0 hX
 simp only [bf,Nat.zero_add,Nat.reduceAdd]
 repeat' first|kernel_rfl|apply aF|apply aG|apply aI|apply aD|apply aH|apply aA|apply aE|apply be|apply aq|apply a_|apply a8|apply aB|refine fm rfl ?_|apply bc|exact je hE qO|exact yA hE qO|exact y8 hE qO|exact ah|exact ae|exact Cv.rfl'|intro _
section
variable {w00:World} {N:Nat} {L:List Loc} {E:List (Nat×ai)} {d:Nat} {t0:TypeId} {pos:String} {af:Array Edge} {gd:Option (Nat×Bool)} {ats:Array TypeId}
end
theorem CM(hE:g9 w) (hX:∀ b∈X,b<w.heap.size) (h0:(ai.qa p L0).holds X w v0) (h1:(ai.qa q K0).holds X w v1) (hb:L0≤90∧K0≤90)  :
 Calls Tryz.prog 179 #[v0,v1] w (cE X w (.is (.int .i64 (gb p q)))):=by
 refine dm (Ts:=[.qa p L0, .qa q K0]) (vs:=[v0,v1]) Tryz.func179 rfl Tryz.ntmps179 qE hX ⟨h0,h1,trivial⟩ ?_
 clear h0 h1 hX
 simp only [bf,Nat.zero_add,Nat.reduceAdd]
 repeat' first|kernel_rfl|apply aF|apply aG|apply aI|apply b9 (id:=1) [] [] 5|apply bQ|apply de|exact bT.nil|exact aZ.nil|exact aY.nil|apply aD|apply aH|apply aA|apply aE|apply be|apply aq|apply a_|apply a8|apply aB|refine fm rfl ?_|apply bc|exact je hE qO|exact uv hE qO|exact ab|exact ah|exact ae|exact Cv.rfl'|(intro _;simp only[cP,cQ,cS,List.map,List.cons_append,List.nil_append])|intro _
section
variable {w00:World} {N:Nat} {L:List Loc} {E:List (Nat×ai)} {d:Nat} {t0:TypeId} {pos:String} {af:Array Edge} {gd:Option (Nat×Bool)} {ats:Array TypeId}
end
theorem BZ(hE:g9 w) (hX:∀ b∈X,b<w.heap.size) (h0:(ai.qa p L0).holds X w v0) (hb:L0≤90)  :
 Calls Tryz.prog 176 #[v0] w (cE X w (.is (.int .i64 (gb p 0)))):=by
 refine dm (Ts:=[.qa p L0]) (vs:=[v0]) Tryz.func176 rfl Tryz.ntmps176 qE hX ⟨h0,trivial⟩ ?_
 clear h0 hX
 simp only [bf,Nat.zero_add,Nat.reduceAdd]
 repeat' first|kernel_rfl|apply aF|apply aG|apply aI|apply aD|apply aH|apply aA|apply aE|apply be|apply aq|apply a_|apply a8|apply aB|refine fm rfl ?_|apply bc|exact je hE qO|exact eZ qO|exact ab|exact ah|exact yw|exact ae|exact ⟨fun _ _=>(qd (by rw [←yi]))⟩|exact Cv.rfl'|intro _
section
variable {w00:World} {N:Nat} {L:List Loc} {E:List (Nat×ai)} {d:Nat} {t0:TypeId} {pos:String} {af:Array Edge} {gd:Option (Nat×Bool)} {ats:Array TypeId}
end
end Go.Proofs.YtcpeiijdgabenaaGreatDoor
