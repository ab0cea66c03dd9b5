/- tallageref03: Sign, Abs, Neg: what each call answers. -/
import Derived.Test.YtpmhjieibebclaaGreatDoorCD
import Derived.Test.YtpmhjieibebclaaGreatDoorCE
set_option maxHeartbeats 8000000
set_option maxRecDepth 20000
set_option linter.unusedSimpArgs false
set_option linter.unusedVariables false
namespace Go.Proofs.YtpmhjieibebclaaGreatDoor
open Go Go.RowKit
variable {n B c m c2:Nat} {xs ys:List Int} {w:World} {s t:Bool} {A A2:Option Addr} {V:Int}
theorem lW(hs:Sl .u32 w B A n c xs) (hB:B≤w.heap.size) (hx:Dg 4294967296 xs) (hn:n≤400000000):
 Calls Tryz.prog 125 #[.agg #[.bool s, .slice A n c]] w (Cw w (bp s xs) 0):=by
 have HX:=Lib.hid hx
 clear hx
 go_enter Tryz.func125,Tryz.ntmps125
 go_wp2_with fail
 refine (vC (hs.alloc hB _) (Sl.nil (B:=B)) qA HX.out Dg.nil hn qO).mono ?_
 rintro e w1 ⟨rfl,hb⟩
 rw [mY]
 have HB:=Lib.hid (cW hb)
 clear hb
 go_wp2_with fail
 go_ret
 exact ⟨rfl,HB.out⟩
theorem vk(hs:Sl .u32 w B A n c xs) (hB:B≤w.heap.size) (hx:Dg 4294967296 xs) (hn:n≤400000000):
 Calls Tryz.prog 127 #[.agg #[.bool s, .slice A n c]] w (d7 w (-(bp s xs))):=by
 have HX:=Lib.hid hx
 clear hx
 go_enter Tryz.func127,Tryz.ntmps127
 obtain ⟨s',A',n',c',xs',hpl⟩:=f9.ex s A n c xs
 obtain ⟨f1,f2,f3,f4,f5⟩:=hpl.facts hs HX.out
 have HP:=Lib.hid hpl
 have HF:=Lib.hid (And.intro f1 (And.intro f2 f4))
 have HN:=Lib.hid (show dz (!s') (val 4294967296 xs')= -(bp s xs) by rw [←f4];cases s'<;>simp [dz])
 have HS:=Lib.hid hs
 clear hpl f1 f2 f3 f4 hs
 go_wp2_with fail
 have hb0:Below w.heap.size w ((w.alloc (.cells #[.bool s, .slice A n c] 36)).alloc (.cells #[.bool false, .slice none 0 0] 36)):=((Below.refl _ _).alloc (Nat.le_refl _) _).alloc (by rw [ak];exact Nat.le_succ _) _
 obtain ⟨bX,bY,hlt,_⟩:=fP (w:=w) (v0:= .bool s) (v1:= .slice A n c) (u0:= .bool false) (u1:= .slice none 0 0) (t:=36) (t2:=36) (Below.refl _ _)
 generalize (w.alloc (.cells #[.bool s, .slice A n c] 36)).alloc (.cells #[.bool false, .slice none 0 0] 36)=W0 at hb0 bX bY hlt ⊢
 have B0:=Lib.hid hb0
 have BX:=Lib.hid bX
 have BY:=Lib.hid bY
 have HL:=Lib.hid hlt
 have hz:=hb0.size
 clear hb0 bX bY hlt
 refine dq [(1,aM.is (.pointer (some ⟨w.heap.size,0,none⟩))),(3,aM.is (.agg #[.bool s, .slice A n c])),(4,aM.is (.agg #[.bool s', .slice A' n' c'])),(5,aM.is (.bool s')),(6,aM.is (.bool (!s'))),(7,aM.is (.agg #[.bool s, .slice A n c])),(8,aM.is (.agg #[.bool s', .slice A' n' c'])),(9,aM.is (.slice A' n' c')),(10,aM.newI W0.heap.size (-(bp s xs)))]
  [1] [] 11 8 qK rfl qK rfl trivial ⟨rfl,trivial⟩ ?ok ?fin
 case ok=>
  repeat' first
   |exact bI.nil
   |refine bI.cons ?_ ?_
   |exact iB (fun _ _ h=>h) (aG BX.out.1 qH) (aG BX.out.2.1 qH) (fun _=>rfl)
   |exact xk (fun _ _ h=>h) (fun _=>rfl)
   |exact pV (fun _ _ h=>h) (fun _=>rfl)
   |exact DP (fun _ _ h=>h) (fun _=>rfl)
   |exact bA js (T0:=fun _ v=>v= .agg #[.bool s, .slice A n c]) (fun _ _ h=>h) (fun W v0 hb h0=>by
    subst h0
    refine (kz HP.out ((HS.out.below B0.out hB).below (hb.mono B0.out.size) hB) (Nat.le_trans hB (Nat.le_trans B0.out.size hb.size))).mono ?_
    rintro e w' ⟨rfl,hb'⟩
    exact ⟨⟨_,rfl,rfl⟩,hb'⟩)
   |exact bZ gj (T0:=fun _ v=>v= .bool (!s')) (T1:=fun _ v=>v= .slice A' n' c') (fun _ _ h=>h) (fun _ _ h=>h) (fun W v0 v1 hb h0 h1=>by
    subst h0
    subst h1
    refine (cR ((HF.out.1.below B0.out hB).below (hb.mono B0.out.size) hB) (Nat.le_trans hB (Nat.le_trans B0.out.size hb.size)) HF.out.2.1 qO).mono ?_
    rintro e w' ⟨sb,Y,A4,n4,c4,hW,rfl,ho,hb2⟩
    rw [HN.out] at hW
    exact ⟨⟨_,rfl,sb,Y,A4,n4,c4,rfl,hW,ho.lower hb.size⟩,hb2⟩)
 case fin=>
  intro v w' ho hb
  obtain ⟨sb,Y,A4,n4,c4,e10,hW,hO⟩:=ho.slot (d:=10) qF
  clear ho
  simp only [List.take,List.map_cons,List.map_nil,aK,Option.getD_some,bF,Act.put,List.setIfInBounds_toArray,List.set_cons_succ,List.set_cons_zero,e10]
  clear e10
  obtain ⟨q0,q1,q2,q3⟩:=ay.below BY.out hb HL.out
  have HW:=Lib.hid hW
  have HO:=Lib.hid hO
  have HB:=Lib.hid (B0.out.trans (hb.mono B0.out.size))
  clear hW hO hb
  go_wp2_with fail
  refine bodyPost_ret (v:= .agg #[.bool sb, .slice A4 n4 c4]) ?_ rfl (d7.put HW.out (Nat.le_succ _) HO.out HL.out HB.out)
  simp only [results,Tryz.results127]
  go_simp
theorem BO(hs:Sl .u32 w B A n c xs) (ht:Sl .u32 w B A2 m c2 ys) (hB:B≤w.heap.size) (hx:Dg 4294967296 xs) (hy:Dg 4294967296 ys) (hn:n≤10000000) (hm:m≤10000000):
 Calls Tryz.prog 135 #[.agg #[.bool s, .slice A n c], .agg #[.bool t, .slice A2 m c2]] w (d7 w (bp s xs*bp t ys)):=by
 have HX:=Lib.hid hx
 have HY:=Lib.hid hy
 generalize hN:bp s xs=N
 generalize hM:bp t ys=M
 have HN:=Lib.hid hN
 have HM:=Lib.hid hM
 clear hN hM hx hy
 go_enter Tryz.func135,Tryz.ntmps135
 go_wp2_with fail
 refine (fu (((hs.alloc hB _).alloc qA _).alloc qM _) (by rw [fl];omega) HX.out).mono ?_
 rintro e w1 ⟨sa,X,A3,n3,c3,rfl,sX,dX,rX,vX,lX,hb⟩
 obtain ⟨bX,bY,bR,hlt,hb1⟩:=ij hb
 rw [HN.out] at vX
 have bX2:=ay.put bX (.bool sa) (.slice A3 n3 c3)
 have bY2:=(ay.other bY (q:=w.heap.size) qO 0 (.bool sa)).other (q:=w.heap.size) qO 1 (.slice A3 n3 c3)
 have bR2:=(ay.other bR (q:=w.heap.size) qO 0 (.bool sa)).other (q:=w.heap.size) qO 1 (.slice A3 n3 c3)
 have sX2:=(sX.setCell (p:=⟨w.heap.size,0,none⟩) hB (.bool sa)).setCell (p:=⟨w.heap.size,1,none⟩) hB (.slice A3 n3 c3)
 have sY2:=((ht.below hb1 hB).setCell (p:=⟨w.heap.size,0,none⟩) hB (.bool sa)).setCell (p:=⟨w.heap.size,1,none⟩) hB (.slice A3 n3 c3)
 have hb2:=(hb1.setCell (p:=⟨w.heap.size,0,none⟩) (Nat.le_refl _) (.bool sa)).setCell (p:=⟨w.heap.size,1,none⟩) (Nat.le_refl _) (.slice A3 n3 c3)
 have hlt2:w.heap.size+2<((w1.setCell ⟨w.heap.size,0,none⟩ (.bool sa)).setCell ⟨w.heap.size,1,none⟩ (.slice A3 n3 c3)).heap.size:=by rw [cL,cL];exact hlt
 obtain ⟨p0,p1,p2,p3⟩:=bX
 obtain ⟨r0,r1,r2,r3⟩:=bY
 clear hb hb1 hs ht sX bR
 go_wp2_with fail
 generalize (w1.setCell ⟨w.heap.size,0,none⟩ (.bool sa)).setCell ⟨w.heap.size,1,none⟩ (.slice A3 n3 c3)=W at bX2 bY2 bR2 sX2 sY2 hb2 hlt2 ⊢
 clear p0 p1 p2 p3 r0 r1 r2 r3 hlt
 refine (fu sY2 (Nat.le_trans hB hb2.size) HY.out).mono ?_
 rintro e w2 ⟨sb,Y,A4,n4,c4,rfl,sY,dY,rY,vY,lY,hb⟩
 rw [HM.out] at vY
 have bX3:=bX2.below hb qO
 have bY3:=bY2.below hb qO
 have bR3:=bR2.below hb qO
 have sX4:=((sX2.below hb (Nat.le_trans hB hb2.size)).setCell (p:=⟨w.heap.size+1,0,none⟩) (show B≤w.heap.size+1 by omega) (.bool sb)).setCell (p:=⟨w.heap.size+1,1,none⟩) (show B≤w.heap.size+1 by omega) (.slice A4 n4 c4)
 have sY4:=((sY).setCell (p:=⟨w.heap.size+1,0,none⟩) (show B≤w.heap.size+1 by omega) (.bool sb)).setCell (p:=⟨w.heap.size+1,1,none⟩) (show B≤w.heap.size+1 by omega) (.slice A4 n4 c4)
 have hb4:=((hb2.trans (hb.mono hb2.size)).setCell (p:=⟨w.heap.size+1,0,none⟩) (Nat.le_succ _) (.bool sb)).setCell (p:=⟨w.heap.size+1,1,none⟩) (Nat.le_succ _) (.slice A4 n4 c4)
 have hlt4:w.heap.size+2<((w2.setCell ⟨w.heap.size+1,0,none⟩ (.bool sb)).setCell ⟨w.heap.size+1,1,none⟩ (.slice A4 n4 c4)).heap.size:=by rw [cL,cL];exact Nat.lt_of_lt_of_le hlt2 hb.size
 have bY4:=ay.put bY3 (.bool sb) (.slice A4 n4 c4)
 have bX4:=(ay.other bX3 (q:=w.heap.size+1) qO 0 (.bool sb)).other (q:=w.heap.size+1) qO 1 (.slice A4 n4 c4)
 have bR4:=(ay.other bR3 (q:=w.heap.size+1) qO 0 (.bool sb)).other (q:=w.heap.size+1) qO 1 (.slice A4 n4 c4)
 clear bX2 bY2 bR2 sX2 sY2 hb2 hlt2 sY hb
 obtain ⟨p0,p1,p2,p3⟩:=bX3
 obtain ⟨r0,r1,r2,r3⟩:=bY3
 clear bR3
 go_wp2_with fail
 generalize (w2.setCell ⟨w.heap.size+1,0,none⟩ (.bool sb)).setCell ⟨w.heap.size+1,1,none⟩ (.slice A4 n4 c4)=W0 at bX4 bY4 bR4 sX4 sY4 hb4 hlt4 ⊢
 clear p0 p1 p2 p3 r0 r1 r2 r3
 have hvn:=Lib.hid (show dz (sa != sb) (val 4294967296 X*val 4294967296 Y)=N*M by rw [←vX,←vY,pB])
 have SX:=Lib.hid sX4
 have SY:=Lib.hid sY4
 have DX:=Lib.hid dX
 have DY:=Lib.hid dY
 have BX:=Lib.hid bX4
 have BY:=Lib.hid bY4
 have BR:=Lib.hid bR4
 have B0:=Lib.hid hb4
 have HL:=Lib.hid hlt4
 clear sX4 sY4 dX dY bX4 bY4 bR4 hb4 hlt4 vX vY rX rY
 refine dq [(2,aM.is (.pointer (some ⟨w.heap.size,0,none⟩))),(3,aM.is (.pointer (some ⟨w.heap.size+1,0,none⟩))),(9,aM.is (.pointer (some ⟨w.heap.size,0,none⟩))),(10,aM.is (.bool sa)),(11,aM.is (.pointer (some ⟨w.heap.size+1,0,none⟩))),(12,aM.is (.bool sb)),(13,aM.is (.bool (sa != sb))),
  (14,aM.is (.pointer (some ⟨w.heap.size,1,none⟩))),(15,aM.is (.slice A3 n3 c3)),(16,aM.half (val 4294967296 X) (2*n3)),(17,aM.is (.pointer (some ⟨w.heap.size+1,1,none⟩))),(18,aM.is (.slice A4 n4 c4)),(19,aM.half (val 4294967296 Y) (2*n4)),
  (20,aM.half (val 4294967296 X*val 4294967296 Y) (2*n3+2*n4)),(21,aM.nat (val 4294967296 X*val 4294967296 Y) (2*n3+2*n4)),(22,aM.newI W0.heap.size (N*M))]
  [2,3] [] 23 14 qK rfl qK rfl trivial ⟨rfl,rfl,trivial⟩ ?ok ?fin
 case ok=>
  repeat' first
   |exact bI.nil
   |refine bI.cons ?_ ?_
   |exact oy (fun _ _ h=>h) (fun _=>rfl)
   |exact ob (fun _ _ h=>h) (fun _=>rfl)
   |exact g_ (fun _ _ h=>h) (aG BX.out.1 qH) (fun _=>rfl)
   |exact g_ (fun _ _ h=>h) (aG BY.out.1 qH) (fun _=>rfl)
   |exact g9 (fun _ _ h=>h) (aG BX.out.2.1 qH) (fun _=>rfl)
   |exact g9 (fun _ _ h=>h) (aG BY.out.2.1 qH) (fun _=>rfl)
   |exact xK (fun _ _ h=>h) (fun _ _ h=>h) (fun _=>rfl)
   |exact bA eE (T0:=fun _ v=>v= .slice A3 n3 c3) (fun _ _ h=>h) (fun W v0 hb h0=>by
    subst h0
    have hz:=B0.out.size
    have sl:=SX.out.below (hb.mono hz) hB
    refine (f8 sl (Nat.le_trans hB (Nat.le_trans hz hb.size)) DX.out qO).mono ?_
    rintro e w' ⟨zs,A5,n5,c5,hr,rfl,ho,hb'⟩
    exact ⟨⟨_,rfl,A5,n5,c5,zs,rfl,ho.sl,hr,by have:=eV sl.len DX.out hr;have:=ho.len;omega⟩,hb'⟩)
   |exact bA eE (T0:=fun _ v=>v= .slice A4 n4 c4) (fun _ _ h=>h) (fun W v0 hb h0=>by
    subst h0
    have hz:=B0.out.size
    have sl:=SY.out.below (hb.mono hz) hB
    refine (f8 sl (Nat.le_trans hB (Nat.le_trans hz hb.size)) DY.out qO).mono ?_
    rintro e w' ⟨zs,A5,n5,c5,hr,rfl,ho,hb'⟩
    exact ⟨⟨_,rfl,A5,n5,c5,zs,rfl,ho.sl,hr,by have:=eV sl.len DY.out hr;have:=ho.len;omega⟩,hb'⟩)
   |exact bZ ro (T0:=(aM.half (val 4294967296 X) (2*n3)).holds) (T1:=(aM.half (val 4294967296 Y) (2*n4)).holds) (fun _ _ h=>h) (fun _ _ h=>h) (fun W v0 v1 hb h0 h1=>by
    obtain ⟨A5,n5,c5,us,rfl,s5,r5,l5⟩:=h0
    obtain ⟨A6,n6,c6,vs,rfl,s6,r6,l6⟩:=h1
    refine (p4 s5 s6 (Nat.le_refl _) r5.dg r6.dg qO qO).mono ?_
    rintro e w' ⟨zs,A7,n7,c7,hr,rfl,ho,hb'⟩
    have hle:zs.length≤2*n3+2*n4:=by
     refine hr.len_le qD ?_
     have h1:=bQ (β:=65536) qD r5.dg
     have h2:=bQ (β:=65536) qD r6.dg
     have h3:=am (β:=65536) qD r5.dg
     have h4:=am (β:=65536) qD r6.dg
     have h5:val 65536 us*val 65536 vs<65536^us.length*65536^vs.length:=Int.lt_of_le_of_lt (Int.mul_le_mul_of_nonneg_left (Int.le_of_lt h2) h3) (Int.mul_lt_mul_of_pos_right h1 (aI qD _))
     rw [←Int.pow_add] at h5
     exact Int.lt_of_lt_of_le h5 (aP qD (by have:=s5.len;have:=s6.len;omega))
    rw [r5.val,r6.val] at hr
    exact ⟨⟨_,rfl,A7,n7,c7,zs,rfl,ho.sl,hr,by have:=ho.len;omega⟩,hb'⟩)
   |exact bA jm (T0:=(aM.half (val 4294967296 X*val 4294967296 Y) (2*n3+2*n4)).holds) (fun _ _ h=>h) (fun W v0 hb h0=>by
    obtain ⟨A5,n5,c5,us,rfl,s5,r5,l5⟩:=h0
    refine (kd s5 (Nat.le_refl _) r5.dg qO).mono ?_
    rintro e w' ⟨zs,A7,n7,c7,hd,hv,hl,rfl,ho,hb'⟩
    rw [r5.val] at hv
    exact ⟨⟨_,rfl,A7,n7,c7,zs,rfl,ho.sl,hd,hv,by omega⟩,hb'⟩)
   |exact bZ gj (T0:=fun _ v=>v= .bool (sa != sb)) (T1:=(aM.nat (val 4294967296 X*val 4294967296 Y) (2*n3+2*n4)).holds) (fun _ _ h=>h) (fun _ _ h=>h) (fun W v0 v1 hb h0 h1=>by
    subst h0
    obtain ⟨A5,n5,c5,us,rfl,s5,d5,v5,l5⟩:=h1
    refine (cR s5 (Nat.le_refl _) d5 qO).mono ?_
    rintro e w' ⟨sc,Z,A7,n7,c7,hW,rfl,ho,hb2⟩
    rw [v5,hvn.out] at hW
    exact ⟨⟨_,rfl,sc,Z,A7,n7,c7,rfl,hW,ho.lower hb.size⟩,hb2⟩)
 case fin=>
  intro v w' ho hb
  obtain ⟨sc,Z,A7,n7,c7,e10,hW,hO⟩:=ho.slot (d:=22) qF
  clear ho
  simp only [List.take,List.map_cons,List.map_nil,aK,Option.getD_some,bF,Act.put,List.setIfInBounds_toArray,List.set_cons_succ,List.set_cons_zero,e10]
  clear e10
  obtain ⟨q0,q1,q2,q3⟩:=ay.below BR.out hb HL.out
  have HW:=Lib.hid hW
  have HO:=Lib.hid hO
  have HB:=Lib.hid (B0.out.trans (hb.mono B0.out.size))
  clear hW hO hb
  go_wp2_with fail
  refine bodyPost_ret (v:= .agg #[.bool sc, .slice A7 n7 c7]) ?_ rfl (d7.put HW.out qO HO.out HL.out HB.out)
  simp only [results,Tryz.results135]
  go_simp
theorem rE:aJ Tryz.prog 176:=fun _ _=>by kernel_rfl
theorem El{zs:List Int} (hx:Dg 4294967296 xs) (hy:Dg 4294967296 ys) (h1:xs.length=n) (h2:ys.length=m) (h:fZ 4294967296 (val 4294967296 xs+val 4294967296 ys) zs):zs.length≤n+m+1:=by
 refine h.len_le qD ?_
 have a:=Int.lt_of_lt_of_le (bQ (β:=4294967296) qD hx) (aP qD (show xs.length≤n+m by omega))
 have b:=Int.lt_of_lt_of_le (bQ (β:=4294967296) qD hy) (aP qD (show ys.length≤n+m by omega))
 rw [Int.pow_succ]
 have:=aI (show (0:Int)<4294967296 by decide) (n+m)
 omega
theorem vF{zs:List Int} {y:Int} (hx:Dg 4294967296 xs) (h1:xs.length=n) (hy:0≤y) (h:fZ 4294967296 (val 4294967296 xs - y) zs):zs.length≤n:=by
 refine h.len_le qD ?_
 have a:=bQ (β:=4294967296) qD hx
 rw [h1] at a
 omega
theorem p6(hs:Sl .u32 w B A n c xs) (ht:Sl .u32 w B A2 m c2 ys) (hB:B≤w.heap.size) (hx:Dg 4294967296 xs) (hy:Dg 4294967296 ys) (hn:n≤100000000) (hm:m≤100000000):
 Calls Tryz.prog 157 #[.agg #[.bool s, .slice A n c], .agg #[.bool t, .slice A2 m c2]] w (d7 w (bp s xs+bp t ys)):=by
 have HX:=Lib.hid hx
 have HY:=Lib.hid hy
 generalize hN:bp s xs=N
 generalize hM:bp t ys=M
 have HN:=Lib.hid hN
 have HM:=Lib.hid hM
 clear hN hM hx hy
 go_enter Tryz.func157,Tryz.ntmps157
 go_wp2_with fail
 refine (fu (((hs.alloc hB _).alloc qA _).alloc qM _) (by rw [fl];omega) HX.out).mono ?_
 rintro e w1 ⟨sa,X,A3,n3,c3,rfl,sX,dX,rX,vX,lX,hb⟩
 obtain ⟨bX,bY,bR,hlt,hb1⟩:=ij hb
 rw [HN.out] at vX
 have bX2:=ay.put bX (.bool sa) (.slice A3 n3 c3)
 have bY2:=(ay.other bY (q:=w.heap.size) qO 0 (.bool sa)).other (q:=w.heap.size) qO 1 (.slice A3 n3 c3)
 have bR2:=(ay.other bR (q:=w.heap.size) qO 0 (.bool sa)).other (q:=w.heap.size) qO 1 (.slice A3 n3 c3)
 have sX2:=(sX.setCell (p:=⟨w.heap.size,0,none⟩) hB (.bool sa)).setCell (p:=⟨w.heap.size,1,none⟩) hB (.slice A3 n3 c3)
 have sY2:=((ht.below hb1 hB).setCell (p:=⟨w.heap.size,0,none⟩) hB (.bool sa)).setCell (p:=⟨w.heap.size,1,none⟩) hB (.slice A3 n3 c3)
 have hb2:=(hb1.setCell (p:=⟨w.heap.size,0,none⟩) (Nat.le_refl _) (.bool sa)).setCell (p:=⟨w.heap.size,1,none⟩) (Nat.le_refl _) (.slice A3 n3 c3)
 have hlt2:w.heap.size+2<((w1.setCell ⟨w.heap.size,0,none⟩ (.bool sa)).setCell ⟨w.heap.size,1,none⟩ (.slice A3 n3 c3)).heap.size:=by rw [cL,cL];exact hlt
 obtain ⟨p0,p1,p2,p3⟩:=bX
 obtain ⟨r0,r1,r2,r3⟩:=bY
 clear hb hb1 hs ht sX bR
 go_wp2_with fail
 generalize (w1.setCell ⟨w.heap.size,0,none⟩ (.bool sa)).setCell ⟨w.heap.size,1,none⟩ (.slice A3 n3 c3)=W at bX2 bY2 bR2 sX2 sY2 hb2 hlt2 ⊢
 clear p0 p1 p2 p3 r0 r1 r2 r3 hlt
 refine (fu sY2 (Nat.le_trans hB hb2.size) HY.out).mono ?_
 rintro e w2 ⟨sb,Y,A4,n4,c4,rfl,sY,dY,rY,vY,lY,hb⟩
 rw [HM.out] at vY
 have bX3:=bX2.below hb qO
 have bY3:=bY2.below hb qO
 have bR3:=bR2.below hb qO
 have sX4:=((sX2.below hb (Nat.le_trans hB hb2.size)).setCell (p:=⟨w.heap.size+1,0,none⟩) (show B≤w.heap.size+1 by omega) (.bool sb)).setCell (p:=⟨w.heap.size+1,1,none⟩) (show B≤w.heap.size+1 by omega) (.slice A4 n4 c4)
 have sY4:=((sY).setCell (p:=⟨w.heap.size+1,0,none⟩) (show B≤w.heap.size+1 by omega) (.bool sb)).setCell (p:=⟨w.heap.size+1,1,none⟩) (show B≤w.heap.size+1 by omega) (.slice A4 n4 c4)
 have hb4:=((hb2.trans (hb.mono hb2.size)).setCell (p:=⟨w.heap.size+1,0,none⟩) (Nat.le_succ _) (.bool sb)).setCell (p:=⟨w.heap.size+1,1,none⟩) (Nat.le_succ _) (.slice A4 n4 c4)
 have hlt4:w.heap.size+2<((w2.setCell ⟨w.heap.size+1,0,none⟩ (.bool sb)).setCell ⟨w.heap.size+1,1,none⟩ (.slice A4 n4 c4)).heap.size:=by rw [cL,cL];exact Nat.lt_of_lt_of_le hlt2 hb.size
 have bY4:=ay.put bY3 (.bool sb) (.slice A4 n4 c4)
 have bX4:=(ay.other bX3 (q:=w.heap.size+1) qO 0 (.bool sb)).other (q:=w.heap.size+1) qO 1 (.slice A4 n4 c4)
 have bR4:=(ay.other bR3 (q:=w.heap.size+1) qO 0 (.bool sb)).other (q:=w.heap.size+1) qO 1 (.slice A4 n4 c4)
 clear bX2 bY2 bR2 sX2 sY2 hb2 hlt2 sY hb
 obtain ⟨p0,p1,p2,p3⟩:=bX3
 obtain ⟨r0,r1,r2,r3⟩:=bY3
 clear bR3
 have LX:=sX4.len
 have LY:=sY4.len
 have SX:=Lib.hid sX4
 have SY:=Lib.hid sY4
 have DX:=Lib.hid dX
 have DY:=Lib.hid dY
 have BX:=Lib.hid bX4
 have BY:=Lib.hid bY4
 have BR:=Lib.hid bR4
 have B0:=Lib.hid hb4
 have HL:=Lib.hid hlt4
 have VX:=Lib.hid vX
 have VY:=Lib.hid vY
 have x0:=am (β:=4294967296) qD dX
 have y0:=am (β:=4294967296) qD dY
 clear sX4 sY4 dX dY bX4 bY4 bR4 hb4 hlt4 vX vY rX rY
 by_cases hsame:sa=sb
 ·subst hsame
  have hvn:=Lib.hid (show dz sa (val 4294967296 X+val 4294967296 Y)=N+M by rw [←VX.out,←VY.out,FH])
  have heq:(sa==sa)=true:=by cases sa<;>rfl
  go_wp2_with fail
  generalize (w2.setCell ⟨w.heap.size+1,0,none⟩ (.bool sa)).setCell ⟨w.heap.size+1,1,none⟩ (.slice A4 n4 c4)=W0 at BX BY BR SX SY B0 HL ⊢
  clear p0 p1 p2 p3 r0 r1 r2 r3
  refine dq [(2,aM.is (.pointer (some ⟨w.heap.size,0,none⟩))),(3,aM.is (.pointer (some ⟨w.heap.size+1,0,none⟩))),(16,aM.is (.pointer (some ⟨w.heap.size,0,none⟩))),(17,aM.is (.bool sa)),(18,aM.is (.pointer (some ⟨w.heap.size,1,none⟩))),(19,aM.is (.slice A3 n3 c3)),
   (20,aM.is (.pointer (some ⟨w.heap.size+1,1,none⟩))),(21,aM.is (.slice A4 n4 c4)),(22,aM.nat (val 4294967296 X+val 4294967296 Y) (n3+n4+1)),(23,aM.newI W0.heap.size (N+M))]
   [2,3] [] 50 8 qK rfl qK rfl trivial ⟨rfl,rfl,trivial⟩ ?ok ?fin
  case ok=>
   repeat' first
    |exact bI.nil
    |refine bI.cons ?_ ?_
    |exact oy (fun _ _ h=>h) (fun _=>rfl)
    |exact ob (fun _ _ h=>h) (fun _=>rfl)
    |exact g_ (fun _ _ h=>h) (aG BX.out.1 qH) (fun _=>rfl)
    |exact g9 (fun _ _ h=>h) (aG BX.out.2.1 qH) (fun _=>rfl)
    |exact g9 (fun _ _ h=>h) (aG BY.out.2.1 qH) (fun _=>rfl)
    |exact bZ rE (T0:=fun _ v=>v= .slice A3 n3 c3) (T1:=fun _ v=>v= .slice A4 n4 c4) (fun _ _ h=>h) (fun _ _ h=>h) (fun W v0 v1 hb h0 h1=>by
     subst h0
     subst h1
     have hz:=B0.out.size
     refine (xf (SX.out.below (hb.mono hz) hB) (SY.out.below (hb.mono hz) hB) (Nat.le_trans hB (Nat.le_trans hz hb.size)) DX.out DY.out qO qO).mono ?_
     rintro e w' ⟨zs,hr,A5,n5,c5,rfl,ho,hb'⟩
     exact ⟨⟨_,rfl,A5,n5,c5,zs,rfl,ho.sl,hr.dg,hr.val,by have:=El DX.out DY.out LX LY hr;have:=ho.len;omega⟩,hb'⟩)
    |exact bZ gj (T0:=fun _ v=>v= .bool sa) (T1:=(aM.nat (val 4294967296 X+val 4294967296 Y) (n3+n4+1)).holds) (fun _ _ h=>h) (fun _ _ h=>h) (fun W v0 v1 hb h0 h1=>by
     subst h0
     obtain ⟨A5,n5,c5,us,rfl,s5,d5,v5,l5⟩:=h1
     refine (cR s5 (Nat.le_refl _) d5 qO).mono ?_
     rintro e w' ⟨sc,Z,A7,n7,c7,hW,rfl,ho,hb2⟩
     rw [v5,hvn.out] at hW
     exact ⟨⟨_,rfl,sc,Z,A7,n7,c7,rfl,hW,ho.lower hb.size⟩,hb2⟩)
  case fin=>
   intro v w' ho hb
   obtain ⟨sc,Z,A7,n7,c7,e10,hW,hO⟩:=ho.slot (d:=23) qF
   clear ho
   simp only [List.take,List.map_cons,List.map_nil,aK,Option.getD_some,bF,Act.put,List.setIfInBounds_toArray,List.set_cons_succ,List.set_cons_zero,e10]
   clear e10
   obtain ⟨q0,q1,q2,q3⟩:=ay.below BR.out hb HL.out
   have HW:=Lib.hid hW
   have HO:=Lib.hid hO
   have HB:=Lib.hid (B0.out.trans (hb.mono B0.out.size))
   clear hW hO hb
   go_wp2_with fail
   refine bodyPost_ret (v:= .agg #[.bool sc, .slice A7 n7 c7]) ?_ rfl (d7.put HW.out qO HO.out HL.out HB.out)
   simp only [results,Tryz.results157]
   go_simp
 ·have hne:(sa==sb)=false:=by cases sa<;>cases sb<;>simp_all
  have hvn:=CH hsame (val 4294967296 X) (val 4294967296 Y)
  rw [VX.out,VY.out] at hvn
  have HV:=Lib.hid hvn
  clear hvn hsame
  go_wp2_with fail
  generalize (w2.setCell ⟨w.heap.size+1,0,none⟩ (.bool sb)).setCell ⟨w.heap.size+1,1,none⟩ (.slice A4 n4 c4)=W0 at BX BY BR SX SY B0 HL ⊢
  clear p0 p1 p2 p3 r0 r1 r2 r3
  have hz:=B0.out.size
  by_cases hle:val 4294967296 Y≤val 4294967296 X
  ·refine (qm SX.out SY.out (Nat.le_trans hB hz) DX.out DY.out qO qO hle).mono ?_
   rintro e w3 ⟨zs,A5,n5,c5,hr,rfl,ho,hb3⟩
   have hl5:=vF DX.out LX y0 hr
   have hl6:=ho.len
   obtain ⟨p0,p1,p2,p3⟩:=ay.below BX.out hb3 qH
   have BR3:=Lib.hid (ay.below BR.out hb3 HL.out)
   have B3:=Lib.hid (B0.out.trans (hb3.mono hz))
   have HL3:=Lib.hid (Nat.lt_of_lt_of_le HL.out hb3.size)
   have s5:=ho.sl
   have HR:=Lib.hid hr
   clear ho hb3 hr hl6
   have hn5:n5≤n3:=by have:=s5.len;omega
   clear hl5
   go_wp2_with fail
   refine (cR s5 (Nat.le_refl _) HR.out.dg qO).mono ?_
   rintro e w4 ⟨sc,Z,A7,n7,c7,hW,rfl,ho,hb2⟩
   rw [HR.out.val,←HV.out.1] at hW
   obtain ⟨q0,q1,q2,q3⟩:=ay.below BR3.out hb2 HL3.out
   have HW:=Lib.hid hW
   have HO:=Lib.hid ho
   have HB:=Lib.hid (B3.out.trans (hb2.mono B3.out.size))
   clear hW ho hb2 p0 p1 p2 p3 s5
   go_wp2_with fail
   refine bodyPost_ret (v:= .agg #[.bool sc, .slice A7 n7 c7]) ?_ rfl (d7.put HW.out qO HO.out HL3.out HB.out)
   simp only [results,Tryz.results157]
   go_simp
  ·have hlt:val 4294967296 X<val 4294967296 Y:=qO
   refine (wj SX.out SY.out (Nat.le_trans hB hz) DX.out DY.out qO qO hlt).mono ?_
   rintro e w3 ⟨rfl,hb3⟩
   obtain ⟨p0,p1,p2,p3⟩:=ay.below BX.out hb3 qH
   obtain ⟨r0,r1,r2,r3⟩:=ay.below BY.out hb3 qH
   have BY3:=Lib.hid (ay.below BY.out hb3 qH)
   have BR3:=Lib.hid (ay.below BR.out hb3 HL.out)
   have B3:=Lib.hid (B0.out.trans (hb3.mono hz))
   have HL3:=Lib.hid (Nat.lt_of_lt_of_le HL.out hb3.size)
   have S3:=Lib.hid (And.intro (SX.out.below (hb3.mono hz) hB) (SY.out.below (hb3.mono hz) hB))
   have hz3:=B3.out.size
   clear hb3
   go_wp2_with fail
   refine (qm S3.out.2 S3.out.1 (Nat.le_trans hB hz3) DY.out DX.out qO qO qO).mono ?_
   rintro e w4 ⟨zs,A5,n5,c5,hr,rfl,ho,hb3⟩
   have hl5:=vF DY.out LY x0 hr
   have hl6:=ho.len
   obtain ⟨p0',p1',p2',p3'⟩:=ay.below BY3.out hb3 (by have:=HL3.out;omega)
   have BR4:=Lib.hid (ay.below BR3.out hb3 HL3.out)
   have B4:=Lib.hid (B3.out.trans (hb3.mono hz3))
   have HL4:=Lib.hid (Nat.lt_of_lt_of_le HL3.out hb3.size)
   have s5:=ho.sl
   have HR:=Lib.hid hr
   clear ho hb3 hr p0 p1 p2 p3 r0 r1 r2 r3
   have hn5:n5≤n4:=qO
   clear hl5 hl6
   go_wp2_with fail
   refine (cR s5 (Nat.le_refl _) HR.out.dg qO).mono ?_
   rintro e w5 ⟨sc,Z,A7,n7,c7,hW,rfl,ho,hb2⟩
   rw [HR.out.val,←HV.out.2] at hW
   obtain ⟨q0,q1,q2,q3⟩:=ay.below BR4.out hb2 HL4.out
   have HW:=Lib.hid hW
   have HO:=Lib.hid ho
   have HB:=Lib.hid (B4.out.trans (hb2.mono B4.out.size))
   clear hW ho hb2 p0' p1' p2' p3' s5
   go_wp2_with fail
   refine bodyPost_ret (v:= .agg #[.bool sc, .slice A7 n7 c7]) ?_ rfl (d7.put HW.out qO HO.out HL4.out HB.out)
   simp only [results,Tryz.results157]
   go_simp
theorem vZ:aJ Tryz.prog 127:=fun _ _=>by kernel_rfl
theorem vO:aJ Tryz.prog 157:=fun _ _=>by kernel_rfl
theorem Ba(hs:Sl .u32 w B A n c xs) (ht:Sl .u32 w B A2 m c2 ys) (hB:B≤w.heap.size) (hx:Dg 4294967296 xs) (hy:Dg 4294967296 ys) (hn:n≤100000000) (hm:m≤100000000):
 Calls Tryz.prog 156 #[.agg #[.bool s, .slice A n c], .agg #[.bool t, .slice A2 m c2]] w (d7 w (bp s xs - bp t ys)):=by
 have HX:=Lib.hid hx
 have HY:=Lib.hid hy
 have hlm:=Lib.hid (Fg (s:=t) hy ht.len)
 have HS:=Lib.hid hs
 have HT:=Lib.hid ht
 clear hx hy hs ht
 go_enter Tryz.func156,Tryz.ntmps156
 go_wp2_with fail
 have hb0:Below w.heap.size w (((w.alloc (.cells #[.bool s, .slice A n c] 36)).alloc (.cells #[.bool t, .slice A2 m c2] 36)).alloc (.cells #[.bool false, .slice none 0 0] 36)):=
  (((Below.refl _ _).alloc (Nat.le_refl _) _).alloc qA _).alloc qM _
 obtain ⟨bX,bY,bR,hlt,_⟩:=ij (w:=w) (v0:= .bool s) (v1:= .slice A n c) (u0:= .bool t) (u1:= .slice A2 m c2) (x0:= .bool false) (x1:= .slice none 0 0) (t:=36) (t2:=36) (t3:=36) (Below.refl _ _)
 generalize ((w.alloc (.cells #[.bool s, .slice A n c] 36)).alloc (.cells #[.bool t, .slice A2 m c2] 36)).alloc (.cells #[.bool false, .slice none 0 0] 36)=W0 at hb0 bX bY bR hlt ⊢
 have B0:=Lib.hid hb0
 have BX:=Lib.hid bX
 have BY:=Lib.hid bY
 have BR:=Lib.hid bR
 have HL:=Lib.hid hlt
 clear hb0 bX bY bR hlt
 refine dq [(2,aM.is (.pointer (some ⟨w.heap.size,0,none⟩))),(3,aM.is (.pointer (some ⟨w.heap.size+1,0,none⟩))),(5,aM.is (.agg #[.bool s, .slice A n c])),(6,aM.is (.agg #[.bool t, .slice A2 m c2])),(7,aM.newI W0.heap.size (-(bp t ys))),(8,aM.newI W0.heap.size (bp s xs - bp t ys))]
  [2,3] [] 9 4 qK rfl qK rfl trivial ⟨rfl,rfl,trivial⟩ ?ok ?fin
 case ok=>
  repeat' first
   |exact bI.nil
   |refine bI.cons ?_ ?_
   |exact iB (fun _ _ h=>h) (aG BX.out.1 qH) (aG BX.out.2.1 qH) (fun _=>rfl)
   |exact iB (fun _ _ h=>h) (aG BY.out.1 qH) (aG BY.out.2.1 qH) (fun _=>rfl)
   |exact bA vZ (T0:=fun _ v=>v= .agg #[.bool t, .slice A2 m c2]) (fun _ _ h=>h) (fun W v0 hb h0=>by
    subst h0
    have hz:=B0.out.size
    refine (vk (HT.out.below (B0.out.trans (hb.mono hz)) hB) (Nat.le_trans hB (Nat.le_trans hz hb.size)) HY.out qO).mono ?_
    rintro e w' ⟨sc,Z,A7,n7,c7,hW,rfl,ho,hb2⟩
    exact ⟨⟨_,rfl,sc,Z,A7,n7,c7,rfl,hW,ho.lower hb.size⟩,hb2⟩)
   |exact bZ vO (T0:=fun _ v=>v= .agg #[.bool s, .slice A n c]) (T1:=(aM.newI W0.heap.size (-(bp t ys))).holds) (fun _ _ h=>h) (fun _ _ h=>h) (fun W v0 v1 hb h0 h1=>by
    subst h0
    obtain ⟨sc,Z,A7,n7,c7,rfl,hW,ho⟩:=h1
    have hz:=B0.out.size
    have h7:=hW.len (wZ hlm.out)
    have h8:=ho.len
    refine (p6 (((HS.out.below (B0.out.trans (hb.mono hz)) hB)).more (Nat.le_trans hB (Nat.le_trans hz hb.size))) ho.sl (Nat.le_refl _) HX.out hW.row.dg hn qO).mono ?_
    rintro e w' ⟨sd,Z2,A8,n8,c8,hW2,rfl,ho2,hb2⟩
    rw [hW.val,←Int.sub_eq_add_neg] at hW2
    exact ⟨⟨_,rfl,sd,Z2,A8,n8,c8,rfl,hW2,ho2.lower hb.size⟩,hb2⟩)
 case fin=>
  intro v w' ho hb
  obtain ⟨sc,Z,A7,n7,c7,e10,hW,hO⟩:=ho.slot (d:=8) qF
  clear ho
  simp only [List.take,List.map_cons,List.map_nil,aK,Option.getD_some,bF,Act.put,List.setIfInBounds_toArray,List.set_cons_succ,List.set_cons_zero,e10]
  clear e10
  obtain ⟨q0,q1,q2,q3⟩:=ay.below BR.out hb HL.out
  have HW:=Lib.hid hW
  have HO:=Lib.hid hO
  have HB:=Lib.hid (B0.out.trans (hb.mono B0.out.size))
  clear hW hO hb
  go_wp2_with fail
  refine bodyPost_ret (v:= .agg #[.bool sc, .slice A7 n7 c7]) ?_ rfl (d7.put HW.out qO HO.out HL.out HB.out)
  simp only [results,Tryz.results156]
  go_simp
def rdh (w:World):Value→Nat
 | .slice (some ⟨b,off,_⟩) n _=>(val 65536 ((List.range n).map fun j=>match w.cell? ⟨b,off+j,none⟩ with|some (.int _ x)=>x|_=>0)).toNat
 |_=>0
theorem Sl.rdh(h:Sl .i64 w B A n c xs):rdh w (.slice A n c)=(val 65536 xs).toNat:=by
 cases A with
 |none=>
  have h0:=h.2.2.2.1 rfl
  have:xs=[]:=List.eq_nil_of_length_eq_zero (by have:=h.len;have:=h.le;omega)
  subst this
  rfl
 |some a=>
  by_cases hn:0<n
  ·obtain ⟨b,off,hA,_,hc⟩:=h.2.2.2.2 hn
   injection hA with hA
   subst hA
   have e:((List.range n).map fun j=>match w.cell? ⟨b,off+j,none⟩ with|some (.int _ x)=>x|_=>0)=xs:=by
    refine List.ext_getElem? fun i=> ?_
    rcases Nat.lt_or_ge i n with hi|hi
    ·obtain ⟨x,hx⟩:=c_ (xs:=xs) (by rw [h.len];exact hi)
     rw [List.getElem?_map,List.getElem?_range hi,hx]
     simp [hc i x hx]
    ·rw [List.getElem?_eq_none (by simp;exact hi),List.getElem?_eq_none (by rw [h.len];exact hi)]
   show (val 65536 _).toNat=_
   rw [e]
  ·obtain rfl:n=0:=qO
   have:xs=[]:=List.eq_nil_of_length_eq_zero h.len
   subst this
   rfl
theorem BF(hs:Sl .u32 w B A n c xs) (ht:Sl .u32 w B A2 m c2 ys) (hB:B≤w.heap.size) (hx:Dg 4294967296 xs) (hy:Dg 4294967296 ys) (hn:n≤1000000) (hm:m≤1000000):
 Calls Tryz.prog 128 #[.agg #[.bool s, .slice A n c], .agg #[.bool t, .slice A2 m c2]] w (d7 w (cJ ((bp s xs).natAbs:Int) ((bp t ys).natAbs:Int))):=by
 obtain ⟨s',A',n',c',xs',hp1⟩:=f9.ex s A n c xs
 obtain ⟨t',A2',m',c2',ys',hp2⟩:=f9.ex t A2 m c2 ys
 obtain ⟨f1,f2,f3,f4,f5⟩:=hp1.facts hs hx
 obtain ⟨g1,g2,g3,g4,g5⟩:=hp2.facts ht hy
 have HV:=Lib.hid (show (((bp s xs).natAbs:Nat):Int)=val 4294967296 xs' by rw [←f4];exact ko (am qD f2))
 have HW:=Lib.hid (show (((bp t ys).natAbs:Nat):Int)=val 4294967296 ys' by rw [←g4];exact ko (am qD g2))
 generalize hga:(((bp s xs).natAbs:Nat):Int)=GA at HV ⊢
 generalize hgb:(((bp t ys).natAbs:Nat):Int)=GB at HW ⊢
 have HP1:=Lib.hid hp1
 have HP2:=Lib.hid hp2
 have HF:=Lib.hid (And.intro f1 f2)
 have HG:=Lib.hid (And.intro g1 g2)
 have HS:=Lib.hid hs
 have HT:=Lib.hid ht
 clear hp1 hp2 f1 f2 f3 f4 g1 g2 g3 g4 hs ht hx hy hga hgb
 go_enter Tryz.func128,Tryz.ntmps128
 go_wp2_with fail
 have hb0:Below w.heap.size w (((w.alloc (.cells #[.bool s, .slice A n c] 36)).alloc (.cells #[.bool t, .slice A2 m c2] 36)).alloc (.cells #[.bool false, .slice none 0 0] 36)):=
  (((Below.refl _ _).alloc (Nat.le_refl _) _).alloc qA _).alloc qM _
 obtain ⟨bX,bY,bR,hlt,_⟩:=ij (w:=w) (v0:= .bool s) (v1:= .slice A n c) (u0:= .bool t) (u1:= .slice A2 m c2) (x0:= .bool false) (x1:= .slice none 0 0) (t:=36) (t2:=36) (t3:=36) (Below.refl _ _)
 generalize ((w.alloc (.cells #[.bool s, .slice A n c] 36)).alloc (.cells #[.bool t, .slice A2 m c2] 36)).alloc (.cells #[.bool false, .slice none 0 0] 36)=W0 at hb0 bX bY bR hlt ⊢
 have B0:=Lib.hid hb0
 have BX:=Lib.hid bX
 have BY:=Lib.hid bY
 have BR:=Lib.hid bR
 have HL:=Lib.hid hlt
 clear hb0 bX bY bR hlt
 refine kG [(2,aM.is (.pointer (some ⟨w.heap.size,0,none⟩))),(3,aM.is (.pointer (some ⟨w.heap.size+1,0,none⟩))),(9,aM.is (.agg #[.bool s, .slice A n c])),(10,aM.is (.agg #[.bool s', .slice A' n' c'])),(11,aM.is (.slice A' n' c')),(12,aM.half GA (2*n')),
  (13,aM.is (.agg #[.bool t, .slice A2 m c2])),(14,aM.is (.agg #[.bool t', .slice A2' m' c2'])),(15,aM.is (.slice A2' m' c2')),(16,aM.half GB (2*m')),(5,aM.half GA (2*n')),(6,aM.half GB (2*m'))]
  [2,3] [] 31 qK qK rfl trivial ⟨rfl,rfl,trivial⟩ ?ok ?fin
 case ok=>
  repeat' first
   |exact bI.nil
   |refine bI.cons ?_ ?_
   |exact iB (fun _ _ h=>h) (aG BX.out.1 qH) (aG BX.out.2.1 qH) (fun _=>rfl)
   |exact iB (fun _ _ h=>h) (aG BY.out.1 qH) (aG BY.out.2.1 qH) (fun _=>rfl)
   |exact pV (fun _ _ h=>h) (fun _=>rfl)
   |exact sF fun _ _ h=>h
   |exact bA js (T0:=fun _ v=>v= .agg #[.bool s, .slice A n c]) (fun _ _ h=>h) (fun W v0 hb h0=>by
    subst h0
    refine (kz HP1.out ((HS.out.below B0.out hB).below (hb.mono B0.out.size) hB) (Nat.le_trans hB (Nat.le_trans B0.out.size hb.size))).mono ?_
    rintro e w' ⟨rfl,hb'⟩
    exact ⟨⟨_,rfl,rfl⟩,hb'⟩)
   |exact bA js (T0:=fun _ v=>v= .agg #[.bool t, .slice A2 m c2]) (fun _ _ h=>h) (fun W v0 hb h0=>by
    subst h0
    refine (kz HP2.out ((HT.out.below B0.out hB).below (hb.mono B0.out.size) hB) (Nat.le_trans hB (Nat.le_trans B0.out.size hb.size))).mono ?_
    rintro e w' ⟨rfl,hb'⟩
    exact ⟨⟨_,rfl,rfl⟩,hb'⟩)
   |exact bA eE (T0:=fun _ v=>v= .slice A' n' c') (fun _ _ h=>h) (fun W v0 hb h0=>by
    subst h0
    have hz:=B0.out.size
    have sl:=HF.out.1.below (B0.out.trans (hb.mono hz)) hB
    refine (f8 sl (Nat.le_trans hB (Nat.le_trans hz hb.size)) HF.out.2 qO).mono ?_
    rintro e w' ⟨zs,A5,n5,c5,hr,rfl,ho,hb'⟩
    have hl:=eV sl.len HF.out.2 hr
    rw [←HV.out] at hr
    exact ⟨⟨_,rfl,A5,n5,c5,zs,rfl,ho.sl,hr,by have:=ho.len;omega⟩,hb'⟩)
   |exact bA eE (T0:=fun _ v=>v= .slice A2' m' c2') (fun _ _ h=>h) (fun W v0 hb h0=>by
    subst h0
    have hz:=B0.out.size
    have sl:=HG.out.1.below (B0.out.trans (hb.mono hz)) hB
    refine (f8 sl (Nat.le_trans hB (Nat.le_trans hz hb.size)) HG.out.2 qO).mono ?_
    rintro e w' ⟨zs,A5,n5,c5,hr,rfl,ho,hb'⟩
    have hl:=eV sl.len HG.out.2 hr
    rw [←HW.out] at hr
    exact ⟨⟨_,rfl,A5,n5,c5,zs,rfl,ho.sl,hr,by have:=ho.len;omega⟩,hb'⟩)
 case fin=>
  intro v W1 ho hb
  obtain ⟨A5,n5,c5,us,e5,s5,r5,l5⟩:=ho.slot (d:=5) qF
  obtain ⟨A6,n6,c6,vs,e6,s6,r6,l6⟩:=ho.slot (d:=6) qF
  clear ho
  simp only [List.map_cons,List.map_nil,aK,Option.getD_some,bF,Act.put,List.setIfInBounds_toArray,List.set_cons_succ,List.set_cons_zero,e5,e6]
  clear e5 e6
  have BR1:=Lib.hid (ay.below BR.out hb HL.out)
  have HL1:=Lib.hid (Nat.lt_of_lt_of_le HL.out hb.size)
  have B1:=Lib.hid (B0.out.trans (hb.mono B0.out.size))
  have S5:=Lib.hid s5
  have S6:=Lib.hid s6
  have R5:=Lib.hid r5
  have R6:=Lib.hid r6
  have a5:n5≤2000000:=qO
  have a6:n6≤2000000:=qO
  clear hb HL BX BY BR B0 s5 s6 r5 r6 HP1 HP2 HF HG HS HT HV HW
  go_wp2_with fail
  go_loopw [5,6] (fun av bv wr=>∃ (n3 c3 n4 c4:Nat) (A3 A4:Option Addr) (X Y:List Int) (U V:Int),av= .slice A3 n3 c3∧bv= .slice A4 n4 c4∧n3≤2000000∧n4≤2000000∧Sl .i64 wr wr.heap.size A3 n3 c3 X∧Sl .i64 wr wr.heap.size A4 n4 c4 Y∧Below W1.heap.size W1 wr∧
   fZ 65536 U X∧fZ 65536 V Y∧cJ U V=cJ GA GB) (fun _ bv wr=>rdh wr bv)
  case atStart=>exact ⟨n5,c5,n6,c6,A5,A6,us,vs,GA,GB,rfl,rfl,a5,a6,S5.out,S6.out,Below.refl _ _,R5.out,R6.out,rfl⟩
  case round=>
   obtain ⟨n3,c3,n4,c4,A3,A4,X,Y,U,V,rfl,rfl,hn3,hn4,h3,h4,hb,r3,r4,hg⟩:=hrel
   have HG:=Lib.hid hg
   have hmeas:=Lib.hid h4.rdh
   have v3:0≤U:=by rw [←r3.val];exact am qD r3.dg
   have v4:0≤V:=by rw [←r4.val];exact am qD r4.dg
   clear hg S5 S6 R5 R6
   by_cases h0:n4=0
   ·subst h0
    have hv:V=0:=by rw [←r4.val,List.eq_nil_of_length_eq_zero h4.len];rfl
    have HU:=Lib.hid (show U=cJ GA GB by rw [←HG.out,hv,iP v3])
    have R3:=Lib.hid r3
    have H3:=Lib.hid h3
    have BW:=Lib.hid (B1.out.trans (hb.mono B1.out.size))
    have BRW:=Lib.hid (ay.below BR1.out hb HL1.out)
    have HLW:=Lib.hid (Nat.lt_of_lt_of_le HL1.out hb.size)
    clear hv HG hmeas r3 r4 h3 h4 hb
    go_wp2_with fail
    refine (kd H3.out (Nat.le_refl _) R3.out.dg qO).mono ?_
    rintro e w4 ⟨zs,A7,n7,c7,hd,hv,hl,rfl,ho,hb4⟩
    rw [R3.out.val,HU.out] at hv
    have s7:=ho.sl
    have B4:=Lib.hid (BW.out.trans (hb4.mono BW.out.size))
    have BR4:=Lib.hid (ay.below BRW.out hb4 HLW.out)
    have HL4:=Lib.hid (Nat.lt_of_lt_of_le HLW.out hb4.size)
    have HV7:=Lib.hid hv
    have HD7:=Lib.hid hd
    clear ho hb4 hv hd
    go_wp2_with fail
    refine (cR s7 (Nat.le_refl _) HD7.out qO).mono ?_
    rintro e w5 ⟨sc,Z,A8,n8,c8,hW,rfl,ho,hb2⟩
    rw [cZ,HV7.out] at hW
    obtain ⟨q0,q1,q2,q3⟩:=ay.below BR4.out hb2 HL4.out
    have HW:=Lib.hid hW
    have HO:=Lib.hid ho
    have HB:=Lib.hid (B4.out.trans (hb2.mono B4.out.size))
    clear hW ho hb2 s7
    go_wp2_with fail
    refine bodyPost_ret (v:= .agg #[.bool sc, .slice A8 n8 c8]) ?_ rfl (d7.put HW.out qO HO.out HL4.out HB.out)
    simp only [results,Tryz.results128]
    go_simp
   ·have hpos:0<V:=by
     rcases Int.lt_or_le 0 V with h|h
     ·exact h
     ·have:=Tr.zero (β:=65536) qD r4.dg r4.tr (by rw [r4.val];omega)
      have:=h4.len
      simp_all
    have HP:=Lib.hid hpos
    have hY:V<65536^n4:=by rw [←r4.val,←h4.len];exact bQ qD r4.dg
    have HY:=Lib.hid hY
    clear hpos hY
    go_wp2_with fail
    refine (pT h3 h4 (Nat.le_refl _) r3.dg r4.dg r4.tr (by rw [r4.val];exact HP.out) qO qO).mono ?_
    rintro e w2 ⟨qs,rs,A7,n7,c7,A8,n8,c8,rq,rr,rfl,s7,s8,b2⟩
    replace s7:=s7.sl
    replace s8:=s8.sl
    rw [r3.val,r4.val] at rr
    have hlt:=Lib.hid (Int.emod_lt_of_pos U HP.out)
    have hge:=Lib.hid (Int.emod_nonneg U (show V≠0 by have:=HP.out;omega))
    have hl8:n8≤n4:=by rw [←s8.len];exact rr.len_le qD (Int.lt_trans hlt.out HY.out)
    have hm8:=Lib.hid s8.rdh
    have HG2:=Lib.hid (show cJ V (U%V)=cJ GA GB by rw [nN v3 HP.out];exact HG.out)
    have RR:=Lib.hid rr
    have R4:=Lib.hid r4
    have s4:=Lib.hid ((h4.below b2 (Nat.le_refl _)).more b2.size)
    have S8:=Lib.hid s8
    have hb2:=Lib.hid (hb.trans (b2.mono hb.size))
    clear rq rr HG r3 r4 h3 h4 hb b2 s7 s8
    go_wp2_with fail
    go_roundw
    case rel=>exact ⟨n4,c4,n8,c8,A4,A8,Y,rs,V,U%V,rfl,rfl,hn4,by omega,s4.out,S8.out,hb2.out,R4.out,RR.out,HG2.out⟩
    case measure=>
     show rdh _ _<rdh _ _
     rw [hm8.out,hmeas.out,RR.out.val,R4.out.val]
     have:=hlt.out
     have:=hge.out
     omega
def z_ (w:World) (a b:Int) (e:Ending) (w':World):Prop:=
 (b=0∧e= .returned (.tuple #[.agg #[.bool false, .slice none 0 0], .agg #[.bool false, .slice none 0 0], .int .i64 20])∧Below w.heap.size w w')∨
 (b≠0∧∃ s1 qs s2 rs A1 n1 c1 A2 n2 c2,e= .returned (.tuple #[.agg #[.bool s1, .slice A1 n1 c1], .agg #[.bool s2, .slice A2 n2 c2], .int .i64 0])∧Whole (a.fdiv b) s1 qs∧Whole (a.fmod b) s2 rs∧bH .u32 115 w' w.heap.size A1 n1 c1 qs∧bH .u32 115 w' w.heap.size A2 n2 c2 rs∧Below w.heap.size w w')
theorem z_.put {w w1:World} {B:Nat} {a b:Int} {s1 s2:Bool} {qs rs:List Int} {A1 A2:Option Addr} {n1 c1 n2 c2:Nat} {u v x y:Value} (hb0:b≠0) (hq:Whole (a.fdiv b) s1 qs) (hr:Whole (a.fmod b) s2 rs) (o1:bH .u32 115 w1 B A1 n1 c1 qs) (o2:bH .u32 115 w1 B A2 n2 c2 rs) (hB:w.heap.size+3<B) (hb:Below w.heap.size w w1):
 z_ w a b (.returned (.tuple #[.agg #[.bool s1, .slice A1 n1 c1], .agg #[.bool s2, .slice A2 n2 c2], .int .i64 0])) ((((w1.setCell ⟨w.heap.size+2,0,none⟩ u).setCell ⟨w.heap.size+2,1,none⟩ v).setCell ⟨w.heap.size+3,0,none⟩ x).setCell ⟨w.heap.size+3,1,none⟩ y).drew:=
 .inr ⟨hb0,s1,qs,s2,rs,A1,n1,c1,A2,n2,c2,rfl,hq,hr,(((((o1.box qO 0 u).box qO 1 v).box (r:=w.heap.size+3) qO 0 x).box qO 1 y).lower qO).drew1,(((((o2.box qO 0 u).box qO 1 v).box (r:=w.heap.size+3) qO 0 x).box qO 1 y).lower qO).drew1,
  ((((hb.setCell (p:=⟨w.heap.size+2,0,none⟩) (show w.heap.size≤w.heap.size+2 by omega) u).setCell (p:=⟨w.heap.size+2,1,none⟩) (show w.heap.size≤w.heap.size+2 by omega) v).setCell (p:=⟨w.heap.size+3,0,none⟩) (show w.heap.size≤w.heap.size+3 by omega) x).setCell (p:=⟨w.heap.size+3,1,none⟩) (show w.heap.size≤w.heap.size+3 by omega) y).drew⟩
theorem bH.not_box{r:Nat} {cs:Array Value} (h:bH .u32 115 w B A n c xs) (hb:w.heap[r]? =some (.cells cs 36 (0,0))):fh A≠some r:=by
 rcases h.2 with ⟨hv,_⟩|⟨g,cap,cur,hv,_,hg,_⟩
 ·injection hv with h1
  rw [h1]
  intro e
  cases e
 ·injection hv with h1
  rw [h1]
  intro e
  have e:g=r:=by simpa [fh] using e
  subst e
  rw [hb] at hg
  simp at hg
theorem bH.stores{r1 r2:Nat} {u v x y:Value} (h:bH .u32 115 w B A n c xs) (h1:fh A≠some r1) (h2:fh A≠some r2):
 bH .u32 115 ((((w.setCell ⟨r1,0,none⟩ u).setCell ⟨r1,1,none⟩ v).setCell ⟨r2,0,none⟩ x).setCell ⟨r2,1,none⟩ y) B A n c xs:=
 (((h.keep (gO w r1 0 u) (.inr h1)).keep (gO _ r1 1 v) (.inr h1)).keep (gO _ r2 0 x) (.inr h2)).keep (gO _ r2 1 y) (.inr h2)
theorem rz:aJ Tryz.prog 154:=fun _ _=>by kernel_rfl
theorem jZ:aJ Tryz.prog 125:=fun _ _=>by kernel_rfl
theorem xx:aJ Tryz.prog 84:=fun _ _=>by kernel_rfl
theorem uI:aJ Tryz.prog 156:=fun _ _=>by kernel_rfl
theorem tw(h:0<V):b_ (dz s V) 0=(bif s then -1 else 1):=by
 cases s
 ·exact gV h
 ·exact eO (by rw [cX];omega)
theorem yY{U:Int} (h:0<V) (h':0<U):(b_ (dz s V) 0 != b_ (dz t U) 0)=(s != t):=by
 rw [tw h,tw h']
 cases s<;>cases t<;>rfl
theorem EG(h:0<V):(b_ (dz s V) 0 != 0)=true:=by
 rw [tw h]
 cases s<;>rfl
theorem vw(hs:Sl .u32 w B A n c xs) (ht:Sl .u32 w B A2 m c2 ys) (hB:B≤w.heap.size) (hx:Dg 4294967296 xs) (hy:Dg 4294967296 ys) (hn:n≤100000) (hm:m≤100000):
 Calls Tryz.prog 129 #[.agg #[.bool s, .slice A n c], .agg #[.bool t, .slice A2 m c2]] w (z_ w (bp s xs) (bp t ys)):=by
 have HX:=Lib.hid hx
 have HY:=Lib.hid hy
 generalize hN:bp s xs=N
 generalize hM:bp t ys=M
 have HN:=Lib.hid hN
 have HM:=Lib.hid hM
 clear hN hM hx hy
 go_enter Tryz.func129,Tryz.ntmps129
 go_wp2_with fail
 refine (fu ((((hs.alloc hB _).alloc qA _).alloc qM _).alloc (by rw [fl];omega) _) (by rw [sN];omega) HX.out).mono ?_
 rintro e w1 ⟨sa,X,A3,n3,c3,rfl,sX,dX,rX,vX,lX,hb⟩
 obtain ⟨bX,bY,bR,bS,hlt,hb1⟩:=ur hb
 rw [HN.out] at vX
 have bX2:=ay.put bX (.bool sa) (.slice A3 n3 c3)
 have bY2:=(ay.other bY (q:=w.heap.size) qO 0 (.bool sa)).other (q:=w.heap.size) qO 1 (.slice A3 n3 c3)
 have bR2:=(ay.other bR (q:=w.heap.size) qO 0 (.bool sa)).other (q:=w.heap.size) qO 1 (.slice A3 n3 c3)
 have bS2:=(ay.other bS (q:=w.heap.size) qO 0 (.bool sa)).other (q:=w.heap.size) qO 1 (.slice A3 n3 c3)
 have sX2:=(sX.setCell (p:=⟨w.heap.size,0,none⟩) hB (.bool sa)).setCell (p:=⟨w.heap.size,1,none⟩) hB (.slice A3 n3 c3)
 have sY2:=((ht.below hb1 hB).setCell (p:=⟨w.heap.size,0,none⟩) hB (.bool sa)).setCell (p:=⟨w.heap.size,1,none⟩) hB (.slice A3 n3 c3)
 have hb2:=(hb1.setCell (p:=⟨w.heap.size,0,none⟩) (Nat.le_refl _) (.bool sa)).setCell (p:=⟨w.heap.size,1,none⟩) (Nat.le_refl _) (.slice A3 n3 c3)
 have hlt2:w.heap.size+3<((w1.setCell ⟨w.heap.size,0,none⟩ (.bool sa)).setCell ⟨w.heap.size,1,none⟩ (.slice A3 n3 c3)).heap.size:=by rw [cL,cL];exact hlt
 obtain ⟨p0,p1,p2,p3⟩:=bX
 obtain ⟨r0,r1,r2,r3⟩:=bY
 clear hb hb1 hs ht sX bR bS
 go_wp2_with fail
 generalize (w1.setCell ⟨w.heap.size,0,none⟩ (.bool sa)).setCell ⟨w.heap.size,1,none⟩ (.slice A3 n3 c3)=W at bX2 bY2 bR2 bS2 sX2 sY2 hb2 hlt2 ⊢
 clear p0 p1 p2 p3 r0 r1 r2 r3 hlt
 refine (fu sY2 (Nat.le_trans hB hb2.size) HY.out).mono ?_
 rintro e w2 ⟨sb,Y,A4,n4,c4,rfl,sY,dY,rY,vY,lY,hb⟩
 rw [HM.out] at vY
 have bX3:=bX2.below hb qO
 have bY3:=bY2.below hb qO
 have bR3:=bR2.below hb qO
 have bS3:=bS2.below hb qO
 have sX4:=((sX2.below hb (Nat.le_trans hB hb2.size)).setCell (p:=⟨w.heap.size+1,0,none⟩) (show B≤w.heap.size+1 by omega) (.bool sb)).setCell (p:=⟨w.heap.size+1,1,none⟩) (show B≤w.heap.size+1 by omega) (.slice A4 n4 c4)
 have sY4:=((sY).setCell (p:=⟨w.heap.size+1,0,none⟩) (show B≤w.heap.size+1 by omega) (.bool sb)).setCell (p:=⟨w.heap.size+1,1,none⟩) (show B≤w.heap.size+1 by omega) (.slice A4 n4 c4)
 have hb4:=((hb2.trans (hb.mono hb2.size)).setCell (p:=⟨w.heap.size+1,0,none⟩) (Nat.le_succ _) (.bool sb)).setCell (p:=⟨w.heap.size+1,1,none⟩) (Nat.le_succ _) (.slice A4 n4 c4)
 have hlt4:w.heap.size+3<((w2.setCell ⟨w.heap.size+1,0,none⟩ (.bool sb)).setCell ⟨w.heap.size+1,1,none⟩ (.slice A4 n4 c4)).heap.size:=by rw [cL,cL];exact Nat.lt_of_lt_of_le hlt2 hb.size
 have bY4:=ay.put bY3 (.bool sb) (.slice A4 n4 c4)
 have bX4:=(ay.other bX3 (q:=w.heap.size+1) qO 0 (.bool sb)).other (q:=w.heap.size+1) qO 1 (.slice A4 n4 c4)
 have bR4:=(ay.other bR3 (q:=w.heap.size+1) qO 0 (.bool sb)).other (q:=w.heap.size+1) qO 1 (.slice A4 n4 c4)
 have bS4:=(ay.other bS3 (q:=w.heap.size+1) qO 0 (.bool sb)).other (q:=w.heap.size+1) qO 1 (.slice A4 n4 c4)
 clear bX2 bY2 bR2 bS2 sX2 sY2 hb2 hlt2 sY hb
 obtain ⟨p0,p1,p2,p3⟩:=bX3
 obtain ⟨r0,r1,r2,r3⟩:=bY3
 have HR3:=Lib.hid bR3
 have HS3:=Lib.hid bS3
 clear bR3 bS3
 have hyl:=sY4.len
 have hxl:=sX4.len
 have SX:=Lib.hid sX4
 have SY:=Lib.hid sY4
 have DX:=Lib.hid dX
 have DY:=Lib.hid dY
 have BX:=Lib.hid bX4
 have BY:=Lib.hid bY4
 have BR:=Lib.hid bR4
 have BS:=Lib.hid bS4
 have B0:=Lib.hid hb4
 have HL:=Lib.hid hlt4
 have VX:=Lib.hid vX
 have VY:=Lib.hid vY
 have RY:=Lib.hid rY
 clear sX4 sY4 dX dY bX4 bY4 bR4 bS4 hb4 hlt4 vX vY rX rY
 by_cases hn4:n4=0
 ·have HZ:=Lib.hid (show M=0 by rw [←VY.out,List.eq_nil_of_length_eq_zero (hyl.trans hn4)];cases sb<;>rfl)
  subst hn4
  obtain ⟨x0,x1,x2,x3⟩:=HR3.out
  obtain ⟨y0,y1,y2,y3⟩:=HS3.out
  go_wp2_with fail
  refine bodyPost_ret (v:= .tuple #[.agg #[.bool false, .slice none 0 0], .agg #[.bool false, .slice none 0 0], .int .i64 20]) ?_ rfl (.inl ⟨HZ.out,rfl,(((B0.out.setCell (p:=⟨w.heap.size+2,0,none⟩) (show w.heap.size≤w.heap.size+2 by omega) _).setCell (p:=⟨w.heap.size+2,1,none⟩) (show w.heap.size≤w.heap.size+2 by omega) _).setCell (p:=⟨w.heap.size+3,0,none⟩) (show w.heap.size≤w.heap.size+3 by omega) _).setCell (p:=⟨w.heap.size+3,1,none⟩) (show w.heap.size≤w.heap.size+3 by omega) _⟩)
  simp only [results,Tryz.results129]
  go_simp
 ·have hb4:((n4:Int)==0)=false:=beq_eq_false_iff_ne.2 qO
  go_wp2_with fail
  generalize (w2.setCell ⟨w.heap.size+1,0,none⟩ (.bool sb)).setCell ⟨w.heap.size+1,1,none⟩ (.slice A4 n4 c4)=W0 at BX BY BR BS SX SY B0 HL ⊢
  clear p0 p1 p2 p3 r0 r1 r2 r3 hb4 HR3 HS3
  have hV:0<val 4294967296 Y:=by
   rcases Int.lt_or_eq_of_le (am (β:=4294967296) qD DY.out) with h|h
   ·exact h
   ·have:=Tr.zero qD DY.out (tA RY.out) h.symm
    rw [this] at hyl
    exact absurd hyl.symm hn4
  have hU:=am (β:=4294967296) qD DX.out
  have hM0:M≠0:=by rw [←VY.out];cases sb<;>simp [dz]<;>omega
  have HM0:=Lib.hid hM0
  have lU:val 4294967296 X<65536^(2*n3):=by
   have:=bQ (β:=4294967296) qD DX.out
   rwa [hxl,show (4294967296:Int)=65536^2 by decide,←Int.pow_mul] at this
  have lV:val 4294967296 Y<65536^(2*n4):=by
   have:=bQ (β:=4294967296) qD DY.out
   rwa [hyl,show (4294967296:Int)=65536^2 by decide,←Int.pow_mul] at this
  have LU:=Lib.hid lU
  have LV:=Lib.hid lV
  have LU2:=Lib.hid (show val 4294967296 X<4294967296^(2*n3+2*n4) from Int.lt_of_lt_of_le lU (by
   have e:(4294967296:Int)=65536^2:=by decide
   rw [e,←Int.pow_mul]
   exact aP qD qO))
  have hl:=HL.out
  clear hM0 lU lV
  generalize hUU:val 4294967296 X=U at*
  generalize hVV:val 4294967296 Y=V at*
  have HUU:=Lib.hid hUU
  have HVV:=Lib.hid hVV
  clear hUU hVV
  refine kG [(2,aM.is (.pointer (some ⟨w.heap.size,0,none⟩))),(3,aM.is (.pointer (some ⟨w.heap.size+1,0,none⟩))),(22,aM.is (.pointer (some ⟨w.heap.size,1,none⟩))),(23,aM.is (.slice A3 n3 c3)),(24,aM.half U (2*n3)),(25,aM.is (.pointer (some ⟨w.heap.size+1,1,none⟩))),(26,aM.is (.slice A4 n4 c4)),(27,aM.half V (2*n4)),
   (28,aM.parts U V (2*n3) (2*n4)),(21,aM.parts U V (2*n3) (2*n4)),(29,aM.half (U / V) (2*n3)),(30,aM.half (U%V) (2*n4)),(7,aM.half (U / V) (2*n3)),(8,aM.half (U%V) (2*n4))]
   [2,3] [] 62 qK qK rfl trivial ⟨rfl,rfl,trivial⟩ ?ok ?fin
  case ok=>
   repeat' first
    |exact bI.nil
    |refine bI.cons ?_ ?_
    |exact ob (fun _ _ h=>h) (fun _=>rfl)
    |exact g9 (fun _ _ h=>h) (aG BX.out.2.1 qO) (fun _=>rfl)
    |exact g9 (fun _ _ h=>h) (aG BY.out.2.1 qO) (fun _=>rfl)
    |exact jO fun _ _ h=>h
    |exact sF fun _ _ h=>h
    |exact qf (i:=0) (fun w v ⟨qs,rs,A,n,c,A2,m,c2,e,h1,h2,h3,h4,h5,h6⟩=>⟨_,_,e,rfl,A,n,c,qs,rfl,h3,h1,h5⟩)
    |exact qf (i:=1) (fun w v ⟨qs,rs,A,n,c,A2,m,c2,e,h1,h2,h3,h4,h5,h6⟩=>⟨_,_,e,rfl,A2,m,c2,rs,rfl,h4,h2,h6⟩)
    |exact bA eE (T0:=fun _ v=>v= .slice A3 n3 c3) (fun _ _ h=>h) (fun W v0 hb h0=>by
     subst h0
     have hz:=B0.out.size
     have sl:=SX.out.below (hb.mono hz) hB
     refine (f8 sl (Nat.le_trans hB (Nat.le_trans hz hb.size)) DX.out qO).mono ?_
     rintro e w' ⟨zs,A5,n5,c5,hr,rfl,ho,hb'⟩
     have hl5:=eV sl.len DX.out hr
     rw [HUU.out] at hr
     exact ⟨⟨_,rfl,A5,n5,c5,zs,rfl,ho.sl,hr,by have:=ho.len;omega⟩,hb'⟩)
    |exact bA eE (T0:=fun _ v=>v= .slice A4 n4 c4) (fun _ _ h=>h) (fun W v0 hb h0=>by
     subst h0
     have hz:=B0.out.size
     have sl:=SY.out.below (hb.mono hz) hB
     refine (f8 sl (Nat.le_trans hB (Nat.le_trans hz hb.size)) DY.out qO).mono ?_
     rintro e w' ⟨zs,A5,n5,c5,hr,rfl,ho,hb'⟩
     have hl5:=eV sl.len DY.out hr
     rw [HVV.out] at hr
     exact ⟨⟨_,rfl,A5,n5,c5,zs,rfl,ho.sl,hr,by have:=ho.len;omega⟩,hb'⟩)
    |exact bZ rz (T0:=(aM.half U (2*n3)).holds) (T1:=(aM.half V (2*n4)).holds) (fun _ _ h=>h) (fun _ _ h=>h) (fun W v0 v1 hb h0 h1=>by
     obtain ⟨A5,n5,c5,us,rfl,s5,r5,l5⟩:=h0
     obtain ⟨A6,n6,c6,vs,rfl,s6,r6,l6⟩:=h1
     refine (pT s5 s6 (Nat.le_refl _) r5.dg r6.dg r6.tr (by rw [r6.val];exact hV) qO qO).mono ?_
     rintro e w' ⟨qs,rs,A7,n7,c7,A8,n8,c8,hq,hr,rfl,s7,s8,hb'⟩
     replace s7:=s7.sl
     replace s8:=s8.sl
     rw [r5.val,r6.val] at hq hr
     have k1:=hq.len_le (k:=2*n3) qD (Int.lt_of_le_of_lt (Int.ediv_le_self _ hU) LU.out)
     have k2:=hr.len_le (k:=2*n4) qD (Int.lt_trans (Int.emod_lt_of_pos _ hV) LV.out)
     exact ⟨⟨_,rfl,qs,rs,A7,n7,c7,A8,n8,c8,rfl,hq,hr,s7,s8,by have:=s7.len;omega,by have:=s8.len;omega⟩,hb'⟩)
  case fin=>
   intro v W1 ho hb
   obtain ⟨A5,n5,c5,us,e7,s5,q5,l5⟩:=ho.slot (d:=7) qF
   obtain ⟨A6,n6,c6,vs,e8,s6,q6,l6⟩:=ho.slot (d:=8) qF
   clear ho
   simp only [List.map_cons,List.map_nil,aK,Option.getD_some,bF,Act.put,List.setIfInBounds_toArray,List.set_cons_succ,List.set_cons_zero,e7,e8]
   clear e7 e8
   have hz0:=B0.out.size
   have hz1:=hb.size
   have BX1:=Lib.hid (ay.below BX.out hb qO)
   have BY1:=Lib.hid (ay.below BY.out hb qO)
   have BR1:=Lib.hid (ay.below BR.out hb qO)
   have BS1:=Lib.hid (ay.below BS.out hb qO)
   have HB1:=Lib.hid (B0.out.trans (hb.mono hz0))
   have SY1:=Lib.hid (SY.out.below (hb.mono hz0) hB)
   have S5:=Lib.hid s5
   have S6:=Lib.hid s6
   have Q5:=Lib.hid q5
   have Q6:=Lib.hid q6
   have hr0:=Int.emod_nonneg U (show V≠0 by omega)
   have hr1:=Int.emod_lt_of_pos U hV
   have hq0:=Int.ediv_nonneg hU (Int.le_of_lt hV)
   have HK:=Lib.hid (show U=U / V*V+U%V by rw [Int.mul_comm];exact (Int.mul_ediv_add_emod U V).symm)
   clear hb s5 s6 q5 q6 BX BY BR BS SX SY B0 LU
   go_wp2_with fail
   refine cF [(2,aM.is (.pointer (some ⟨w.heap.size,0,none⟩))),(3,aM.is (.pointer (some ⟨w.heap.size+1,0,none⟩))),(7,aM.half (U / V) (2*n3)),(8,aM.half (U%V) (2*n4)),(31,aM.is (.pointer (some ⟨w.heap.size,0,none⟩))),(32,aM.is (.bool sa)),(33,aM.is (.pointer (some ⟨w.heap.size+1,0,none⟩))),(34,aM.is (.bool sb)),(35,aM.is (.bool (sa != sb))),
    (36,aM.half (U / V) (2*n3)),(37,aM.nat (U / V) (2*n3)),(38,aM.newI W1.heap.size (dz (sa != sb) (U / V))),(39,aM.is (.pointer (some ⟨w.heap.size,0,none⟩))),(40,aM.is (.bool sa)),(41,aM.half (U%V) (2*n4)),(42,aM.nat (U%V) (2*n4)),(43,aM.newI W1.heap.size (dz sa (U%V))),(9,aM.nbox3 W1.heap.size),(10,aM.nbox3 W1.heap.size)]
    [2,3,7,8] [] 62 15 qK qK rfl trivial ⟨rfl,rfl,⟨A5,n5,c5,us,rfl,S5.out,Q5.out,l5⟩,⟨A6,n6,c6,vs,rfl,S6.out,Q6.out,l6⟩,trivial⟩ ?ok ?al ?fin
   case ok=>
    repeat' first
     |exact bf.nil
     |refine bf.run ?_ ?_
     |exact oy (fun _ _ h=>h) (fun _=>rfl)
     |exact g_ (fun _ _ h=>h) (aG BX1.out.1 qO) (fun _=>rfl)
     |exact g_ (fun _ _ h=>h) (aG BY1.out.1 qO) (fun _=>rfl)
     |exact xK (fun _ _ h=>h) (fun _ _ h=>h) (fun _=>rfl)
     |exact jO fun _ _ h=>h
     |exact yX (fun _ _ h=>h)
     |exact bA jm (T0:=(aM.half (U / V) (2*n3)).holds) (fun _ _ h=>h) (fun W v0 hb h0=>by
      obtain ⟨A5,n5,c5,us,rfl,s5,r5,l5⟩:=h0
      refine (kd s5 (Nat.le_refl _) r5.dg qO).mono ?_
      rintro e w' ⟨zs,A7,n7,c7,hd,hv,hl,rfl,ho,hb'⟩
      rw [r5.val] at hv
      exact ⟨⟨_,rfl,A7,n7,c7,zs,rfl,ho.sl,hd,hv,by omega⟩,hb'⟩)
     |exact bA jm (T0:=(aM.half (U%V) (2*n4)).holds) (fun _ _ h=>h) (fun W v0 hb h0=>by
      obtain ⟨A5,n5,c5,us,rfl,s5,r5,l5⟩:=h0
      refine (kd s5 (Nat.le_refl _) r5.dg qO).mono ?_
      rintro e w' ⟨zs,A7,n7,c7,hd,hv,hl,rfl,ho,hb'⟩
      rw [r5.val] at hv
      exact ⟨⟨_,rfl,A7,n7,c7,zs,rfl,ho.sl,hd,hv,by omega⟩,hb'⟩)
     |exact bZ gj (T0:=fun _ v=>v= .bool (sa != sb)) (T1:=(aM.nat (U / V) (2*n3)).holds) (fun _ _ h=>h) (fun _ _ h=>h) (fun W v0 v1 hb h0 h1=>by
      subst h0
      obtain ⟨A5,n5,c5,us,rfl,s5,d5,v5,l5⟩:=h1
      refine (cR s5 (Nat.le_refl _) d5 qO).mono ?_
      rintro e w' ⟨sc,Z,A7,n7,c7,hW,rfl,ho,hb2⟩
      rw [v5] at hW
      exact ⟨⟨_,rfl,sc,Z,A7,n7,c7,rfl,hW,ho.lower hb.size⟩,hb2⟩)
     |exact bZ gj (T0:=fun _ v=>v= .bool sa) (T1:=(aM.nat (U%V) (2*n4)).holds) (fun _ _ h=>h) (fun _ _ h=>h) (fun W v0 v1 hb h0 h1=>by
      subst h0
      obtain ⟨A5,n5,c5,us,rfl,s5,d5,v5,l5⟩:=h1
      refine (cR s5 (Nat.le_refl _) d5 qO).mono ?_
      rintro e w' ⟨sc,Z,A7,n7,c7,hW,rfl,ho,hb2⟩
      rw [v5] at hW
      exact ⟨⟨_,rfl,sc,Z,A7,n7,c7,rfl,hW,ho.lower hb.size⟩,hb2⟩)
   case al=>
    repeat' first
     |exact bt.nil
     |refine bt.cons ?_ ?_
     |exact fun T h ρ w=>xe ρ w
     |exact fun T h=>nomatch h
   case fin=>
    intro v w' ho ha hb
    obtain ⟨r1,e9,h91,h92,h93⟩:=ho.slot (d:=9) qF
    obtain ⟨r2,e10,hx1,hx2,hx3⟩:=ho.slot (d:=10) qF
    obtain ⟨s7,ps,A7,n7,c7,e38,hW7,o7⟩:=ho.slot (d:=38) qF
    obtain ⟨s8,rs,A8,n8,c8,e43,hW8,o8⟩:=ho.slot (d:=43) qF
    have hne:r1≠r2:=fun h=>ha 13 14 _ _ _ _ qD rfl rfl rfl rfl rfl rfl (by show v 9=v 10;rw [e9,e10,h])
    clear ho ha
    obtain ⟨d1,d2,d3,d4⟩:=lN (k:=W1.heap.size) (.bool s7) (.slice A7 n7 c7) (.bool s8) (.slice A8 n8 c8) h93 hx3 hne h91 hx1
    have hne':=hne.symm
    obtain ⟨p0,p1,p2,p3⟩:=fM h93
    obtain ⟨q0,q1,q2,q3⟩:=fM hx3
    have D1:=Lib.hid d1
    have D2:=Lib.hid d2
    have D3:=Lib.hid (hb.trans (d3.mono (Nat.le_refl _)))
    have O7:=Lib.hid (o7.stores (u:= .bool s7) (v:= .slice A7 n7 c7) (x:= .bool s8) (y:= .slice A8 n8 c8) (o7.not_box h93) (o7.not_box hx3))
    have O8:=Lib.hid (o8.stores (u:= .bool s7) (v:= .slice A7 n7 c7) (x:= .bool s8) (y:= .slice A8 n8 c8) (o8.not_box h93) (o8.not_box hx3))
    have NB:=Lib.hid (o8.not_box h93)
    have W7:=Lib.hid hW7
    have W8:=Lib.hid hW8
    clear d1 d2 d3 h93 hx3 hb hW7 hW8 o7 o8
    simp only [List.take,List.drop,List.map_cons,List.map_nil,aK,Option.getD_some,bF,Act.put,List.setIfInBounds_toArray,List.set_cons_succ,List.set_cons_zero,e9,e10,e38,e43]
    go_wp2_with fail
    generalize (((w'.setCell ⟨r1,0,none⟩ (.bool s7)).setCell ⟨r1,1,none⟩ (.slice A7 n7 c7)).setCell ⟨r2,0,none⟩ (.bool s8)).setCell ⟨r2,1,none⟩ (.slice A8 n8 c8)=W2 at D1 D2 D3 d4 O7 O8 ⊢
    clear p0 p1 p2 p3 q0 q1 q2 q3 e9 e10 e38 e43
    have hr1':r1<W2.heap.size:=qO
    have hr2':r2<W2.heap.size:=qO
    have hz2:=D3.out.size
    have BY2:=Lib.hid (ay.below BY1.out D3.out qO)
    have BR2:=Lib.hid (ay.below BR1.out D3.out qO)
    have BS2:=Lib.hid (ay.below BS1.out D3.out qO)
    have HB2:=Lib.hid (HB1.out.trans (D3.out.mono qO))
    have SY2:=Lib.hid (SY1.out.below (D3.out.mono (show w.heap.size≤W1.heap.size by omega)) hB)
    clear BX1 BY1 BR1 BS1 HB1 SY1 S5 S6 Q5 Q6 D3 d4
    have hl8:=W8.out.len (k:=2*n4) (by
     rw [ko hr0]
     exact Int.lt_of_lt_of_le (Int.lt_trans hr1 LV.out) (by
      have e:(4294967296:Int)=65536^2:=by decide
      rw [e,←Int.pow_mul]
      exact aP qD qO))
    have hk8:=O8.out.len
    have hk7:=O7.out.len
    by_cases hr:U%V=0
    ·obtain ⟨g1,g2⟩:=mD (s:=sa) (t:=sb) HK.out hr0 hr1 (.inl hr)
     rw [VX.out,VY.out] at g1 g2
     have WQ:=Lib.hid (show Whole (N.fdiv M) s7 ps by rw [g1];exact W7.out)
     have WR:=Lib.hid (show Whole (N.fmod M) s8 rs by rw [g2];exact W8.out)
     have HC:=Lib.hid (show b_ (dz sa (U%V)) 0=0 from lM (by rw [hr];cases sa<;>rfl))
     clear g1 g2
     refine cF [(3,aM.is (.pointer (some ⟨w.heap.size+1,0,none⟩))),(10,aM.is (.pointer (some ⟨r2,0,none⟩))),(44,aM.is (.agg #[.bool s8, .slice A8 n8 c8])),(45,aM.is (.int .i64 (b_ (dz sa (U%V)) 0))),(46,aM.is (.bool false)),(47,aM.is (.bool false))]
      [3,10] [(47,false)] 62 9 qK qK rfl ⟨fun _ _ h=>h,trivial⟩ ⟨rfl,rfl,trivial⟩ ?ok ?al ?fin
     case ok=>
      repeat' first
       |exact bf.nil
       |refine bf.skip (by rfl) ?_
       |refine bf.run ?_ ?_
       |exact iB (fun _ _ h=>h) (aG D2.out.1 hr2') (aG D2.out.2.1 hr2') (fun _=>rfl)
       |exact ti (y:=0) (fun _ _ h=>h) rfl (fun _=>by rw [HC.out];rfl)
       |exact jO fun _ _ h=>h
       |exact bA jZ (T0:=fun _ v=>v= .agg #[.bool s8, .slice A8 n8 c8]) (fun _ _ h=>h) (fun W v0 hb h0=>by
            subst h0
            refine (lW ((O8.out.below hb).sl) (Nat.le_refl _) W8.out.row.dg qO).mono ?_
            rintro e w' ⟨rfl,hb'⟩
            rw [W8.out.val]
            exact ⟨⟨_,rfl,rfl⟩,hb'⟩)
     case al=>
      repeat' first
       |exact bt.nil
       |refine bt.cons ?_ ?_
       |exact fun T h=>nomatch h
     case fin=>
      intro v W3 ho _ hb
      have e47:v 47= .bool false:=ho.slot (d:=47) qF
      clear ho
      simp only [List.take,List.drop,List.map_cons,List.map_nil,aK,Option.getD_some,bF,Act.put,List.setIfInBounds_toArray,List.set_cons_succ,List.set_cons_zero,e47]
      clear e47
      have hz3:=hb.size
      have D1':=Lib.hid (D1.out.below hb hr1')
      have D2':=Lib.hid (D2.out.below hb hr2')
      have BR3:=Lib.hid (ay.below BR2.out hb qO)
      have BS3:=Lib.hid (ay.below BS2.out hb qO)
      have HB3:=Lib.hid (HB2.out.trans (hb.mono qO))
      have O7':=Lib.hid (O7.out.below hb)
      have O8':=Lib.hid (O8.out.below hb)
      have hr1'':r1<W3.heap.size:=qO
      have hr2'':r2<W3.heap.size:=qO
      clear hb
      go_wp2_with fail
      obtain ⟨p0,p1,p2,p3⟩:=D1'.out
      obtain ⟨q0,q1,q2,q3⟩:=D2'.out
      obtain ⟨x0,x1,x2,x3⟩:=BR3.out
      obtain ⟨y0,y1,y2,y3⟩:=BS3.out
      have hn1:¬ r1=w.heap.size+2:=qO
      have hn2:¬ r1=w.heap.size+3:=qO
      have hn3:¬ r2=w.heap.size+2:=qO
      have hn4:¬ r2=w.heap.size+3:=qO
      go_region
      go_wp2_with fail
      refine bodyPost_ret (v:= .tuple #[.agg #[.bool s7, .slice A7 n7 c7], .agg #[.bool s8, .slice A8 n8 c8], .int .i64 0]) ?_ rfl (z_.put HM0.out WQ.out WR.out O7'.out O8'.out qO HB3.out)
      simp only [results,Tryz.results129]
      go_simp
    ·have hrp:0<U%V:=qO
     have HS1:=Lib.hid (show (b_ (dz sa (U%V)) 0 != 0)=true from EG hrp)
     have HS2:=Lib.hid (show (b_ (dz sa (U%V)) 0 != b_ M 0)=(sa != sb) by rw [←VY.out];exact yY hrp hV)
     have HVY:=Lib.hid (show bp sb Y=M by rw [fU RY.out,HVV.out];exact VY.out)
     refine cF [(3,aM.is (.pointer (some ⟨w.heap.size+1,0,none⟩))),(10,aM.is (.pointer (some ⟨r2,0,none⟩))),(44,aM.is (.agg #[.bool s8, .slice A8 n8 c8])),(45,aM.is (.int .i64 (b_ (dz sa (U%V)) 0))),(46,aM.is (.bool true)),(47,aM.is (.bool true)),
      (48,aM.is (.agg #[.bool s8, .slice A8 n8 c8])),(49,aM.is (.int .i64 (b_ (dz sa (U%V)) 0))),(50,aM.is (.agg #[.bool sb, .slice A4 n4 c4])),(51,aM.is (.int .i64 (b_ M 0))),(52,aM.is (.bool (sa != sb)))]
      [3,10] [(47,true)] 62 9 qK qK rfl ⟨fun _ _ h=>h,trivial⟩ ⟨rfl,rfl,trivial⟩ ?ok ?al ?fin
     case ok=>
      repeat' first
       |exact bf.nil
       |refine bf.run ?_ ?_
       |exact iB (fun _ _ h=>h) (aG D2.out.1 hr2') (aG D2.out.2.1 hr2') (fun _=>rfl)
       |exact iB (fun _ _ h=>h) (aG BY2.out.1 qO) (aG BY2.out.2.1 qO) (fun _=>rfl)
       |exact ti (y:=0) (fun _ _ h=>h) rfl (fun _=>by rw [HS1.out];rfl)
       |exact ti (x:=b_ (dz sa (U%V)) 0) (y:=b_ M 0) (fun _ _ h=>h) (fun _ _ h=>h) (fun _=>by rw [HS2.out];rfl)
       |exact jO fun _ _ h=>h
       |exact bA jZ (T0:=fun _ v=>v= .agg #[.bool s8, .slice A8 n8 c8]) (fun _ _ h=>h) (fun W v0 hb h0=>by
            subst h0
            refine (lW ((O8.out.below hb).sl) (Nat.le_refl _) W8.out.row.dg qO).mono ?_
            rintro e w' ⟨rfl,hb'⟩
            rw [W8.out.val]
            exact ⟨⟨_,rfl,rfl⟩,hb'⟩)
       |exact bA jZ (T0:=fun _ v=>v= .agg #[.bool sb, .slice A4 n4 c4]) (fun _ _ h=>h) (fun W v0 hb h0=>by
            subst h0
            refine (lW (SY2.out.below hb (show B≤W2.heap.size by omega)) (show B≤W.heap.size by have:=hb.size;omega) DY.out qO).mono ?_
            rintro e w' ⟨rfl,hb'⟩
            rw [HVY.out]
            exact ⟨⟨_,rfl,rfl⟩,hb'⟩)
     case al=>
      repeat' first
       |exact bt.nil
       |refine bt.cons ?_ ?_
       |exact fun T h=>nomatch h
     case fin=>
      intro v W3 ho _ hb
      have e47:v 47= .bool true:=ho.slot (d:=47) qF
      have e52:v 52= .bool (sa != sb):=ho.slot (d:=52) qF
      clear ho
      simp only [List.take,List.drop,List.map_cons,List.map_nil,aK,Option.getD_some,bF,Act.put,List.setIfInBounds_toArray,List.set_cons_succ,List.set_cons_zero,e47,e52]
      clear e47 e52
      have hz3:=hb.size
      have D1':=Lib.hid (D1.out.below hb hr1')
      have D2':=Lib.hid (D2.out.below hb hr2')
      have BY3:=Lib.hid (ay.below BY2.out hb qO)
      have BR3:=Lib.hid (ay.below BR2.out hb qO)
      have BS3:=Lib.hid (ay.below BS2.out hb qO)
      have HB3:=Lib.hid (HB2.out.trans (hb.mono qO))
      have SY3:=Lib.hid (SY2.out.below hb (show B≤W2.heap.size by omega))
      have O7':=Lib.hid (O7.out.below hb)
      have O8':=Lib.hid (O8.out.below hb)
      have hr1'':r1<W3.heap.size:=qO
      have hr2'':r2<W3.heap.size:=qO
      clear hb D1 D2 BY2 BR2 BS2 HB2 SY2 O7 O8
      rcases hu:(sa != sb) with _|_
      ·obtain ⟨g1,g2⟩:=mD (s:=sa) (t:=sb) HK.out hr0 hr1 (.inr (CE hu))
       rw [VX.out,VY.out] at g1 g2
       have WQ:=Lib.hid (show Whole (N.fdiv M) s7 ps by rw [g1];exact W7.out)
       have WR:=Lib.hid (show Whole (N.fmod M) s8 rs by rw [g2];exact W8.out)
       clear g1 g2 hu
       go_wp2_with fail
       obtain ⟨p0,p1,p2,p3⟩:=D1'.out
       obtain ⟨q0,q1,q2,q3⟩:=D2'.out
       obtain ⟨x0,x1,x2,x3⟩:=BR3.out
       obtain ⟨y0,y1,y2,y3⟩:=BS3.out
       have hn1:¬ r1=w.heap.size+2:=qO
       have hn2:¬ r1=w.heap.size+3:=qO
       have hn3:¬ r2=w.heap.size+2:=qO
       have hn4:¬ r2=w.heap.size+3:=qO
       go_region
       go_wp2_with fail
       refine bodyPost_ret (v:= .tuple #[.agg #[.bool s7, .slice A7 n7 c7], .agg #[.bool s8, .slice A8 n8 c8], .int .i64 0]) ?_ rfl (z_.put HM0.out WQ.out WR.out O7'.out O8'.out qO HB3.out)
       simp only [results,Tryz.results129]
       go_simp
      ·obtain ⟨g1,g2⟩:=kI (s:=sa) (t:=sb) HK.out hrp hr1 (tB hu)
       rw [VX.out,VY.out] at g1 g2
       have G1:=Lib.hid g1
       have G2:=Lib.hid g2
       have hl7:=W7.out.len (k:=2*n3+2*n4) (by
            rw [ko hq0]
            exact Int.lt_of_le_of_lt (Int.ediv_le_self _ hU) (LU2.out))
       clear g1 g2
       go_wp2_with fail
       refine dq [(9,aM.is (.pointer (some ⟨r1,0,none⟩))),(54,aM.is (.agg #[.bool s7, .slice A7 n7 c7])),(55,aM.newI W3.heap.size 1),(56,aM.newI W3.heap.size (dz (sa != sb) (U / V) - 1))]
            [9] [] 62 3 qK rfl qK rfl trivial ⟨rfl,trivial⟩ ?ok ?fin
       case ok=>
            repeat' first
              |exact bI.nil
              |refine bI.cons ?_ ?_
              |exact iB (fun _ _ h=>h) (aG D1'.out.1 hr1'') (aG D1'.out.2.1 hr1'') (fun _=>rfl)
              |exact bA xx (T0:=fun _ v=>v= .int .i64 1) (fun _=>rfl) (fun W v0 hb h0=>by
               subst h0
               refine (x6 qO).mono ?_
               rintro e w' ⟨sc,Z,A9,n9,c9,hW,rfl,ho,hb2⟩
               exact ⟨⟨_,rfl,sc,Z,A9,n9,c9,rfl,hW,ho.lower hb.size⟩,hb2⟩)
              |exact bZ uI (T0:=fun _ v=>v= .agg #[.bool s7, .slice A7 n7 c7]) (T1:=(aM.newI W3.heap.size 1).holds) (fun _ _ h=>h) (fun _ _ h=>h) (fun W v0 v1 hb h0 h1=>by
               subst h0
               obtain ⟨sc,Z,A9,n9,c9,rfl,hW,ho⟩:=h1
               have hz:=hW.len (k:=1) qD
               have hzl:=ho.len
               refine (Ba ((O7'.out.below hb).sl) ho.sl (Nat.le_refl _) W7.out.row.dg hW.row.dg qO qO).mono ?_
               rintro e w' ⟨sd,Z2,A10,md,c10,hW2,rfl,ho2,hb2⟩
               rw [W7.out.val,hW.val] at hW2
               exact ⟨⟨_,rfl,sd,Z2,A10,md,c10,rfl,hW2,ho2.lower hb.size⟩,hb2⟩)
       case fin=>
            intro v w4 ho hb
            obtain ⟨sq,qs,A10,md,c10,e56,hWq,oq⟩:=ho.slot (d:=56) qF
            clear ho
            simp only [List.take,List.map_cons,List.map_nil,aK,Option.getD_some,bF,Act.put,List.setIfInBounds_toArray,List.set_cons_succ,List.set_cons_zero,e56]
            clear e56
            have hz4:=hb.size
            have D1a:=Lib.hid ((D1'.out.below hb hr1'').put (.bool sq) (.slice A10 md c10))
            have D2a:=Lib.hid (((D2'.out.below hb hr2'').other hne' 0 (.bool sq)).other hne' 1 (.slice A10 md c10))
            have BY4:=Lib.hid (((ay.below BY3.out hb qO).other (show w.heap.size+1≠r1 by omega) 0 (.bool sq)).other (show w.heap.size+1≠r1 by omega) 1 (.slice A10 md c10))
            have BR4:=Lib.hid (((ay.below BR3.out hb qO).other (show w.heap.size+2≠r1 by omega) 0 (.bool sq)).other (show w.heap.size+2≠r1 by omega) 1 (.slice A10 md c10))
            have BS4:=Lib.hid (((ay.below BS3.out hb qO).other (show w.heap.size+3≠r1 by omega) 0 (.bool sq)).other (show w.heap.size+3≠r1 by omega) 1 (.slice A10 md c10))
            have HB4:=Lib.hid (((HB3.out.trans (hb.mono qO)).setCell (p:=⟨r1,0,none⟩) (show w.heap.size≤r1 by omega) (.bool sq)).setCell (p:=⟨r1,1,none⟩) (show w.heap.size≤r1 by omega) (.slice A10 md c10))
            have OQ:=Lib.hid (((oq.box hr1'' 0 (.bool sq)).box hr1'' 1 (.slice A10 md c10)).lower (show W1.heap.size≤W3.heap.size by omega))
            have OQ2:=Lib.hid ((oq.box hr1'' 0 (.bool sq)).box hr1'' 1 (.slice A10 md c10))
            have O8a:=Lib.hid ((((O8'.out.below hb).keep (gO _ r1 0 (.bool sq)) (.inr NB.out)).keep (gO _ r1 1 (.slice A10 md c10)) (.inr NB.out)))
            have SY4:=Lib.hid (((SY3.out.below hb (show B≤W3.heap.size by omega)).setCell (p:=⟨r1,0,none⟩) (show B≤r1 by omega) (.bool sq)).setCell (p:=⟨r1,1,none⟩) (show B≤r1 by omega) (.slice A10 md c10))
            have WQ:=Lib.hid (show Whole (N.fdiv M) sq qs by rw [G1.out];exact hWq)
            have hszE:((w4.setCell ⟨r1,0,none⟩ (.bool sq)).setCell ⟨r1,1,none⟩ (.slice A10 md c10)).heap.size=w4.heap.size:=by rw [cL,cL]
            obtain ⟨p0,p1,p2,p3⟩:=D1'.out.below hb hr1''
            obtain ⟨k0,k1,k2,k3⟩:=D2'.out.below hb hr2''
            obtain ⟨m0,m1,m2,m3⟩:=ay.below BY3.out hb qO
            have hnb:¬ r1=w.heap.size+1:=qO
            have hnb2:¬ w.heap.size+1=r1:=qO
            clear hb oq hWq
            go_wp2_with fail
            generalize (w4.setCell ⟨r1,0,none⟩ (.bool sq)).setCell ⟨r1,1,none⟩ (.slice A10 md c10)=W4 at D1a D2a BY4 BR4 BS4 HB4 OQ OQ2 O8a SY4 hszE ⊢
            clear p0 p1 p2 p3 k0 k1 k2 k3 m0 m1 m2 m3
            have hr1a:r1<W4.heap.size:=qO
            have hr2a:r2<W4.heap.size:=qO
            refine (p6 (O8a.out.sl) (SY4.out.more (show B≤W4.heap.size by omega)) (Nat.le_refl _) W8.out.row.dg DY.out qO qO).mono ?_
            rintro e w5 ⟨sr,rs2,A11,n11,c11,hWr,rfl,orr,hb⟩
            rw [W8.out.val,HVY.out] at hWr
            have WR:=Lib.hid (show Whole (N.fmod M) sr rs2 by
              rw [G2.out]
              exact hWr)
            have hz5:=hb.size
            have D1b:=Lib.hid (((D1a.out.below hb hr1a).other hne 0 (.bool sr)).other hne 1 (.slice A11 n11 c11))
            have D2b:=Lib.hid ((D2a.out.below hb hr2a).put (.bool sr) (.slice A11 n11 c11))
            have BR5:=Lib.hid (((ay.below BR4.out hb qO).other (show w.heap.size+2≠r2 by omega) 0 (.bool sr)).other (show w.heap.size+2≠r2 by omega) 1 (.slice A11 n11 c11))
            have BS5:=Lib.hid (((ay.below BS4.out hb qO).other (show w.heap.size+3≠r2 by omega) 0 (.bool sr)).other (show w.heap.size+3≠r2 by omega) 1 (.slice A11 n11 c11))
            have HB5:=Lib.hid (((HB4.out.trans (hb.mono qO)).setCell (p:=⟨r2,0,none⟩) (show w.heap.size≤r2 by omega) (.bool sr)).setCell (p:=⟨r2,1,none⟩) (show w.heap.size≤r2 by omega) (.slice A11 n11 c11))
            have OQ5:=Lib.hid ((((OQ2.out.below hb).box hr2'' 0 (.bool sr)).box hr2'' 1 (.slice A11 n11 c11)).lower (show W1.heap.size≤W3.heap.size by omega))
            have OR5:=Lib.hid (((orr.box hr2a 0 (.bool sr)).box hr2a 1 (.slice A11 n11 c11)).lower (show W1.heap.size≤W4.heap.size by omega))
            obtain ⟨q0,q1,q2,q3⟩:=D2a.out.below hb hr2a
            clear hb orr hWr
            go_wp2_with fail
            generalize (w5.setCell ⟨r2,0,none⟩ (.bool sr)).setCell ⟨r2,1,none⟩ (.slice A11 n11 c11)=W5 at D1b D2b BR5 BS5 HB5 OQ5 OR5 ⊢
            clear q0 q1 q2 q3
            obtain ⟨p0,p1,p2,p3⟩:=D1b.out
            obtain ⟨q0,q1,q2,q3⟩:=D2b.out
            obtain ⟨x0,x1,x2,x3⟩:=BR5.out
            obtain ⟨y0,y1,y2,y3⟩:=BS5.out
            have hn1:¬ r1=w.heap.size+2:=qO
            have hn2:¬ r1=w.heap.size+3:=qO
            have hn3:¬ r2=w.heap.size+2:=qO
            have hn4:¬ r2=w.heap.size+3:=qO
            go_region
            go_wp2_with fail
            refine bodyPost_ret (v:= .tuple #[.agg #[.bool sq, .slice A10 md c10], .agg #[.bool sr, .slice A11 n11 c11], .int .i64 0]) ?_ rfl (z_.put HM0.out WQ.out WR.out OQ5.out OR5.out qO HB5.out)
            simp only [results,Tryz.results129]
            go_simp
end Go.Proofs.YtpmhjieibebclaaGreatDoor
