/- nat: addTimes, Mul: what each call answers, and leaves. -/
import Derived.Test.YtpmhjieibebclaaGreatDoorCB
import Derived.Test.YtpmhjieibebclaaGreatDoorCA
import Derived.Deep.RegionHeld3
import Derived.WalkMore
import Derived.Laws.CopyOwn
import Derived.BigRegion
import Derived.Laws.Rows
import Derived.Test.YtpmhjieibebclaaGreatDoorShelf
import Derived.Lib.Walk
import Derived.Lib.ItoaWalk
import Derived.Lib.ItoaMem
import Derived.Lib.AppendIntMem
import Derived.BigCall
import Derived.BigGuard
import Derived.Laws.Tables
import Derived.Laws.ResultCell
import Derived.Laws.CopyRow
import Derived.Lib.AtoiErrMem
import Derived.Lib.AppendStr
import Derived.Lib.Join
set_option maxHeartbeats 2000000
set_option linter.unusedSimpArgs false
set_option linter.unusedVariables false
namespace Go.Proofs.YtpmhjieibebclaaGreatDoor
open Go Go.RowKit
variable {w w':World} {n c B m g:Nat} {A:Option Addr} {b a y s N:Int} {xs:List Int} {xss:List (List Int)}
def Cp (σ x:Int) (w:World) (B g N C o m:Nat) (S X:List Int) (cr:Int) (w':World):Prop:=
 ∃ S1,bH .u32 115 w' B (some ⟨g,0,none⟩) N C S1∧s9 4294967296 σ x S X S1 o m cr∧w.grownBy w' (some g)
theorem bH.at_row{k:IntKind} {e:TypeId} (h:bH k e w B (some ⟨g,0,none⟩) n c xs) {i:Nat} (hi:i<n):
 ∃ x,xs[i]? =some x∧w.cell? ⟨g,i,none⟩=some (.int k x)∧w.frozen? ⟨g,i,none⟩=false∧
  ∀ y,bH k e (w.setCell ⟨g,i,none⟩ (.int k y)) B (some ⟨g,0,none⟩) n c (xs.set i y)∧w.grownBy (w.setCell ⟨g,i,none⟩ (.int k y)) (some g):=by
 obtain ⟨g',x,hA,_,_,hx,hc,hf,hp⟩:=h.set hi
 injection hA with hA
 injection hA with hA
 subst hA
 exact ⟨x,hx,hc,hf,hp⟩
theorem em {a b c:World} {r:Option Nat} (h:a.grownBy b r) (h2:b.grownBy c r):a.grownBy c r:=
 ⟨h2.os.trans h.os,h2.tape.trans h.tape,h2.output.trans h.output,Nat.le_trans h.size h2.size,fun i hi hne=>(h2.block i (Nat.lt_of_lt_of_le hi h.size) hne).trans (h.block i hi hne)⟩
theorem tX {w:World} {B g N C o n c m c2:Nat} {A2:Option Addr} {S X:List Int} {x:Int} (ho:bH .u32 115 w B (some ⟨g,0,none⟩) N C S) (ht:Sl .u32 w B A2 m c2 X) (hB:B≤w.heap.size)
 (hS:Dg 4294967296 S) (hX:Dg 4294967296 X) (hx:0≤x∧x<4294967296) (hmn:m≤n) (hnc:n≤c) (hfit:o+m≤N):
 Calls Tryz.prog 169 #[.slice (some ⟨g,o,none⟩) n c, .slice A2 m c2, .int .u32 x] w fun e w'=>∃ cr,e= .returned (.int .u32 cr)∧(0≤cr∧cr<4294967296)∧Cp 1 x w B g N C o m S X cr w':=by
 have htl:=ht.len
 have hm:=ht.lenMax
 have hgB:=ho.blk_ g rfl
 go_enter Tryz.func169,Tryz.ntmps169
 go_wp2_with fail
 go_loopw [7,12] (fun cv iv wr=>∃ (i:Nat) (cr:Int),i≤m∧iv= .int .i64 i∧cv= .int .u64 cr∧(0≤cr∧cr<4294967296)∧Cp 1 x w B g N C o i S X cr wr) (fun _ iv _=>m - (intOf iv).toNat)
 case atStart=>exact ⟨0,0,Nat.zero_le _,rfl,rfl,by omega,S,ho, .start hS,World.grownBy.refl _ _⟩
 case round=>
  obtain ⟨i,cr,hi,rfl,rfl,hcr,S1,h1,h2,h3⟩:=hrel
  by_cases hlt:i<m
  ·obtain ⟨s,hs,hcell,hfr,hput⟩:=h1.at_row (i:=o+i) qO
   obtain ⟨b2,off2,y,rfl,hb2,ey,hc2⟩:=(ht.grown h3 hB (fun k hk=>by injection hk with hk;omega)).at_ hlt
   have hyy:=hX.get ey
   have hss:=h2.dg.get hs
   obtain ⟨d1,d2,d3,d4,d5⟩:=yV hx hyy hss hcr
   have hw1:IntKind.u64.wrap (x*y)=x*y:=by rw [IntKind.wrap_u64];omega
   have hnext:=Lib.hid (hput ((cr+(x*y+s))%4294967296))
   have hstep:=Lib.hid (h2.step hs ey d3 d5)
   have hg:=Lib.hid h3
   have hin:i<n:=qO
   clear hput h1 h2 h3 ho ht d5
   go_wp2_with fail
   go_roundw
   case rel=>exact ⟨i+1,_,by omega,by go_num,rfl,by omega,_,hnext.out.1,hstep.out,em hg.out hnext.out.2⟩
   case measure=>simp [intOf]<;>omega
  ·obtain rfl:m=i:=qO
   have hfin:=Lib.hid (show Cp 1 x w B g N C o m S X cr wr from ⟨S1,h1,h2,h3⟩)
   clear h1 h2 h3
   go_wp2_with fail
   go_ret
   exact ⟨cr,by go_num,by omega,hfin.out⟩
theorem Below.own(h:w.grownBy w' (some g)) (hg:B≤g) (hB:B≤w.heap.size):Below B w w':=
 (Below.refl _ _).grown h hB (fun k hk=>by injection hk with hk;omega)
theorem Es {w:World} {B:Nat} {A A2:Option Addr} {n c m c2:Nat} {xs ys:List Int} (hs:Sl .u32 w B A n c xs) (ht:Sl .u32 w B A2 m c2 ys) (hB:B≤w.heap.size) (hx:Dg 4294967296 xs) (hy:Dg 4294967296 ys)
 (hn:n≤400000000) (hm:m≤400000000):
 Calls Tryz.prog 149 #[.slice A n c, .slice A2 m c2] w (mR w (val 4294967296 xs*val 4294967296 ys)):=by
 have hxl:=eP xs
 have hyl:=eP ys
 have hl1:=hs.len
 have hl2:=ht.len
 have hx':=cH hx
 have hy':=cH hy
 have XV:=Lib.hid (bw 4294967296 xs)
 have YV:=Lib.hid (bw 4294967296 ys)
 go_enter Tryz.func149,Tryz.ntmps149
 go_wp2_with fail
 refine (eW hs qO).mono ?_
 rintro e w1 ⟨A1,n1,c1,rfl,ho1,hb1⟩
 have ht1:=ht.below hb1 hB
 go_wp2_with fail
 refine (eW ht1 qO).mono ?_
 rintro e w2 ⟨A3,n3,c3,rfl,ho2,hb2⟩
 have hbw:=hb1.trans (hb2.mono hb1.size)
 have s1:=(ho1.below hb2).sl
 have s2:=ho2.sl
 have e1:=s1.len
 have e2:=s2.len
 generalize tl xs=X at*
 generalize tl ys=Y at*
 clear hs ht ht1 ho1 ho2 hb1 hb2
 go_wp2_with (at_make;refine eJ jL rfl _ _ rfl (B:=w2.heap.size) (n1+n3) rfl (by first|rfl|simp) qO qO qO qR (Nat.le_refl _) ?_;intro w3 h3 hg3)
 have hmk:=Mk.made h3 hg3
 clear h3 hg3
 go_loopw [20] (fun iv wr=>∃ (i:Nat) (P:List Int),i≤n1∧iv= .int .i64 i∧Mk .u32 115 w2 (some ⟨w2.heap.size,0,none⟩) (n1+n3) (n1+n3) P wr∧wn 4294967296 X Y P i) (fun iv _=>n1 - (intOf iv).toNat)
 case atStart=>exact ⟨0,_,Nat.zero_le _,rfl,hmk,by have:=wn.start (β:=4294967296) qD X Y;rw [e1,e2] at this;exact this⟩
 case round=>
  obtain ⟨i,P,hi,rfl,hmr,hp⟩:=hrel
  clear hmk
  have hsz:=hmr.2.size
  by_cases hlt:i<n1
  ·obtain ⟨b1,off1,x,rfl,_,ex,hc1⟩:=(s1.below hmr.2 (Nat.le_refl _)).at_ hlt
   have hxx:=hx'.get ex
   have hne:¬ (n1+n3=i):=qO
   have sY:=s2.below hmr.2 (Nat.le_refl _)
   have HP:=Lib.hid hp
   have dP:=hp.dg
   have HB:=Lib.hid hmr.2
   have hoP:=hmr.1
   clear hp hmr
   go_wp2_with fail
   refine (tX (o:=i) hoP sY hsz dP hy' hxx qO qO qO).mono ?_
   rintro e w4 ⟨cr,rfl,hcr,S1,h1,h2,h3⟩
   obtain ⟨z,hz,hcell,hfr,hput⟩:=h1.at_row (i:=i+n3) qO
   have hst:=HP.out.step qD ex (by rw [e2];exact h2) hcr
   rw [e2] at hst
   have hnext:=Lib.hid (hput cr)
   have hstep:=Lib.hid hst.2
   have hG:=Lib.hid h3
   clear h1 h2 h3 hst hput HP sY hoP
   go_wp2_with fail
   go_roundw
   case rel=>exact ⟨i+1,_,by omega,by go_num,⟨hnext.out.1,HB.out.trans ((Below.own (em hG.out hnext.out.2) (Nat.le_refl _) hsz))⟩,hstep.out⟩
   case measure=>simp [intOf]<;>omega
  ·obtain rfl:n1=i:=qO
   have hnum:=hp.num
   rw [List.take_of_length_le qO] at hnum
   have HV:=Lib.hid (show val 4294967296 P=val 4294967296 xs*val 4294967296 ys by rw [hnum,XV.out,YV.out])
   have HD:=Lib.hid hp.dg
   have HB:=Lib.hid (hbw.trans (hmr.2.mono hbw.size))
   have hoP:=hmr.1.sl
   clear hnum hp hmr XV YV s1 s2
   go_wp2_with fail
   refine (eW hoP qO).mono ?_
   rintro e w5 ⟨A5,n5,c5,rfl,ho5,hb5⟩
   go_wp2_with fail
   go_ret
   exact ⟨_,⟨cH HD.out,cd _,by rw [bw,HV.out]⟩,A5,n5,c5,rfl,ho5.lower HB.out.size,HB.out.trans (hb5.mono HB.out.size)⟩
theorem nR.front(h:nR w B A n c xss) (hm:m≤n):nR w B A m c (xss.take m):=by
 refine ⟨by rw [List.length_take];have:=h.1;omega,Nat.le_trans hm h.2.1,h.2.2.1,h.2.2.2.1,fun hn=> ?_⟩
 obtain ⟨b,off,hA,hb,hc⟩:=h.2.2.2.2 qO
 refine ⟨b,off,hA,hb,fun j x hx=>hc j x ?_⟩
 rw [List.getElem?_take] at hx
 split at hx
 ·exact hx
 ·cases hx
theorem nR.back(h:nR w B A n c xss) (hm:m≤n):nR w B (if c=m then A else A.map (·.add m)) (n - m) (c - m) (xss.drop m):=by
 have h1:=h.1
 have h2:=h.2.1
 have h3:=h.2.2.1
 refine ⟨by rw [List.length_drop];omega,by omega,by omega,fun hA=> ?_,fun hn=> ?_⟩
 ·split at hA
  ·omega
  ·have h0:=h.2.2.2.1 (by cases A<;>simp_all)
   omega
 ·obtain ⟨b,off,rfl,hb,hc⟩:=h.2.2.2.2 qO
  rw [if_neg qO]
  refine ⟨b,off+m,by simp [Addr.add_lit],hb,fun j x hx=> ?_⟩
  rw [Nat.add_assoc]
  exact hc _ x (by rw [←hx,List.getElem?_drop])
theorem nR.more{B':Nat} (h:nR w B A n c xss) (hB:B≤B'):nR w B' A n c xss:=by
 refine ⟨h.1,h.2.1,h.2.2.1,h.2.2.2.1,fun hn=> ?_⟩
 obtain ⟨b,off,hA,hb,hc⟩:=h.2.2.2.2 hn
 refine ⟨b,off,hA,by omega,fun j x hx=> ?_⟩
 obtain ⟨A',n',c',e1,e2⟩:=hc j x hx
 exact ⟨A',n',c',e1,e2.more hB⟩
theorem xz{d c:Int} (hd:0≤d∧d<4294967296) (hy:0≤y∧y<4294967296) (hs:0≤s∧s<4294967296) (hc:0≤c∧c<4294967296) (hb:0≤b∧b≤1):
 (0≤y*d∧y*d≤18446744065119617025)∧(0≤c+y*d∧c+y*d≤18446744073709551615)∧(0≤(c+y*d)%4294967296∧(c+y*d)%4294967296<4294967296)∧(0≤(c+y*d) / 4294967296∧(c+y*d) / 4294967296<4294967296)∧
 (0≤(s - (c+y*d)%4294967296 - b)%4294967296∧(s - (c+y*d)%4294967296 - b)%4294967296<4294967296)∧
 (s - (c+y*d)%4294967296 - b)%4294967296+ -1*(4294967296*((c+y*d) / 4294967296+xQ s ((c+y*d)%4294967296) b))=s+ -1*(d*y+(c+b)):=by
 have h0:0≤y*d:=Int.mul_nonneg hy.1 hd.1
 have h1:y*d≤4294967295*4294967295:=Int.mul_le_mul qO qO hd.1 qO
 have h2:=C9 (x:=s) (y:=(c+y*d)%4294967296) (c:=b) hs qO hb
 have h3:d*y=y*d:=Int.mul_comm _ _
 omega
theorem wl{c:Int} (hs:0≤s∧s<4294967296) (hc:0≤c∧c<4294967296) (hb:0≤b∧b≤1):
 (0≤(s - c - b)%4294967296∧(s - c - b)%4294967296<4294967296)∧(s - c - b)%4294967296+ -1*(4294967296*xQ s c b)=s+ -1*(c+b):=by
 have h2:=C9 hs hc hb
 omega
def F7 (σ d:Int) (w:World) (B g N C o m:Nat) (S X:List Int) (b:Int) (S2:List Int) (w':World):Prop:=
 bH .u32 115 w' B (some ⟨g,0,none⟩) N C S2∧ui 4294967296 σ d (val 4294967296 X) S S2 o m b∧w.grownBy w' (some g)
theorem rm {w:World} {B g N C o n c m c2:Nat} {A2:Option Addr} {S X:List Int} {d:Int} (ho:bH .u32 115 w B (some ⟨g,0,none⟩) N C S) (ht:Sl .u32 w B A2 m c2 X) (hB:B≤w.heap.size)
 (hS:Dg 4294967296 S) (hX:Dg 4294967296 X) (hd:0≤d∧d<4294967296) (hmn:m+1≤n) (hnc:n≤c) (hfit:o+m+1≤N):
 Calls Tryz.prog 203 #[.slice (some ⟨g,o,none⟩) n c, .slice A2 m c2, .int .u32 d] w fun e w'=>∃ b S2,e= .returned (.bool (b != 0))∧F7 (-1) d w B g N C o m S X b S2 w':=by
 have htl:=ht.len
 have hm:=ht.lenMax
 have hgB:=ho.blk_ g rfl
 go_enter Tryz.func203,Tryz.ntmps203
 go_wp2_with fail
 go_loopw [7,8,13] (fun cv bv iv wr=>∃ (i:Nat) (cr bo:Int),i≤m∧iv= .int .i64 i∧cv= .int .u64 cr∧bv= .int .u32 bo∧(0≤cr∧cr<4294967296)∧(0≤bo∧bo≤1)∧Cp (-1) d w B g N C o i S X (cr+bo) wr) (fun _ _ iv _=>m - (intOf iv).toNat)
 case atStart=>exact ⟨0,0,0,Nat.zero_le _,rfl,rfl,rfl,by omega,by omega,S,ho, .start hS,World.grownBy.refl _ _⟩
 case round=>
  obtain ⟨i,cr,bo,hi,rfl,rfl,rfl,hcr,hbo,S1,h1,h2,h3⟩:=hrel
  have hS1:=h2.len
  have hSl:=ho.len
  by_cases hlt:i<m
  ·obtain ⟨s,hs,hcell,hfr,hput⟩:=h1.at_row (i:=o+i) qO
   obtain ⟨b2,off2,y,rfl,hb2,ey,hc2⟩:=(ht.grown h3 hB (fun k hk=>by injection hk with hk;omega)).at_ hlt
   have hyy:=hX.get ey
   have hss:=h2.dg.get hs
   obtain ⟨d1,d2,d3,d4,d5,d6⟩:=xz hd hyy hss hcr hbo
   have hw1:IntKind.u64.wrap (y*d)=y*d:=by rw [IntKind.wrap_u64];omega
   have hbb:=Ci s ((cr+y*d)%4294967296) bo
   have hnext:=Lib.hid (hput ((s - (cr+y*d)%4294967296 - bo)%4294967296))
   have hstep:=Lib.hid (h2.step hs ey d5 d6)
   have hg:=Lib.hid h3
   have hsub:=Lib.hid (lR s ((cr+y*d)%4294967296) bo wr hss d3 hbo)
   have hin:i<n:=qO
   clear hput h1 h2 h3 ho ht d6
   go_wp2_with (go_at_call 196;refine hsub.out.mono ?_;rintro e w' ⟨rfl,rfl⟩)
   go_roundw
   case rel=>exact ⟨i+1,_,_,by omega,by go_num,rfl,rfl,d4,hbb,_,hnext.out.1,hstep.out,em hg.out hnext.out.2⟩
   case measure=>simp [intOf]<;>omega
  ·obtain rfl:m=i:=qO
   obtain ⟨s,hs,hcell,hfr,hput⟩:=h1.at_row (i:=o+m) qO
   have hss:=h2.dg.get hs
   obtain ⟨d1,d2⟩:=wl hss hcr hbo
   have hbb:=Ci s cr bo
   have hnext:=Lib.hid (hput ((s - cr - bo)%4294967296))
   have htk:=Lib.hid (h2.took qD htl hs d1 hbb d2)
   have hg:=Lib.hid h3
   have hsub:=Lib.hid (lR s cr bo wr hss hcr hbo)
   have hw1:cr%4294967296=cr:=qO
   have hin:m<n:=qO
   clear hput h1 h2 h3 ho ht d2
   go_wp2_with (go_at_call 196;refine hsub.out.mono ?_;rintro e w' ⟨rfl,rfl⟩)
   go_ret
   exact ⟨_,_,rfl,hnext.out.1,htk.out,em hg.out hnext.out.2⟩
theorem wH{c:Int} (hy:0≤y∧y<4294967296) (hs:0≤s∧s<4294967296) (hc:0≤c∧c≤1):
 (0≤(s+y+c)%4294967296∧(s+y+c)%4294967296<4294967296)∧(0≤(s+y+c) / 4294967296∧(s+y+c) / 4294967296≤1)∧(s+y+c)%4294967296+1*(4294967296*((s+y+c) / 4294967296))=s+1*(1*y+c):=by
 omega
theorem vL {w:World} {B g N C o n c m c2:Nat} {A2:Option Addr} {S X:List Int} (ho:bH .u32 115 w B (some ⟨g,0,none⟩) N C S) (ht:Sl .u32 w B A2 m c2 X) (hB:B≤w.heap.size)
 (hS:Dg 4294967296 S) (hX:Dg 4294967296 X) (hmn:m+1≤n) (hnc:n≤c) (hfit:o+m+1≤N):
 Calls Tryz.prog 204 #[.slice (some ⟨g,o,none⟩) n c, .slice A2 m c2] w fun e w'=>e= .returned (.tuple #[])∧∃ b S2,F7 1 1 w B g N C o m S X b S2 w':=by
 have htl:=ht.len
 have hm:=ht.lenMax
 have hgB:=ho.blk_ g rfl
 go_enter Tryz.func204,Tryz.ntmps204
 go_wp2_with fail
 go_loopw [4,9] (fun cv iv wr=>∃ (i:Nat) (cr:Int),i≤m∧iv= .int .i64 i∧cv= .int .u32 cr∧(0≤cr∧cr≤1)∧Cp 1 1 w B g N C o i S X cr wr) (fun _ iv _=>m - (intOf iv).toNat)
 case atStart=>exact ⟨0,0,Nat.zero_le _,rfl,rfl,by omega,S,ho, .start hS,World.grownBy.refl _ _⟩
 case round=>
  obtain ⟨i,cr,hi,rfl,rfl,hcr,S1,h1,h2,h3⟩:=hrel
  have hS1:=h2.len
  have hSl:=ho.len
  by_cases hlt:i<m
  ·obtain ⟨s,hs,hcell,hfr,hput⟩:=h1.at_row (i:=o+i) qO
   obtain ⟨b2,off2,y,rfl,hb2,ey,hc2⟩:=(ht.grown h3 hB (fun k hk=>by injection hk with hk;omega)).at_ hlt
   have hyy:=hX.get ey
   have hss:=h2.dg.get hs
   obtain ⟨d1,d2,d3⟩:=wH hyy hss hcr
   have hnext:=Lib.hid (hput ((s+y+cr)%4294967296))
   have hstep:=Lib.hid (h2.step hs ey d1 d3)
   have hg:=Lib.hid h3
   have hadd:=Lib.hid (lQ s y cr wr hss hyy hcr)
   have hin:i<n:=qO
   clear hput h1 h2 h3 ho ht d3
   go_wp2_with (go_at_call 187;refine hadd.out.mono ?_;rintro e w' ⟨rfl,rfl⟩)
   go_roundw
   case rel=>exact ⟨i+1,_,by omega,by go_num,rfl,d2,_,hnext.out.1,hstep.out,em hg.out hnext.out.2⟩
   case measure=>simp [intOf]<;>omega
  ·obtain rfl:m=i:=qO
   obtain ⟨s,hs,hcell,hfr,hput⟩:=h1.at_row (i:=o+m) qO
   have hss:=h2.dg.get hs
   have hnext:=Lib.hid (hput ((s+cr)%4294967296))
   have htk:=Lib.hid (h2.took (β:=4294967296) qD htl hs (d:=(s+cr)%4294967296) (b:=(s+cr) / 4294967296) qO qO qO)
   have hg:=Lib.hid h3
   have hin:m<n:=qO
   clear hput h1 h2 h3 ho ht
   go_wp2_with fail
   go_end0
   exact ⟨rfl,_,_,hnext.out.1,htk.out,em hg.out hnext.out.2⟩
theorem Ak {w:World} {B g N C o n c p c2:Nat} {A2:Option Addr} {S X:List Int} {f s u0 u1 u2 q:Int} (ho:bH .u32 115 w B (some ⟨g,0,none⟩) N C S) (ht:Sl .u32 w B A2 (p+2) c2 X)
 (hmn:p+3≤n) (hnc:n≤c) (hn:n≤1000000000) (hfit:o+p+3≤N) (ef:X[p+1]? =some f) (es:X[p]? =some s) (e0:S[o+(p+2)]? =some u0) (e1:S[o+(p+1)]? =some u1) (e2:S[o+p]? =some u2)
 (d0:0≤u0∧u0<4294967296) (d1:0≤u1∧u1<4294967296) (hE:gn f s (u0*4294967296+u1) u2 q):
 Calls Tryz.prog 202 #[.slice (some ⟨g,o,none⟩) n c, .slice A2 (p+2) c2] w fun e w'=>∃ d:Int,e= .returned (.int .u32 d)∧(0≤d∧d≤4294967295)∧(d=q∨d=q+1)∧∃ k,w'=w.drewN k:=by
 obtain ⟨b,off,x,rfl,_,ex,hc1⟩:=ht.at_ (j:=p+1) qO
 obtain rfl:x=f:=by rw [ex] at ef;injection ef
 obtain ⟨b',off',y,hA,_,ey,hc2⟩:=ht.at_ (j:=p) qO
 injection hA with hA
 injection hA with q1 q2
 subst q1;subst q2
 obtain rfl:y=s:=by rw [ey] at es;injection es
 obtain ⟨z0,hz0,g0, -, -⟩:=ho.at_row (i:=o+(p+2)) qO
 obtain rfl:z0=u0:=by rw [hz0] at e0;injection e0
 obtain ⟨z1,hz1,g1, -, -⟩:=ho.at_row (i:=o+(p+1)) qO
 obtain rfl:z1=u1:=by rw [hz1] at e1;injection e1
 obtain ⟨z2,hz2,g2, -, -⟩:=ho.at_row (i:=o+p) qO
 obtain rfl:z2=u2:=by rw [hz2] at e2;injection e2
 have hf:=hE.hf
 have hs:=hE.hs
 have hu:=hE.hu
 have hh:=hE.hh
 have hI:=hE.start
 have hbd:=hE.bound hI
 have hj:=qj (x:=z0) (y:=z1) d0 d1
 have hp1:p+1<n:=qO
 have hp0:p<n:=qO
 have hfb:(x != 0)=true:=by rw [bne_iff_ne];omega
 clear ho ht hz0 hz1 hz2 ex ey ef es
 have HE:=Lib.hid hE
 have HI:=Lib.hid hI
 clear hE hI
 go_enter Tryz.func202,Tryz.ntmps202
 go_wp2
 go_step3
 go_wp2
 go_quiet (fail)
 go_wp2
 go_quiet (fail)
 go_wp2
 go_quiet (fail)
 go_wp2
 go_step3
 go_wp2
 have hx0:x≠0:=qO
 have hr0:(z0*4294967296+z1)%x≤4294967295:=by have:=Int.emod_lt_of_pos (z0*4294967296+z1) (show 0<x by omega);omega
 generalize z0*4294967296+z1=hi at*
 go_loop [9,10] (fun dv rv=>∃ d r:Int,dv= .int .u64 d∧rv= .int .u64 r∧r≤4294967295∧Hid (mr x hi q d r)) (fun dv _=>(intOf dv).toNat)
 case atStart=>exact ⟨_,_,rfl,rfl,hr0,HI⟩
 case round=>
  obtain ⟨d,r,rfl,rfl,hr,hI⟩:=hrel
  clear HI hbd hr0
  obtain ⟨b0,b1,b2,b3⟩:=HE.out.bound hI.out
  have hq:=HE.out.hq
  have hge:=hI.out.ge
  by_cases hbig:4294967295<d
  case' neg=>
   have hdy:0≤d*y∧d*y≤18446744065119617025:=by
    have h0:0≤d*y:=Int.mul_nonneg b0 hs.1
    have h1:d*y≤4294967295*4294967295:=Int.mul_le_mul qO qO hs.1 qO
    omega
   have hw1:IntKind.u64.wrap (d*y)=d*y:=by rw [IntKind.wrap_u64];omega
   have hj2:=qj (x:=r) (y:=z2) qO hu
   by_cases ht:r*4294967296+z2<d*y
   case' neg=>
    have hfin:=Lib.hid (HE.out.done hI.out qO)
    clear hI HE
    go_wp2_with fail
    go_ret
    exact ⟨d,by go_num,by omega,hfin.out,_,rfl⟩
   have hl:=HE.out.less hI.out (.inr ht)
  case' pos=>have hl:=HE.out.less hI.out (.inl hbig)
  all_goals
   clear hI
   have hd0:=hl.ge
   have HL:=Lib.hid hl
   by_cases hbr:4294967295<r+x
   ·have hfin:=Lib.hid (HE.out.broke hl hbr)
    have hle:=hfin.out.1
    clear hl HE
    go_wp2_with fail
    go_ret
    exact ⟨d - 1,by go_num,by have:=hfin.out.1;omega,hfin.out.2,_,rfl⟩
   ·clear hl
    go_wp2_with fail
    simp only [intOf]
    omega
def GD (w:World) (B g N C o:Nat) (S:List Int) (V:Int) (e:Ending) (w':World):Prop:=
 ∃ (d:Int) (S2:List Int),e= .returned (.int .u32 d)∧bH .u32 115 w' B (some ⟨g,0,none⟩) N C S2∧E4 4294967296 V S S2 o d∧w.grownBy w' (some g)
theorem ru {w:World} {B g N C o n c m c2:Nat} {A2:Option Addr} {S X:List Int} {f:Int} (ho:bH .u32 115 w B (some ⟨g,0,none⟩) N C S) (ht:Sl .u32 w B A2 m c2 X) (hB:B≤w.heap.size)
 (hS:Dg 4294967296 S) (hX:Dg 4294967296 X) (hm:2≤m) (hmn:m+1≤n) (hnc:n≤c) (hn:n≤1000000000) (hfit:o+m+1≤N) (ef:X[m - 1]? =some f) (hf:2147483648≤f) (hW:val 4294967296 (S.drop o)<4294967296*val 4294967296 X):
 Calls Tryz.prog 198 #[.slice (some ⟨g,o,none⟩) n c, .slice A2 m c2] w (GD w B g N C o S (val 4294967296 X)):=by
 obtain ⟨p,rfl⟩:∃ p,m=p+2:=⟨m - 2,by omega⟩
 have hSl:=ho.len
 have hXl:=ht.len
 obtain ⟨s,es⟩:=c_ (xs:=X) (i:=p) qO
 obtain ⟨u0,e0⟩:=c_ (xs:=S) (i:=o+p+2) qO
 obtain ⟨u1,e1⟩:=c_ (xs:=S) (i:=o+p+1) qO
 obtain ⟨u2,e2⟩:=c_ (xs:=S) (i:=o+p) qO
 obtain ⟨hV,hW2,hE⟩:=gn.of hS hX hXl ef es hf e0 e1 e2 hW
 have hG:=Lib.hid (Ak (c:=c) ho ht qO hnc hn qO ef es e0 e1 e2 (hS.get e0) (hS.get e1) hE)
 have HW:=Lib.hid hW2
 clear hE e0 e1 e2 es ef hW hW2
 go_enter Tryz.func198,Tryz.ntmps198
 go_wp2_with fail
 refine hG.out.mono ?_
 rintro e w1 ⟨d,rfl,hd,hq,k,rfl⟩
 have ho1:=ho.drew k
 have ht1:=ht.drew k
 have g1:w.grownBy (w.drewN k) (some g):=⟨rfl,rfl,rfl,Nat.le_refl _,fun _ _ _=>rfl⟩
 have hB1:B≤(w.drewN k).heap.size:=hB
 clear hG ho ht
 generalize w.drewN k=w1 at*
 go_wp2_with fail
 refine (rm (d:=d) ho1 ht1 hB1 hS hX qO hmn hnc hfit).mono ?_
 rintro e w2 ⟨b,S2,rfl,h2,h3,h4⟩
 have hb:=h3.b01
 have hgB:=ho1.blk_ g rfl
 rcases (show b=0∨b=1 by omega) with rfl|rfl
 ·have hfin:=Lib.hid (h3.down qD hV hq)
  have h5:=Lib.hid (em g1 h4)
  clear h3 h4 g1 hb
  go_wp2_with fail
  go_ret
  exact ⟨d,S2,rfl,h2,hfin.out,h5.out⟩
 ·have ht2:Sl .u32 w2 B A2 (p+2) c2 X:=ht1.grown h4 hB1 (fun k hk=>by injection hk with hk;omega)
  have HB:=Lib.hid (fun b S3 (h:ui 4294967296 1 1 (val 4294967296 X) S2 S3 o (p+2) b)=>h3.back qD h hS qO hV HW.out hq)
  have h5:=Lib.hid (em g1 h4)
  have hd1:1≤d:=by
   have n1:=h3.num
   have n2:=h3.dg.dropLt qD (o:=o) (m:=p+2) (by rw [h3.rest];exact qY (by decide) hS (by omega) HW.out) (by rw [h3.len];omega)
   have n3:=am (β:=4294967296) qD (hS.drop o)
   rcases Int.lt_or_le 0 d with h|h
   ·omega
   ·obtain rfl:d=0:=qO
    simp only [Int.mul_one,Int.zero_mul,Int.mul_zero,Int.add_zero] at n1
    omega
  have d2:=h3.dg
  have h4s:=h4.size
  clear h3 h4 g1 hb HW
  go_wp2_with fail
  refine (vL h2 ht2 (Nat.le_trans hB1 h4s) d2 hX hmn hnc hfit).mono ?_
  rintro e w3 ⟨rfl,b,S3,h6,h7,h8⟩
  have hfin:=Lib.hid (HB.out b S3 h7)
  have h9:=Lib.hid (em h5.out h8)
  clear h7 h8 HB h2
  go_wp2_with fail
  go_ret
  exact ⟨d - 1,S3,by go_num,h6,hfin.out,h9.out⟩
theorem zK {P:Program} {t e:TypeId} {k:IntKind} {bytes:Nat} (T:qT P t e k bytes) {w w0:World} {ops:Array Oper} {rest:List Oper} {o:Oper} {a:Act} {Q:Exit→Act→World→Prop} (hgd:o.guard=none) (d s:Operand)
 (ho:o.op= .call { callee:= .builtin .copy,args:= #[d,s],argTypes:= #[t,t] }) {g n c m c2 B2:Nat} {A2:Option Addr} {S X:List Int} (h:Mk k e w0 (some ⟨g,0,none⟩) n c S w) (hs:Sl k w B2 A2 m c2 X)
 (ed:a.eval d= .slice (some ⟨g,0,none⟩) n c) (es:a.eval s= .slice A2 m c2) (hm:m≤n) (hnc:n=c)
 (hK:∀ w',Mk k e w0 (some ⟨g,0,none⟩) n c (X++S.drop m) w'→wpList P ops Q rest (a.put o.dst (goInt m)) w'):wpList P ops Q (o::rest) a w:=by
 obtain ⟨i,hi,hz,hsz,hby⟩:=T.info
 subst hnc
 have hS:=h.1.len
 have hX:=hs.len
 rcases h.1.2 with ⟨hv,_⟩|⟨g',cap,cur,hv,hb,hg,h1,h2,h3,h4⟩
 ·cases hv
 ·injection hv with hv h5 h6
  injection hv with hv
  injection hv with hv
  subst hv
  subst h6
  have hcur:cur.toList=S.map (Value.int k):=by
   rw [←h4,List.take_of_length_le (by simp;omega)]
  have hcl:cur=(S.map (Value.int k)).toArray:=by rw [←hcur]
  refine wpList_copy_splice hgd d s t t ho e T.slice (by rw [hi];simp [hsz]) (some ⟨g,0,none⟩) A2 n n m c2 ed es g 0 (S.map (Value.int k)) e (by rw [hg,hcl]) (X.map (Value.int k)) (by rw [List.length_map,hX];exact (Nat.min_eq_left hm).symm) ?_ (by simp;omega)
   (fun v hv=>by obtain ⟨_,_,rfl⟩:=List.mem_map.1 hv;rfl) w0.heap.size w0 h.2 hb ?_
  ·intro hpos
   simp at hpos
   refine ⟨rfl,?_⟩
   obtain ⟨b,off,hA,_,hc⟩:=hs.2.2.2.2 qO
   subst hA
   exact ⟨_,rfl,fun j v hv=>hs.news j v hv⟩
  ·intro w' hH hB
   have e1:(X.map (Value.int k)).length=m:=by simp [hX]
   have:=hK w' ⟨⟨by simp [hX];omega, .inr ⟨g,n,_,rfl,hb,hH.out,Nat.le_refl _,h2,?_,?_⟩⟩,hB⟩
   ·rw [e1];exact this
   ·simp [splice,hX,hS];omega
   ·simp only [splice,List.take_zero,List.nil_append,Nat.zero_add]
    rw [List.take_of_length_le (by simp [hX,hS];omega)]
    simp [hX,List.map_drop]
theorem zY{b:Nat} (hb:dW N b) (h0:4294967296^(m - 1)≤N) (h1:N<4294967296^m) (hm:0<m):∃ s:Nat,(32*(m:Int)) - (b:Int)=s∧s≤31∧b+s=32*m:=by
 have e:∀ k:Nat,(4294967296:Int)^k=2^(32*k):=fun k=>by rw [show (4294967296:Int)=2^32 from rfl,←Int.pow_mul]
 rw [e] at h0 h1
 have p:=aI (show (0:Int)<2 by decide) (32*(m - 1))
 rcases hb with ⟨h,_⟩|⟨h2,h3,h4⟩
 ·omega
 ·have hle:b≤32*m:=by
   rcases Nat.lt_or_ge (32*m) b with h|h
   ·have:=aP (show (0:Int)<2 by decide) (show 32*m≤b - 1 by omega)
    omega
   ·exact h
  have hge:32*(m - 1)<b:=by
   rcases Nat.lt_or_ge (32*(m - 1)) b with h|h
   ·exact h
   ·have:=aP (show (0:Int)<2 by decide) h
    omega
  exact ⟨32*m - b,by omega,by omega,by omega⟩
theorem C6{b s:Nat} {V:List Int} (hb:dW N b) (hN:0<N) (hm:0<m) (hs:b+s=32*m) (hV:fZ 4294967296 (2^s*N) V):V.length=m∧∃ f,V[m - 1]? =some f∧2147483648≤f:=by
 rcases hb with ⟨h,_⟩|⟨h2,h3,h4⟩
 ·omega
 ·have p:=aI (show (0:Int)<2 by decide) s
  have lo:(2:Int)^(32*m - 1)≤2^s*N:=by
   rw [show 32*m - 1=s+(b - 1) by omega,Int.pow_add]
   exact Int.mul_le_mul_of_nonneg_left h3 qO
  have up:2^s*N<(4294967296:Int)^m:=by
   rw [show (4294967296:Int)=2^32 from rfl,←Int.pow_mul,←hs,Nat.add_comm,Int.pow_add]
   exact Int.mul_lt_mul_of_pos_left h4 p
  have l1:=hV.len_le qD up
  have hvv:=hV.val
  have l2:m≤V.length:=by
   rcases Nat.lt_or_ge V.length m with h|h
   ·have:=bQ (β:=4294967296) qD hV.dg
    have q:=aP (show (0:Int)<4294967296 by decide) (show V.length≤m - 1 by omega)
    rw [show (4294967296:Int)^(m - 1)=2^(32*(m - 1)) by rw [show (4294967296:Int)=2^32 from rfl,←Int.pow_mul]] at q
    have:=aP (show (0:Int)<2 by decide) (show 32*(m - 1)≤32*m - 1 by omega)
    omega
   ·exact h
  refine ⟨by omega,?_⟩
  obtain ⟨f,hf⟩:=c_ (xs:=V) (i:=m - 1) qO
  refine ⟨f,hf,?_⟩
  have hd:=hV.dg.get hf
  have e1:=fx 4294967296 V (k:=m - 1) qO
  rw [gi _ hf,List.drop_of_length_le qO] at e1
  have e2:=bQ (β:=4294967296) qD (hV.dg.take (m - 1))
  rw [List.length_take,Nat.min_eq_left qO] at e2
  simp only [val,Int.mul_zero,Int.add_zero] at e1
  have e3:(2:Int)^(32*m - 1)=4294967296^(m - 1)*2147483648:=by
   rw [show (4294967296:Int)=2^32 from rfl,←Int.pow_mul,show (2147483648:Int)=2^31 from rfl,←Int.pow_add];congr 1;omega
  have e4:(4294967296:Int)^(m - 1)*2147483648<4294967296^(m - 1)*(f+1):=by rw [Int.mul_add];omega
  have:=Int.lt_of_mul_lt_mul_left e4 (by have:=aI (show (0:Int)<4294967296 by decide) (m - 1);omega)
  omega
theorem xt{s:Nat} {As:List Int} (ha0:0≤a) (ha:a<4294967296^n) (hs:s≤31) (hm:0<m) (hmn:m≤n) (hb:4294967296^(m - 1)≤b) (hA:fZ 4294967296 (2^s*a) As):
 As.length≤n+1∧Dg 4294967296 (As++(List.replicate (n+1) 0).drop As.length)∧(As++(List.replicate (n+1) 0).drop As.length).length=n+1∧val 4294967296 (As++(List.replicate (n+1) 0).drop As.length)=2^s*a∧
  val 4294967296 ((As++(List.replicate (n+1) 0).drop As.length).drop (n+1 - m))<2^s*b:=by
 have p:=aI (show (0:Int)<2 by decide) s
 have p2:=aP (show (0:Int)<2 by decide) hs
 have q:=aI (show (0:Int)<4294967296 by decide) n
 have up:2^s*a<2^s*(4294967296:Int)^n:=Int.mul_lt_mul_of_pos_left ha p
 have l1:=hA.len_le (k:=n+1) qD (by
  rw [Int.pow_succ,Int.mul_comm _ 4294967296]
  have:2^s*(4294967296:Int)^n≤4294967296*4294967296^n:=Int.mul_le_mul_of_nonneg_right qO qO
  omega)
 have hd:Dg 4294967296 (As++(List.replicate (n+1) 0).drop As.length):=hA.dg.append ((Dg.zeros qD _).drop _)
 have hl:(As++(List.replicate (n+1) (0:Int)).drop As.length).length=n+1:=by simp;omega
 have hv:val 4294967296 (As++(List.replicate (n+1) 0).drop As.length)=2^s*a:=by
  rw [cI,List.drop_replicate,gM,hA.val];omega
 refine ⟨l1,hd,hl,hv,?_⟩
 have e1:=fx 4294967296 (As++(List.replicate (n+1) 0).drop As.length) (k:=n+1 - m) qO
 rw [hv] at e1
 have e2:=am (β:=4294967296) qD (hd.take (n+1 - m))
 generalize val 4294967296 ((As++(List.replicate (n+1) 0).drop As.length).drop (n+1 - m))=R at*
 have e3:(2:Int)^s*4294967296^n=4294967296^(n+1 - m)*(2^s*4294967296^(m - 1)):=by
  rw [Int.mul_left_comm,←Int.pow_add,show n+1 - m+(m - 1)=n by omega]
 have e4:(4294967296:Int)^(n+1 - m)*R<4294967296^(n+1 - m)*(2^s*4294967296^(m - 1)):=qO
 have e5:=Int.lt_of_mul_lt_mul_left e4 (by have:=aI (show (0:Int)<4294967296 by decide) (n+1 - m);omega)
 have e6:(2:Int)^s*4294967296^(m - 1)≤2^s*b:=Int.mul_le_mul_of_nonneg_left hb qO
 omega
theorem GX(hd:Dg 4294967296 xs) (ht:Tr xs) (h:0<xs.length):4294967296^(xs.length - 1)≤val 4294967296 xs:=by
 obtain ⟨zs,z,rfl,hz,_⟩:=ht.last (by intro e;subst e;simp at h)
 have h1:=hd z qE
 have h2:=am (β:=4294967296) qD hd.left
 rw [bN]
 have:(4294967296:Int)^zs.length*1≤4294967296^zs.length*z:=Int.mul_le_mul_of_nonneg_left qO (by have:=aI (show (0:Int)<4294967296 by decide) zs.length;omega)
 simp
 omega
def Sep (A A2:Option Addr):Prop:=fh A=none∨fh A≠fh A2
theorem Sep.symm{A2:Option Addr} (h:Sep A A2):Sep A2 A:=by
 rcases h with h|h
 ·cases h2:fh A2 with
  |none=>exact .inl h2
  |some g=>exact .inr (by rw [h2,h];intro e;cases e)
 ·exact .inr fun e=>h e.symm
def JN (w:World) (a b:Int) (e:Ending) (w':World):Prop:=
 ∃ qs rs A1 n1 c1 A2 n2 c2,e= .returned (.tuple #[.slice A1 n1 c1, .slice A2 n2 c2])∧fZ 4294967296 (a / b) qs∧fZ 4294967296 (a%b) rs∧bH .u32 115 w' w.heap.size A1 n1 c1 qs∧bH .u32 115 w' w.heap.size A2 n2 c2 rs∧Sep A1 A2∧Below w.heap.size w w'
theorem Ct {a b:Nat} (h:a≠b):fh (some ⟨a,0,none⟩)≠some b:=fun e=>h (by simpa [fh] using e)
theorem bH.of_grown{k:IntKind} {e:TypeId} (h:bH k e w B A n c xs) (hg:w.grownBy w' (some g)) (hne:fh A≠some g):bH k e w' B A n c xs:=h.keep hg (.inr hne)
theorem xF {w:World} {B:Nat} {A A2:Option Addr} {n c m c2:Nat} {X Y:List Int} (hs:Sl .u32 w B A n c X) (ht:Sl .u32 w B A2 m c2 Y) (hB:B≤w.heap.size) (hT:f_ w) (hT0:3<w.heap.size)
 (hX:Dg 4294967296 X) (hY:Dg 4294967296 Y) (tY:Tr Y) (hm:2≤m) (hmn:m≤n) (hn:n≤400000000):
 Calls Tryz.prog 189 #[.slice A n c, .slice A2 m c2] w (JN w (val 4294967296 X) (val 4294967296 Y)):=by
 have hXl:=hs.len
 have hYl:=ht.len
 have hlow:=GX hY tY qO
 have hup:=bQ (β:=4294967296) qD hY
 rw [hYl] at hlow hup
 have hp:=aI (show (0:Int)<4294967296 by decide) (m - 1)
 have hX0:=am (β:=4294967296) qD hX
 have hX1:=bQ (β:=4294967296) qD hX
 rw [hXl] at hX1
 have HL:=Lib.hid hlow
 have HU:=Lib.hid hup
 have HN:=Lib.hid (show 0<val 4294967296 Y by omega)
 have HX:=Lib.hid (And.intro hX0 hX1)
 have HT:=Lib.hid hT
 clear hlow hup hp hX0 hX1 hT
 go_enter Tryz.func189,Tryz.ntmps189
 go_wp2_with fail
 refine (nD ht HT.out hY qO).mono ?_
 rintro e w' ⟨⟨b,hb,rfl⟩,rfl⟩
 obtain ⟨s,hs1,hs2,hs3⟩:=zY hb HL.out HU.out qO
 have hbm:(b:Int)≤32*m:=qO
 have HB:=Lib.hid hb
 clear hb
 have hw1:IntKind.i64.wrap (32*(m:Int))=32*(m:Int):=by rw [IntKind.wrap_i64];omega
 have hw2:IntKind.i64.wrap (32*(m:Int) - b)=s:=by rw [IntKind.wrap_i64];omega
 go_wp2_with fail
 refine (uV ht hB hY qO qO).mono ?_
 rintro e w1 ⟨V,A3,m3,c3,hV,rfl,hoV,hbV⟩
 obtain ⟨hVl,f,hf,hf2⟩:=C6 HB.out HN.out qO hs3 hV
 have hlV:=hoV.len
 obtain rfl:m=m3:=qO
 have HV:=Lib.hid hV.val
 have dV:=hV.dg
 have hs1':=hs.below hbV hB
 clear HB hV hs ht
 go_wp2_with fail
 refine (uV hs1' (Nat.le_trans hB hbV.size) hX qO qO).mono ?_
 rintro e w2 ⟨As,A4,n4,c4,hA,rfl,hoA,hbA⟩
 have hlA:=hoA.len
 have HS:=Lib.hid (xt HX.out.1 HX.out.2 hs2 qO hmn HL.out hA)
 have hl4:=HS.out.1
 have hbw:=hbV.trans (hbA.mono hbV.size)
 have sV:=(hoV.below hbA).sl
 have sA:=hoA.sl
 clear hoV hoA hbV hbA hA hs1'
 have hw3:IntKind.i64.wrap ((n:Int)+1 - m)=((n+1 - m:Nat):Int):=by rw [IntKind.wrap_i64];omega
 go_wp2_with (first
  |(at_make
    first
    |(refine eJ jL rfl _ _ rfl (B:=w2.heap.size) (n+1) rfl rfl qO qO qO qR (Nat.le_refl _) ?_
      intro w3 h3 hg3
      have hmk:=Mk.made h3 hg3
      have sA3:=sA.below hmk.2 (Nat.le_refl _))
    |(refine eJ jL rfl _ _ rfl (B:=w4.heap.size) (n+1 - m) rfl rfl qO qO qO qR (Nat.le_refl _) ?_
      intro w5 h5 hg5))
  |(with_reducible refine zK jL rfl _ _ rfl hmk sA3 rfl rfl qO rfl ?_;intro w4 hm4))
 subst hlA
 have hu5:=hm4.below ((Below.refl _ _).grown hg5 (Nat.le_refl _) (fun _ h=>by cases h))
 have hgu:=(hm4.1.blk_ _ rfl).2
 have sV5:=sV.below hu5.2 (Nat.le_refl _)
 obtain ⟨-,dU,lU,vU,hst⟩:=HS.out
 generalize As++List.drop As.length (List.replicate (n+1) 0)=U0 at*
 have hq:po 4294967296 (val 4294967296 V) U0 U0 (List.replicate (n+1 - m) 0) (n+1 - m):=po.start dU (Dg.zeros qD _) qO qE (by rw [HV.out];exact hst)
 have VU:=Lib.hid vU
 have hV0:=Lib.hid (show 0<val 4294967296 V by rw [HV.out];exact Int.mul_pos (aI qD s) HN.out)
 clear HS vU hst hmk sA3 hm4 hg3 h3 dU sA
 go_loopw [12] (fun jv wr=>∃ (k:Nat) (U Q:List Int),k≤n+1 - m∧jv= .int .i64 ((k:Int) - 1)∧bH .u32 115 wr w2.heap.size (some ⟨w2.heap.size,0,none⟩) (n+1) (n+1) U∧bH .u32 115 wr w4.heap.size (some ⟨w4.heap.size,0,none⟩) (n+1 - m) (n+1 - m) Q∧
  po 4294967296 (val 4294967296 V) U0 U Q k∧Below w2.heap.size w2 wr) (fun jv _=>(intOf jv+1).toNat)
 case atStart=>exact ⟨n+1 - m,U0,_,Nat.le_refl _,rfl,hu5.1,h5,hq,hu5.2⟩
 case round=>
  obtain ⟨k,U,Q,hk,rfl,hoU,hoQ,hJ,hbr⟩:=hrel
  clear hu5 h5 hq hg5
  by_cases h0:k=0
  ·subst h0
   obtain ⟨vQ,vR⟩:=hJ.done qD
   obtain ⟨e1,e2⟩:=yU (U:=val 4294967296 X) (V:=val 4294967296 Y) (s:=2^s) HN.out (aI qD s)
   rw [VU.out,HV.out,Int.mul_comm _ (val 4294967296 X),Int.mul_comm _ (val 4294967296 Y)] at vQ vR
   rw [e1] at vQ
   rw [e2] at vR
   have HQ:=Lib.hid vQ
   have HR:=Lib.hid (show val 4294967296 U / 2^s=val 4294967296 X%val 4294967296 Y by
    rw [vR,Int.mul_ediv_cancel _ (by have:=aI (show (0:Int)<2 by decide) s;omega)])
   have dU:=hJ.dgU
   have dQ:=hJ.dgQ
   clear vQ vR e1 e2 hJ VU
   have hw6:IntKind.i64.wrap (-(s:Int))= -(s:Int):=by rw [IntKind.wrap_i64];omega
   go_wp2_with fail
   refine (mG hoU.sl (Nat.le_refl _) dU qO qO).mono ?_
   rintro e w6 ⟨R,A6,n6,c6,hR,rfl,zC,hb6⟩
   have sQ:=(hoQ.below hb6).sl
   rw [HR.out] at hR
   have RR:=Lib.hid hR
   clear hR HR
   go_wp2_with fail
   refine (eW sQ qO).mono ?_
   rintro e w7 ⟨A7,n7,c7,rfl,ho7,hb7⟩
   have hw2:=hbw.size
   have hwr:=hbr.size
   have hw6s:=hb6.size
   have hbA:Below w.heap.size w w7:=hbw.trans ((hbr.trans ((hb6.trans (hb7.mono hw6s)).mono hwr)).mono hw2)
   have HB7:=Lib.hid hbA
   have SEP:=Lib.hid (show Sep A7 A6 from zC.apart ho7 (Nat.le_refl _))
   have oR:=(zC.below hb7).lower (Nat.le_trans hw2 hwr)
   have o7:=ho7.lower (Nat.le_trans (Nat.le_trans hw2 hwr) hw6s)
   clear hbA hbr hb6 hb7 hbw
   go_wp2_with fail
   go_ret2
   exact ⟨_,R,A7,n7,c7,A6,n6,c6,rfl,⟨cH dQ,cd _,by rw [bw,HQ.out]⟩,RR.out,o7,oR,SEP.out,HB7.out⟩
  ·obtain ⟨j,rfl⟩:∃ j,k=j+1:=⟨k - 1,by omega⟩
   have lUU:=hoU.len
   have lQQ:=hoQ.len
   have hfit:=hJ.fits qD (show j<U.length by omega)
   have hne:¬ (n+1=j):=qO
   have HJ:=Lib.hid hJ
   have dU:=hJ.dgU
   have HBr:=Lib.hid hbr
   have sVr:=sV.below hbr (Nat.le_refl _)
   have hTD:=Lib.hid (ru (o:=j) (n:=j+m+1 - j) (c:=n+1 - j) hoU sVr hbr.size dU dV hm qO qO qO qO hf hf2 hfit)
   clear hJ hbr hfit
   go_wp2_with fail
   refine hTD.out.mono ?_
   rintro e w6 ⟨d,S2,rfl,ho6,hdig,hg6⟩
   have hoQ6:=hoQ.of_grown hg6 (Ct qO)
   obtain ⟨z,hz,hcell,hfr,hput⟩:=hoQ6.at_row (i:=j) qO
   have hnext:=Lib.hid (hput d)
   have hstep:=Lib.hid (HJ.out.step qD qO qO hV0.out hdig)
   have ho7:=Lib.hid (ho6.of_grown (hput d).2 (Ct qO))
   have hb7:=Lib.hid (HBr.out.trans (((Below.refl _ _).grown hg6 HBr.out.size (fun k hk=>by injection hk with hk;omega)).trans ((Below.refl _ _).grown (hput d).2 (Nat.le_trans HBr.out.size hg6.size) (fun k hk=>by injection hk with hk;omega))))
   clear hput hdig hg6 hoQ6 ho6 hoU hoQ HJ HBr hTD
   go_wp2_with fail
   go_roundw
   case rel=>exact ⟨j,S2,_,by omega,by simp,ho7.out,hnext.out.1,hstep.out,hb7.out⟩
   case measure=>simp [intOf]<;>omega
def JD (w:World) (a b:Int) (e:Ending) (w':World):Prop:=
 (b=0∧e= .returned (.tuple #[.slice none 0 0, .slice none 0 0, .int .i64 20])∧Below w.heap.size w w')∨
 (0<b∧∃ qs rs A1 n1 c1 A2 n2 c2,e= .returned (.tuple #[.slice A1 n1 c1, .slice A2 n2 c2, .int .i64 0])∧fZ 4294967296 (a / b) qs∧fZ 4294967296 (a%b) rs∧bH .u32 115 w' w.heap.size A1 n1 c1 qs∧bH .u32 115 w' w.heap.size A2 n2 c2 rs∧Below w.heap.size w w')
def JP (w:World) (a b:Int) (e:Ending) (w':World):Prop:=
 (b=0∧e= .returned (.tuple #[.slice none 0 0, .slice none 0 0, .int .i64 20])∧Below w.heap.size w w')∨
 (0<b∧∃ qs rs A1 n1 c1 A2 n2 c2,e= .returned (.tuple #[.slice A1 n1 c1, .slice A2 n2 c2, .int .i64 0])∧fZ 4294967296 (a / b) qs∧fZ 4294967296 (a%b) rs∧bH .u32 115 w' w.heap.size A1 n1 c1 qs∧bH .u32 115 w' w.heap.size A2 n2 c2 rs∧Sep A1 A2∧Below w.heap.size w w')
theorem qW {w:World} {B:Nat} {A A2:Option Addr} {n c m c2:Nat} {xs ys:List Int} (hs:Sl .u32 w B A n c xs) (ht:Sl .u32 w B A2 m c2 ys) (hB:B≤w.heap.size) (hT:f_ w) (hT0:3<w.heap.size)
 (hx:Dg 4294967296 xs) (hy:Dg 4294967296 ys) (hn:n≤400000000) (hm:m≤400000000):
 Calls Tryz.prog 170 #[.slice A n c, .slice A2 m c2] w (JP w (val 4294967296 xs) (val 4294967296 ys)):=by
 have hxl:=eP xs
 have hyl:=eP ys
 have hl1:=hs.len
 have hl2:=ht.len
 have hx':=cH hx
 have hy':=cH hy
 have XV:=Lib.hid (bw 4294967296 xs)
 have YV:=Lib.hid (bw 4294967296 ys)
 have XT:=cd xs
 have YT:=cd ys
 have HT:=Lib.hid hT
 clear hT
 go_enter Tryz.func170,Tryz.ntmps170
 go_wp2_with fail
 refine (eW hs qO).mono ?_
 rintro e w1 ⟨A1,n1,c1,rfl,ho1,hb1⟩
 have ht1:=ht.below hb1 hB
 go_wp2_with fail
 refine (eW ht1 qO).mono ?_
 rintro e w2 ⟨A3,n3,c3,rfl,ho2,hb2⟩
 have hbw:=hb1.trans (hb2.mono hb1.size)
 have ho1':=ho1.below hb2
 have s1:=ho1'.sl
 have s2:=ho2.sl
 have o2:=ho2.lower hb1.size
 have e1:=s1.len
 have e2:=s2.len
 have HT2:=Lib.hid (HT.out.below hbw hT0)
 have hz2:=Nat.lt_of_lt_of_le hT0 hbw.size
 generalize tl xs=X at*
 generalize tl ys=Y at*
 have hw2s:=hbw.size
 have x0:=am (β:=4294967296) qD hx'
 have X0:=Lib.hid x0
 have y0:=am (β:=4294967296) qD hy'
 clear hs ht ht1 ho1 ho2 hb1 hb2 HT hT0 x0
 by_cases h0:n3=0
 ·subst h0
  have hz:val 4294967296 ys=0:=by rw [←YV.out,List.eq_nil_of_length_eq_zero e2];rfl
  have HZ:=Lib.hid hz
  have HB:=Lib.hid hbw
  clear hz YV hbw y0 HT2 s1 s2 o2 ho1'
  go_wp2_with fail
  all_goals go_ret3
  all_goals exact .inl ⟨HZ.out,rfl,HB.out⟩
 ·have hpos:0<val 4294967296 Y:=by
   rcases Int.lt_or_le 0 (val 4294967296 Y) with h|h
   ·exact h
   ·have:=Tr.zero (β:=4294967296) qD hy' YT qO;subst this;simp at e2;omega
  have HP:=Lib.hid hpos
  have hlen:((n3:Int)==0)=false:=beq_eq_false_iff_ne.2 qO
  clear hpos y0
  by_cases hlt:val 4294967296 X<val 4294967296 Y
  ·have hq:val 4294967296 xs / val 4294967296 ys=0:=by rw [←XV.out,←YV.out];exact Int.ediv_eq_zero_of_lt X0.out hlt
   have hr:val 4294967296 xs%val 4294967296 ys=val 4294967296 X:=by rw [←XV.out,←YV.out];exact Int.emod_eq_of_lt X0.out hlt
   have HQ:=Lib.hid hq
   have HR:=Lib.hid hr
   have HPs:=Lib.hid (show 0<val 4294967296 ys by rw [←YV.out];exact HP.out)
   have hc:=eO hlt
   have HC:=Lib.hid (iI s1 s2 hx' hy')
   have HB:=Lib.hid hbw
   clear hq hr XV YV hlt hbw HT2 s1 s2
   go_wp2_with fail
   refine HC.out.mono ?_
   rintro e w3 ⟨hr3,q,rfl⟩
   obtain rfl:e= .returned (.int .i64 (-1)):=by unfold jq at hr3;rw [hr3,hc]
   clear hr3 hc
   go_wp2_with fail
   go_ret3
   exact .inr ⟨HPs.out,[],X,none,0,0,A1,n1,c1,rfl,by rw [HQ.out];exact ⟨Dg.nil,Tr.nil,rfl⟩,by rw [HR.out];exact ⟨hx',XT,rfl⟩,bH.nil,ho1'.drew q, .inl rfl,Below.drewN' HB.out q⟩
  ·have HC:=Lib.hid (wA s1 s2 hx' hy' qO)
   have HPs:=Lib.hid (show 0<val 4294967296 ys by rw [←YV.out];exact HP.out)
   by_cases h1:n3=1
   ·subst h1
    obtain ⟨b,off,y,rfl,_,ey,hcell⟩:=s2.at_ (j:=0) qO
    rw [Nat.add_zero] at hcell
    have hyy:=hy'.get ey
    have hvY:val 4294967296 Y=y:=by
     match Y,e2,ey with
     |[z],_,ey=>simp at ey;subst ey;simp [val]
    have hy0:0<y:=by rw [←hvY];exact HP.out
    have HQ:=Lib.hid (show val 4294967296 X / y=val 4294967296 xs / val 4294967296 ys by rw [←XV.out,←YV.out,hvY])
    have HR:=Lib.hid (show val 4294967296 X%y=val 4294967296 xs%val 4294967296 ys by rw [←XV.out,←YV.out,hvY])
    have HB:=Lib.hid hbw
    clear XV YV hlt HP hvY hbw
    go_wp2_with fail
    refine HC.out.mono ?_
    rintro e w3 ⟨⟨v,hv0,rfl⟩,hb3⟩
    have hc3:w3.cell? ⟨b,off,none⟩=some (.int .u32 y):=by
     have:=s2.below hb3 (Nat.le_refl _)
     obtain ⟨b',off',y',hA,_,ey',hc'⟩:=this.at_ (j:=0) qO
     injection hA with hA
     injection hA with q1 q2
     subst q1;subst q2
     rw [ey] at ey'
     injection ey' with ey'
     subst ey'
     rw [Nat.add_zero] at hc'
     exact hc'
    have s13:=s1.below hb3 (Nat.le_refl _)
    have hw3s:=hb3.size
    have HB3:=Lib.hid (HB.out.trans (hb3.mono hw2s))
    clear HC hcell hb3 HB s1 s2 HT2
    go_wp2_with fail
    refine (tq s13 hw3s hx' ⟨hy0,hyy.2⟩ qO).mono ?_
    rintro e w4 ⟨qs,A4,n4,c4,hq,rfl,ho4,hb4⟩
    have HQ4:=Lib.hid hq
    have hr0:=Int.emod_nonneg (val 4294967296 X) (show y≠0 by omega)
    have hr1:=Int.emod_lt_of_pos (val 4294967296 X) hy0
    have hw4s:=hb4.size
    have HB4:=Lib.hid (HB3.out.trans (hb4.mono (Nat.le_trans hw2s hw3s)))
    clear hq hb4
    generalize val 4294967296 X%y=r at*
    go_wp2_with fail
    refine (eW (I9 w4 w4.heap.size rfl r 115) qO).mono ?_
    rintro e w5 ⟨A5,n5,c5,rfl,ho5,hb5⟩
    have hb5':=cW hb5
    have HB5:=Lib.hid (HB4.out.trans (hb5'.mono (Nat.le_trans (Nat.le_trans hw2s hw3s) hw4s)))
    have SEP:=Lib.hid (Sep.symm (show Sep A5 A4 from ho4.apart ho5 qA))
    have o4:=Lib.hid ((ho4.below hb5').lower (Nat.le_trans hw2s hw3s))
    have o5:=Lib.hid (ho5.lower (B':=w.heap.size) qA)
    clear hb5 hb5' ho4 ho5 HB4
    go_wp2_with fail
    go_ret3
    exact .inr ⟨HPs.out,qs,_,A4,n4,c4,A5,n5,c5,rfl,by rw [←HQ.out];exact HQ4.out,⟨cH (JR qO),cd _,by rw [bw,←HR.out];simp [val]⟩,o4.out,o5.out,SEP.out,HB5.out⟩
   ·have hlen1:((n3:Int)==1)=false:=beq_eq_false_iff_ne.2 qO
    have hmn:n3≤n1:=by
     rcases Nat.lt_or_ge n1 n3 with h|h
     ·have:=dj (β:=4294967296) qD hx' hy' YT qO
      omega
     ·exact h
    have HB:=Lib.hid hbw
    have HX:=Lib.hid (And.intro XV.out YV.out)
    clear XV YV hlt HP hbw
    go_wp2_with fail
    refine HC.out.mono ?_
    rintro e w3 ⟨⟨v,hv0,rfl⟩,hb3⟩
    have s13:=s1.below hb3 (Nat.le_refl _)
    have s23:=s2.below hb3 (Nat.le_refl _)
    have hw3s:=hb3.size
    have HB3:=Lib.hid (HB.out.trans (hb3.mono hw2s))
    have HT3:=Lib.hid (HT2.out.below hb3 hz2)
    have hz3:=Nat.lt_of_lt_of_le hz2 hw3s
    clear HC hb3 HB s1 s2 HT2 ho1' o2
    go_wp2_with fail
    refine (xF s13 s23 hw3s HT3.out hz3 hx' hy' YT qO hmn qO).mono ?_
    rintro e w4 ⟨qs,rs,A4,n4,c4,A5,n5,c5,rfl,hq,hr,ho4,ho5,SEP,hb4⟩
    rw [HX.out.1,HX.out.2] at hq hr
    have HQ:=Lib.hid hq
    have HR:=Lib.hid hr
    have HB4:=Lib.hid (HB3.out.trans (hb4.mono (Nat.le_trans hw2s hw3s)))
    have o4:=Lib.hid (ho4.lower (Nat.le_trans hw2s hw3s))
    have o5:=Lib.hid (ho5.lower (Nat.le_trans hw2s hw3s))
    clear hq hr hb4 ho4 ho5 HB3
    go_wp2_with fail
    go_ret3
    exact .inr ⟨HPs.out,qs,rs,A4,n4,c4,A5,n5,c5,rfl,HQ.out,HR.out,o4.out,o5.out,SEP,HB4.out⟩
theorem wB {w:World} {B:Nat} {A A2:Option Addr} {n c m c2:Nat} {xs ys:List Int} (hs:Sl .u32 w B A n c xs) (ht:Sl .u32 w B A2 m c2 ys) (hB:B≤w.heap.size) (hT:f_ w) (hT0:3<w.heap.size)
 (hx:Dg 4294967296 xs) (hy:Dg 4294967296 ys) (hn:n≤400000000) (hm:m≤400000000):
 Calls Tryz.prog 170 #[.slice A n c, .slice A2 m c2] w (JD w (val 4294967296 xs) (val 4294967296 ys)):=by
 refine (qW hs ht hB hT hT0 hx hy hn hm).mono ?_
 rintro e w' (h|⟨h0,qs,rs,A1,n1,c1,A2,n2,c2,he,h1,h2,h3,h4,_,h5⟩)
 ·exact .inl h
 ·exact .inr ⟨h0,qs,rs,A1,n1,c1,A2,n2,c2,he,h1,h2,h3,h4,h5⟩
theorem E5{x:Int} (hx:0≤x∧x<4294967296) (hy:0≤y∧y<4294967296):bits .or .u64 y (x*4294967296)=y+4294967296*x:=by
 have e:=qj hx hy
 have hc:bits .or .u64 y (x*4294967296)=bits .or .u64 (x*4294967296) y:=by
  obtain ⟨a,ha⟩:=Int.eq_ofNat_of_zero_le (show 0≤x*4294967296 by omega)
  obtain ⟨b,rfl⟩:=Int.eq_ofNat_of_zero_le hy.1
  have h1:a<2^64:=qO
  have h2:b<2^64:=qO
  rw [ha,(bits_nat .u64 64 qD nS b a h2 h1).2,(bits_nat .u64 64 qD nS a b h1 h2).2,Nat.or_comm]
 rw [hc,e]
 omega
theorem gA(hs:Sl .u32 w B A n c xs) (hx:Dg 4294967296 xs) (hn:n≤2):
 Calls Tryz.prog 185 #[.slice A n c] w fun e w'=>e= .returned (.int .u64 (val 4294967296 xs))∧w=w':=by
 have hl:=hs.len
 have hw32:IntKind.i64.wrap (32*1)=32:=by decide
 go_enter Tryz.func185,Tryz.ntmps185
 go_wp2
 go_loop [3,8] (fun wv iv=>∃ k:Nat,k≤n∧iv= .int .i64 k∧wv= .int .u64 (val 4294967296 (xs.take k))) (fun _ iv=>n - (intOf iv).toNat)
 case atStart=>exact ⟨0,by omega,rfl,by simp [val]⟩
 case round=>
  obtain ⟨k,hk,rfl,rfl⟩:=hrel
  by_cases hlt:k<n
  ·obtain ⟨b,off,x,rfl,_,ex,hcell⟩:=hs.at_ hlt
   have hxx:=hx.get ex
   have hst:=aH ex
   rcases (show k=0∨k=1 by omega) with rfl|rfl
   ·have h0:val 4294967296 (xs.take 0)=0:=by simp [val]
    have h1:val 4294967296 (xs.take 1)=x:=by rw [hst];simp [val]
    have hor:bits .or .u64 0 x=x:=by
     have:=qj (x:=0) (y:=x) qO hxx
     simpa using this
    rw [Nat.add_zero] at hcell
    rw [h0]
    go_wp2
    go_round
    case rel=>exact ⟨1,by omega,by go_num,by rw [h1]⟩
    case measure=>simp [intOf]<;>omega
   ·obtain ⟨x0,ex0⟩:=c_ (xs:=xs) (i:=0) qO
    have hx0:=hx.get ex0
    have h0:val 4294967296 (xs.take 1)=x0:=by rw [aH ex0];simp [val]
    have h1:val 4294967296 (xs.take 2)=x0+4294967296*x:=by rw [hst,bN,h0,List.length_take,Nat.min_eq_left qO];simp
    have hj:=E5 (x:=x) (y:=x0) hxx hx0
    rw [h0]
    go_wp2
    go_round
    case rel=>exact ⟨2,by omega,by go_num,by rw [h1]⟩
    case measure=>simp [intOf]<;>omega
  ·obtain rfl:n=k:=qO
   rw [List.take_of_length_le qO]
   go_wp2
   go_ret
   exact ⟨rfl,rfl⟩
theorem rM{W:Int} (hW:0≤W∧W<18446744073709551616):
 Calls Tryz.prog 183 #[.int .u64 W] w (mR w W):=by
 go_enter Tryz.func183,Tryz.ntmps183
 have hd:Dg 4294967296 [W%4294967296,W / 4294967296]:=Jx qO qO
 have hv:val 4294967296 [W%4294967296,W / 4294967296]=W:=by simp only [val];omega
 have HR:=Lib.hid (show fZ 4294967296 W (tl [W%4294967296,W / 4294967296]) from ⟨cH hd,cd _,by rw [bw,hv]⟩)
 have hw1:W / 4294967296%4294967296=W / 4294967296:=qO
 clear hd hv
 go_wp2_with fail
 refine (eW (rF w w.heap.size rfl (W%4294967296) (W / 4294967296) 115) qO).mono ?_
 rintro e w1 ⟨A1,n1,c1,rfl,ho,hb⟩
 have ho':=Lib.hid (ho.lower (B':=w.heap.size) qA)
 have hb':=Lib.hid (cW hb)
 clear ho hb
 go_wp2_with fail
 go_ret
 exact ⟨_,HR.out,A1,n1,c1,rfl,ho'.out,hb'.out⟩
theorem lh(ha:0≤a∧a<18446744073709551616) (hb:0≤b∧b<18446744073709551616):
 Calls Tryz.prog 184 #[.int .u64 a, .int .u64 b] w fun e w'=>e= .returned (.int .u64 (cJ a b))∧∃ k,w'=w.drewN k:=by
 go_enter Tryz.func184,Tryz.ntmps184
 go_wp2
 go_loopw [0,1] (fun av bv wr=>∃ (x y:Int) (k:Nat),av= .int .u64 x∧bv= .int .u64 y∧(0≤x∧x<18446744073709551616)∧(0≤y∧y<18446744073709551616)∧Hid (cJ x y=cJ a b)∧wr=w.drewN k) (fun _ bv _=>(intOf bv).toNat)
 case atStart=>exact ⟨a,b,0,rfl,rfl,ha,hb,rfl,rfl⟩
 case round=>
  obtain ⟨x,y,k,rfl,rfl,hx,hy,hg,rfl⟩:=hrel
  by_cases h0:y=0
  ·subst h0
   have hf:=Lib.hid (show x=cJ a b by rw [←hg.out,iP hx.1])
   clear hg
   go_wp2
   go_ret
   exact ⟨congrArg (fun z=>Ending.returned (.int .u64 z)) hf.out,k,rfl⟩
  ·have hyb:(y != 0)=true:=by rw [bne_iff_ne];exact h0
   have hn:=Lib.hid (show cJ y (x%y)=cJ a b by rw [nN hx.1 qO];exact hg.out)
   have hr0:=Int.emod_nonneg x h0
   have hr1:=Int.emod_lt_of_pos x (show 0<y by omega)
   clear hg
   go_wp2
   go_quiet (fail)
   go_wp2
   go_roundw
   case rel=>exact ⟨y,x%y,_,rfl,rfl,hy,by omega,hn.out,by first|rfl|(simp only [World.drewN_drewN];rfl)⟩
   case measure=>simp [intOf]<;>omega
def FW (w:World) (Bs:Nat) (a b:Int) (e:Ending) (w':World):Prop:=
 ∃ C D cs ds A1 n1 c1 A2 n2 c2,e= .returned (.tuple #[.slice A1 n1 c1, .slice A2 n2 c2])∧fZ 4294967296 C cs∧fZ 4294967296 D ds∧bH .u32 115 w' Bs A1 n1 c1 cs∧bH .u32 115 w' Bs A2 n2 c2 ds∧
  0≤D∧D<C∧C≤b∧cJ C D=cJ a b∧Below w.heap.size w w'
theorem o_ {w:World} {Bs:Nat} {A A2:Option Addr} {n c m c2:Nat} {X Y:List Int} {a b:Int} (hs:bH .u32 115 w Bs A n c X) (ht:bH .u32 115 w Bs A2 m c2 Y) (rX:fZ 4294967296 a X) (rY:fZ 4294967296 b Y)
 (hBs:Bs≤w.heap.size) (ha:0≤a) (hb:0<b) (hT:f_ w) (hT0:3<w.heap.size) (hn:n≤400000000) (hm:m≤400000000):
 Calls Tryz.prog 182 #[.slice A n c, .slice A2 m c2] w (FW w Bs a b):=by
 have HD:=Lib.hid (wB hs.sl ht.sl (Nat.le_refl _) hT hT0 rX.dg rY.dg hn hm)
 go_enter Tryz.func182,Tryz.ntmps182
 go_wp2_with fail
 refine HD.out.mono ?_
 rintro e w1 h
 rcases h with ⟨h,_⟩|⟨_,qs,rs,A3,n3,c3,A4,n4,c4,rfl,hq,hr,ho3,ho4,hbw⟩
 ·rw [rY.val] at h;omega
 ·rw [rX.val,rY.val] at hr
  have hN:=Lib.hid (nN ha hb)
  have hR:=Lib.hid hr
  have o2:=Lib.hid (ht.below hbw)
  have o4:=Lib.hid (ho4.lower hBs)
  have HB:=Lib.hid hbw
  have h0:=Int.emod_nonneg a (show b≠0 by omega)
  have h1:=Int.emod_lt_of_pos a hb
  clear hq hr ho3 ho4 hbw
  go_wp2_with fail
  go_ret2
  exact ⟨b,a%b,Y,rs,A2,m,c2,A4,n4,c4,rfl,rY,hR.out,o2.out,o4.out,h0,h1,Int.le_refl _,hN.out,HB.out⟩
theorem H0 (w:World) (a b a' b':Value) (t:TypeId):((w.alloc (.cells #[a,b] t)).setCell ⟨w.heap.size,0,none⟩ a').setCell ⟨w.heap.size,1,none⟩ b'=w.alloc (.cells #[a',b'] t):=by
 simp [World.setCell_alloc_at]
theorem vS (w:World) (o:Obj) (n i:Nat) (v:Value) (h:n<w.heap.size):(w.alloc o).setCell ⟨n,i,none⟩ v=(w.setCell ⟨n,i,none⟩ v).alloc o:=by
 simp [World.setCell_alloc_past,h]
theorem nT (w:World) (o:Obj) (n:Nat) (a b:Value) (h:n<w.heap.size):((w.alloc o).setCell ⟨n,0,none⟩ a).setCell ⟨n,1,none⟩ b=((w.setCell ⟨n,0,none⟩ a).setCell ⟨n,1,none⟩ b).alloc o:=by
 rw [vS _ _ _ _ _ h,vS _ _ _ _ _ (by rw [World.size_setCell];exact h)]
theorem iM (W:World) (k:Nat) (p:Addr) (v:Value):(W.drewN k).setCell p v=(W.setCell p v).drewN k:=rfl
theorem tD (w:World) (a b c d e f a' b' c' d':Value) (t:TypeId) (k:Nat):
 ((((((((w.alloc (.cells #[a,b] t)).alloc (.cells #[c,d] t)).alloc (.cells #[e,f] t)).drewN k).setCell ⟨w.heap.size,0,none⟩ a').setCell ⟨w.heap.size,1,none⟩ b').setCell ⟨w.heap.size+1,0,none⟩ c').setCell ⟨w.heap.size+1,1,none⟩ d')=
   (((w.alloc (.cells #[a',b'] t)).alloc (.cells #[c',d'] t)).alloc (.cells #[e,f] t)).drewN k:=by
 rw [iM,iM,iM,iM,nT _ _ _ _ _ (by rw [ak,ak];omega),nT _ _ _ _ _ (by rw [World.size_setCell,World.size_setCell,ak,ak];omega),nT _ _ _ _ _ qA,H0,←ak w (.cells #[a',b'] t),H0]
theorem zP (w:World) (a b c d e f a' b' c' d' e' f':Value) (t:TypeId) (k:Nat):
 ((((((((((w.alloc (.cells #[a,b] t)).alloc (.cells #[c,d] t)).alloc (.cells #[e,f] t)).drewN k).setCell ⟨w.heap.size,0,none⟩ a').setCell ⟨w.heap.size,1,none⟩ b').setCell ⟨w.heap.size+1,0,none⟩ c').setCell ⟨w.heap.size+1,1,none⟩ d').setCell ⟨w.heap.size+1+1,0,none⟩ e').setCell ⟨w.heap.size+1+1,1,none⟩ f')=
   (((w.alloc (.cells #[a',b'] t)).alloc (.cells #[c',d'] t)).alloc (.cells #[e',f'] t)).drewN k:=by
 rw [tD,iM,iM,←ak w (.cells #[a',b'] t),←ak (w.alloc (.cells #[a',b'] t)) (.cells #[c',d'] t),H0]
theorem jX (w:World) (A B C:Obj) (k:Nat):((((w.alloc A).alloc B).alloc C).drewN k).heap[w.heap.size]? =some A∧((((w.alloc A).alloc B).alloc C).drewN k).heap[w.heap.size+1]? =some B:=by
 refine ⟨?_,?_⟩
 ·show (((w.alloc A).alloc B).alloc C).heap[w.heap.size]? =some A
  rw [heap_alloc_old (h:=by rw [ak,ak];omega),heap_alloc_old (h:=by rw [ak];omega),heap_alloc_new]
 ·show (((w.alloc A).alloc B).alloc C).heap[w.heap.size+1]? =some B
  rw [heap_alloc_old (h:=by rw [ak,ak];omega),←ak w A,heap_alloc_new]
theorem ml {P:Program} {fn:Func} {p q:Tmp} {ty:TypeId} (h:fn.results= #[.cell p ty, .cell q ty]) (tmps:Array Value) (w:World) (g1 g2:Nat) (t1 t2:TypeId) (cs1 cs2:Array Value) (f1 f2:Nat×Nat) (d:TypeDesc)
 (hp:tmps.getD p undef= .pointer (some ⟨g1,0,none⟩)) (hq:tmps.getD q undef= .pointer (some ⟨g2,0,none⟩)) (h1:w.heap[g1]? =some (.cells cs1 t1 f1)) (h2:w.heap[g2]? =some (.cells cs2 t2 f2))
 (hu:P.underlying ty=some d) (hd:(match d with| .struct _| .array _ _=>true|_=>false)=true) (i1:(P.info? ty).map (·.size)=some cs1.size) (i2:(P.info? ty).map (·.size)=some cs2.size):
 (results fn tmps).run P w= .ok (.tuple #[.agg cs1, .agg cs2]) w:=by
 have hp':tmps[p]?.getD undef= .pointer (some ⟨g1,0,none⟩):=by simpa using hp
 have hq':tmps[q]?.getD undef= .pointer (some ⟨g2,0,none⟩):=by simpa using hq
 simp [results,h,hp',hq',asAddr,run_loadVar_row w g1 t1 ty cs1 f1 d h1 hu hd i1,run_loadVar_row w g2 t2 ty cs2 f2 d h2 hu hd i2]
theorem oO (w:World) (A B C:Obj) (k:Nat):Below w.heap.size w ((((w.alloc A).alloc B).alloc C).drewN k):=
 Below.drewN' ((((Below.refl _ _).alloc (Nat.le_refl _) A).alloc qA B).alloc (by rw [ak,ak];omega) C) k
theorem zT(h0:0≤b) (hba:b≤a) (ha:a<18446744073709551616):
 Calls Tryz.prog 194 #[.int .u64 a, .int .u64 b] w fun e w'=>∃ uA uB vA vB:Int,e= .returned (.tuple #[.agg #[.int .u64 uA, .int .u64 uB], .agg #[.int .u64 vA, .int .u64 vB]])∧lJ a b uA uB vA vB∧Below w.heap.size w w':=by
 go_enter Tryz.func194,Tryz.ntmps194
 go_wp2
 go_loopw [0,1] (fun av bv wr=>∃ (x y uA uB vA vB nA nB s:Int) (k:Nat),av= .int .u64 x∧bv= .int .u64 y∧Hid (kW a b x y vA vB nA nB s)∧Hid (lJ a b uA uB vA vB)∧
  wr=(((w.alloc (.cells #[.int .u64 uA, .int .u64 uB] 257)).alloc (.cells #[.int .u64 vA, .int .u64 vB] 257)).alloc (.cells #[.int .u64 nA, .int .u64 nB] 257)).drewN k) (fun _ bv _=>(intOf bv).toNat)
 case atStart=>exact ⟨a,b,0,0,1,0,0,1,1,0,rfl,rfl,kW.start h0 hba, .inl rfl,rfl⟩
 case round=>
  obtain ⟨x,y,uA,uB,vA,vB,nA,nB,s,k,rfl,rfl,hT,hO,rfl⟩:=hrel
  have ho:=hT.out.ord
  have hv:=hT.out.v0
  have hn:=hT.out.n0
  by_cases g1:nB≤y
  ·have hbd:=hT.out.bound g1 ha
   have hw1:IntKind.u64.wrap (x - y)=x - y:=by rw [IntKind.wrap_u64];have:=hT.out.le0;omega
   by_cases g2:vB+nB≤x - y
   ·obtain ⟨t1,t2,t3,t4⟩:=hT.out.step g1 g2 ha
    have T1:=Lib.hid t1
    have O1:=Lib.hid (hT.out.ok g1 g2 ha)
    have hyb:(y != 0)=true:=by rw [bne_iff_ne];omega
    have hr1:=Int.emod_lt_of_pos x (show 0<y by omega)
    have hr0:=Int.emod_nonneg x (show y≠0 by omega)
    have hw2:IntKind.u64.wrap (x / y*nA)=x / y*nA:=by rw [IntKind.wrap_u64];omega
    have hw3:IntKind.u64.wrap (x / y*nB)=x / y*nB:=by rw [IntKind.wrap_u64];omega
    have htd:x.tdiv y=x / y:=Int.tdiv_eq_ediv_of_nonneg qO
    have hwq:IntKind.u64.wrap (x / y)=x / y:=by rw [IntKind.wrap_u64];omega
    clear hT hO t1
    go_wp2
    go_quiet (fail)
    go_wp2
    go_region
    go_wp2
    refine ⟨⟨y,x%y,vA,vB,nA,nB,_,_, -s,_,rfl,rfl,T1,O1,zP w _ _ _ _ _ _ _ _ _ _ _ _ _ _⟩,?_⟩
    simp only [intOf]
    omega
   ·clear hT
    go_wp2
    go_region
    go_wp2
    rw [tD]
    refine bodyPost_ret_by (ml rfl _ _ w.heap.size (w.heap.size+1) _ _ _ _ _ _ _ rfl rfl (jX w _ _ _ _).1 (jX w _ _ _ _).2 Tryz.underlying257 rfl qK qK) rfl ?_
    exact ⟨uA,uB,vA,vB,rfl,hO.out,oO w _ _ _ _⟩
  ·clear hT
   go_wp2
   go_region
   go_wp2
   rw [tD]
   refine bodyPost_ret_by (ml rfl _ _ w.heap.size (w.heap.size+1) _ _ _ _ _ _ _ rfl rfl (jX w _ _ _ _).1 (jX w _ _ _ _).2 Tryz.underlying257 rfl qK qK) rfl ?_
   exact ⟨uA,uB,vA,vB,rfl,hO.out,oO w _ _ _ _⟩
structure G0 (w:World) (A:Option Addr) (n c:Nat) (x m:Int):Prop where
 row:∃ X,fZ 4294967296 x X∧Sl .u32 w w.heap.size A n c X
 le:n≤400000000
 m:0≤m∧m<4294967296
def I4 (w:World) (A:Option Addr) (n c:Nat) (N:Int):Prop:=∃ ys,fZ 4294967296 N ys∧Sl .u32 w w.heap.size A n c ys∧n≤400000001
theorem Ex{W:World} {x m:Int} {p q:Addr} {u v:Value} (hS:Below w.heap.size w W∧W.cell? p=some u∧W.cell? q=some v) (hp:p.block<w.heap.size) (hq:q.block<w.heap.size) (hA:G0 w A n c x m):
 Calls Tryz.prog 201 #[.slice A n c, .int .u32 m] W fun e W'=>∃ A' n' c',e= .returned (.slice A' n' c')∧I4 W' A' n' c' (m*x)∧Below W.heap.size W W'∧(W'.cell? p=some u∧W'.cell? q=some v):=by
 obtain ⟨X,rX,sX⟩:=hA.row
 refine (tW ((sX.below hS.1 (Nat.le_refl _)).more hS.1.size) (Nat.le_refl _) rX.dg hA.m (by have:=hA.le;omega)).mono ?_
 rintro e W' ⟨ys,hr,A',n',c',rfl,ho,hb⟩
 rw [rX.val] at hr
 have hsz:=hS.1.size
 refine ⟨A',n',c',rfl,⟨ys,hr,ho.sl,?_⟩,hb,(hb.cell qO).trans hS.2.1,(hb.cell qO).trans hS.2.2⟩
 have h1:=bQ (β:=4294967296) qD rX.dg
 have h0:=am (β:=4294967296) qD rX.dg
 rw [rX.val,sX.len] at h1
 rw [rX.val] at h0
 have hm:=hA.m
 have h2:m*x<4294967296^(n+1):=by
  rw [Int.pow_succ,Int.mul_comm _ 4294967296]
  have p0:=aI (show (0:Int)<4294967296 by decide) n
  have a1:m*x≤4294967295*x:=Int.mul_le_mul_of_nonneg_right qO h0
  omega
 have:=hr.len_le qD h2
 have:=ho.len
 have:=hA.le
 omega
theorem Aa {w:World} {B:Nat} {A A2:Option Addr} {n c m c2:Nat} {X Y:List Int} {a b sA sB C:Int} (hs:Sl .u32 w B A n c X) (ht:Sl .u32 w B A2 m c2 Y) (hB:B≤w.heap.size) (rX:fZ 4294967296 a X) (rY:fZ 4294967296 b Y)
 (hA:0≤sA∧sA<4294967296) (hB':0≤sB∧sB<4294967296) (hn:n≤400000000) (hm:m≤400000000) (hC:sA*a - sB*b=C∨sB*b - sA*a=C) (h0:0≤C):
 Calls Tryz.prog 195 #[.slice A n c, .slice A2 m c2, .agg #[.int .u64 sA, .int .u64 sB]] w (mR w C):=by
 have hwA:IntKind.u32.wrap sA=sA:=by rw [IntKind.wrap_u32];omega
 have hwB:IntKind.u32.wrap sB=sB:=by rw [IntKind.wrap_u32];omega
 go_enter Tryz.func195,Tryz.ntmps195
 go_wp2_with fail
 have HA:G0 (w.alloc (.cells #[.int .u64 sA, .int .u64 sB] 257)) A n c a sA:=⟨⟨X,rX,(hs.alloc hB _).more qA⟩,hn,hA⟩
 have HB:G0 (w.alloc (.cells #[.int .u64 sA, .int .u64 sB] 257)) A2 m c2 b sB:=⟨⟨Y,rY,(ht.alloc hB _).more qA⟩,hm,hB'⟩
 have hb1:Below w.heap.size w (w.alloc (.cells #[.int .u64 sA, .int .u64 sB] 257)):=(Below.refl _ _).alloc (Nat.le_refl _) _
 have hc0:(w.alloc (.cells #[.int .u64 sA, .int .u64 sB] 257)).cell? ⟨w.heap.size,0,none⟩=some (.int .u64 sA):=by simp [World.cell?_alloc_new]
 have hc1:(w.alloc (.cells #[.int .u64 sA, .int .u64 sB] 257)).cell? ⟨w.heap.size,1,none⟩=some (.int .u64 sB):=by simp [World.cell?_alloc_new]
 have hsz:w.heap.size<(w.alloc (.cells #[.int .u64 sA, .int .u64 sB] 257)).heap.size:=by rw [ak];omega
 generalize w.alloc (.cells #[.int .u64 sA, .int .u64 sB] 257)=w1 at*
 clear hs ht
 have HB1:=Lib.hid hb1
 clear hb1
 have hS0:Below w1.heap.size w1 w1∧w1.cell? ⟨w.heap.size,0,none⟩=some (.int .u64 sA)∧w1.cell? ⟨w.heap.size,1,none⟩=some (.int .u64 sB):=⟨Below.refl _ _,hc0,hc1⟩
 go_region_held3 (fun W=>Below w1.heap.size w1 W∧W.cell? ⟨w.heap.size,0,none⟩=some (.int .u64 sA)∧W.cell? ⟨w.heap.size,1,none⟩=some (.int .u64 sB))
  (first|assumption|exact ⟨Below.drew (And.left qL),by assumption,by assumption⟩|exact ⟨Below.trans (And.left qL) (Below.mono qL (Below.size (And.left qL))),by assumption⟩)
  (first
    |(go_at_call 201;go_must (refine (Ex (w:=w1) (p:=⟨w.heap.size,0,none⟩) (q:=⟨w.heap.size,1,none⟩) (u:= .int .u64 sA) (v:= .int .u64 sB) (show Below w1.heap.size w1 _∧World.cell? _ ⟨w.heap.size,0,none⟩=some (.int .u64 sA)∧World.cell? _ ⟨w.heap.size,1,none⟩=some (.int .u64 sB) by first|assumption|exact ⟨Below.drew (And.left qL),by assumption,by assumption⟩) hsz hsz (by first|exact HA|exact HB)).mono ?_;rintro e wS ⟨Az,nz,cz,rfl,hG,hbz,hcz⟩)))
 obtain ⟨xs,rx,sx0,lx⟩:= ‹I4 _ _ _ _ (sA*a)›
 obtain ⟨ys,ry,sy,ly⟩:=hG
 have sx:=(sx0.below hbz (Nat.le_refl _)).more hbz.size
 have HBS:=Lib.hid ((show Below w1.heap.size w1 wS∧_ by assumption).1)
 have HBw:=Lib.hid (HB1.out.trans (HBS.out.mono HB1.out.size))
 have dx:=rx.dg
 have dy:=ry.dg
 have VX:=Lib.hid rx.val
 have VY:=Lib.hid ry.val
 have hwS:=HBw.out.size
 clear sx0 hbz hcz rx ry hS0 hc0 hc1 HA HB HB1
 have HC:=Lib.hid (iI sx sy dx dy)
 by_cases hlt:sA*a<sB*b
 case' pos=>
  have hval:=Lib.hid (show sB*b - sA*a=C by omega)
  have hc:=eO (a:=val 4294967296 xs) (b:=val 4294967296 ys) (by rw [VX.out,VY.out];exact hlt)
  go_wp2_with fail
  refine HC.out.mono ?_
  rintro e w3 ⟨hr3,q,rfl⟩
  obtain rfl:e= .returned (.int .i64 (-1)):=by unfold jq at hr3;rw [hr3,hc]
  have HS:=Lib.hid (nC (sy.drew q) (sx.drew q) (Nat.le_refl _) dy dx (by rw [VX.out,VY.out];omega) qO)
  have hv2:=Lib.hid (show val 4294967296 ys - val 4294967296 xs=C by rw [VX.out,VY.out];exact hval.out)
 case' neg=>
  have hval:=Lib.hid (show sA*a - sB*b=C by omega)
  go_wp2_with fail
  refine (wA sx sy dx dy (by rw [VX.out,VY.out];omega)).mono ?_
  rintro e w3 ⟨⟨v,hv0,rfl⟩,hb3⟩
  have HS:=Lib.hid (nC ((sx.below hb3 (Nat.le_refl _)).more hb3.size) ((sy.below hb3 (Nat.le_refl _)).more hb3.size) (Nat.le_refl _) dx dy (by rw [VX.out,VY.out];omega) qO)
  have hv2:=Lib.hid (show val 4294967296 xs - val 4294967296 ys=C by rw [VX.out,VY.out];exact hval.out)
  have HB3:=Lib.hid hb3
  clear hb3
 all_goals
  clear hC hlt hval sx sy HC dx dy
  go_wp2_with fail
  refine HS.out.mono ?_
  rintro e w4 ⟨zs,A4,n4,c4,hr,rfl,ho4,hb4⟩
  rw [hv2.out] at hr
  have RR:=Lib.hid hr
  clear hr
 ·have HB4:=Lib.hid (HBw.out.trans ((HB3.out.trans (hb4.mono HB3.out.size)).mono hwS))
  have o4:=Lib.hid (ho4.lower (B':=w.heap.size) (Nat.le_trans hwS HB3.out.size))
  clear hb4 ho4
  go_wp2_with fail
  go_ret
  exact ⟨zs,RR.out,A4,n4,c4,rfl,o4.out,HB4.out⟩
 ·have HB4:=Lib.hid (HBw.out.trans ((Below.of_drewN hb4).mono hwS))
  have o4:=Lib.hid (ho4.lower (B':=w.heap.size) hwS)
  clear hb4 ho4
  go_wp2_with fail
  go_ret
  exact ⟨zs,RR.out,A4,n4,c4,rfl,o4.out,HB4.out⟩
structure GI (C:Int) (uA uB a b:Int):Prop where
 a0:0≤uA∧uA<4294967296
 b0:0≤uB∧uB<4294967296
 eq:uA*a - uB*b=C∨uB*b - uA*a=C
 c0:0≤C
def sU (w:World) (Bs:Nat) (A:Option Addr) (n c:Nat) (N:Int):Prop:=∃ ys,fZ 4294967296 N ys∧bH .u32 115 w Bs A n c ys
theorem sU.below{Bs:Nat} (h:sU w Bs A n c N) (hb:Below w.heap.size w w'):sU w' Bs A n c N:=by
 obtain ⟨ys,hr,ho⟩:=h
 exact ⟨ys,hr,ho.below hb⟩
theorem z8 {w W:World} {Bs:Nat} {A A2:Option Addr} {n c m c2:Nat} {a b uA uB C:Int} {z:Nat} {u1 u2 u3 u4:Value} (h1:sU w Bs A n c a) (h2:sU w Bs A2 m c2 b) (hBs:Bs≤w.heap.size) (hn:n≤2000) (hm:m≤2000) (hz:z+1<w.heap.size)
 (hS:Below w.heap.size w W∧W.cell? ⟨z,0,none⟩=some (u1)∧W.cell? ⟨z,1,none⟩=some (u2)∧W.cell? ⟨z+1,0,none⟩=some (u3)∧W.cell? ⟨z+1,1,none⟩=some (u4)) (hA:GI C uA uB a b):
 Calls Tryz.prog 195 #[.slice A n c, .slice A2 m c2, .agg #[.int .u64 uA, .int .u64 uB]] W fun e W'=>∃ A' n' c',e= .returned (.slice A' n' c')∧sU W' Bs A' n' c' C∧Below W.heap.size W W'∧(W'.cell? ⟨z,0,none⟩=some (u1)∧W'.cell? ⟨z,1,none⟩=some (u2)∧W'.cell? ⟨z+1,0,none⟩=some (u3)∧W'.cell? ⟨z+1,1,none⟩=some (u4)):=by
 obtain ⟨X,rX,oX⟩:=h1
 obtain ⟨Y,rY,oY⟩:=h2
 have sX:=((oX.below hS.1).sl)
 have sY:=((oY.below hS.1).sl)
 have hsz:=hS.1.size
 refine (Aa sX sY (Nat.le_refl _) rX rY hA.a0 hA.b0 qO qO hA.eq hA.c0).mono ?_
 rintro e W' ⟨ys,hr,A',n',c',rfl,ho,hb⟩
 exact ⟨A',n',c',rfl,⟨ys,hr,ho.lower (Nat.le_trans hBs hsz)⟩,hb,(hb.cell (show z<_ by omega)).trans hS.2.1,(hb.cell (show z<_ by omega)).trans hS.2.2.1,(hb.cell (show z+1<_ by omega)).trans hS.2.2.2.1,(hb.cell (show z+1<_ by omega)).trans hS.2.2.2.2⟩
theorem tH {w:World} {Bs:Nat} {A A2:Option Addr} {n c m c2:Nat} {X Y:List Int} {a b:Int} (hs:bH .u32 115 w Bs A n c X) (ht:bH .u32 115 w Bs A2 m c2 Y) (rX:fZ 4294967296 a X) (rY:fZ 4294967296 b Y)
 (hBs:Bs≤w.heap.size) (hb:18446744073709551616≤b) (hba:b≤a) (hT:f_ w) (hT0:3<w.heap.size) (hn:n≤2000) (hm:m≤2000):
 Calls Tryz.prog 181 #[.slice A n c, .slice A2 m c2] w (FW w Bs a b):=by
 have sX:=hs.sl
 have sY:=ht.sl
 have hnl:=hs.len
 have HBit:=Lib.hid (nD sX hT rX.dg qO)
 have HT:=Lib.hid hT
 clear hT
 go_enter Tryz.func181,Tryz.ntmps181
 go_wp2_with fail
 refine HBit.out.mono ?_
 rintro e w' ⟨⟨bb,hbb,rfl⟩,rfl⟩
 rw [rX.val] at hbb
 obtain ⟨k,hk,hk1⟩:∃ k:Nat,bb=k+64∧k≤64000:=by
  rcases hbb with ⟨h1,_⟩|⟨h1,h2,h3⟩
  ·omega
  ·have hge:64<bb:=by
    rcases Nat.lt_or_ge 64 bb with h|h
    ·exact h
    ·have:=aP (show (0:Int)<2 by decide) h
     rw [show (2:Int)^64=18446744073709551616 from rfl] at this
     omega
   have hle:bb≤64000:=by
    rcases Nat.lt_or_ge 64000 bb with h|h
    ·have q:=aP (show (0:Int)<2 by decide) (show 64000≤bb - 1 by omega)
     have v:=bQ (β:=4294967296) qD rX.dg
     rw [rX.val,hnl,show (4294967296:Int)=2^32 from rfl,←Int.pow_mul] at v
     have:=aP (show (0:Int)<2 by decide) (show 32*n≤64000 by omega)
     omega
    ·exact h
   exact ⟨bb - 64,by omega,by omega⟩
 subst hk
 have p:=aI (show (0:Int)<2 by decide) k
 have ha0:0≤a:=qO
 have hup:a<2^k*18446744073709551616:=by
  rcases hbb with ⟨h1,_⟩|⟨h1,h2,h3⟩
  ·omega
  ·rw [Int.pow_add] at h3;exact h3
 have qa0:0≤a / 2^k:=Int.ediv_nonneg ha0 qO
 have qa:a / 2^k<18446744073709551616:=Int.ediv_lt_of_lt_mul p (by rw [Int.mul_comm];exact hup)
 have qb0:0≤b / 2^k:=Int.ediv_nonneg qO qO
 have qba:b / 2^k≤a / 2^k:=Int.ediv_le_ediv p hba
 have ea:=Int.mul_ediv_add_emod a (2^k)
 have eb:=Int.mul_ediv_add_emod b (2^k)
 have ra0:=Int.emod_nonneg a (show (2:Int)^k≠0 by omega)
 have ra1:=Int.emod_lt_of_pos a p
 have rb0:=Int.emod_nonneg b (show (2:Int)^k≠0 by omega)
 have rb1:=Int.emod_lt_of_pos b p
 have HParts:=Lib.hid (fun (uA uB vA vB:Int) (h:lJ (a / 2^k) (b / 2^k) uA uB vA vB) (hu:uB≠0)=>
  h.parts hu p (A:=a) (B:=b) (by rw [Int.mul_comm];omega) (by rw [Int.mul_comm];omega) (by rw [Int.mul_comm];omega) (by rw [Int.mul_comm];omega) ha0 qO)
 have HTu:=Lib.hid (fun (W:World)=>zT (w:=W) qb0 qba qa)
 have hlen:∀ (x:Int) (zs:List Int),fZ 4294967296 x zs→x<18446744073709551616→zs.length≤2:=fun x zs h hx=>h.len_le qD (by rw [show (4294967296:Int)^2=18446744073709551616 from rfl];exact hx)
 have HLn:=Lib.hid hlen
 have HSa:=Lib.hid (mG (m:=k) sX (Nat.le_refl _) rX.dg qO qO)
 have hwk:IntKind.i64.wrap (((k+64:Nat):Int) - 64)=(k:Int):=by rw [IntKind.wrap_i64];omega
 have hwn:IntKind.i64.wrap (-(k:Int))= -(k:Int):=by rw [IntKind.wrap_i64];omega
 clear hbb hup ea eb ra0 ra1 rb0 rb1 hlen p HBit
 have hck:((k+64:Nat):Int) - 64=(k:Int):=qO
 go_wp2_with fail
 refine HSa.out.mono ?_
 rintro e w1 ⟨Ha,A3,n3,c3,rA,rfl,oA,b1⟩
 rw [rX.val] at rA
 have HSb:=Lib.hid (mG (m:=k) (sY.below b1 (Nat.le_refl _)) b1.size rY.dg qO qO)
 have hs1:=hs.below b1
 have ht1:=ht.below b1
 have HT1:=Lib.hid (HT.out.below b1 hT0)
 have hz1:=Nat.lt_of_lt_of_le hT0 b1.size
 have B1:=Lib.hid b1
 clear hs ht sX sY HT HSa
 go_wp2_with fail
 refine HSb.out.mono ?_
 rintro e w2 ⟨Hb,A4,n4,c4,rB,rfl,oB,b2⟩
 rw [rY.val] at rB
 have B2:=Lib.hid (B1.out.trans (b2.mono B1.out.size))
 have hs2:=hs1.below b2
 have ht2:=ht1.below b2
 have HT2:=Lib.hid (HT1.out.below b2 hz1)
 have hz2:=Nat.lt_of_lt_of_le hz1 b2.size
 have sA:=(oA.below b2).sl
 have sB:=oB.sl
 have lA:=HLn.out _ _ rA qa
 have lB:=HLn.out _ _ rB qO
 rw [sA.len] at lA
 rw [sB.len] at lB
 have HWa:=Lib.hid (gA sA rA.dg lA)
 have HWb:=Lib.hid (gA sB rB.dg lB)
 rw [rA.val] at HWa
 rw [rB.val] at HWb
 have TU:=Lib.hid (HTu.out w2)
 clear rA rB oA oB b1 b2 hs1 ht1 HT1 hz1 B1 HSb HTu HLn sA sB
 go_wp2_with fail
 refine HWa.out.mono ?_
 rintro e w3 ⟨rfl,rfl⟩
 go_wp2_with fail
 refine HWb.out.mono ?_
 rintro e w3 ⟨rfl,rfl⟩
 go_wp2_with fail
 refine TU.out.mono ?_
 rintro e w3 ⟨uA,uB,vA,vB,rfl,hok,b3⟩
 by_cases h0:uB=0
 ·subst h0
  clear hok HParts
  go_wp2_with fail
  have b4:Below w3.heap.size w3 ((w3.alloc (.cells #[.int .u64 uA, .int .u64 0] 257)).alloc (.cells #[.int .u64 vA, .int .u64 vB] 257)):=((Below.refl _ _).alloc (Nat.le_refl _) _).alloc qA _
  generalize ((w3.alloc (.cells #[.int .u64 uA, .int .u64 0] 257)).alloc (.cells #[.int .u64 vA, .int .u64 vB] 257))=w4 at*
  have b24:=b3.trans (b4.mono b3.size)
  have B4:=Lib.hid (B2.out.trans (b24.mono B2.out.size))
  have HT4:=Lib.hid (HT2.out.below b24 hz2)
  have hz4:=Nat.lt_of_lt_of_le hz2 b24.size
  have hs4:=hs2.below b24
  have ht4:=ht2.below b24
  clear b3 b4 b24 hs2 ht2 B2 HT2
  refine (o_ hs4 ht4 rX rY (Nat.le_trans hBs B4.out.size) ha0 qO HT4.out hz4 qO qO).mono ?_
  rintro e w5 ⟨C,D,cs,ds,A5,n5,c5,A6,n6,c6,rfl,rC,rD,oC,oD,d0,d1,d2,d3,b5⟩
  have RC:=Lib.hid rC
  have RD:=Lib.hid rD
  have G:=Lib.hid d3
  have B5:=Lib.hid (B4.out.trans (b5.mono B4.out.size))
  clear rC rD d3 b5 hs4 ht4
  go_wp2_with fail
  go_ret2
  exact ⟨C,D,cs,ds,A5,n5,c5,A6,n6,c6,rfl,RC.out,RD.out,oC,oD,d0,d1,d2,G.out,B5.out⟩
 ·have hub:(uB==0)=false:=beq_eq_false_iff_ne.2 h0
  obtain ⟨C,D,hC,hD,d0,d1,d2,d3⟩:=HParts.out uA uB vA vB hok h0
  have HC:=Lib.hid hC
  have HD:=Lib.hid hD
  have G:=Lib.hid d3
  have hrng:(0≤uA∧uA<4294967296)∧(0≤uB∧uB<4294967296)∧(0≤vA∧vA<4294967296)∧(0≤vB∧vB<4294967296):=by
   rcases hok with h|⟨s,_,_,h1,h2,h3,h4,_⟩
   ·exact absurd h h0
   ·exact ⟨h1,h2,h3,h4⟩
  clear HParts hok hC hD d3
  go_wp2_with fail
  have b4:Below w3.heap.size w3 ((w3.alloc (.cells #[.int .u64 uA, .int .u64 uB] 257)).alloc (.cells #[.int .u64 vA, .int .u64 vB] 257)):=((Below.refl _ _).alloc (Nat.le_refl _) _).alloc qA _
  have hc0:((w3.alloc (.cells #[.int .u64 uA, .int .u64 uB] 257)).alloc (.cells #[.int .u64 vA, .int .u64 vB] 257)).cell? ⟨w3.heap.size,0,none⟩=some (.int .u64 uA):=by rw [World.cell?_alloc_lt _ _ _ (by rw [ak];show w3.heap.size<_;omega)];simp [World.cell?_alloc_new]
  have hc1:((w3.alloc (.cells #[.int .u64 uA, .int .u64 uB] 257)).alloc (.cells #[.int .u64 vA, .int .u64 vB] 257)).cell? ⟨w3.heap.size,1,none⟩=some (.int .u64 uB):=by rw [World.cell?_alloc_lt _ _ _ (by rw [ak];show w3.heap.size<_;omega)];simp [World.cell?_alloc_new]
  have hc2:((w3.alloc (.cells #[.int .u64 uA, .int .u64 uB] 257)).alloc (.cells #[.int .u64 vA, .int .u64 vB] 257)).cell? ⟨w3.heap.size+1,0,none⟩=some (.int .u64 vA):=by rw [←ak w3 (.cells #[.int .u64 uA, .int .u64 uB] 257)];simp [World.cell?_alloc_new]
  have hc3:((w3.alloc (.cells #[.int .u64 uA, .int .u64 uB] 257)).alloc (.cells #[.int .u64 vA, .int .u64 vB] 257)).cell? ⟨w3.heap.size+1,1,none⟩=some (.int .u64 vB):=by rw [←ak w3 (.cells #[.int .u64 uA, .int .u64 uB] 257)];simp [World.cell?_alloc_new]
  have hz:((w3.alloc (.cells #[.int .u64 uA, .int .u64 uB] 257)).alloc (.cells #[.int .u64 vA, .int .u64 vB] 257)).heap.size=w3.heap.size+2:=by rw [ak,ak]
  generalize ((w3.alloc (.cells #[.int .u64 uA, .int .u64 uB] 257)).alloc (.cells #[.int .u64 vA, .int .u64 vB] 257))=w4 at*
  have b24:=b3.trans (b4.mono b3.size)
  have B4:=Lib.hid (B2.out.trans (b24.mono B2.out.size))
  have hs4:=hs2.below b24
  have ht4:=ht2.below b24
  have HZ:=Lib.hid hz
  generalize hgz:w3.heap.size=z at*
  clear b3 b4 b24 hs2 ht2 B2 HT2 hz hgz
  have gX:sU w4 Bs A n c a:=⟨X,rX,hs4⟩
  have gY:sU w4 Bs A2 m c2 b:=⟨Y,rY,ht4⟩
  have hBs4:Bs≤w4.heap.size:=Nat.le_trans hBs B4.out.size
  have hz4:z+1<w4.heap.size:=by have:=HZ.out;omega
  have aU:GI C uA uB a b:=⟨hrng.1,hrng.2.1,HC.out,by omega⟩
  have aV:GI D vA vB a b:=⟨hrng.2.2.1,hrng.2.2.2,HD.out,d0⟩
  clear hs4 ht4 HC HD rX rY
  have hS0:Below w4.heap.size w4 w4∧w4.cell? ⟨z,0,none⟩=some (.int .u64 uA)∧w4.cell? ⟨z,1,none⟩=some (.int .u64 uB)∧w4.cell? ⟨z+1,0,none⟩=some (.int .u64 vA)∧w4.cell? ⟨z+1,1,none⟩=some (.int .u64 vB):=⟨Below.refl _ _,hc0,hc1,hc2,hc3⟩
  go_region_held3 (fun W=>Below w4.heap.size w4 W∧W.cell? ⟨z,0,none⟩=some (.int .u64 uA)∧W.cell? ⟨z,1,none⟩=some (.int .u64 uB)∧W.cell? ⟨z+1,0,none⟩=some (.int .u64 vA)∧W.cell? ⟨z+1,1,none⟩=some (.int .u64 vB))
   (first|assumption|exact ⟨Below.drew (And.left qL),And.right qL⟩|exact ⟨Below.trans (And.left qL) (Below.mono qL (Below.size (And.left qL))),by assumption⟩)
   (first
     |(go_at_call 195;go_must (refine (z8 (w:=w4) (z:=z) (u1:= .int .u64 uA) (u2:= .int .u64 uB) (u3:= .int .u64 vA) (u4:= .int .u64 vB) gX gY hBs4 hn hm hz4 (show Below w4.heap.size w4 _∧_∧_∧_∧_ by assumption) (by first|exact aU|exact aV)).mono ?_;rintro e wS ⟨Az,nz,cz,rfl,hG,hbz,hcz⟩)))
  all_goals
   have gC:=(‹sU _ Bs _ _ _ C›).below hbz
   obtain ⟨cs,rC,oC⟩:=gC
   obtain ⟨ds,rD,oD⟩:=hG
   have RC:=Lib.hid rC
   have RD:=Lib.hid rD
   have B5:=Lib.hid (B4.out.trans ((show Below w4.heap.size w4 wS∧_ by assumption).1.mono B4.out.size))
   clear rC rD hbz hcz hS0 gX gY aU aV
   go_wp2_with fail
   go_ret2
   exact ⟨C,D,cs,ds,_,_,_,_,_,_,rfl,RC.out,RD.out,oC,oD,d0,d1,d2,G.out,B5.out⟩
theorem tS(ha:0<a):cJ a b≤a:=by
 have:=Nat.le_of_dvd (show 0<a.toNat by omega) (Nat.gcd_dvd_left a.toNat b.toNat)
 unfold cJ
 omega
def rdL (w:World):Value→Nat
 | .slice (some ⟨b,off,_⟩) n _=>(val 4294967296 ((List.range n).map fun j=>match w.cell? ⟨b,off+j,none⟩ with|some (.int _ x)=>x|_=>0)).toNat
 |_=>0
theorem Sl.rdL(h:Sl .u32 w B A n c xs):rdL w (.slice A n c)=(val 4294967296 xs).toNat:=by
 cases A with
 |none=>
  have h0:=h.2.2.2.1 rfl
  have:xs=[]:=List.eq_nil_of_length_eq_zero (by have:=h.len;have:=h.le;omega)
  subst this
  rfl
 |some a=>
  by_cases hn:0<n
  ·obtain ⟨b,off,hA,_,hc⟩:=h.2.2.2.2 hn
   injection hA with hA
   subst hA
   have e:((List.range n).map fun j=>match w.cell? ⟨b,off+j,none⟩ with|some (.int _ x)=>x|_=>0)=xs:=by
    refine List.ext_getElem? fun i=> ?_
    rcases Nat.lt_or_ge i n with hi|hi
    ·obtain ⟨x,hx⟩:=c_ (xs:=xs) (by rw [h.len];exact hi)
     rw [List.getElem?_map,List.getElem?_range hi,hx]
     simp [hc i x hx]
    ·rw [List.getElem?_eq_none (by simp;exact hi),List.getElem?_eq_none (by rw [h.len];exact hi)]
   show (val 4294967296 _).toNat=_
   rw [e]
  ·obtain rfl:n=0:=qO
   have:xs=[]:=List.eq_nil_of_length_eq_zero h.len
   subst this
   rfl
theorem sS {w:World} {B:Nat} {A A2:Option Addr} {n c m c2:Nat} {xs ys:List Int} (hs:Sl .u32 w B A n c xs) (ht:Sl .u32 w B A2 m c2 ys) (hB:B≤w.heap.size) (hT:f_ w) (hT0:3<w.heap.size)
 (hx:Dg 4294967296 xs) (hy:Dg 4294967296 ys) (hn:n≤2000) (hm:m≤2000):
 Calls Tryz.prog 165 #[.slice A n c, .slice A2 m c2] w (mR w (cJ (val 4294967296 xs) (val 4294967296 ys))):=by
 have hxl:=eP xs
 have hyl:=eP ys
 have hl1:=hs.len
 have hl2:=ht.len
 have rX:fZ 4294967296 (val 4294967296 xs) (tl xs):=⟨cH hx,cd _,bw _ _⟩
 have rY:fZ 4294967296 (val 4294967296 ys) (tl ys):=⟨cH hy,cd _,bw _ _⟩
 have a0:=am (β:=4294967296) qD hx
 have b0:=am (β:=4294967296) qD hy
 generalize val 4294967296 xs=a at*
 generalize val 4294967296 ys=b at*
 have HT:=Lib.hid hT
 clear hT
 go_enter Tryz.func165,Tryz.ntmps165
 go_wp2_with fail
 refine (eW hs qO).mono ?_
 rintro e w1 ⟨A1,n1,c1,rfl,ho1,hb1⟩
 have ht1:=ht.below hb1 hB
 go_wp2_with fail
 refine (eW ht1 qO).mono ?_
 rintro e w2 ⟨A3,n3,c3,rfl,ho2,hb2⟩
 have hbw:=hb1.trans (hb2.mono hb1.size)
 have hX:=ho1.below hb2
 have hY:=ho2.lower hb1.size
 have e1:=hX.len
 have e2:=hY.len
 have l1:n1≤2000:=qO
 have l2:n3≤2000:=qO
 have HT2:=Lib.hid (HT.out.below hbw hT0)
 have hz2:=Nat.lt_of_lt_of_le hT0 hbw.size
 have HC:=Lib.hid (iI hX.sl hY.sl rX.dg rY.dg)
 generalize tl xs=X at*
 generalize tl ys=Y at*
 clear hs ht ht1 ho1 ho2 hb1 hb2 HT hT0 hxl hyl hx hy e1 e2
 by_cases hlt:a<b
 case' pos=>
  have hc:=eO (a:=val 4294967296 X) (b:=val 4294967296 Y) (by rw [rX.val,rY.val];exact hlt)
  have RX:=Lib.hid rX
  have RY:=Lib.hid rY
  have HG:=Lib.hid (jD b a)
  clear rX rY
  go_wp2_with fail
  refine HC.out.mono ?_
  rintro e w3 ⟨hr3,q,rfl⟩
  obtain rfl:e= .returned (.int .i64 (-1)):=by unfold jq at hr3;rw [hr3,hc]
  clear hr3 hc
  have hX3:=hX.drew q
  have hY3:=hY.drew q
  have hb3:Below w.heap.size w (w2.drewN q):=Below.drewN' hbw q
  have HT3:Hid (f_ (w2.drewN q)):=HT2
  have hz3:3<(w2.drewN q).heap.size:=hz2
  clear hX hY hbw HT2 hz2 HC
  generalize w2.drewN q=w3 at*
  go_wp2_with fail
 case' neg=>
  have HC2:=Lib.hid (wA hX.sl hY.sl rX.dg rY.dg (by rw [rX.val,rY.val];omega))
  have RX:=Lib.hid rX
  have RY:=Lib.hid rY
  have HG:=Lib.hid (jD a b)
  clear rX rY
  go_wp2_with fail
  refine HC2.out.mono ?_
  rintro e w3 ⟨⟨v,hv0,rfl⟩,hb23⟩
  have hX3:=hX.below hb23
  have hY3:=hY.below hb23
  have hb3:Below w.heap.size w w3:=hbw.trans (hb23.mono hbw.size)
  have HT3:=Lib.hid (HT2.out.below hb23 hz2)
  have hz3:=Nat.lt_of_lt_of_le hz2 hb23.size
  clear hX hY hbw hb23 HT2 hz2 HC HC2
  go_wp2_with fail
 all_goals
  have HB3:=Lib.hid hb3
  have hwz:=hb3.size
  clear hb3
  go_loopw [0,1] (fun av bv wr=>∃ (AL AS:Option Addr) (nl cl ns cs:Nat) (L S:List Int) (x y:Int),av= .slice AL nl cl∧bv= .slice AS ns cs∧bH .u32 115 wr w.heap.size AL nl cl L∧bH .u32 115 wr w.heap.size AS ns cs S∧
   Hid (fZ 4294967296 x L)∧Hid (fZ 4294967296 y S)∧0≤y∧y≤x∧nl≤2000∧ns≤2000∧Hid (cJ x y=cJ a b)∧Below w3.heap.size w3 wr) (fun _ bv wr=>rdL wr bv)
  case atStart=>first
   |exact ⟨A1,A3,n1,c1,n3,c3,X,Y,a,b,rfl,rfl,hX3,hY3,RX,RY,b0,by omega,l1,l2,rfl,Below.refl _ _⟩
   |exact ⟨A3,A1,n3,c3,n1,c1,Y,X,b,a,rfl,rfl,hY3,hX3,RY,RX,a0,by omega,l2,l1,jD b a,Below.refl _ _⟩
  case round=>
   clear hX3 hY3 RX RY HG hlt
   obtain ⟨AL,AS,nl,cl,ns,cs,L,S,x,y,rfl,rfl,oL,oS,RL,RS,y0,yx,ll,ls,HG,br⟩:=hrel
   have HTr:=Lib.hid (HT3.out.below br hz3)
   have hzr:=Nat.lt_of_lt_of_le hz3 br.size
   have hbz:w.heap.size≤wr.heap.size:=Nat.le_trans hwz br.size
   have HBit:=Lib.hid (nD oS.sl HTr.out RS.out.dg qO)
   have HBr:=Lib.hid br
   clear br
   go_wp2_with fail
   refine HBit.out.mono ?_
   rintro e w' ⟨⟨bb,hbb,rfl⟩,rfl⟩
   rw [RS.out.val] at hbb
   by_cases hbig:64<bb
   ·have hyb:18446744073709551616≤y:=by
     rcases hbb with ⟨_,h⟩|⟨_,h,_⟩
     ·omega
     ·have:=aP (show (0:Int)<2 by decide) (show 64≤bb - 1 by omega)
      rw [show (2:Int)^64=18446744073709551616 from rfl] at this
      omega
    have HLe:=Lib.hid (tH oL oS RL.out RS.out hbz hyb yx HTr.out hzr ll ls)
    have hms:=Lib.hid oS.sl.rdL
    have hsl:=oS.len
    have hll:=oL.len
    have HVs:=Lib.hid RS.out.val
    have hyu:Hid (y<4294967296^ns):=by
     have:=bQ (β:=4294967296) qD RS.out.dg
     rw [RS.out.val,hsl] at this
     exact this
    clear hbb HBit RL RS oL oS
    go_wp2_with fail
    refine HLe.out.mono ?_
    rintro e w5 ⟨C,D,cs',ds',A5,n5,c5,A6,n6,c6,rfl,rC,rD,oC,oD,d0,d1,d2,d3,b5⟩
    have hn5:n5≤ns:=by rw [←oC.len];exact rC.len_le qD (by have:=hyu.out;omega)
    have hn6:n6≤ns:=by rw [←oD.len];exact rD.len_le qD (by have:=hyu.out;omega)
    have G5:=Lib.hid (d3.trans HG.out)
    have B5:=Lib.hid (HBr.out.trans (b5.mono HBr.out.size))
    have HM:=Lib.hid (show rdL w5 (.slice A6 n6 c6)<rdL wr (.slice AS ns cs) by
     rw [oD.sl.rdL,hms.out,rD.val,HVs.out];omega)
    have RC:=Lib.hid rC
    have RD:=Lib.hid rD
    clear rC rD d3 b5 HLe hms HG HVs
    go_wp2_with fail
    go_roundw
    case rel=>exact ⟨A5,A6,n5,c5,n6,c6,cs',ds',C,D,rfl,rfl,oC,oD,RC,RD,d0,by omega,by omega,by omega,G5,B5.out⟩
    case measure=>exact HM.out
   ·have hyu:y<18446744073709551616:=by
     rcases hbb with ⟨h,_⟩|⟨_,_,h⟩
     ·omega
     ·have:=aP (show (0:Int)<2 by decide) (show bb≤64 by omega)
      rw [show (2:Int)^64=18446744073709551616 from rfl] at this
      omega
    have HBit2:=Lib.hid (nD oL.sl HTr.out RL.out.dg qO)
    clear hbb HBit
    go_wp2_with fail
    refine HBit2.out.mono ?_
    rintro e w' ⟨⟨ba,hba,rfl⟩,rfl⟩
    rw [RL.out.val] at hba
    have hba0:(0:Int)≤ba:=qO
    have B6:Below w.heap.size w wr:=HB3.out.trans (HBr.out.mono hwz)
    have hlen2:∀ (x:Int) (zs:List Int),fZ 4294967296 x zs→x<18446744073709551616→zs.length≤2:=fun x zs h hx=>h.len_le qD (by rw [show (4294967296:Int)^2=18446744073709551616 from rfl];exact hx)
    have HL2:=Lib.hid hlen2
    clear hlen2 HBit2
    by_cases hns:ns=0
    ·subst hns
     have hy0:y=0:=by rw [←RS.out.val,List.eq_nil_of_length_eq_zero oS.len];rfl
     have RZ:=Lib.hid (show fZ 4294967296 (cJ a b) L by rw [←HG.out,hy0,iP qO];exact RL.out)
     have B7:=Lib.hid B6
     clear hba RL RS HG B6 oS hy0
     by_cases hb64:64<ba
     all_goals
      go_wp2_with fail
      go_ret
      exact ⟨L,RZ.out,AL,nl,cl,rfl,oL,B7.out⟩
    ·have hns0:((ns:Int)==0)=false:=beq_eq_false_iff_ne.2 qO
     have hypos:0<y:=by
      rcases Int.lt_or_le 0 y with h|h
      ·exact h
      ·have:=Tr.zero (β:=4294967296) qD RS.out.dg RS.out.tr (by rw [RS.out.val];omega)
       have hl:=oS.len
       rw [this] at hl
       simp at hl
       omega
     have hs2:ns≤2:=by rw [←oS.len];exact HL2.out _ _ RS.out hyu
     by_cases hb64:64<ba
     ·have HDv:=Lib.hid (o_ oL oS RL.out RS.out hbz qO hypos HTr.out hzr qO qO)
      clear hba RL RS oL oS
      go_wp2_with fail
      refine HDv.out.mono ?_
      rintro e w5 ⟨C,D,cs',ds',A5,n5,c5,A6,n6,c6,rfl,rC,rD,oC,oD,d0,d1,d2,d3,b5⟩
      have hn5:n5≤2:=by rw [←oC.len];exact HL2.out _ _ rC qO
      have hn6:n6≤2:=by rw [←oD.len];exact HL2.out _ _ rD qO
      have G5:=Lib.hid (d3.trans HG.out)
      have B5:Below w.heap.size w w5:=B6.trans (b5.mono hbz)
      have RC:=Lib.hid rC
      have RD:=Lib.hid rD
      have hC64:C<18446744073709551616:=qO
      have hD64:D<18446744073709551616:=qO
      clear rC rD d3 b5 HDv HG
      by_cases hn6z:n6=0
      ·subst hn6z
       have hy0:D=0:=by rw [←RD.out.val,List.eq_nil_of_length_eq_zero oD.len];rfl
       have RZ:=Lib.hid (show fZ 4294967296 (cJ a b) cs' by rw [←G5.out,hy0,iP qO];exact RC.out)
       have B7:=Lib.hid B5
       clear RC RD G5 B5 oD hy0
       go_wp2_with fail
       go_ret
       exact ⟨cs',RZ.out,A5,n5,c5,rfl,oC,B7.out⟩
      ·have hn60:((n6:Int)==0)=false:=beq_eq_false_iff_ne.2 qO
       have HW1:=Lib.hid (gA oC.sl RC.out.dg hn5)
       have HW2:=Lib.hid (gA oD.sl RD.out.dg hn6)
       rw [RC.out.val] at HW1
       rw [RD.out.val] at HW2
       have HGW:=Lib.hid (lh (w:=w5) (a:=C) (b:=D) ⟨by omega,hC64⟩ ⟨d0,hD64⟩)
       have hg0:=k_ C D
       have hg1:=Lib.hid (tS (a:=C) (b:=D) qO)
       have B7:=Lib.hid B5
       clear oC oD RC RD
       go_wp2_with fail
       refine HW1.out.mono ?_
       rintro e w' ⟨rfl,rfl⟩
       go_wp2_with fail
       refine HW2.out.mono ?_
       rintro e w' ⟨rfl,rfl⟩
       go_wp2_with fail
       refine HGW.out.mono ?_
       rintro e w' ⟨rfl,q7,rfl⟩
       have HR7:=Lib.hid (rM (w:=World.drewN w5 q7) (W:=cJ C D) ⟨hg0,by have:=hg1.out;omega⟩)
       go_wp2_with fail
       refine HR7.out.mono ?_
       rintro e w8 ⟨zs,rZ,A8,n8,c8,rfl,o8,b8⟩
       rw [G5.out] at rZ
       have RZ:=Lib.hid rZ
       have o8':=Lib.hid (o8.lower (B':=w.heap.size) (Nat.le_trans B7.out.size (Nat.le_refl _)))
       have B8:=Lib.hid (B7.out.trans ((Below.of_drewN b8).mono B7.out.size))
       clear rZ o8 b8
       go_wp2_with fail
       go_ret
       exact ⟨zs,RZ.out,A8,n8,c8,rfl,o8'.out,B8.out⟩
     ·have hx64:x<18446744073709551616:=by
       rcases hba with ⟨h,_⟩|⟨_,_,h⟩
       ·omega
       ·have:=aP (show (0:Int)<2 by decide) (show ba≤64 by omega)
        rw [show (2:Int)^64=18446744073709551616 from rfl] at this
        omega
      have hl2:nl≤2:=by rw [←oL.len];exact HL2.out _ _ RL.out hx64
      clear hba
      have HW1:=Lib.hid (gA oL.sl RL.out.dg hl2)
      have HW2:=Lib.hid (gA oS.sl RS.out.dg hs2)
      rw [RL.out.val] at HW1
      rw [RS.out.val] at HW2
      have HGW:=Lib.hid (lh (w:=wr) (a:=x) (b:=y) ⟨by omega,hx64⟩ ⟨y0,hyu⟩)
      have hg0:=k_ x y
      have hg1:=Lib.hid (tS (a:=x) (b:=y) qO)
      have B7:=Lib.hid B6
      clear oL oS RL RS
      go_wp2_with fail
      refine HW1.out.mono ?_
      rintro e w' ⟨rfl,rfl⟩
      go_wp2_with fail
      refine HW2.out.mono ?_
      rintro e w' ⟨rfl,rfl⟩
      go_wp2_with fail
      refine HGW.out.mono ?_
      rintro e w' ⟨rfl,q7,rfl⟩
      have HR7:=Lib.hid (rM (w:=World.drewN wr q7) (W:=cJ x y) ⟨hg0,by have:=hg1.out;omega⟩)
      go_wp2_with fail
      refine HR7.out.mono ?_
      rintro e w8 ⟨zs,rZ,A8,n8,c8,rfl,o8,b8⟩
      rw [HG.out] at rZ
      have RZ:=Lib.hid rZ
      have o8':=Lib.hid (o8.lower (B':=w.heap.size) (Nat.le_trans B7.out.size (Nat.le_refl _)))
      have B8:=Lib.hid (B7.out.trans ((Below.of_drewN b8).mono B7.out.size))
      clear rZ o8 b8
      go_wp2_with fail
      go_ret
      exact ⟨zs,RZ.out,A8,n8,c8,rfl,o8'.out,B8.out⟩
def m6 (g:Int):List (List Int)→Int
 |[]=>g
 |xs::l=>m6 (cJ g (val 4294967296 xs)) l
theorem Au (g:Int) (l:List (List Int)) (xs:List Int):m6 g (l++[xs])=cJ (m6 g l) (val 4294967296 xs):=by
 induction l generalizing g with
 |nil=>rfl
 |cons x l ih=>simp only [List.cons_append,m6,ih]
theorem wu {l:List (List Int)} {M:Nat} (hl:∀ xs∈l,Dg 4294967296 xs∧xs.length≤M):0≤m6 0 l∧m6 0 l<4294967296^M:=by
 have p:=aI (show (0:Int)<4294967296 by decide) M
 suffices ∀ (l:List (List Int)) (g:Int),(∀ xs∈l,Dg 4294967296 xs∧xs.length≤M)→0≤g→g<4294967296^M→0≤m6 g l∧m6 g l<4294967296^M from this l 0 hl qO p
 intro l
 induction l with
 |nil=>intro g _ h0 h1;exact ⟨h0,h1⟩
 |cons x l ih=>
  intro g h h0 h1
  obtain ⟨hd,hx⟩:=h x qE
  have x0:=am (β:=4294967296) qD hd
  have x1:=bQ (β:=4294967296) qD hd
  have x2:=aP (show (0:Int)<4294967296 by decide) hx
  refine ih _ (fun xs hxs=>h xs (by simp [hxs])) (k_ _ _) ?_
  rcases (show g=0∨0<g by omega) with rfl|hg
  ·rw [jD,iP x0];omega
  ·have:=tS (a:=g) (b:=val 4294967296 x) hg
   omega
theorem FG{M:Nat} (hs:nR w B A n c xss) (hB:B≤w.heap.size) (hT:f_ w) (hT0:3<w.heap.size) (hx:∀ xs∈xss,Dg 4294967296 xs∧xs.length≤M) (hM:M≤2000):
 Calls Tryz.prog 144 #[.slice A n c] w (mR w (m6 0 xss)):=by
 have hl:=hs.1
 have hmx:=hs.lenMax
 have HT:=Lib.hid hT
 clear hT
 go_enter Tryz.func144,Tryz.ntmps144
 go_wp2_with fail
 go_loopw [3,8] (fun gv iv wr=>∃ (k ng cg:Nat) (Ag:Option Addr) (G:List Int),k≤n∧iv= .int .i64 k∧gv= .slice Ag ng cg∧bH .u32 115 wr w.heap.size Ag ng cg G∧Hid (fZ 4294967296 (m6 0 (xss.take k)) G)∧Below w.heap.size w wr) (fun _ iv _=>n - (intOf iv).toNat)
 case atStart=>exact ⟨0,0,0,none,[],Nat.zero_le _,rfl,rfl,bH.nil,⟨Dg.nil,Tr.nil,rfl⟩,Below.refl _ _⟩
 case round=>
  obtain ⟨k,ng,cg,Ag,G,hk,rfl,rfl,oG,RG,br⟩:=hrel
  by_cases hlt:k<n
  ·obtain ⟨b,off,xs,A1,n1,c1,rfl,hbB,ex,hc,s1⟩:=(hs.below br hB).at_ hlt
   obtain ⟨hd,hx1⟩:=hx xs (List.mem_of_getElem? ex)
   have hlx:=s1.len
   have HTr:=Lib.hid (HT.out.below br hT0)
   have hzr:=Nat.lt_of_lt_of_le hT0 br.size
   have bnd:=wu (l:=xss.take k) (M:=M) (fun xs h=>hx xs (List.mem_of_mem_take h))
   have hng:ng≤2000:=by
    have:=RG.out.len_le qD bnd.2
    have:=oG.len
    omega
   have hbz:=br.size
   have HB:=Lib.hid br
   have HG2:=Lib.hid (sS oG.sl (s1.more (Nat.le_trans hB hbz)) (Nat.le_refl _) HTr.out hzr RG.out.dg hd hng qO)
   rw [RG.out.val] at HG2
   have HS:=Lib.hid (show m6 0 (xss.take (k+1))=cJ (m6 0 (xss.take k)) (val 4294967296 xs) by
    rw [List.take_add_one,ex];exact Au _ _ _)
   clear br bnd hs oG s1 RG
   go_wp2_with fail
   refine HG2.out.mono ?_
   rintro e w1 ⟨G1,r1,A2,n2,c2,rfl,o1,b1⟩
   rw [←HS.out] at r1
   have R1:=Lib.hid r1
   have B1:=Lib.hid (HB.out.trans (b1.mono hbz))
   have o1':=o1.lower (B':=w.heap.size) hbz
   clear r1 b1 o1 HG2
   go_wp2_with fail
   go_roundw
   case rel=>exact ⟨k+1,n2,c2,A2,G1,by omega,by go_num,rfl,o1',R1,B1.out⟩
   case measure=>simp [intOf]<;>omega
  ·obtain rfl:n=k:=qO
   rw [List.take_of_length_le qO] at RG
   have HB:=Lib.hid br
   clear br
   go_wp2_with fail
   go_ret
   exact ⟨G,RG.out,Ag,ng,cg,rfl,oG,HB.out⟩
open Go Go.RowKit Go.Sort
structure CB (s:ByteArray) (L n:Nat) (D:List Int):Prop where
 dg:Dg 1000000000 D
 len:D.length=456
 num:gZ s.data.toList=val 1000000000 (D.take n)+1000000000^n*gZ (s.data.toList.take L)
 fit:L+9*n≤s.size+8∧(0<L→L+9*n=s.size)
theorem CB.start (s:ByteArray):CB s s.size 0 (List.replicate 456 0):=
 ⟨Dg.zeros qD _,List.length_replicate,by rw [List.take_of_length_le (show s.data.toList.length≤s.size by simp),List.take_zero,Int.pow_zero];simp only [val];omega,by omega⟩
theorem CB.step {s:ByteArray} {L n:Nat} {D:List Int} (h:CB s L n D) (hs:s.size≤4104) (hd:∀ c∈s.data.toList,vH c) (h0:0<L) {cut:Nat} (hc:cut+9=L∨(L<9∧cut=0)):
 n<456∧(∀ c∈(s.data.toList.take L).drop cut,vH c)∧(s.data.toList.take L).drop cut≠[]∧((s.data.toList.take L).drop cut).length≤9∧
  (0≤gZ ((s.data.toList.take L).drop cut)∧gZ ((s.data.toList.take L).drop cut)<1000000000)∧CB s cut (n+1) (D.set n (gZ ((s.data.toList.take L).drop cut))):=by
 have hf:=h.fit.2 h0
 have hLs:L≤s.size:=qO
 have hn:n<456:=qO
 have hl:s.data.toList.length=s.size:=by simp
 have hdd:∀ c∈(s.data.toList.take L).drop cut,vH c:=fun c hx=>hd c (List.mem_of_mem_take (List.mem_of_mem_drop hx))
 have hlen:((s.data.toList.take L).drop cut).length=L - cut:=by rw [List.length_drop,List.length_take,hl];omega
 have hb:=xA _ hdd
 rw [hlen] at hb
 have hp:(10:Int)^(L - cut)≤10^9:=aP qD qO
 have hr:0≤gZ ((s.data.toList.take L).drop cut)∧gZ ((s.data.toList.take L).drop cut)<1000000000:=qO
 refine ⟨hn,hdd,fun e=>by rw [e] at hlen;simp at hlen;omega,by omega,hr,h.dg.set hr,by simp [h.len],?_,by omega⟩
 have hset:(D.set n (gZ ((s.data.toList.take L).drop cut)))[n]? =some (gZ ((s.data.toList.take L).drop cut))   :=List.getElem?_set_self (by rw [h.len];exact hn)
 rw [aH hset,bN,List.take_set_of_le (Nat.le_refl _),List.length_take,Nat.min_eq_left (by have:=h.len;omega),h.num]
 have e1:gZ (s.data.toList.take L)=gZ (s.data.toList.take cut)*10^(L - cut)+gZ ((s.data.toList.take L).drop cut):=by
  conv=>lhs;rw [←List.take_append_drop cut (s.data.toList.take L)]
  rw [pb,hlen,List.take_take,Nat.min_eq_left qO]
 rw [e1]
 rcases hc with hc|⟨_,rfl⟩
 ·rw [show L - cut=9 by omega,show (10:Int)^9=1000000000 from rfl,Int.pow_succ]
  grind
 ·simp only [List.take_zero]
  have:gZ []=0:=rfl
  rw [this]
  grind
section
variable {k:IntKind} {e:TypeId} {w w':World} {B g n:Nat} {xs:List Int}
theorem bH.heap (h:bH k e w B (some ⟨g,0,none⟩) n n xs):w.heap[g]? =some (.cells (xs.map (Value.int k)).toArray e (0,0)):=by
 have hl:=h.len
 rcases h.2 with ⟨hv,_⟩|⟨g',cap,cur,hv,hb,hg,h1,h2,h3,h4⟩
 ·cases hv
 ·injection hv with hv h5 h6
  injection hv with hv
  injection hv with hv
  subst hv
  subst h6
  have hcur:cur.toList=xs.map (Value.int k):=by rw [←h4,List.take_of_length_le (by simp;omega)]
  rw [hg,←hcur]
end
structure J6 (w:World):Prop where
 half:f_ w
 hz:3<w.heap.size
 pow : Lib.TabIs Tryz.prog w "internal/strconv.uint64pow10" .u64 Lib.pow10Tab
end Go.Proofs.YtpmhjieibebclaaGreatDoor
