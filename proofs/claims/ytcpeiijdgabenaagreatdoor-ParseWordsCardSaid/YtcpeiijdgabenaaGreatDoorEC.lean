/- nat: addTimes, Mul: what each call answers, and leaves. -/
import Derived.Test.YtcpeiijdgabenaaGreatDoorEB
import Derived.Test.YtcpeiijdgabenaaGreatDoorEA
import Derived.Deep.RegionHeld3
import Derived.WalkMore
import Derived.Laws.CopyOwn
import Derived.BigRegion
import Derived.Laws.Rows
import Derived.Test.YtcpeiijdgabenaaGreatDoorShelf
import Derived.Lib.Walk
import Derived.Lib.ItoaWalk
import Derived.Lib.ItoaMem
import Derived.Lib.AppendIntMem
import Derived.BigCall
import Derived.BigGuard
import Derived.Laws.Tables
import Derived.Laws.ResultCell
import Derived.Laws.CopyRow
import Derived.Lib.AtoiErrMem
import Derived.Lib.AppendStr
import Derived.Lib.Join
set_option maxHeartbeats 2000000
set_option linter.unusedSimpArgs false
set_option linter.unusedVariables false
namespace Go.Proofs.YtcpeiijdgabenaaGreatDoor
open Go Go.RowKit
variable {w w' W:World} {n c B m g:Nat} {A:Option Addr} {b a x y s N:Int} {xs:List Int} {xss:List (List Int)} {u:Value}
def AK (σ x:Int) (w:World) (B g N C o m:Nat) (S X:List Int) (cr:Int) (w':World):Prop:=
 ∃ S1,cG .u32 128 w' B (some ⟨g,0,none⟩) N C S1∧tP 4294967296 σ x S X S1 o m cr∧w.grownBy w' (some g)
theorem cG.at_row{k:IntKind} {e:TypeId} (h:cG k e w B (some ⟨g,0,none⟩) n c xs) {i:Nat} (hi:i<n):
 ∃ x,xs[i]? =some x∧w.cell? ⟨g,i,none⟩=some (.int k x)∧w.frozen? ⟨g,i,none⟩=false∧
  ∀ y,cG k e (w.setCell ⟨g,i,none⟩ (.int k y)) B (some ⟨g,0,none⟩) n c (xs.set i y)∧w.grownBy (w.setCell ⟨g,i,none⟩ (.int k y)) (some g):=by
 obtain ⟨g',x,hA,_,_,hx,hc,hf,hp⟩:=h.set hi
 injection hA with hA
 injection hA with hA
 subst hA
 exact ⟨x,hx,hc,hf,hp⟩
theorem eR {a b c:World} {r:Option Nat} (h:a.grownBy b r) (h2:b.grownBy c r):a.grownBy c r:=
 ⟨h2.os.trans h.os,h2.tape.trans h.tape,h2.output.trans h.output,Nat.le_trans h.size h2.size,fun i hi hne=>(h2.block i (Nat.lt_of_lt_of_le hi h.size) hne).trans (h.block i hi hne)⟩
theorem tO {w:World} {B g N C o n c m c2:Nat} {A2:Option Addr} {S X:List Int} {x:Int} (ho:cG .u32 128 w B (some ⟨g,0,none⟩) N C S) (ht:Sl .u32 w B A2 m c2 X) (hB:B≤w.heap.size)
 (hS:Dg 4294967296 S) (hX:Dg 4294967296 X) (hx:0≤x∧x<4294967296) (hmn:m≤n) (hnc:n≤c) (hfit:o+m≤N):
 Calls Tryz.prog 317 #[.slice (some ⟨g,o,none⟩) n c, .slice A2 m c2, .int .u32 x] w fun e w'=>∃ cr,e= .returned (.int .u32 cr)∧(0≤cr∧cr<4294967296)∧AK 1 x w B g N C o m S X cr w':=by
 have htl:=ht.len
 have hm:=ht.lenMax
 have hgB:=ho.blk_ g rfl
 go_enter Tryz.func317,Tryz.ntmps317
 go_wp2_with fail
 go_loopw [7,12] (fun cv iv wr=>∃ (i:Nat) (cr:Int),i≤m∧iv= .int .i64 i∧cv= .int .u64 cr∧(0≤cr∧cr<4294967296)∧AK 1 x w B g N C o i S X cr wr) (fun _ iv _=>m - (intOf iv).toNat)
 case atStart=>exact ⟨0,0,Nat.zero_le _,rfl,rfl,by omega,S,ho, .start hS,World.grownBy.refl _ _⟩
 case round=>
  obtain ⟨i,cr,hi,rfl,rfl,hcr,S1,h1,h2,h3⟩:=hrel
  by_cases hlt:i<m
  ·obtain ⟨s,hs,hcell,hfr,hput⟩:=h1.at_row (i:=o+i) qO
   obtain ⟨b2,off2,y,rfl,hb2,ey,hc2⟩:=(ht.grown h3 hB (fun k hk=>by injection hk with hk;omega)).at_ hlt
   have hyy:=hX.get ey
   have hss:=h2.dg.get hs
   obtain ⟨d1,d2,d3,d4,d5⟩:=x5 hx hyy hss hcr
   have hw1:IntKind.u64.wrap (x*y)=x*y:=by rw [IntKind.wrap_u64];omega
   have hnext:=Lib.hid (hput ((cr+(x*y+s))%4294967296))
   have hstep:=Lib.hid (h2.step hs ey d3 d5)
   have hg:=Lib.hid h3
   have hin:i<n:=qO
   clear hput h1 h2 h3 ho ht d5
   go_wp2_with fail
   go_roundw
   case rel=>exact ⟨i+1,_,by omega,by go_num,rfl,by omega,_,hnext.out.1,hstep.out,eR hg.out hnext.out.2⟩
   case measure=>simp [intOf]<;>omega
  ·obtain rfl:m=i:=qO
   have hfin:=Lib.hid (show AK 1 x w B g N C o m S X cr wr from ⟨S1,h1,h2,h3⟩)
   clear h1 h2 h3
   go_wp2_with fail
   go_ret
   exact ⟨cr,by go_num,by omega,hfin.out⟩
theorem Below.own(h:w.grownBy w' (some g)) (hg:B≤g) (hB:B≤w.heap.size):Below B w w':=
 (Below.refl _ _).grown h hB (fun k hk=>by injection hk with hk;omega)
theorem xd {w:World} {B:Nat} {A A2:Option Addr} {n c m c2:Nat} {xs ys:List Int} (hs:Sl .u32 w B A n c xs) (ht:Sl .u32 w B A2 m c2 ys) (hB:B≤w.heap.size) (hx:Dg 4294967296 xs) (hy:Dg 4294967296 ys)
 (hn:n≤400000000) (hm:m≤400000000):
 Calls Tryz.prog 291 #[.slice A n c, .slice A2 m c2] w (pP w (val 4294967296 xs*val 4294967296 ys)):=by
 have hxl:=fX xs
 have hyl:=fX ys
 have hl1:=hs.len
 have hl2:=ht.len
 have hx':=dY hx
 have hy':=dY hy
 have XV:=Lib.hid (cx 4294967296 xs)
 have YV:=Lib.hid (cx 4294967296 ys)
 go_enter Tryz.func291,Tryz.ntmps291
 go_wp2_with fail
 refine (fi hs qO).mono ?_
 rintro e w1 ⟨A1,n1,c1,rfl,ho1,hb1⟩
 have ht1:=ht.below hb1 hB
 go_wp2_with fail
 refine (fi ht1 qO).mono ?_
 rintro e w2 ⟨A3,n3,c3,rfl,ho2,hb2⟩
 have hbw:=hb1.trans (hb2.mono hb1.size)
 have s1:=(ho1.below hb2).sl
 have s2:=ho2.sl
 have e1:=s1.len
 have e2:=s2.len
 generalize tl xs=X at*
 generalize tl ys=Y at*
 clear hs ht ht1 ho1 ho2 hb1 hb2
 go_wp2_with (at_make;refine gx l9 rfl _ _ rfl (B:=w2.heap.size) (n1+n3) rfl (by first|rfl|simp) qO qO qO qR (Nat.le_refl _) ?_;intro w3 h3 hg3)
 have hmk:=Mk.made h3 hg3
 clear h3 hg3
 go_loopw [20] (fun iv wr=>∃ (i:Nat) (P:List Int),i≤n1∧iv= .int .i64 i∧Mk .u32 128 w2 (some ⟨w2.heap.size,0,none⟩) (n1+n3) (n1+n3) P wr∧vG 4294967296 X Y P i) (fun iv _=>n1 - (intOf iv).toNat)
 case atStart=>exact ⟨0,_,Nat.zero_le _,rfl,hmk,by have:=vG.start (β:=4294967296) qD X Y;rw [e1,e2] at this;exact this⟩
 case round=>
  obtain ⟨i,P,hi,rfl,hmr,hp⟩:=hrel
  clear hmk
  have hsz:=hmr.2.size
  by_cases hlt:i<n1
  ·obtain ⟨b1,off1,x,rfl,_,ex,hc1⟩:=(s1.below hmr.2 (Nat.le_refl _)).at_ hlt
   have hxx:=hx'.get ex
   have hne:¬ (n1+n3=i):=qO
   have sY:=s2.below hmr.2 (Nat.le_refl _)
   have HP:=Lib.hid hp
   have dP:=hp.dg
   have HB:=Lib.hid hmr.2
   have hoP:=hmr.1
   clear hp hmr
   go_wp2_with fail
   refine (tO (o:=i) hoP sY hsz dP hy' hxx qO qO qO).mono ?_
   rintro e w4 ⟨cr,rfl,hcr,S1,h1,h2,h3⟩
   obtain ⟨z,hz,hcell,hfr,hput⟩:=h1.at_row (i:=i+n3) qO
   have hst:=HP.out.step qD ex (by rw [e2];exact h2) hcr
   rw [e2] at hst
   have hnext:=Lib.hid (hput cr)
   have hstep:=Lib.hid hst.2
   have hG:=Lib.hid h3
   clear h1 h2 h3 hst hput HP sY hoP
   go_wp2_with fail
   go_roundw
   case rel=>exact ⟨i+1,_,by omega,by go_num,⟨hnext.out.1,HB.out.trans ((Below.own (eR hG.out hnext.out.2) (Nat.le_refl _) hsz))⟩,hstep.out⟩
   case measure=>simp [intOf]<;>omega
  ·obtain rfl:n1=i:=qO
   have hnum:=hp.num
   rw [List.take_of_length_le qO] at hnum
   have HV:=Lib.hid (show val 4294967296 P=val 4294967296 xs*val 4294967296 ys by rw [hnum,XV.out,YV.out])
   have HD:=Lib.hid hp.dg
   have HB:=Lib.hid (hbw.trans (hmr.2.mono hbw.size))
   have hoP:=hmr.1.sl
   clear hnum hp hmr XV YV s1 s2
   go_wp2_with fail
   refine (fi hoP qO).mono ?_
   rintro e w5 ⟨A5,n5,c5,rfl,ho5,hb5⟩
   go_wp2_with fail
   go_ret
   exact ⟨_,⟨dY HD.out,d_ _,by rw [cx,HV.out]⟩,A5,n5,c5,rfl,ho5.lower HB.out.size,HB.out.trans (hb5.mono HB.out.size)⟩
theorem nJ.front(h:nJ w B A n c xss) (hm:m≤n):nJ w B A m c (xss.take m):=by
 refine ⟨by rw [List.length_take];have:=h.1;omega,Nat.le_trans hm h.2.1,h.2.2.1,h.2.2.2.1,fun hn=> ?_⟩
 obtain ⟨b,off,hA,hb,hc⟩:=h.2.2.2.2 qO
 refine ⟨b,off,hA,hb,fun j x hx=>hc j x ?_⟩
 rw [List.getElem?_take] at hx
 split at hx
 ·exact hx
 ·cases hx
theorem nJ.back(h:nJ w B A n c xss) (hm:m≤n):nJ w B (if c=m then A else A.map (·.add m)) (n - m) (c - m) (xss.drop m):=by
 have h1:=h.1
 have h2:=h.2.1
 have h3:=h.2.2.1
 refine ⟨by rw [List.length_drop];omega,by omega,by omega,fun hA=> ?_,fun hn=> ?_⟩
 ·split at hA
  ·omega
  ·have h0:=h.2.2.2.1 (by cases A<;>simp_all)
   omega
 ·obtain ⟨b,off,rfl,hb,hc⟩:=h.2.2.2.2 qO
  rw [if_neg qO]
  refine ⟨b,off+m,by simp [Addr.add_lit],hb,fun j x hx=> ?_⟩
  rw [Nat.add_assoc]
  exact hc _ x (by rw [←hx,List.getElem?_drop])
theorem nJ.more{B':Nat} (h:nJ w B A n c xss) (hB:B≤B'):nJ w B' A n c xss:=by
 refine ⟨h.1,h.2.1,h.2.2.1,h.2.2.2.1,fun hn=> ?_⟩
 obtain ⟨b,off,hA,hb,hc⟩:=h.2.2.2.2 hn
 refine ⟨b,off,hA,by omega,fun j x hx=> ?_⟩
 obtain ⟨A',n',c',e1,e2⟩:=hc j x hx
 exact ⟨A',n',c',e1,e2.more hB⟩
theorem wK{d c:Int} (hd:0≤d∧d<4294967296) (hy:0≤y∧y<4294967296) (hs:0≤s∧s<4294967296) (hc:0≤c∧c<4294967296) (hb:0≤b∧b≤1):
 (0≤y*d∧y*d≤18446744065119617025)∧(0≤c+y*d∧c+y*d≤18446744073709551615)∧(0≤(c+y*d)%4294967296∧(c+y*d)%4294967296<4294967296)∧(0≤(c+y*d) / 4294967296∧(c+y*d) / 4294967296<4294967296)∧
 (0≤(s - (c+y*d)%4294967296 - b)%4294967296∧(s - (c+y*d)%4294967296 - b)%4294967296<4294967296)∧
 (s - (c+y*d)%4294967296 - b)%4294967296+ -1*(4294967296*((c+y*d) / 4294967296+wZ s ((c+y*d)%4294967296) b))=s+ -1*(d*y+(c+b)):=by
 have h0:0≤y*d:=Int.mul_nonneg hy.1 hd.1
 have h1:y*d≤4294967295*4294967295:=Int.mul_le_mul qO qO hd.1 qO
 have h2:=BU (x:=s) (y:=(c+y*d)%4294967296) (c:=b) hs qO hb
 have h3:d*y=y*d:=Int.mul_comm _ _
 omega
theorem vF{c:Int} (hs:0≤s∧s<4294967296) (hc:0≤c∧c<4294967296) (hb:0≤b∧b≤1):
 (0≤(s - c - b)%4294967296∧(s - c - b)%4294967296<4294967296)∧(s - c - b)%4294967296+ -1*(4294967296*wZ s c b)=s+ -1*(c+b):=by
 have h2:=BU hs hc hb
 omega
def EW (σ d:Int) (w:World) (B g N C o m:Nat) (S X:List Int) (b:Int) (S2:List Int) (w':World):Prop:=
 cG .u32 128 w' B (some ⟨g,0,none⟩) N C S2∧uf 4294967296 σ d (val 4294967296 X) S S2 o m b∧w.grownBy w' (some g)
theorem q9 {w:World} {B g N C o n c m c2:Nat} {A2:Option Addr} {S X:List Int} {d:Int} (ho:cG .u32 128 w B (some ⟨g,0,none⟩) N C S) (ht:Sl .u32 w B A2 m c2 X) (hB:B≤w.heap.size)
 (hS:Dg 4294967296 S) (hX:Dg 4294967296 X) (hd:0≤d∧d<4294967296) (hmn:m+1≤n) (hnc:n≤c) (hfit:o+m+1≤N):
 Calls Tryz.prog 345 #[.slice (some ⟨g,o,none⟩) n c, .slice A2 m c2, .int .u32 d] w fun e w'=>∃ b S2,e= .returned (.bool (b != 0))∧EW (-1) d w B g N C o m S X b S2 w':=by
 have htl:=ht.len
 have hm:=ht.lenMax
 have hgB:=ho.blk_ g rfl
 go_enter Tryz.func345,Tryz.ntmps345
 go_wp2_with fail
 go_loopw [7,8,13] (fun cv bv iv wr=>∃ (i:Nat) (cr bo:Int),i≤m∧iv= .int .i64 i∧cv= .int .u64 cr∧bv= .int .u32 bo∧(0≤cr∧cr<4294967296)∧(0≤bo∧bo≤1)∧AK (-1) d w B g N C o i S X (cr+bo) wr) (fun _ _ iv _=>m - (intOf iv).toNat)
 case atStart=>exact ⟨0,0,0,Nat.zero_le _,rfl,rfl,rfl,by omega,by omega,S,ho, .start hS,World.grownBy.refl _ _⟩
 case round=>
  obtain ⟨i,cr,bo,hi,rfl,rfl,rfl,hcr,hbo,S1,h1,h2,h3⟩:=hrel
  have hS1:=h2.len
  have hSl:=ho.len
  by_cases hlt:i<m
  ·obtain ⟨s,hs,hcell,hfr,hput⟩:=h1.at_row (i:=o+i) qO
   obtain ⟨b2,off2,y,rfl,hb2,ey,hc2⟩:=(ht.grown h3 hB (fun k hk=>by injection hk with hk;omega)).at_ hlt
   have hyy:=hX.get ey
   have hss:=h2.dg.get hs
   obtain ⟨d1,d2,d3,d4,d5,d6⟩:=wK hd hyy hss hcr hbo
   have hw1:IntKind.u64.wrap (y*d)=y*d:=by rw [IntKind.wrap_u64];omega
   have hbb:=AE s ((cr+y*d)%4294967296) bo
   have hnext:=Lib.hid (hput ((s - (cr+y*d)%4294967296 - bo)%4294967296))
   have hstep:=Lib.hid (h2.step hs ey d5 d6)
   have hg:=Lib.hid h3
   have hsub:=Lib.hid (lL s ((cr+y*d)%4294967296) bo wr hss d3 hbo)
   have hin:i<n:=qO
   clear hput h1 h2 h3 ho ht d6
   go_wp2_with (go_at_call 339;refine hsub.out.mono ?_;rintro e w' ⟨rfl,rfl⟩)
   go_roundw
   case rel=>exact ⟨i+1,_,_,by omega,by go_num,rfl,rfl,d4,hbb,_,hnext.out.1,hstep.out,eR hg.out hnext.out.2⟩
   case measure=>simp [intOf]<;>omega
  ·obtain rfl:m=i:=qO
   obtain ⟨s,hs,hcell,hfr,hput⟩:=h1.at_row (i:=o+m) qO
   have hss:=h2.dg.get hs
   obtain ⟨d1,d2⟩:=vF hss hcr hbo
   have hbb:=AE s cr bo
   have hnext:=Lib.hid (hput ((s - cr - bo)%4294967296))
   have htk:=Lib.hid (h2.took qD htl hs d1 hbb d2)
   have hg:=Lib.hid h3
   have hsub:=Lib.hid (lL s cr bo wr hss hcr hbo)
   have hw1:cr%4294967296=cr:=qO
   have hin:m<n:=qO
   clear hput h1 h2 h3 ho ht d2
   go_wp2_with (go_at_call 339;refine hsub.out.mono ?_;rintro e w' ⟨rfl,rfl⟩)
   go_ret
   exact ⟨_,_,rfl,hnext.out.1,htk.out,eR hg.out hnext.out.2⟩
theorem v7{c:Int} (hy:0≤y∧y<4294967296) (hs:0≤s∧s<4294967296) (hc:0≤c∧c≤1):
 (0≤(s+y+c)%4294967296∧(s+y+c)%4294967296<4294967296)∧(0≤(s+y+c) / 4294967296∧(s+y+c) / 4294967296≤1)∧(s+y+c)%4294967296+1*(4294967296*((s+y+c) / 4294967296))=s+1*(1*y+c):=by
 omega
theorem vq {w:World} {B g N C o n c m c2:Nat} {A2:Option Addr} {S X:List Int} (ho:cG .u32 128 w B (some ⟨g,0,none⟩) N C S) (ht:Sl .u32 w B A2 m c2 X) (hB:B≤w.heap.size)
 (hS:Dg 4294967296 S) (hX:Dg 4294967296 X) (hmn:m+1≤n) (hnc:n≤c) (hfit:o+m+1≤N):
 Calls Tryz.prog 346 #[.slice (some ⟨g,o,none⟩) n c, .slice A2 m c2] w fun e w'=>e= .returned (.tuple #[])∧∃ b S2,EW 1 1 w B g N C o m S X b S2 w':=by
 have htl:=ht.len
 have hm:=ht.lenMax
 have hgB:=ho.blk_ g rfl
 go_enter Tryz.func346,Tryz.ntmps346
 go_wp2_with fail
 go_loopw [4,9] (fun cv iv wr=>∃ (i:Nat) (cr:Int),i≤m∧iv= .int .i64 i∧cv= .int .u32 cr∧(0≤cr∧cr≤1)∧AK 1 1 w B g N C o i S X cr wr) (fun _ iv _=>m - (intOf iv).toNat)
 case atStart=>exact ⟨0,0,Nat.zero_le _,rfl,rfl,by omega,S,ho, .start hS,World.grownBy.refl _ _⟩
 case round=>
  obtain ⟨i,cr,hi,rfl,rfl,hcr,S1,h1,h2,h3⟩:=hrel
  have hS1:=h2.len
  have hSl:=ho.len
  by_cases hlt:i<m
  ·obtain ⟨s,hs,hcell,hfr,hput⟩:=h1.at_row (i:=o+i) qO
   obtain ⟨b2,off2,y,rfl,hb2,ey,hc2⟩:=(ht.grown h3 hB (fun k hk=>by injection hk with hk;omega)).at_ hlt
   have hyy:=hX.get ey
   have hss:=h2.dg.get hs
   obtain ⟨d1,d2,d3⟩:=v7 hyy hss hcr
   have hnext:=Lib.hid (hput ((s+y+cr)%4294967296))
   have hstep:=Lib.hid (h2.step hs ey d1 d3)
   have hg:=Lib.hid h3
   have hadd:=Lib.hid (lJ s y cr wr hss hyy hcr)
   have hin:i<n:=qO
   clear hput h1 h2 h3 ho ht d3
   go_wp2_with (go_at_call 322;refine hadd.out.mono ?_;rintro e w' ⟨rfl,rfl⟩)
   go_roundw
   case rel=>exact ⟨i+1,_,by omega,by go_num,rfl,d2,_,hnext.out.1,hstep.out,eR hg.out hnext.out.2⟩
   case measure=>simp [intOf]<;>omega
  ·obtain rfl:m=i:=qO
   obtain ⟨s,hs,hcell,hfr,hput⟩:=h1.at_row (i:=o+m) qO
   have hss:=h2.dg.get hs
   have hnext:=Lib.hid (hput ((s+cr)%4294967296))
   have htk:=Lib.hid (h2.took (β:=4294967296) qD htl hs (d:=(s+cr)%4294967296) (b:=(s+cr) / 4294967296) qO qO qO)
   have hg:=Lib.hid h3
   have hin:m<n:=qO
   clear hput h1 h2 h3 ho ht
   go_wp2_with fail
   go_end0
   exact ⟨rfl,_,_,hnext.out.1,htk.out,eR hg.out hnext.out.2⟩
theorem y_ {w:World} {B g N C o n c p c2:Nat} {A2:Option Addr} {S X:List Int} {f s u0 u1 u2 q:Int} (ho:cG .u32 128 w B (some ⟨g,0,none⟩) N C S) (ht:Sl .u32 w B A2 (p+2) c2 X)
 (hmn:p+3≤n) (hnc:n≤c) (hn:n≤1000000000) (hfit:o+p+3≤N) (ef:X[p+1]? =some f) (es:X[p]? =some s) (e0:S[o+(p+2)]? =some u0) (e1:S[o+(p+1)]? =some u1) (e2:S[o+p]? =some u2)
 (d0:0≤u0∧u0<4294967296) (d1:0≤u1∧u1<4294967296) (hE:gH f s (u0*4294967296+u1) u2 q):
 Calls Tryz.prog 344 #[.slice (some ⟨g,o,none⟩) n c, .slice A2 (p+2) c2] w fun e w'=>∃ d:Int,e= .returned (.int .u32 d)∧(0≤d∧d≤4294967295)∧(d=q∨d=q+1)∧∃ k,w'=w.drewN k:=by
 obtain ⟨b,off,x,rfl,_,ex,hc1⟩:=ht.at_ (j:=p+1) qO
 obtain rfl:x=f:=by rw [ex] at ef;injection ef
 obtain ⟨b',off',y,hA,_,ey,hc2⟩:=ht.at_ (j:=p) qO
 injection hA with hA
 injection hA with q1 q2
 subst q1;subst q2
 obtain rfl:y=s:=by rw [ey] at es;injection es
 obtain ⟨z0,hz0,g0, -, -⟩:=ho.at_row (i:=o+(p+2)) qO
 obtain rfl:z0=u0:=by rw [hz0] at e0;injection e0
 obtain ⟨z1,hz1,g1, -, -⟩:=ho.at_row (i:=o+(p+1)) qO
 obtain rfl:z1=u1:=by rw [hz1] at e1;injection e1
 obtain ⟨z2,hz2,g2, -, -⟩:=ho.at_row (i:=o+p) qO
 obtain rfl:z2=u2:=by rw [hz2] at e2;injection e2
 have hf:=hE.hf
 have hs:=hE.hs
 have hu:=hE.hu
 have hh:=hE.hh
 have hI:=hE.start
 have hbd:=hE.bound hI
 have hj:=pY (x:=z0) (y:=z1) d0 d1
 have hp1:p+1<n:=qO
 have hp0:p<n:=qO
 have hfb:(x != 0)=true:=by rw [bne_iff_ne];omega
 clear ho ht hz0 hz1 hz2 ex ey ef es
 have HE:=Lib.hid hE
 have HI:=Lib.hid hI
 clear hE hI
 go_enter Tryz.func344,Tryz.ntmps344
 go_wp2
 go_step3
 go_wp2
 go_quiet (fail)
 go_wp2
 go_quiet (fail)
 go_wp2
 go_quiet (fail)
 go_wp2
 go_step3
 go_wp2
 have hx0:x≠0:=qO
 have hr0:(z0*4294967296+z1)%x≤4294967295:=by have:=Int.emod_lt_of_pos (z0*4294967296+z1) (show 0<x by omega);omega
 generalize z0*4294967296+z1=hi at*
 go_loop [9,10] (fun dv rv=>∃ d r:Int,dv= .int .u64 d∧rv= .int .u64 r∧r≤4294967295∧Hid (mb x hi q d r)) (fun dv _=>(intOf dv).toNat)
 case atStart=>exact ⟨_,_,rfl,rfl,hr0,HI⟩
 case round=>
  obtain ⟨d,r,rfl,rfl,hr,hI⟩:=hrel
  clear HI hbd hr0
  obtain ⟨b0,b1,b2,b3⟩:=HE.out.bound hI.out
  have hq:=HE.out.hq
  have hge:=hI.out.ge
  by_cases hbig:4294967295<d
  case' neg=>
   have hdy:0≤d*y∧d*y≤18446744065119617025:=by
    have h0:0≤d*y:=Int.mul_nonneg b0 hs.1
    have h1:d*y≤4294967295*4294967295:=Int.mul_le_mul qO qO hs.1 qO
    omega
   have hw1:IntKind.u64.wrap (d*y)=d*y:=by rw [IntKind.wrap_u64];omega
   have hj2:=pY (x:=r) (y:=z2) qO hu
   by_cases ht:r*4294967296+z2<d*y
   case' neg=>
    have hfin:=Lib.hid (HE.out.done hI.out qO)
    clear hI HE
    go_wp2_with fail
    go_ret
    exact ⟨d,by go_num,by omega,hfin.out,_,rfl⟩
   have hl:=HE.out.less hI.out (.inr ht)
  case' pos=>have hl:=HE.out.less hI.out (.inl hbig)
  all_goals
   clear hI
   have hd0:=hl.ge
   have HL:=Lib.hid hl
   by_cases hbr:4294967295<r+x
   ·have hfin:=Lib.hid (HE.out.broke hl hbr)
    have hle:=hfin.out.1
    clear hl HE
    go_wp2_with fail
    go_ret
    exact ⟨d - 1,by go_num,by have:=hfin.out.1;omega,hfin.out.2,_,rfl⟩
   ·clear hl
    go_wp2_with fail
    simp only [intOf]
    omega
def Fn (w:World) (B g N C o:Nat) (S:List Int) (V:Int) (e:Ending) (w':World):Prop:=
 ∃ (d:Int) (S2:List Int),e= .returned (.int .u32 d)∧cG .u32 128 w' B (some ⟨g,0,none⟩) N C S2∧DL 4294967296 V S S2 o d∧w.grownBy w' (some g)
theorem rk {w:World} {B g N C o n c m c2:Nat} {A2:Option Addr} {S X:List Int} {f:Int} (ho:cG .u32 128 w B (some ⟨g,0,none⟩) N C S) (ht:Sl .u32 w B A2 m c2 X) (hB:B≤w.heap.size)
 (hS:Dg 4294967296 S) (hX:Dg 4294967296 X) (hm:2≤m) (hmn:m+1≤n) (hnc:n≤c) (hn:n≤1000000000) (hfit:o+m+1≤N) (ef:X[m - 1]? =some f) (hf:2147483648≤f) (hW:val 4294967296 (S.drop o)<4294967296*val 4294967296 X):
 Calls Tryz.prog 341 #[.slice (some ⟨g,o,none⟩) n c, .slice A2 m c2] w (Fn w B g N C o S (val 4294967296 X)):=by
 obtain ⟨p,rfl⟩:∃ p,m=p+2:=⟨m - 2,by omega⟩
 have hSl:=ho.len
 have hXl:=ht.len
 obtain ⟨s,es⟩:=eE (xs:=X) (i:=p) qO
 obtain ⟨u0,e0⟩:=eE (xs:=S) (i:=o+p+2) qO
 obtain ⟨u1,e1⟩:=eE (xs:=S) (i:=o+p+1) qO
 obtain ⟨u2,e2⟩:=eE (xs:=S) (i:=o+p) qO
 obtain ⟨hV,hW2,hE⟩:=gH.of hS hX hXl ef es hf e0 e1 e2 hW
 have hG:=Lib.hid (y_ (c:=c) ho ht qO hnc hn qO ef es e0 e1 e2 (hS.get e0) (hS.get e1) hE)
 have HW:=Lib.hid hW2
 clear hE e0 e1 e2 es ef hW hW2
 go_enter Tryz.func341,Tryz.ntmps341
 go_wp2_with fail
 refine hG.out.mono ?_
 rintro e w1 ⟨d,rfl,hd,hq,k,rfl⟩
 have ho1:=ho.drew k
 have ht1:=ht.drew k
 have g1:w.grownBy (w.drewN k) (some g):=⟨rfl,rfl,rfl,Nat.le_refl _,fun _ _ _=>rfl⟩
 have hB1:B≤(w.drewN k).heap.size:=hB
 clear hG ho ht
 generalize w.drewN k=w1 at*
 go_wp2_with fail
 refine (q9 (d:=d) ho1 ht1 hB1 hS hX qO hmn hnc hfit).mono ?_
 rintro e w2 ⟨b,S2,rfl,h2,h3,h4⟩
 have hb:=h3.b01
 have hgB:=ho1.blk_ g rfl
 rcases (show b=0∨b=1 by omega) with rfl|rfl
 ·have hfin:=Lib.hid (h3.down qD hV hq)
  have h5:=Lib.hid (eR g1 h4)
  clear h3 h4 g1 hb
  go_wp2_with fail
  go_ret
  exact ⟨d,S2,rfl,h2,hfin.out,h5.out⟩
 ·have ht2:Sl .u32 w2 B A2 (p+2) c2 X:=ht1.grown h4 hB1 (fun k hk=>by injection hk with hk;omega)
  have HB:=Lib.hid (fun b S3 (h:uf 4294967296 1 1 (val 4294967296 X) S2 S3 o (p+2) b)=>h3.back qD h hS qO hV HW.out hq)
  have h5:=Lib.hid (eR g1 h4)
  have hd1:1≤d:=by
   have n1:=h3.num
   have n2:=h3.dg.dropLt qD (o:=o) (m:=p+2) (by rw [h3.rest];exact qQ (by decide) hS (by omega) HW.out) (by rw [h3.len];omega)
   have n3:=bg (β:=4294967296) qD (hS.drop o)
   rcases Int.lt_or_le 0 d with h|h
   ·omega
   ·obtain rfl:d=0:=qO
    simp only [Int.mul_one,Int.zero_mul,Int.mul_zero,Int.add_zero] at n1
    omega
  have d2:=h3.dg
  have h4s:=h4.size
  clear h3 h4 g1 hb HW
  go_wp2_with fail
  refine (vq h2 ht2 (Nat.le_trans hB1 h4s) d2 hX hmn hnc hfit).mono ?_
  rintro e w3 ⟨rfl,b,S3,h6,h7,h8⟩
  have hfin:=Lib.hid (HB.out b S3 h7)
  have h9:=Lib.hid (eR h5.out h8)
  clear h7 h8 HB h2
  go_wp2_with fail
  go_ret
  exact ⟨d - 1,S3,by go_num,h6,hfin.out,h9.out⟩
theorem yJ {P:Program} {t e:TypeId} {k:IntKind} {bytes:Nat} (T:ve P t e k bytes) {w w0:World} {ops:Array Oper} {rest:List Oper} {o:Oper} {a:Act} {Q:Exit→Act→World→Prop} (hgd:o.guard=none) (d s:Operand)
 (ho:o.op= .call { callee:= .builtin .copy,args:= #[d,s],argTypes:= #[t,t] }) {g n c m c2 B2:Nat} {A2:Option Addr} {S X:List Int} (h:Mk k e w0 (some ⟨g,0,none⟩) n c S w) (hs:Sl k w B2 A2 m c2 X)
 (ed:a.eval d= .slice (some ⟨g,0,none⟩) n c) (es:a.eval s= .slice A2 m c2) (hm:m≤n) (hnc:n=c)
 (hK:∀ w',Mk k e w0 (some ⟨g,0,none⟩) n c (X++S.drop m) w'→wpList P ops Q rest (a.put o.dst (goInt m)) w'):wpList P ops Q (o::rest) a w:=by
 obtain ⟨i,hi,hz,hsz,hby⟩:=T.info
 subst hnc
 have hS:=h.1.len
 have hX:=hs.len
 rcases h.1.2 with ⟨hv,_⟩|⟨g',cap,cur,hv,hb,hg,h1,h2,h3,h4⟩
 ·cases hv
 ·injection hv with hv h5 h6
  injection hv with hv
  injection hv with hv
  subst hv
  subst h6
  have hcur:cur.toList=S.map (Value.int k):=by
   rw [←h4,List.take_of_length_le (by simp;omega)]
  have hcl:cur=(S.map (Value.int k)).toArray:=by rw [←hcur]
  refine wpList_copy_splice hgd d s t t ho e T.slice (by rw [hi];simp [hsz]) (some ⟨g,0,none⟩) A2 n n m c2 ed es g 0 (S.map (Value.int k)) e (by rw [hg,hcl]) (X.map (Value.int k)) (by rw [List.length_map,hX];exact (Nat.min_eq_left hm).symm) ?_ (by simp;omega)
   (fun v hv=>by obtain ⟨_,_,rfl⟩:=List.mem_map.1 hv;rfl) w0.heap.size w0 h.2 hb ?_
  ·intro hpos
   simp at hpos
   refine ⟨rfl,?_⟩
   obtain ⟨b,off,hA,_,hc⟩:=hs.2.2.2.2 qO
   subst hA
   exact ⟨_,rfl,fun j v hv=>hs.news j v hv⟩
  ·intro w' hH hB
   have e1:(X.map (Value.int k)).length=m:=by simp [hX]
   have:=hK w' ⟨⟨by simp [hX];omega, .inr ⟨g,n,_,rfl,hb,hH.out,Nat.le_refl _,h2,?_,?_⟩⟩,hB⟩
   ·rw [e1];exact this
   ·simp [splice,hX,hS];omega
   ·simp only [splice,List.take_zero,List.nil_append,Nat.zero_add]
    rw [List.take_of_length_le (by simp [hX,hS];omega)]
    simp [hX,List.map_drop]
theorem yW{b:Nat} (hb:eK N b) (h0:4294967296^(m - 1)≤N) (h1:N<4294967296^m) (hm:0<m):∃ s:Nat,(32*(m:Int)) - (b:Int)=s∧s≤31∧b+s=32*m:=by
 have e:∀ k:Nat,(4294967296:Int)^k=2^(32*k):=fun k=>by rw [show (4294967296:Int)=2^32 from rfl,←Int.pow_mul]
 rw [e] at h0 h1
 have p:=bp (show (0:Int)<2 by decide) (32*(m - 1))
 rcases hb with ⟨h,_⟩|⟨h2,h3,h4⟩
 ·omega
 ·have hle:b≤32*m:=by
   rcases Nat.lt_or_ge (32*m) b with h|h
   ·have:=bz (show (0:Int)<2 by decide) (show 32*m≤b - 1 by omega)
    omega
   ·exact h
  have hge:32*(m - 1)<b:=by
   rcases Nat.lt_or_ge (32*(m - 1)) b with h|h
   ·exact h
   ·have:=bz (show (0:Int)<2 by decide) h
    omega
  exact ⟨32*m - b,by omega,by omega,by omega⟩
theorem BQ{b s:Nat} {V:List Int} (hb:eK N b) (hN:0<N) (hm:0<m) (hs:b+s=32*m) (hV:go 4294967296 (2^s*N) V):V.length=m∧∃ f,V[m - 1]? =some f∧2147483648≤f:=by
 rcases hb with ⟨h,_⟩|⟨h2,h3,h4⟩
 ·omega
 ·have p:=bp (show (0:Int)<2 by decide) s
  have lo:(2:Int)^(32*m - 1)≤2^s*N:=by
   rw [show 32*m - 1=s+(b - 1) by omega,Int.pow_add]
   exact Int.mul_le_mul_of_nonneg_left h3 qO
  have up:2^s*N<(4294967296:Int)^m:=by
   rw [show (4294967296:Int)=2^32 from rfl,←Int.pow_mul,←hs,Nat.add_comm,Int.pow_add]
   exact Int.mul_lt_mul_of_pos_left h4 p
  have l1:=hV.len_le qD up
  have hvv:=hV.val
  have l2:m≤V.length:=by
   rcases Nat.lt_or_ge V.length m with h|h
   ·have:=dS (β:=4294967296) qD hV.dg
    have q:=bz (show (0:Int)<4294967296 by decide) (show V.length≤m - 1 by omega)
    rw [show (4294967296:Int)^(m - 1)=2^(32*(m - 1)) by rw [show (4294967296:Int)=2^32 from rfl,←Int.pow_mul]] at q
    have:=bz (show (0:Int)<2 by decide) (show 32*(m - 1)≤32*m - 1 by omega)
    omega
   ·exact h
  refine ⟨by omega,?_⟩
  obtain ⟨f,hf⟩:=eE (xs:=V) (i:=m - 1) qO
  refine ⟨f,hf,?_⟩
  have hd:=hV.dg.get hf
  have e1:=fM 4294967296 V (k:=m - 1) qO
  rw [f8 _ hf,List.drop_of_length_le qO] at e1
  have e2:=dS (β:=4294967296) qD (hV.dg.take (m - 1))
  rw [List.length_take,Nat.min_eq_left qO] at e2
  simp only [val,Int.mul_zero,Int.add_zero] at e1
  have e3:(2:Int)^(32*m - 1)=4294967296^(m - 1)*2147483648:=by
   rw [show (4294967296:Int)=2^32 from rfl,←Int.pow_mul,show (2147483648:Int)=2^31 from rfl,←Int.pow_add];congr 1;omega
  have e4:(4294967296:Int)^(m - 1)*2147483648<4294967296^(m - 1)*(f+1):=by rw [Int.mul_add];omega
  have:=Int.lt_of_mul_lt_mul_left e4 (by have:=bp (show (0:Int)<4294967296 by decide) (m - 1);omega)
  omega
theorem wI{s:Nat} {As:List Int} (ha0:0≤a) (ha:a<4294967296^n) (hs:s≤31) (hm:0<m) (hmn:m≤n) (hb:4294967296^(m - 1)≤b) (hA:go 4294967296 (2^s*a) As):
 As.length≤n+1∧Dg 4294967296 (As++(List.replicate (n+1) 0).drop As.length)∧(As++(List.replicate (n+1) 0).drop As.length).length=n+1∧val 4294967296 (As++(List.replicate (n+1) 0).drop As.length)=2^s*a∧
  val 4294967296 ((As++(List.replicate (n+1) 0).drop As.length).drop (n+1 - m))<2^s*b:=by
 have p:=bp (show (0:Int)<2 by decide) s
 have p2:=bz (show (0:Int)<2 by decide) hs
 have q:=bp (show (0:Int)<4294967296 by decide) n
 have up:2^s*a<2^s*(4294967296:Int)^n:=Int.mul_lt_mul_of_pos_left ha p
 have l1:=hA.len_le (k:=n+1) qD (by
  rw [Int.pow_succ,Int.mul_comm _ 4294967296]
  have:2^s*(4294967296:Int)^n≤4294967296*4294967296^n:=Int.mul_le_mul_of_nonneg_right qO qO
  omega)
 have hd:Dg 4294967296 (As++(List.replicate (n+1) 0).drop As.length):=hA.dg.append ((Dg.zeros qD _).drop _)
 have hl:(As++(List.replicate (n+1) (0:Int)).drop As.length).length=n+1:=by simp;omega
 have hv:val 4294967296 (As++(List.replicate (n+1) 0).drop As.length)=2^s*a:=by
  rw [du,List.drop_replicate,gV,hA.val];omega
 refine ⟨l1,hd,hl,hv,?_⟩
 have e1:=fM 4294967296 (As++(List.replicate (n+1) 0).drop As.length) (k:=n+1 - m) qO
 rw [hv] at e1
 have e2:=bg (β:=4294967296) qD (hd.take (n+1 - m))
 generalize val 4294967296 ((As++(List.replicate (n+1) 0).drop As.length).drop (n+1 - m))=R at*
 have e3:(2:Int)^s*4294967296^n=4294967296^(n+1 - m)*(2^s*4294967296^(m - 1)):=by
  rw [Int.mul_left_comm,←Int.pow_add,show n+1 - m+(m - 1)=n by omega]
 have e4:(4294967296:Int)^(n+1 - m)*R<4294967296^(n+1 - m)*(2^s*4294967296^(m - 1)):=qO
 have e5:=Int.lt_of_mul_lt_mul_left e4 (by have:=bp (show (0:Int)<4294967296 by decide) (n+1 - m);omega)
 have e6:(2:Int)^s*4294967296^(m - 1)≤2^s*b:=Int.mul_le_mul_of_nonneg_left hb qO
 omega
theorem FN(hd:Dg 4294967296 xs) (ht:Tr xs) (h:0<xs.length):4294967296^(xs.length - 1)≤val 4294967296 xs:=by
 obtain ⟨zs,z,rfl,hz,_⟩:=ht.last (by intro e;subst e;simp at h)
 have h1:=hd z qE
 have h2:=bg (β:=4294967296) qD hd.left
 rw [cj]
 have:(4294967296:Int)^zs.length*1≤4294967296^zs.length*z:=Int.mul_le_mul_of_nonneg_left qO (by have:=bp (show (0:Int)<4294967296 by decide) zs.length;omega)
 simp
 omega
def Sep (A A2:Option Addr):Prop:=fC A=none∨fC A≠fC A2
theorem Sep.symm{A2:Option Addr} (h:Sep A A2):Sep A2 A:=by
 rcases h with h|h
 ·cases h2:fC A2 with
  |none=>exact .inl h2
  |some g=>exact .inr (by rw [h2,h];intro e;cases e)
 ·exact .inr fun e=>h e.symm
def I5 (w:World) (a b:Int) (e:Ending) (w':World):Prop:=
 ∃ qs rs A1 n1 c1 A2 n2 c2,e= .returned (.tuple #[.slice A1 n1 c1, .slice A2 n2 c2])∧go 4294967296 (a / b) qs∧go 4294967296 (a%b) rs∧cG .u32 128 w' w.heap.size A1 n1 c1 qs∧cG .u32 128 w' w.heap.size A2 n2 c2 rs∧Sep A1 A2∧Below w.heap.size w w'
theorem AR {a b:Nat} (h:a≠b):fC (some ⟨a,0,none⟩)≠some b:=fun e=>h (by simpa [fC] using e)
theorem cG.of_grown{k:IntKind} {e:TypeId} (h:cG k e w B A n c xs) (hg:w.grownBy w' (some g)) (hne:fC A≠some g):cG k e w' B A n c xs:=h.keep hg (.inr hne)
theorem wQ {w:World} {B:Nat} {A A2:Option Addr} {n c m c2:Nat} {X Y:List Int} (hs:Sl .u32 w B A n c X) (ht:Sl .u32 w B A2 m c2 Y) (hB:B≤w.heap.size) (hT:iq w) (hT0:11<w.heap.size)
 (hX:Dg 4294967296 X) (hY:Dg 4294967296 Y) (tY:Tr Y) (hm:2≤m) (hmn:m≤n) (hn:n≤400000000):
 Calls Tryz.prog 334 #[.slice A n c, .slice A2 m c2] w (I5 w (val 4294967296 X) (val 4294967296 Y)):=by
 have hXl:=hs.len
 have hYl:=ht.len
 have hlow:=FN hY tY qO
 have hup:=dS (β:=4294967296) qD hY
 rw [hYl] at hlow hup
 have hp:=bp (show (0:Int)<4294967296 by decide) (m - 1)
 have hX0:=bg (β:=4294967296) qD hX
 have hX1:=dS (β:=4294967296) qD hX
 rw [hXl] at hX1
 have HL:=Lib.hid hlow
 have HU:=Lib.hid hup
 have HN:=Lib.hid (show 0<val 4294967296 Y by omega)
 have HX:=Lib.hid (And.intro hX0 hX1)
 have HT:=Lib.hid hT
 clear hlow hup hp hX0 hX1 hT
 go_enter Tryz.func334,Tryz.ntmps334
 go_wp2_with fail
 refine (ni ht HT.out hY qO).mono ?_
 rintro e w' ⟨⟨b,hb,rfl⟩,rfl⟩
 obtain ⟨s,hs1,hs2,hs3⟩:=yW hb HL.out HU.out qO
 have hbm:(b:Int)≤32*m:=qO
 have HB:=Lib.hid hb
 clear hb
 have hw1:IntKind.i64.wrap (32*(m:Int))=32*(m:Int):=by rw [IntKind.wrap_i64];omega
 have hw2:IntKind.i64.wrap (32*(m:Int) - b)=s:=by rw [IntKind.wrap_i64];omega
 go_wp2_with fail
 refine (uM ht hB hY qO qO).mono ?_
 rintro e w1 ⟨V,A3,m3,c3,hV,rfl,hoV,hbV⟩
 obtain ⟨hVl,f,hf,hf2⟩:=BQ HB.out HN.out qO hs3 hV
 have hlV:=hoV.len
 obtain rfl:m=m3:=qO
 have HV:=Lib.hid hV.val
 have dV:=hV.dg
 have hs1':=hs.below hbV hB
 clear HB hV hs ht
 go_wp2_with fail
 refine (uM hs1' (Nat.le_trans hB hbV.size) hX qO qO).mono ?_
 rintro e w2 ⟨As,A4,n4,c4,hA,rfl,hoA,hbA⟩
 have hlA:=hoA.len
 have HS:=Lib.hid (wI HX.out.1 HX.out.2 hs2 qO hmn HL.out hA)
 have hl4:=HS.out.1
 have hbw:=hbV.trans (hbA.mono hbV.size)
 have sV:=(hoV.below hbA).sl
 have sA:=hoA.sl
 clear hoV hoA hbV hbA hA hs1'
 have hw3:IntKind.i64.wrap ((n:Int)+1 - m)=((n+1 - m:Nat):Int):=by rw [IntKind.wrap_i64];omega
 go_wp2_with (first
  |(at_make
    first
    |(refine gx l9 rfl _ _ rfl (B:=w2.heap.size) (n+1) rfl rfl qO qO qO qR (Nat.le_refl _) ?_
      intro w3 h3 hg3
      have hmk:=Mk.made h3 hg3
      have sA3:=sA.below hmk.2 (Nat.le_refl _))
    |(refine gx l9 rfl _ _ rfl (B:=w4.heap.size) (n+1 - m) rfl rfl qO qO qO qR (Nat.le_refl _) ?_
      intro w5 h5 hg5))
  |(with_reducible refine yJ l9 rfl _ _ rfl hmk sA3 rfl rfl qO rfl ?_;intro w4 hm4))
 subst hlA
 have hu5:=hm4.below ((Below.refl _ _).grown hg5 (Nat.le_refl _) (fun _ h=>by cases h))
 have hgu:=(hm4.1.blk_ _ rfl).2
 have sV5:=sV.below hu5.2 (Nat.le_refl _)
 obtain ⟨-,dU,lU,vU,hst⟩:=HS.out
 generalize As++List.drop As.length (List.replicate (n+1) 0)=U0 at*
 have hq:o9 4294967296 (val 4294967296 V) U0 U0 (List.replicate (n+1 - m) 0) (n+1 - m):=o9.start dU (Dg.zeros qD _) qO qE (by rw [HV.out];exact hst)
 have VU:=Lib.hid vU
 have hV0:=Lib.hid (show 0<val 4294967296 V by rw [HV.out];exact Int.mul_pos (bp qD s) HN.out)
 clear HS vU hst hmk sA3 hm4 hg3 h3 dU sA
 go_loopw [12] (fun jv wr=>∃ (k:Nat) (U Q:List Int),k≤n+1 - m∧jv= .int .i64 ((k:Int) - 1)∧cG .u32 128 wr w2.heap.size (some ⟨w2.heap.size,0,none⟩) (n+1) (n+1) U∧cG .u32 128 wr w4.heap.size (some ⟨w4.heap.size,0,none⟩) (n+1 - m) (n+1 - m) Q∧
  o9 4294967296 (val 4294967296 V) U0 U Q k∧Below w2.heap.size w2 wr) (fun jv _=>(intOf jv+1).toNat)
 case atStart=>exact ⟨n+1 - m,U0,_,Nat.le_refl _,rfl,hu5.1,h5,hq,hu5.2⟩
 case round=>
  obtain ⟨k,U,Q,hk,rfl,hoU,hoQ,hJ,hbr⟩:=hrel
  clear hu5 h5 hq hg5
  by_cases h0:k=0
  ·subst h0
   obtain ⟨vQ,vR⟩:=hJ.done qD
   obtain ⟨e1,e2⟩:=x4 (U:=val 4294967296 X) (V:=val 4294967296 Y) (s:=2^s) HN.out (bp qD s)
   rw [VU.out,HV.out,Int.mul_comm _ (val 4294967296 X),Int.mul_comm _ (val 4294967296 Y)] at vQ vR
   rw [e1] at vQ
   rw [e2] at vR
   have HQ:=Lib.hid vQ
   have HR:=Lib.hid (show val 4294967296 U / 2^s=val 4294967296 X%val 4294967296 Y by
    rw [vR,Int.mul_ediv_cancel _ (by have:=bp (show (0:Int)<2 by decide) s;omega)])
   have dU:=hJ.dgU
   have dQ:=hJ.dgQ
   clear vQ vR e1 e2 hJ VU
   have hw6:IntKind.i64.wrap (-(s:Int))= -(s:Int):=by rw [IntKind.wrap_i64];omega
   go_wp2_with fail
   refine (mw hoU.sl (Nat.le_refl _) dU qO qO).mono ?_
   rintro e w6 ⟨R,A6,n6,c6,hR,rfl,IY,hb6⟩
   have sQ:=(hoQ.below hb6).sl
   rw [HR.out] at hR
   have RR:=Lib.hid hR
   clear hR HR
   go_wp2_with fail
   refine (fi sQ qO).mono ?_
   rintro e w7 ⟨A7,n7,c7,rfl,ho7,hb7⟩
   have hw2:=hbw.size
   have hwr:=hbr.size
   have hw6s:=hb6.size
   have hbA:Below w.heap.size w w7:=hbw.trans ((hbr.trans ((hb6.trans (hb7.mono hw6s)).mono hwr)).mono hw2)
   have HB7:=Lib.hid hbA
   have SEP:=Lib.hid (show Sep A7 A6 from IY.apart ho7 (Nat.le_refl _))
   have oR:=(IY.below hb7).lower (Nat.le_trans hw2 hwr)
   have o7:=ho7.lower (Nat.le_trans (Nat.le_trans hw2 hwr) hw6s)
   clear hbA hbr hb6 hb7 hbw
   go_wp2_with fail
   go_ret2
   exact ⟨_,R,A7,n7,c7,A6,n6,c6,rfl,⟨dY dQ,d_ _,by rw [cx,HQ.out]⟩,RR.out,o7,oR,SEP.out,HB7.out⟩
  ·obtain ⟨j,rfl⟩:∃ j,k=j+1:=⟨k - 1,by omega⟩
   have lUU:=hoU.len
   have lQQ:=hoQ.len
   have hfit:=hJ.fits qD (show j<U.length by omega)
   have hne:¬ (n+1=j):=qO
   have HJ:=Lib.hid hJ
   have dU:=hJ.dgU
   have HBr:=Lib.hid hbr
   have sVr:=sV.below hbr (Nat.le_refl _)
   have hTD:=Lib.hid (rk (o:=j) (n:=j+m+1 - j) (c:=n+1 - j) hoU sVr hbr.size dU dV hm qO qO qO qO hf hf2 hfit)
   clear hJ hbr hfit
   go_wp2_with fail
   refine hTD.out.mono ?_
   rintro e w6 ⟨d,S2,rfl,ho6,hdig,hg6⟩
   have hoQ6:=hoQ.of_grown hg6 (AR qO)
   obtain ⟨z,hz,hcell,hfr,hput⟩:=hoQ6.at_row (i:=j) qO
   have hnext:=Lib.hid (hput d)
   have hstep:=Lib.hid (HJ.out.step qD qO qO hV0.out hdig)
   have ho7:=Lib.hid (ho6.of_grown (hput d).2 (AR qO))
   have hb7:=Lib.hid (HBr.out.trans (((Below.refl _ _).grown hg6 HBr.out.size (fun k hk=>by injection hk with hk;omega)).trans ((Below.refl _ _).grown (hput d).2 (Nat.le_trans HBr.out.size hg6.size) (fun k hk=>by injection hk with hk;omega))))
   clear hput hdig hg6 hoQ6 ho6 hoU hoQ HJ HBr hTD
   go_wp2_with fail
   go_roundw
   case rel=>exact ⟨j,S2,_,by omega,by simp,ho7.out,hnext.out.1,hstep.out,hb7.out⟩
   case measure=>simp [intOf]<;>omega
def IT (w:World) (a b:Int) (e:Ending) (w':World):Prop:=
 (b=0∧e= .returned (.tuple #[.slice none 0 0, .slice none 0 0, .int .i64 20])∧Below w.heap.size w w')∨
 (0<b∧∃ qs rs A1 n1 c1 A2 n2 c2,e= .returned (.tuple #[.slice A1 n1 c1, .slice A2 n2 c2, .int .i64 0])∧go 4294967296 (a / b) qs∧go 4294967296 (a%b) rs∧cG .u32 128 w' w.heap.size A1 n1 c1 qs∧cG .u32 128 w' w.heap.size A2 n2 c2 rs∧Below w.heap.size w w')
def I7 (w:World) (a b:Int) (e:Ending) (w':World):Prop:=
 (b=0∧e= .returned (.tuple #[.slice none 0 0, .slice none 0 0, .int .i64 20])∧Below w.heap.size w w')∨
 (0<b∧∃ qs rs A1 n1 c1 A2 n2 c2,e= .returned (.tuple #[.slice A1 n1 c1, .slice A2 n2 c2, .int .i64 0])∧go 4294967296 (a / b) qs∧go 4294967296 (a%b) rs∧cG .u32 128 w' w.heap.size A1 n1 c1 qs∧cG .u32 128 w' w.heap.size A2 n2 c2 rs∧Sep A1 A2∧Below w.heap.size w w')
theorem qy {w:World} {B:Nat} {A A2:Option Addr} {n c m c2:Nat} {xs ys:List Int} (hs:Sl .u32 w B A n c xs) (ht:Sl .u32 w B A2 m c2 ys) (hB:B≤w.heap.size) (hT:iq w) (hT0:11<w.heap.size)
 (hx:Dg 4294967296 xs) (hy:Dg 4294967296 ys) (hn:n≤400000000) (hm:m≤400000000):
 Calls Tryz.prog 318 #[.slice A n c, .slice A2 m c2] w (I7 w (val 4294967296 xs) (val 4294967296 ys)):=by
 have hxl:=fX xs
 have hyl:=fX ys
 have hl1:=hs.len
 have hl2:=ht.len
 have hx':=dY hx
 have hy':=dY hy
 have XV:=Lib.hid (cx 4294967296 xs)
 have YV:=Lib.hid (cx 4294967296 ys)
 have XT:=d_ xs
 have YT:=d_ ys
 have HT:=Lib.hid hT
 clear hT
 go_enter Tryz.func318,Tryz.ntmps318
 go_wp2_with fail
 refine (fi hs qO).mono ?_
 rintro e w1 ⟨A1,n1,c1,rfl,ho1,hb1⟩
 have ht1:=ht.below hb1 hB
 go_wp2_with fail
 refine (fi ht1 qO).mono ?_
 rintro e w2 ⟨A3,n3,c3,rfl,ho2,hb2⟩
 have hbw:=hb1.trans (hb2.mono hb1.size)
 have ho1':=ho1.below hb2
 have s1:=ho1'.sl
 have s2:=ho2.sl
 have o2:=ho2.lower hb1.size
 have e1:=s1.len
 have e2:=s2.len
 have HT2:=Lib.hid (HT.out.below hbw hT0)
 have hz2:=Nat.lt_of_lt_of_le hT0 hbw.size
 generalize tl xs=X at*
 generalize tl ys=Y at*
 have hw2s:=hbw.size
 have x0:=bg (β:=4294967296) qD hx'
 have X0:=Lib.hid x0
 have y0:=bg (β:=4294967296) qD hy'
 clear hs ht ht1 ho1 ho2 hb1 hb2 HT hT0 x0
 by_cases h0:n3=0
 ·subst h0
  have hz:val 4294967296 ys=0:=by rw [←YV.out,List.eq_nil_of_length_eq_zero e2];rfl
  have HZ:=Lib.hid hz
  have HB:=Lib.hid hbw
  clear hz YV hbw y0 HT2 s1 s2 o2 ho1'
  go_wp2_with fail
  all_goals go_ret3
  all_goals exact .inl ⟨HZ.out,rfl,HB.out⟩
 ·have hpos:0<val 4294967296 Y:=by
   rcases Int.lt_or_le 0 (val 4294967296 Y) with h|h
   ·exact h
   ·have:=Tr.zero (β:=4294967296) qD hy' YT qO;subst this;simp at e2;omega
  have HP:=Lib.hid hpos
  have hlen:((n3:Int)==0)=false:=beq_eq_false_iff_ne.2 qO
  clear hpos y0
  by_cases hlt:val 4294967296 X<val 4294967296 Y
  ·have hq:val 4294967296 xs / val 4294967296 ys=0:=by rw [←XV.out,←YV.out];exact Int.ediv_eq_zero_of_lt X0.out hlt
   have hr:val 4294967296 xs%val 4294967296 ys=val 4294967296 X:=by rw [←XV.out,←YV.out];exact Int.emod_eq_of_lt X0.out hlt
   have HQ:=Lib.hid hq
   have HR:=Lib.hid hr
   have HPs:=Lib.hid (show 0<val 4294967296 ys by rw [←YV.out];exact HP.out)
   have hc:=fN hlt
   have HC:=Lib.hid (iI s1 s2 hx' hy')
   have HB:=Lib.hid hbw
   clear hq hr XV YV hlt hbw HT2 s1 s2
   go_wp2_with fail
   refine HC.out.mono ?_
   rintro e w3 ⟨hr3,q,rfl⟩
   obtain rfl:e= .returned (.int .i64 (-1)):=by unfold jD at hr3;rw [hr3,hc]
   clear hr3 hc
   go_wp2_with fail
   go_ret3
   exact .inr ⟨HPs.out,[],X,none,0,0,A1,n1,c1,rfl,by rw [HQ.out];exact ⟨Dg.nil,Tr.nil,rfl⟩,by rw [HR.out];exact ⟨hx',XT,rfl⟩,cG.nil,ho1'.drew q, .inl rfl,Below.drewN' HB.out q⟩
  ·have HC:=Lib.hid (vP s1 s2 hx' hy' qO)
   have HPs:=Lib.hid (show 0<val 4294967296 ys by rw [←YV.out];exact HP.out)
   by_cases h1:n3=1
   ·subst h1
    obtain ⟨b,off,y,rfl,_,ey,hcell⟩:=s2.at_ (j:=0) qO
    rw [Nat.add_zero] at hcell
    have hyy:=hy'.get ey
    have hvY:val 4294967296 Y=y:=by
     match Y,e2,ey with
     |[z],_,ey=>simp at ey;subst ey;simp [val]
    have hy0:0<y:=by rw [←hvY];exact HP.out
    have HQ:=Lib.hid (show val 4294967296 X / y=val 4294967296 xs / val 4294967296 ys by rw [←XV.out,←YV.out,hvY])
    have HR:=Lib.hid (show val 4294967296 X%y=val 4294967296 xs%val 4294967296 ys by rw [←XV.out,←YV.out,hvY])
    have HB:=Lib.hid hbw
    clear XV YV hlt HP hvY hbw
    go_wp2_with fail
    refine HC.out.mono ?_
    rintro e w3 ⟨⟨v,hv0,rfl⟩,hb3⟩
    have hc3:w3.cell? ⟨b,off,none⟩=some (.int .u32 y):=by
     have:=s2.below hb3 (Nat.le_refl _)
     obtain ⟨b',off',y',hA,_,ey',hc'⟩:=this.at_ (j:=0) qO
     injection hA with hA
     injection hA with q1 q2
     subst q1;subst q2
     rw [ey] at ey'
     injection ey' with ey'
     subst ey'
     rw [Nat.add_zero] at hc'
     exact hc'
    have s13:=s1.below hb3 (Nat.le_refl _)
    have hw3s:=hb3.size
    have HB3:=Lib.hid (HB.out.trans (hb3.mono hw2s))
    clear HC hcell hb3 HB s1 s2 HT2
    go_wp2_with fail
    refine (tg s13 hw3s hx' ⟨hy0,hyy.2⟩ qO).mono ?_
    rintro e w4 ⟨qs,A4,n4,c4,hq,rfl,ho4,hb4⟩
    have HQ4:=Lib.hid hq
    have hr0:=Int.emod_nonneg (val 4294967296 X) (show y≠0 by omega)
    have hr1:=Int.emod_lt_of_pos (val 4294967296 X) hy0
    have hw4s:=hb4.size
    have HB4:=Lib.hid (HB3.out.trans (hb4.mono (Nat.le_trans hw2s hw3s)))
    clear hq hb4
    generalize val 4294967296 X%y=r at*
    go_wp2_with fail
    refine (fi (DA w4 w4.heap.size rfl r 128) qO).mono ?_
    rintro e w5 ⟨A5,n5,c5,rfl,ho5,hb5⟩
    have hb5':=i9 hb5
    have HB5:=Lib.hid (HB4.out.trans (hb5'.mono (Nat.le_trans (Nat.le_trans hw2s hw3s) hw4s)))
    have SEP:=Lib.hid (Sep.symm (show Sep A5 A4 from ho4.apart ho5 qA))
    have o4:=Lib.hid ((ho4.below hb5').lower (Nat.le_trans hw2s hw3s))
    have o5:=Lib.hid (ho5.lower (B':=w.heap.size) qA)
    clear hb5 hb5' ho4 ho5 HB4
    go_wp2_with fail
    go_ret3
    exact .inr ⟨HPs.out,qs,_,A4,n4,c4,A5,n5,c5,rfl,by rw [←HQ.out];exact HQ4.out,⟨dY (IL qO),d_ _,by rw [cx,←HR.out];simp [val]⟩,o4.out,o5.out,SEP.out,HB5.out⟩
   ·have hlen1:((n3:Int)==1)=false:=beq_eq_false_iff_ne.2 qO
    have hmn:n3≤n1:=by
     rcases Nat.lt_or_ge n1 n3 with h|h
     ·have:=ga (β:=4294967296) qD hx' hy' YT qO
      omega
     ·exact h
    have HB:=Lib.hid hbw
    have HX:=Lib.hid (And.intro XV.out YV.out)
    clear XV YV hlt HP hbw
    go_wp2_with fail
    refine HC.out.mono ?_
    rintro e w3 ⟨⟨v,hv0,rfl⟩,hb3⟩
    have s13:=s1.below hb3 (Nat.le_refl _)
    have s23:=s2.below hb3 (Nat.le_refl _)
    have hw3s:=hb3.size
    have HB3:=Lib.hid (HB.out.trans (hb3.mono hw2s))
    have HT3:=Lib.hid (HT2.out.below hb3 hz2)
    have hz3:=Nat.lt_of_lt_of_le hz2 hw3s
    clear HC hb3 HB s1 s2 HT2 ho1' o2
    go_wp2_with fail
    refine (wQ s13 s23 hw3s HT3.out hz3 hx' hy' YT qO hmn qO).mono ?_
    rintro e w4 ⟨qs,rs,A4,n4,c4,A5,n5,c5,rfl,hq,hr,ho4,ho5,SEP,hb4⟩
    rw [HX.out.1,HX.out.2] at hq hr
    have HQ:=Lib.hid hq
    have HR:=Lib.hid hr
    have HB4:=Lib.hid (HB3.out.trans (hb4.mono (Nat.le_trans hw2s hw3s)))
    have o4:=Lib.hid (ho4.lower (Nat.le_trans hw2s hw3s))
    have o5:=Lib.hid (ho5.lower (Nat.le_trans hw2s hw3s))
    clear hq hr hb4 ho4 ho5 HB3
    go_wp2_with fail
    go_ret3
    exact .inr ⟨HPs.out,qs,rs,A4,n4,c4,A5,n5,c5,rfl,HQ.out,HR.out,o4.out,o5.out,SEP,HB4.out⟩
theorem vV {w:World} {B:Nat} {A A2:Option Addr} {n c m c2:Nat} {xs ys:List Int} (hs:Sl .u32 w B A n c xs) (ht:Sl .u32 w B A2 m c2 ys) (hB:B≤w.heap.size) (hT:iq w) (hT0:11<w.heap.size)
 (hx:Dg 4294967296 xs) (hy:Dg 4294967296 ys) (hn:n≤400000000) (hm:m≤400000000):
 Calls Tryz.prog 318 #[.slice A n c, .slice A2 m c2] w (IT w (val 4294967296 xs) (val 4294967296 ys)):=by
 refine (qy hs ht hB hT hT0 hx hy hn hm).mono ?_
 rintro e w' (h|⟨h0,qs,rs,A1,n1,c1,A2,n2,c2,he,h1,h2,h3,h4,_,h5⟩)
 ·exact .inl h
 ·exact .inr ⟨h0,qs,rs,A1,n1,c1,A2,n2,c2,he,h1,h2,h3,h4,h5⟩
theorem DM(hx:0≤x∧x<4294967296) (hy:0≤y∧y<4294967296):bits .or .u64 y (x*4294967296)=y+4294967296*x:=by
 have e:=pY hx hy
 have hc:bits .or .u64 y (x*4294967296)=bits .or .u64 (x*4294967296) y:=by
  obtain ⟨a,ha⟩:=Int.eq_ofNat_of_zero_le (show 0≤x*4294967296 by omega)
  obtain ⟨b,rfl⟩:=Int.eq_ofNat_of_zero_le hy.1
  have h1:a<2^64:=qO
  have h2:b<2^64:=qO
  rw [ha,(bits_nat .u64 64 qD nK b a h2 h1).2,(bits_nat .u64 64 qD nK a b h1 h2).2,Nat.or_comm]
 rw [hc,e]
 omega
theorem gO(hs:Sl .u32 w B A n c xs) (hx:Dg 4294967296 xs) (hn:n≤2):
 Calls Tryz.prog 331 #[.slice A n c] w fun e w'=>e= .returned (.int .u64 (val 4294967296 xs))∧w=w':=by
 have hl:=hs.len
 have hw32:IntKind.i64.wrap (32*1)=32:=by decide
 go_enter Tryz.func331,Tryz.ntmps331
 go_wp2
 go_loop [3,8] (fun wv iv=>∃ k:Nat,k≤n∧iv= .int .i64 k∧wv= .int .u64 (val 4294967296 (xs.take k))) (fun _ iv=>n - (intOf iv).toNat)
 case atStart=>exact ⟨0,by omega,rfl,by simp [val]⟩
 case round=>
  obtain ⟨k,hk,rfl,rfl⟩:=hrel
  by_cases hlt:k<n
  ·obtain ⟨b,off,x,rfl,_,ex,hcell⟩:=hs.at_ hlt
   have hxx:=hx.get ex
   have hst:=bt ex
   rcases (show k=0∨k=1 by omega) with rfl|rfl
   ·have h0:val 4294967296 (xs.take 0)=0:=by simp [val]
    have h1:val 4294967296 (xs.take 1)=x:=by rw [hst];simp [val]
    have hor:bits .or .u64 0 x=x:=by
     have:=pY (x:=0) (y:=x) qO hxx
     simpa using this
    rw [Nat.add_zero] at hcell
    rw [h0]
    go_wp2
    go_round
    case rel=>exact ⟨1,by omega,by go_num,by rw [h1]⟩
    case measure=>simp [intOf]<;>omega
   ·obtain ⟨x0,ex0⟩:=eE (xs:=xs) (i:=0) qO
    have hx0:=hx.get ex0
    have h0:val 4294967296 (xs.take 1)=x0:=by rw [bt ex0];simp [val]
    have h1:val 4294967296 (xs.take 2)=x0+4294967296*x:=by rw [hst,cj,h0,List.length_take,Nat.min_eq_left qO];simp
    have hj:=DM (x:=x) (y:=x0) hxx hx0
    rw [h0]
    go_wp2
    go_round
    case rel=>exact ⟨2,by omega,by go_num,by rw [h1]⟩
    case measure=>simp [intOf]<;>omega
  ·obtain rfl:n=k:=qO
   rw [List.take_of_length_le qO]
   go_wp2
   go_ret
   exact ⟨rfl,rfl⟩
theorem rK{W:Int} (hW:0≤W∧W<18446744073709551616):
 Calls Tryz.prog 329 #[.int .u64 W] w (pP w W):=by
 go_enter Tryz.func329,Tryz.ntmps329
 have hd:Dg 4294967296 [W%4294967296,W / 4294967296]:=Jd qO qO
 have hv:val 4294967296 [W%4294967296,W / 4294967296]=W:=by simp only [val];omega
 have HR:=Lib.hid (show go 4294967296 W (tl [W%4294967296,W / 4294967296]) from ⟨dY hd,d_ _,by rw [cx,hv]⟩)
 have hw1:W / 4294967296%4294967296=W / 4294967296:=qO
 clear hd hv
 go_wp2_with fail
 refine (fi (Iw w w.heap.size rfl (W%4294967296) (W / 4294967296) 128) qO).mono ?_
 rintro e w1 ⟨A1,n1,c1,rfl,ho,hb⟩
 have ho':=Lib.hid (ho.lower (B':=w.heap.size) qA)
 have hb':=Lib.hid (i9 hb)
 clear ho hb
 go_wp2_with fail
 go_ret
 exact ⟨_,HR.out,A1,n1,c1,rfl,ho'.out,hb'.out⟩
theorem k9(ha:0≤a∧a<18446744073709551616) (hb:0≤b∧b<18446744073709551616):
 Calls Tryz.prog 330 #[.int .u64 a, .int .u64 b] w fun e w'=>e= .returned (.int .u64 (ej a b))∧∃ k,w'=w.drewN k:=by
 go_enter Tryz.func330,Tryz.ntmps330
 go_wp2
 go_loopw [0,1] (fun av bv wr=>∃ (x y:Int) (k:Nat),av= .int .u64 x∧bv= .int .u64 y∧(0≤x∧x<18446744073709551616)∧(0≤y∧y<18446744073709551616)∧Hid (ej x y=ej a b)∧wr=w.drewN k) (fun _ bv _=>(intOf bv).toNat)
 case atStart=>exact ⟨a,b,0,rfl,rfl,ha,hb,rfl,rfl⟩
 case round=>
  obtain ⟨x,y,k,rfl,rfl,hx,hy,hg,rfl⟩:=hrel
  by_cases h0:y=0
  ·subst h0
   have hf:=Lib.hid (show x=ej a b by rw [←hg.out,j4 hx.1])
   clear hg
   go_wp2
   go_ret
   exact ⟨congrArg (fun z=>Ending.returned (.int .u64 z)) hf.out,k,rfl⟩
  ·have hyb:(y != 0)=true:=by rw [bne_iff_ne];exact h0
   have hn:=Lib.hid (show ej y (x%y)=ej a b by rw [rO hx.1 qO];exact hg.out)
   have hr0:=Int.emod_nonneg x h0
   have hr1:=Int.emod_lt_of_pos x (show 0<y by omega)
   clear hg
   go_wp2
   go_quiet (fail)
   go_wp2
   go_roundw
   case rel=>exact ⟨y,x%y,_,rfl,rfl,hy,by omega,hn.out,by first|rfl|(simp only [World.drewN_drewN];rfl)⟩
   case measure=>simp [intOf]<;>omega
def EH (w:World) (Bs:Nat) (a b:Int) (e:Ending) (w':World):Prop:=
 ∃ C D cs ds A1 n1 c1 A2 n2 c2,e= .returned (.tuple #[.slice A1 n1 c1, .slice A2 n2 c2])∧go 4294967296 C cs∧go 4294967296 D ds∧cG .u32 128 w' Bs A1 n1 c1 cs∧cG .u32 128 w' Bs A2 n2 c2 ds∧
  0≤D∧D<C∧C≤b∧ej C D=ej a b∧Below w.heap.size w w'
theorem oM {w:World} {Bs:Nat} {A A2:Option Addr} {n c m c2:Nat} {X Y:List Int} {a b:Int} (hs:cG .u32 128 w Bs A n c X) (ht:cG .u32 128 w Bs A2 m c2 Y) (rX:go 4294967296 a X) (rY:go 4294967296 b Y)
 (hBs:Bs≤w.heap.size) (ha:0≤a) (hb:0<b) (hT:iq w) (hT0:11<w.heap.size) (hn:n≤400000000) (hm:m≤400000000):
 Calls Tryz.prog 328 #[.slice A n c, .slice A2 m c2] w (EH w Bs a b):=by
 have HD:=Lib.hid (vV hs.sl ht.sl (Nat.le_refl _) hT hT0 rX.dg rY.dg hn hm)
 go_enter Tryz.func328,Tryz.ntmps328
 go_wp2_with fail
 refine HD.out.mono ?_
 rintro e w1 h
 rcases h with ⟨h,_⟩|⟨_,qs,rs,A3,n3,c3,A4,n4,c4,rfl,hq,hr,ho3,ho4,hbw⟩
 ·rw [rY.val] at h;omega
 ·rw [rX.val,rY.val] at hr
  have hN:=Lib.hid (rO ha hb)
  have hR:=Lib.hid hr
  have o2:=Lib.hid (ht.below hbw)
  have o4:=Lib.hid (ho4.lower hBs)
  have HB:=Lib.hid hbw
  have h0:=Int.emod_nonneg a (show b≠0 by omega)
  have h1:=Int.emod_lt_of_pos a hb
  clear hq hr ho3 ho4 hbw
  go_wp2_with fail
  go_ret2
  exact ⟨b,a%b,Y,rs,A2,m,c2,A4,n4,c4,rfl,rY,hR.out,o2.out,o4.out,h0,h1,Int.le_refl _,hN.out,HB.out⟩
theorem Gj (w:World) (a b a' b':Value) (t:TypeId):((w.alloc (.cells #[a,b] t)).setCell ⟨w.heap.size,0,none⟩ a').setCell ⟨w.heap.size,1,none⟩ b'=w.alloc (.cells #[a',b'] t):=by
 simp [World.setCell_alloc_at]
theorem vt (w:World) (o:Obj) (n i:Nat) (v:Value) (h:n<w.heap.size):(w.alloc o).setCell ⟨n,i,none⟩ v=(w.setCell ⟨n,i,none⟩ v).alloc o:=by
 simp [World.setCell_alloc_past,h]
theorem nP (w:World) (o:Obj) (n:Nat) (a b:Value) (h:n<w.heap.size):((w.alloc o).setCell ⟨n,0,none⟩ a).setCell ⟨n,1,none⟩ b=((w.setCell ⟨n,0,none⟩ a).setCell ⟨n,1,none⟩ b).alloc o:=by
 rw [vt _ _ _ _ _ h,vt _ _ _ _ _ (by rw [World.size_setCell];exact h)]
theorem iV (W:World) (k:Nat) (p:Addr) (v:Value):(W.drewN k).setCell p v=(W.setCell p v).drewN k:=rfl
theorem tq (w:World) (a b c d e f a' b' c' d':Value) (t:TypeId) (k:Nat):
 ((((((((w.alloc (.cells #[a,b] t)).alloc (.cells #[c,d] t)).alloc (.cells #[e,f] t)).drewN k).setCell ⟨w.heap.size,0,none⟩ a').setCell ⟨w.heap.size,1,none⟩ b').setCell ⟨w.heap.size+1,0,none⟩ c').setCell ⟨w.heap.size+1,1,none⟩ d')=
   (((w.alloc (.cells #[a',b'] t)).alloc (.cells #[c',d'] t)).alloc (.cells #[e,f] t)).drewN k:=by
 rw [iV,iV,iV,iV,nP _ _ _ _ _ (by rw [aX,aX];omega),nP _ _ _ _ _ (by rw [World.size_setCell,World.size_setCell,aX,aX];omega),nP _ _ _ _ _ qA,Gj,←aX w (.cells #[a',b'] t),Gj]
theorem yL (w:World) (a b c d e f a' b' c' d' e' f':Value) (t:TypeId) (k:Nat):
 ((((((((((w.alloc (.cells #[a,b] t)).alloc (.cells #[c,d] t)).alloc (.cells #[e,f] t)).drewN k).setCell ⟨w.heap.size,0,none⟩ a').setCell ⟨w.heap.size,1,none⟩ b').setCell ⟨w.heap.size+1,0,none⟩ c').setCell ⟨w.heap.size+1,1,none⟩ d').setCell ⟨w.heap.size+1+1,0,none⟩ e').setCell ⟨w.heap.size+1+1,1,none⟩ f')=
   (((w.alloc (.cells #[a',b'] t)).alloc (.cells #[c',d'] t)).alloc (.cells #[e',f'] t)).drewN k:=by
 rw [tq,iV,iV,←aX w (.cells #[a',b'] t),←aX (w.alloc (.cells #[a',b'] t)) (.cells #[c',d'] t),Gj]
theorem kg (w:World) (A B C:Obj) (k:Nat):((((w.alloc A).alloc B).alloc C).drewN k).heap[w.heap.size]? =some A∧((((w.alloc A).alloc B).alloc C).drewN k).heap[w.heap.size+1]? =some B:=by
 refine ⟨?_,?_⟩
 ·show (((w.alloc A).alloc B).alloc C).heap[w.heap.size]? =some A
  rw [heap_alloc_old (h:=by rw [aX,aX];omega),heap_alloc_old (h:=by rw [aX];omega),heap_alloc_new]
 ·show (((w.alloc A).alloc B).alloc C).heap[w.heap.size+1]? =some B
  rw [heap_alloc_old (h:=by rw [aX,aX];omega),←aX w A,heap_alloc_new]
theorem lY {P:Program} {fn:Func} {p q:Tmp} {ty:TypeId} (h:fn.results= #[.cell p ty, .cell q ty]) (tmps:Array Value) (w:World) (g1 g2:Nat) (t1 t2:TypeId) (cs1 cs2:Array Value) (f1 f2:Nat×Nat) (d:TypeDesc)
 (hp:tmps.getD p undef= .pointer (some ⟨g1,0,none⟩)) (hq:tmps.getD q undef= .pointer (some ⟨g2,0,none⟩)) (h1:w.heap[g1]? =some (.cells cs1 t1 f1)) (h2:w.heap[g2]? =some (.cells cs2 t2 f2))
 (hu:P.underlying ty=some d) (hd:(match d with| .struct _| .array _ _=>true|_=>false)=true) (i1:(P.info? ty).map (·.size)=some cs1.size) (i2:(P.info? ty).map (·.size)=some cs2.size):
 (results fn tmps).run P w= .ok (.tuple #[.agg cs1, .agg cs2]) w:=by
 have hp':tmps[p]?.getD undef= .pointer (some ⟨g1,0,none⟩):=by simpa using hp
 have hq':tmps[q]?.getD undef= .pointer (some ⟨g2,0,none⟩):=by simpa using hq
 simp [results,h,hp',hq',asAddr,run_loadVar_row w g1 t1 ty cs1 f1 d h1 hu hd i1,run_loadVar_row w g2 t2 ty cs2 f2 d h2 hu hd i2]
theorem oy (w:World) (A B C:Obj) (k:Nat):Below w.heap.size w ((((w.alloc A).alloc B).alloc C).drewN k):=
 Below.drewN' ((((Below.refl _ _).alloc (Nat.le_refl _) A).alloc qA B).alloc (by rw [aX,aX];omega) C) k
theorem yR(h0:0≤b) (hba:b≤a) (ha:a<18446744073709551616):
 Calls Tryz.prog 337 #[.int .u64 a, .int .u64 b] w fun e w'=>∃ uA uB vA vB:Int,e= .returned (.tuple #[.agg #[.int .u64 uA, .int .u64 uB], .agg #[.int .u64 vA, .int .u64 vB]])∧lm a b uA uB vA vB∧Below w.heap.size w w':=by
 go_enter Tryz.func337,Tryz.ntmps337
 go_wp2
 go_loopw [0,1] (fun av bv wr=>∃ (x y uA uB vA vB nA nB s:Int) (k:Nat),av= .int .u64 x∧bv= .int .u64 y∧Hid (kJ a b x y vA vB nA nB s)∧Hid (lm a b uA uB vA vB)∧
  wr=(((w.alloc (.cells #[.int .u64 uA, .int .u64 uB] 436)).alloc (.cells #[.int .u64 vA, .int .u64 vB] 436)).alloc (.cells #[.int .u64 nA, .int .u64 nB] 436)).drewN k) (fun _ bv _=>(intOf bv).toNat)
 case atStart=>exact ⟨a,b,0,0,1,0,0,1,1,0,rfl,rfl,kJ.start h0 hba, .inl rfl,rfl⟩
 case round=>
  obtain ⟨x,y,uA,uB,vA,vB,nA,nB,s,k,rfl,rfl,hT,hO,rfl⟩:=hrel
  have ho:=hT.out.ord
  have hv:=hT.out.v0
  have hn:=hT.out.n0
  by_cases g1:nB≤y
  ·have hbd:=hT.out.bound g1 ha
   have hw1:IntKind.u64.wrap (x - y)=x - y:=by rw [IntKind.wrap_u64];have:=hT.out.le0;omega
   by_cases g2:vB+nB≤x - y
   ·obtain ⟨t1,t2,t3,t4⟩:=hT.out.step g1 g2 ha
    have T1:=Lib.hid t1
    have O1:=Lib.hid (hT.out.ok g1 g2 ha)
    have hyb:(y != 0)=true:=by rw [bne_iff_ne];omega
    have hr1:=Int.emod_lt_of_pos x (show 0<y by omega)
    have hr0:=Int.emod_nonneg x (show y≠0 by omega)
    have hw2:IntKind.u64.wrap (x / y*nA)=x / y*nA:=by rw [IntKind.wrap_u64];omega
    have hw3:IntKind.u64.wrap (x / y*nB)=x / y*nB:=by rw [IntKind.wrap_u64];omega
    have htd:x.tdiv y=x / y:=Int.tdiv_eq_ediv_of_nonneg qO
    have hwq:IntKind.u64.wrap (x / y)=x / y:=by rw [IntKind.wrap_u64];omega
    clear hT hO t1
    go_wp2
    go_quiet (fail)
    go_wp2
    go_region
    go_wp2
    refine ⟨⟨y,x%y,vA,vB,nA,nB,_,_, -s,_,rfl,rfl,T1,O1,yL w _ _ _ _ _ _ _ _ _ _ _ _ _ _⟩,?_⟩
    simp only [intOf]
    omega
   ·clear hT
    go_wp2
    go_region
    go_wp2
    rw [tq]
    refine bodyPost_ret_by (lY rfl _ _ w.heap.size (w.heap.size+1) _ _ _ _ _ _ _ rfl rfl (kg w _ _ _ _).1 (kg w _ _ _ _).2 Tryz.underlying436 rfl qK qK) rfl ?_
    exact ⟨uA,uB,vA,vB,rfl,hO.out,oy w _ _ _ _⟩
  ·clear hT
   go_wp2
   go_region
   go_wp2
   rw [tq]
   refine bodyPost_ret_by (lY rfl _ _ w.heap.size (w.heap.size+1) _ _ _ _ _ _ _ rfl rfl (kg w _ _ _ _).1 (kg w _ _ _ _).2 Tryz.underlying436 rfl qK qK) rfl ?_
   exact ⟨uA,uB,vA,vB,rfl,hO.out,oy w _ _ _ _⟩
structure FO (w:World) (A:Option Addr) (n c:Nat) (x m:Int):Prop where
 row:∃ X,go 4294967296 x X∧Sl .u32 w w.heap.size A n c X
 le:n≤400000000
 m:0≤m∧m<4294967296
def H5 (w:World) (A:Option Addr) (n c:Nat) (N:Int):Prop:=∃ ys,go 4294967296 N ys∧Sl .u32 w w.heap.size A n c ys∧n≤400000001
theorem Dj{m:Int} {p q:Addr} {v:Value} (hS:Below w.heap.size w W∧W.cell? p=some u∧W.cell? q=some v) (hp:p.block<w.heap.size) (hq:q.block<w.heap.size) (hA:FO w A n c x m):
 Calls Tryz.prog 300 #[.slice A n c, .int .u32 m] W fun e W'=>∃ A' n' c',e= .returned (.slice A' n' c')∧H5 W' A' n' c' (m*x)∧Below W.heap.size W W'∧(W'.cell? p=some u∧W'.cell? q=some v):=by
 obtain ⟨X,rX,sX⟩:=hA.row
 refine (kA ((sX.below hS.1 (Nat.le_refl _)).more hS.1.size) (Nat.le_refl _) rX.dg hA.m (by have:=hA.le;omega)).mono ?_
 rintro e W' ⟨ys,hr,A',n',c',rfl,ho,hb⟩
 rw [rX.val] at hr
 have hsz:=hS.1.size
 refine ⟨A',n',c',rfl,⟨ys,hr,ho.sl,?_⟩,hb,(hb.cell qO).trans hS.2.1,(hb.cell qO).trans hS.2.2⟩
 have h1:=dS (β:=4294967296) qD rX.dg
 have h0:=bg (β:=4294967296) qD rX.dg
 rw [rX.val,sX.len] at h1
 rw [rX.val] at h0
 have hm:=hA.m
 have h2:m*x<4294967296^(n+1):=by
  rw [Int.pow_succ,Int.mul_comm _ 4294967296]
  have p0:=bp (show (0:Int)<4294967296 by decide) n
  have a1:m*x≤4294967295*x:=Int.mul_le_mul_of_nonneg_right qO h0
  omega
 have:=hr.len_le qD h2
 have:=ho.len
 have:=hA.le
 omega
theorem y7 {w:World} {B:Nat} {A A2:Option Addr} {n c m c2:Nat} {X Y:List Int} {a b sA sB C:Int} (hs:Sl .u32 w B A n c X) (ht:Sl .u32 w B A2 m c2 Y) (hB:B≤w.heap.size) (rX:go 4294967296 a X) (rY:go 4294967296 b Y)
 (hA:0≤sA∧sA<4294967296) (hB':0≤sB∧sB<4294967296) (hn:n≤400000000) (hm:m≤400000000) (hC:sA*a - sB*b=C∨sB*b - sA*a=C) (h0:0≤C):
 Calls Tryz.prog 338 #[.slice A n c, .slice A2 m c2, .agg #[.int .u64 sA, .int .u64 sB]] w (pP w C):=by
 have hwA:IntKind.u32.wrap sA=sA:=by rw [IntKind.wrap_u32];omega
 have hwB:IntKind.u32.wrap sB=sB:=by rw [IntKind.wrap_u32];omega
 go_enter Tryz.func338,Tryz.ntmps338
 go_wp2_with fail
 have HA:FO (w.alloc (.cells #[.int .u64 sA, .int .u64 sB] 436)) A n c a sA:=⟨⟨X,rX,(hs.alloc hB _).more qA⟩,hn,hA⟩
 have HB:FO (w.alloc (.cells #[.int .u64 sA, .int .u64 sB] 436)) A2 m c2 b sB:=⟨⟨Y,rY,(ht.alloc hB _).more qA⟩,hm,hB'⟩
 have hb1:Below w.heap.size w (w.alloc (.cells #[.int .u64 sA, .int .u64 sB] 436)):=(Below.refl _ _).alloc (Nat.le_refl _) _
 have hc0:(w.alloc (.cells #[.int .u64 sA, .int .u64 sB] 436)).cell? ⟨w.heap.size,0,none⟩=some (.int .u64 sA):=by simp [World.cell?_alloc_new]
 have hc1:(w.alloc (.cells #[.int .u64 sA, .int .u64 sB] 436)).cell? ⟨w.heap.size,1,none⟩=some (.int .u64 sB):=by simp [World.cell?_alloc_new]
 have hsz:w.heap.size<(w.alloc (.cells #[.int .u64 sA, .int .u64 sB] 436)).heap.size:=by rw [aX];omega
 generalize w.alloc (.cells #[.int .u64 sA, .int .u64 sB] 436)=w1 at*
 clear hs ht
 have HB1:=Lib.hid hb1
 clear hb1
 have hS0:Below w1.heap.size w1 w1∧w1.cell? ⟨w.heap.size,0,none⟩=some (.int .u64 sA)∧w1.cell? ⟨w.heap.size,1,none⟩=some (.int .u64 sB):=⟨Below.refl _ _,hc0,hc1⟩
 go_region_held3 (fun W=>Below w1.heap.size w1 W∧W.cell? ⟨w.heap.size,0,none⟩=some (.int .u64 sA)∧W.cell? ⟨w.heap.size,1,none⟩=some (.int .u64 sB))
  (first|assumption|exact ⟨Below.drew (And.left qL),by assumption,by assumption⟩|exact ⟨Below.trans (And.left qL) (Below.mono qL (Below.size (And.left qL))),by assumption⟩)
  (first
    |(go_at_call 300;go_must (refine (Dj (w:=w1) (p:=⟨w.heap.size,0,none⟩) (q:=⟨w.heap.size,1,none⟩) (u:= .int .u64 sA) (v:= .int .u64 sB) (show Below w1.heap.size w1 _∧World.cell? _ ⟨w.heap.size,0,none⟩=some (.int .u64 sA)∧World.cell? _ ⟨w.heap.size,1,none⟩=some (.int .u64 sB) by first|assumption|exact ⟨Below.drew (And.left qL),by assumption,by assumption⟩) hsz hsz (by first|exact HA|exact HB)).mono ?_;rintro e wS ⟨Az,nz,cz,rfl,hG,hbz,hcz⟩)))
 obtain ⟨xs,rx,sx0,lx⟩:= ‹H5 _ _ _ _ (sA*a)›
 obtain ⟨ys,ry,sy,ly⟩:=hG
 have sx:=(sx0.below hbz (Nat.le_refl _)).more hbz.size
 have HBS:=Lib.hid ((show Below w1.heap.size w1 wS∧_ by assumption).1)
 have HBw:=Lib.hid (HB1.out.trans (HBS.out.mono HB1.out.size))
 have dx:=rx.dg
 have dy:=ry.dg
 have VX:=Lib.hid rx.val
 have VY:=Lib.hid ry.val
 have hwS:=HBw.out.size
 clear sx0 hbz hcz rx ry hS0 hc0 hc1 HA HB HB1
 have HC:=Lib.hid (iI sx sy dx dy)
 by_cases hlt:sA*a<sB*b
 case' pos=>
  have hval:=Lib.hid (show sB*b - sA*a=C by omega)
  have hc:=fN (a:=val 4294967296 xs) (b:=val 4294967296 ys) (by rw [VX.out,VY.out];exact hlt)
  go_wp2_with fail
  refine HC.out.mono ?_
  rintro e w3 ⟨hr3,q,rfl⟩
  obtain rfl:e= .returned (.int .i64 (-1)):=by unfold jD at hr3;rw [hr3,hc]
  have HS:=Lib.hid (nh (sy.drew q) (sx.drew q) (Nat.le_refl _) dy dx (by rw [VX.out,VY.out];omega) qO)
  have hv2:=Lib.hid (show val 4294967296 ys - val 4294967296 xs=C by rw [VX.out,VY.out];exact hval.out)
 case' neg=>
  have hval:=Lib.hid (show sA*a - sB*b=C by omega)
  go_wp2_with fail
  refine (vP sx sy dx dy (by rw [VX.out,VY.out];omega)).mono ?_
  rintro e w3 ⟨⟨v,hv0,rfl⟩,hb3⟩
  have HS:=Lib.hid (nh ((sx.below hb3 (Nat.le_refl _)).more hb3.size) ((sy.below hb3 (Nat.le_refl _)).more hb3.size) (Nat.le_refl _) dx dy (by rw [VX.out,VY.out];omega) qO)
  have hv2:=Lib.hid (show val 4294967296 xs - val 4294967296 ys=C by rw [VX.out,VY.out];exact hval.out)
  have HB3:=Lib.hid hb3
  clear hb3
 all_goals
  clear hC hlt hval sx sy HC dx dy
  go_wp2_with fail
  refine HS.out.mono ?_
  rintro e w4 ⟨zs,A4,n4,c4,hr,rfl,ho4,hb4⟩
  rw [hv2.out] at hr
  have RR:=Lib.hid hr
  clear hr
 ·have HB4:=Lib.hid (HBw.out.trans ((HB3.out.trans (hb4.mono HB3.out.size)).mono hwS))
  have o4:=Lib.hid (ho4.lower (B':=w.heap.size) (Nat.le_trans hwS HB3.out.size))
  clear hb4 ho4
  go_wp2_with fail
  go_ret
  exact ⟨zs,RR.out,A4,n4,c4,rfl,o4.out,HB4.out⟩
 ·have HB4:=Lib.hid (HBw.out.trans ((Below.of_drewN hb4).mono hwS))
  have o4:=Lib.hid (ho4.lower (B':=w.heap.size) hwS)
  clear hb4 ho4
  go_wp2_with fail
  go_ret
  exact ⟨zs,RR.out,A4,n4,c4,rfl,o4.out,HB4.out⟩
structure Fs (C:Int) (uA uB a b:Int):Prop where
 a0:0≤uA∧uA<4294967296
 b0:0≤uB∧uB<4294967296
 eq:uA*a - uB*b=C∨uB*b - uA*a=C
 c0:0≤C
def sN (w:World) (Bs:Nat) (A:Option Addr) (n c:Nat) (N:Int):Prop:=∃ ys,go 4294967296 N ys∧cG .u32 128 w Bs A n c ys
theorem sN.below{Bs:Nat} (h:sN w Bs A n c N) (hb:Below w.heap.size w w'):sN w' Bs A n c N:=by
 obtain ⟨ys,hr,ho⟩:=h
 exact ⟨ys,hr,ho.below hb⟩
theorem y5 {w W:World} {Bs:Nat} {A A2:Option Addr} {n c m c2:Nat} {a b uA uB C:Int} {z:Nat} {u1 u2 u3 u4:Value} (h1:sN w Bs A n c a) (h2:sN w Bs A2 m c2 b) (hBs:Bs≤w.heap.size) (hn:n≤2000) (hm:m≤2000) (hz:z+1<w.heap.size)
 (hS:Below w.heap.size w W∧W.cell? ⟨z,0,none⟩=some (u1)∧W.cell? ⟨z,1,none⟩=some (u2)∧W.cell? ⟨z+1,0,none⟩=some (u3)∧W.cell? ⟨z+1,1,none⟩=some (u4)) (hA:Fs C uA uB a b):
 Calls Tryz.prog 338 #[.slice A n c, .slice A2 m c2, .agg #[.int .u64 uA, .int .u64 uB]] W fun e W'=>∃ A' n' c',e= .returned (.slice A' n' c')∧sN W' Bs A' n' c' C∧Below W.heap.size W W'∧(W'.cell? ⟨z,0,none⟩=some (u1)∧W'.cell? ⟨z,1,none⟩=some (u2)∧W'.cell? ⟨z+1,0,none⟩=some (u3)∧W'.cell? ⟨z+1,1,none⟩=some (u4)):=by
 obtain ⟨X,rX,oX⟩:=h1
 obtain ⟨Y,rY,oY⟩:=h2
 have sX:=((oX.below hS.1).sl)
 have sY:=((oY.below hS.1).sl)
 have hsz:=hS.1.size
 refine (y7 sX sY (Nat.le_refl _) rX rY hA.a0 hA.b0 qO qO hA.eq hA.c0).mono ?_
 rintro e W' ⟨ys,hr,A',n',c',rfl,ho,hb⟩
 exact ⟨A',n',c',rfl,⟨ys,hr,ho.lower (Nat.le_trans hBs hsz)⟩,hb,(hb.cell (show z<_ by omega)).trans hS.2.1,(hb.cell (show z<_ by omega)).trans hS.2.2.1,(hb.cell (show z+1<_ by omega)).trans hS.2.2.2.1,(hb.cell (show z+1<_ by omega)).trans hS.2.2.2.2⟩
theorem tz {w:World} {Bs:Nat} {A A2:Option Addr} {n c m c2:Nat} {X Y:List Int} {a b:Int} (hs:cG .u32 128 w Bs A n c X) (ht:cG .u32 128 w Bs A2 m c2 Y) (rX:go 4294967296 a X) (rY:go 4294967296 b Y)
 (hBs:Bs≤w.heap.size) (hb:18446744073709551616≤b) (hba:b≤a) (hT:iq w) (hT0:11<w.heap.size) (hn:n≤2000) (hm:m≤2000):
 Calls Tryz.prog 327 #[.slice A n c, .slice A2 m c2] w (EH w Bs a b):=by
 have sX:=hs.sl
 have sY:=ht.sl
 have hnl:=hs.len
 have HBit:=Lib.hid (ni sX hT rX.dg qO)
 have HT:=Lib.hid hT
 clear hT
 go_enter Tryz.func327,Tryz.ntmps327
 go_wp2_with fail
 refine HBit.out.mono ?_
 rintro e w' ⟨⟨bb,hbb,rfl⟩,rfl⟩
 rw [rX.val] at hbb
 obtain ⟨k,hk,hk1⟩:∃ k:Nat,bb=k+64∧k≤64000:=by
  rcases hbb with ⟨h1,_⟩|⟨h1,h2,h3⟩
  ·omega
  ·have hge:64<bb:=by
    rcases Nat.lt_or_ge 64 bb with h|h
    ·exact h
    ·have:=bz (show (0:Int)<2 by decide) h
     rw [show (2:Int)^64=18446744073709551616 from rfl] at this
     omega
   have hle:bb≤64000:=by
    rcases Nat.lt_or_ge 64000 bb with h|h
    ·have q:=bz (show (0:Int)<2 by decide) (show 64000≤bb - 1 by omega)
     have v:=dS (β:=4294967296) qD rX.dg
     rw [rX.val,hnl,show (4294967296:Int)=2^32 from rfl,←Int.pow_mul] at v
     have:=bz (show (0:Int)<2 by decide) (show 32*n≤64000 by omega)
     omega
    ·exact h
   exact ⟨bb - 64,by omega,by omega⟩
 subst hk
 have p:=bp (show (0:Int)<2 by decide) k
 have ha0:0≤a:=qO
 have hup:a<2^k*18446744073709551616:=by
  rcases hbb with ⟨h1,_⟩|⟨h1,h2,h3⟩
  ·omega
  ·rw [Int.pow_add] at h3;exact h3
 have qa0:0≤a / 2^k:=Int.ediv_nonneg ha0 qO
 have qa:a / 2^k<18446744073709551616:=Int.ediv_lt_of_lt_mul p (by rw [Int.mul_comm];exact hup)
 have qb0:0≤b / 2^k:=Int.ediv_nonneg qO qO
 have qba:b / 2^k≤a / 2^k:=Int.ediv_le_ediv p hba
 have ea:=Int.mul_ediv_add_emod a (2^k)
 have eb:=Int.mul_ediv_add_emod b (2^k)
 have ra0:=Int.emod_nonneg a (show (2:Int)^k≠0 by omega)
 have ra1:=Int.emod_lt_of_pos a p
 have rb0:=Int.emod_nonneg b (show (2:Int)^k≠0 by omega)
 have rb1:=Int.emod_lt_of_pos b p
 have HParts:=Lib.hid (fun (uA uB vA vB:Int) (h:lm (a / 2^k) (b / 2^k) uA uB vA vB) (hu:uB≠0)=>
  h.parts hu p (A:=a) (B:=b) (by rw [Int.mul_comm];omega) (by rw [Int.mul_comm];omega) (by rw [Int.mul_comm];omega) (by rw [Int.mul_comm];omega) ha0 qO)
 have HTu:=Lib.hid (fun (W:World)=>yR (w:=W) qb0 qba qa)
 have hlen:∀ (x:Int) (zs:List Int),go 4294967296 x zs→x<18446744073709551616→zs.length≤2:=fun x zs h hx=>h.len_le qD (by rw [show (4294967296:Int)^2=18446744073709551616 from rfl];exact hx)
 have HLn:=Lib.hid hlen
 have HSa:=Lib.hid (mw (m:=k) sX (Nat.le_refl _) rX.dg qO qO)
 have hwk:IntKind.i64.wrap (((k+64:Nat):Int) - 64)=(k:Int):=by rw [IntKind.wrap_i64];omega
 have hwn:IntKind.i64.wrap (-(k:Int))= -(k:Int):=by rw [IntKind.wrap_i64];omega
 clear hbb hup ea eb ra0 ra1 rb0 rb1 hlen p HBit
 have hck:((k+64:Nat):Int) - 64=(k:Int):=qO
 go_wp2_with fail
 refine HSa.out.mono ?_
 rintro e w1 ⟨Ha,A3,n3,c3,rA,rfl,oA,b1⟩
 rw [rX.val] at rA
 have HSb:=Lib.hid (mw (m:=k) (sY.below b1 (Nat.le_refl _)) b1.size rY.dg qO qO)
 have hs1:=hs.below b1
 have ht1:=ht.below b1
 have HT1:=Lib.hid (HT.out.below b1 hT0)
 have hz1:=Nat.lt_of_lt_of_le hT0 b1.size
 have B1:=Lib.hid b1
 clear hs ht sX sY HT HSa
 go_wp2_with fail
 refine HSb.out.mono ?_
 rintro e w2 ⟨Hb,A4,n4,c4,rB,rfl,oB,b2⟩
 rw [rY.val] at rB
 have B2:=Lib.hid (B1.out.trans (b2.mono B1.out.size))
 have hs2:=hs1.below b2
 have ht2:=ht1.below b2
 have HT2:=Lib.hid (HT1.out.below b2 hz1)
 have hz2:=Nat.lt_of_lt_of_le hz1 b2.size
 have sA:=(oA.below b2).sl
 have sB:=oB.sl
 have lA:=HLn.out _ _ rA qa
 have lB:=HLn.out _ _ rB qO
 rw [sA.len] at lA
 rw [sB.len] at lB
 have HWa:=Lib.hid (gO sA rA.dg lA)
 have HWb:=Lib.hid (gO sB rB.dg lB)
 rw [rA.val] at HWa
 rw [rB.val] at HWb
 have TU:=Lib.hid (HTu.out w2)
 clear rA rB oA oB b1 b2 hs1 ht1 HT1 hz1 B1 HSb HTu HLn sA sB
 go_wp2_with fail
 refine HWa.out.mono ?_
 rintro e w3 ⟨rfl,rfl⟩
 go_wp2_with fail
 refine HWb.out.mono ?_
 rintro e w3 ⟨rfl,rfl⟩
 go_wp2_with fail
 refine TU.out.mono ?_
 rintro e w3 ⟨uA,uB,vA,vB,rfl,hok,b3⟩
 by_cases h0:uB=0
 ·subst h0
  clear hok HParts
  go_wp2_with fail
  have b4:Below w3.heap.size w3 ((w3.alloc (.cells #[.int .u64 uA, .int .u64 0] 436)).alloc (.cells #[.int .u64 vA, .int .u64 vB] 436)):=((Below.refl _ _).alloc (Nat.le_refl _) _).alloc qA _
  generalize ((w3.alloc (.cells #[.int .u64 uA, .int .u64 0] 436)).alloc (.cells #[.int .u64 vA, .int .u64 vB] 436))=w4 at*
  have b24:=b3.trans (b4.mono b3.size)
  have B4:=Lib.hid (B2.out.trans (b24.mono B2.out.size))
  have HT4:=Lib.hid (HT2.out.below b24 hz2)
  have hz4:=Nat.lt_of_lt_of_le hz2 b24.size
  have hs4:=hs2.below b24
  have ht4:=ht2.below b24
  clear b3 b4 b24 hs2 ht2 B2 HT2
  refine (oM hs4 ht4 rX rY (Nat.le_trans hBs B4.out.size) ha0 qO HT4.out hz4 qO qO).mono ?_
  rintro e w5 ⟨C,D,cs,ds,A5,n5,c5,A6,n6,c6,rfl,rC,rD,oC,oD,d0,d1,d2,d3,b5⟩
  have RC:=Lib.hid rC
  have RD:=Lib.hid rD
  have G:=Lib.hid d3
  have B5:=Lib.hid (B4.out.trans (b5.mono B4.out.size))
  clear rC rD d3 b5 hs4 ht4
  go_wp2_with fail
  go_ret2
  exact ⟨C,D,cs,ds,A5,n5,c5,A6,n6,c6,rfl,RC.out,RD.out,oC,oD,d0,d1,d2,G.out,B5.out⟩
 ·have hub:(uB==0)=false:=beq_eq_false_iff_ne.2 h0
  obtain ⟨C,D,hC,hD,d0,d1,d2,d3⟩:=HParts.out uA uB vA vB hok h0
  have HC:=Lib.hid hC
  have HD:=Lib.hid hD
  have G:=Lib.hid d3
  have hrng:(0≤uA∧uA<4294967296)∧(0≤uB∧uB<4294967296)∧(0≤vA∧vA<4294967296)∧(0≤vB∧vB<4294967296):=by
   rcases hok with h|⟨s,_,_,h1,h2,h3,h4,_⟩
   ·exact absurd h h0
   ·exact ⟨h1,h2,h3,h4⟩
  clear HParts hok hC hD d3
  go_wp2_with fail
  have b4:Below w3.heap.size w3 ((w3.alloc (.cells #[.int .u64 uA, .int .u64 uB] 436)).alloc (.cells #[.int .u64 vA, .int .u64 vB] 436)):=((Below.refl _ _).alloc (Nat.le_refl _) _).alloc qA _
  have hc0:((w3.alloc (.cells #[.int .u64 uA, .int .u64 uB] 436)).alloc (.cells #[.int .u64 vA, .int .u64 vB] 436)).cell? ⟨w3.heap.size,0,none⟩=some (.int .u64 uA):=by rw [World.cell?_alloc_lt _ _ _ (by rw [aX];show w3.heap.size<_;omega)];simp [World.cell?_alloc_new]
  have hc1:((w3.alloc (.cells #[.int .u64 uA, .int .u64 uB] 436)).alloc (.cells #[.int .u64 vA, .int .u64 vB] 436)).cell? ⟨w3.heap.size,1,none⟩=some (.int .u64 uB):=by rw [World.cell?_alloc_lt _ _ _ (by rw [aX];show w3.heap.size<_;omega)];simp [World.cell?_alloc_new]
  have hc2:((w3.alloc (.cells #[.int .u64 uA, .int .u64 uB] 436)).alloc (.cells #[.int .u64 vA, .int .u64 vB] 436)).cell? ⟨w3.heap.size+1,0,none⟩=some (.int .u64 vA):=by rw [←aX w3 (.cells #[.int .u64 uA, .int .u64 uB] 436)];simp [World.cell?_alloc_new]
  have hc3:((w3.alloc (.cells #[.int .u64 uA, .int .u64 uB] 436)).alloc (.cells #[.int .u64 vA, .int .u64 vB] 436)).cell? ⟨w3.heap.size+1,1,none⟩=some (.int .u64 vB):=by rw [←aX w3 (.cells #[.int .u64 uA, .int .u64 uB] 436)];simp [World.cell?_alloc_new]
  have hz:((w3.alloc (.cells #[.int .u64 uA, .int .u64 uB] 436)).alloc (.cells #[.int .u64 vA, .int .u64 vB] 436)).heap.size=w3.heap.size+2:=by rw [aX,aX]
  generalize ((w3.alloc (.cells #[.int .u64 uA, .int .u64 uB] 436)).alloc (.cells #[.int .u64 vA, .int .u64 vB] 436))=w4 at*
  have b24:=b3.trans (b4.mono b3.size)
  have B4:=Lib.hid (B2.out.trans (b24.mono B2.out.size))
  have hs4:=hs2.below b24
  have ht4:=ht2.below b24
  have HZ:=Lib.hid hz
  generalize hgz:w3.heap.size=z at*
  clear b3 b4 b24 hs2 ht2 B2 HT2 hz hgz
  have gX:sN w4 Bs A n c a:=⟨X,rX,hs4⟩
  have gY:sN w4 Bs A2 m c2 b:=⟨Y,rY,ht4⟩
  have hBs4:Bs≤w4.heap.size:=Nat.le_trans hBs B4.out.size
  have hz4:z+1<w4.heap.size:=by have:=HZ.out;omega
  have aU:Fs C uA uB a b:=⟨hrng.1,hrng.2.1,HC.out,by omega⟩
  have aV:Fs D vA vB a b:=⟨hrng.2.2.1,hrng.2.2.2,HD.out,d0⟩
  clear hs4 ht4 HC HD rX rY
  have hS0:Below w4.heap.size w4 w4∧w4.cell? ⟨z,0,none⟩=some (.int .u64 uA)∧w4.cell? ⟨z,1,none⟩=some (.int .u64 uB)∧w4.cell? ⟨z+1,0,none⟩=some (.int .u64 vA)∧w4.cell? ⟨z+1,1,none⟩=some (.int .u64 vB):=⟨Below.refl _ _,hc0,hc1,hc2,hc3⟩
  go_region_held3 (fun W=>Below w4.heap.size w4 W∧W.cell? ⟨z,0,none⟩=some (.int .u64 uA)∧W.cell? ⟨z,1,none⟩=some (.int .u64 uB)∧W.cell? ⟨z+1,0,none⟩=some (.int .u64 vA)∧W.cell? ⟨z+1,1,none⟩=some (.int .u64 vB))
   (first|assumption|exact ⟨Below.drew (And.left qL),And.right qL⟩|exact ⟨Below.trans (And.left qL) (Below.mono qL (Below.size (And.left qL))),by assumption⟩)
   (first
     |(go_at_call 338;go_must (refine (y5 (w:=w4) (z:=z) (u1:= .int .u64 uA) (u2:= .int .u64 uB) (u3:= .int .u64 vA) (u4:= .int .u64 vB) gX gY hBs4 hn hm hz4 (show Below w4.heap.size w4 _∧_∧_∧_∧_ by assumption) (by first|exact aU|exact aV)).mono ?_;rintro e wS ⟨Az,nz,cz,rfl,hG,hbz,hcz⟩)))
  all_goals
   have gC:=(‹sN _ Bs _ _ _ C›).below hbz
   obtain ⟨cs,rC,oC⟩:=gC
   obtain ⟨ds,rD,oD⟩:=hG
   have RC:=Lib.hid rC
   have RD:=Lib.hid rD
   have B5:=Lib.hid (B4.out.trans ((show Below w4.heap.size w4 wS∧_ by assumption).1.mono B4.out.size))
   clear rC rD hbz hcz hS0 gX gY aU aV
   go_wp2_with fail
   go_ret2
   exact ⟨C,D,cs,ds,_,_,_,_,_,_,rfl,RC.out,RD.out,oC,oD,d0,d1,d2,G.out,B5.out⟩
theorem tH(ha:0<a):ej a b≤a:=by
 have:=Nat.le_of_dvd (show 0<a.toNat by omega) (Nat.gcd_dvd_left a.toNat b.toNat)
 unfold ej
 omega
def rdL (w:World):Value→Nat
 | .slice (some ⟨b,off,_⟩) n _=>(val 4294967296 ((List.range n).map fun j=>match w.cell? ⟨b,off+j,none⟩ with|some (.int _ x)=>x|_=>0)).toNat
 |_=>0
theorem Sl.rdL(h:Sl .u32 w B A n c xs):rdL w (.slice A n c)=(val 4294967296 xs).toNat:=by
 cases A with
 |none=>
  have h0:=h.2.2.2.1 rfl
  have:xs=[]:=List.eq_nil_of_length_eq_zero (by have:=h.len;have:=h.le;omega)
  subst this
  rfl
 |some a=>
  by_cases hn:0<n
  ·obtain ⟨b,off,hA,_,hc⟩:=h.2.2.2.2 hn
   injection hA with hA
   subst hA
   have e:((List.range n).map fun j=>match w.cell? ⟨b,off+j,none⟩ with|some (.int _ x)=>x|_=>0)=xs:=by
    refine List.ext_getElem? fun i=> ?_
    rcases Nat.lt_or_ge i n with hi|hi
    ·obtain ⟨x,hx⟩:=eE (xs:=xs) (by rw [h.len];exact hi)
     rw [List.getElem?_map,List.getElem?_range hi,hx]
     simp [hc i x hx]
    ·rw [List.getElem?_eq_none (by simp;exact hi),List.getElem?_eq_none (by rw [h.len];exact hi)]
   show (val 4294967296 _).toNat=_
   rw [e]
  ·obtain rfl:n=0:=qO
   have:xs=[]:=List.eq_nil_of_length_eq_zero h.len
   subst this
   rfl
theorem sK {w:World} {B:Nat} {A A2:Option Addr} {n c m c2:Nat} {xs ys:List Int} (hs:Sl .u32 w B A n c xs) (ht:Sl .u32 w B A2 m c2 ys) (hB:B≤w.heap.size) (hT:iq w) (hT0:11<w.heap.size)
 (hx:Dg 4294967296 xs) (hy:Dg 4294967296 ys) (hn:n≤2000) (hm:m≤2000):
 Calls Tryz.prog 313 #[.slice A n c, .slice A2 m c2] w (pP w (ej (val 4294967296 xs) (val 4294967296 ys))):=by
 have hxl:=fX xs
 have hyl:=fX ys
 have hl1:=hs.len
 have hl2:=ht.len
 have rX:go 4294967296 (val 4294967296 xs) (tl xs):=⟨dY hx,d_ _,cx _ _⟩
 have rY:go 4294967296 (val 4294967296 ys) (tl ys):=⟨dY hy,d_ _,cx _ _⟩
 have a0:=bg (β:=4294967296) qD hx
 have b0:=bg (β:=4294967296) qD hy
 generalize val 4294967296 xs=a at*
 generalize val 4294967296 ys=b at*
 have HT:=Lib.hid hT
 clear hT
 go_enter Tryz.func313,Tryz.ntmps313
 go_wp2_with fail
 refine (fi hs qO).mono ?_
 rintro e w1 ⟨A1,n1,c1,rfl,ho1,hb1⟩
 have ht1:=ht.below hb1 hB
 go_wp2_with fail
 refine (fi ht1 qO).mono ?_
 rintro e w2 ⟨A3,n3,c3,rfl,ho2,hb2⟩
 have hbw:=hb1.trans (hb2.mono hb1.size)
 have hX:=ho1.below hb2
 have hY:=ho2.lower hb1.size
 have e1:=hX.len
 have e2:=hY.len
 have l1:n1≤2000:=qO
 have l2:n3≤2000:=qO
 have HT2:=Lib.hid (HT.out.below hbw hT0)
 have hz2:=Nat.lt_of_lt_of_le hT0 hbw.size
 have HC:=Lib.hid (iI hX.sl hY.sl rX.dg rY.dg)
 generalize tl xs=X at*
 generalize tl ys=Y at*
 clear hs ht ht1 ho1 ho2 hb1 hb2 HT hT0 hxl hyl hx hy e1 e2
 by_cases hlt:a<b
 case' pos=>
  have hc:=fN (a:=val 4294967296 X) (b:=val 4294967296 Y) (by rw [rX.val,rY.val];exact hlt)
  have RX:=Lib.hid rX
  have RY:=Lib.hid rY
  have HG:=Lib.hid (jN b a)
  clear rX rY
  go_wp2_with fail
  refine HC.out.mono ?_
  rintro e w3 ⟨hr3,q,rfl⟩
  obtain rfl:e= .returned (.int .i64 (-1)):=by unfold jD at hr3;rw [hr3,hc]
  clear hr3 hc
  have hX3:=hX.drew q
  have hY3:=hY.drew q
  have hb3:Below w.heap.size w (w2.drewN q):=Below.drewN' hbw q
  have HT3:Hid (iq (w2.drewN q)):=HT2
  have hz3:11<(w2.drewN q).heap.size:=hz2
  clear hX hY hbw HT2 hz2 HC
  generalize w2.drewN q=w3 at*
  go_wp2_with fail
 case' neg=>
  have HC2:=Lib.hid (vP hX.sl hY.sl rX.dg rY.dg (by rw [rX.val,rY.val];omega))
  have RX:=Lib.hid rX
  have RY:=Lib.hid rY
  have HG:=Lib.hid (jN a b)
  clear rX rY
  go_wp2_with fail
  refine HC2.out.mono ?_
  rintro e w3 ⟨⟨v,hv0,rfl⟩,hb23⟩
  have hX3:=hX.below hb23
  have hY3:=hY.below hb23
  have hb3:Below w.heap.size w w3:=hbw.trans (hb23.mono hbw.size)
  have HT3:=Lib.hid (HT2.out.below hb23 hz2)
  have hz3:=Nat.lt_of_lt_of_le hz2 hb23.size
  clear hX hY hbw hb23 HT2 hz2 HC HC2
  go_wp2_with fail
 all_goals
  have HB3:=Lib.hid hb3
  have hwz:=hb3.size
  clear hb3
  go_loopw [0,1] (fun av bv wr=>∃ (AL AS:Option Addr) (nl cl ns cs:Nat) (L S:List Int) (x y:Int),av= .slice AL nl cl∧bv= .slice AS ns cs∧cG .u32 128 wr w.heap.size AL nl cl L∧cG .u32 128 wr w.heap.size AS ns cs S∧
   Hid (go 4294967296 x L)∧Hid (go 4294967296 y S)∧0≤y∧y≤x∧nl≤2000∧ns≤2000∧Hid (ej x y=ej a b)∧Below w3.heap.size w3 wr) (fun _ bv wr=>rdL wr bv)
  case atStart=>first
   |exact ⟨A1,A3,n1,c1,n3,c3,X,Y,a,b,rfl,rfl,hX3,hY3,RX,RY,b0,by omega,l1,l2,rfl,Below.refl _ _⟩
   |exact ⟨A3,A1,n3,c3,n1,c1,Y,X,b,a,rfl,rfl,hY3,hX3,RY,RX,a0,by omega,l2,l1,jN b a,Below.refl _ _⟩
  case round=>
   clear hX3 hY3 RX RY HG hlt
   obtain ⟨AL,AS,nl,cl,ns,cs,L,S,x,y,rfl,rfl,oL,oS,RL,RS,y0,yx,ll,ls,HG,br⟩:=hrel
   have HTr:=Lib.hid (HT3.out.below br hz3)
   have hzr:=Nat.lt_of_lt_of_le hz3 br.size
   have hbz:w.heap.size≤wr.heap.size:=Nat.le_trans hwz br.size
   have HBit:=Lib.hid (ni oS.sl HTr.out RS.out.dg qO)
   have HBr:=Lib.hid br
   clear br
   go_wp2_with fail
   refine HBit.out.mono ?_
   rintro e w' ⟨⟨bb,hbb,rfl⟩,rfl⟩
   rw [RS.out.val] at hbb
   by_cases hbig:64<bb
   ·have hyb:18446744073709551616≤y:=by
     rcases hbb with ⟨_,h⟩|⟨_,h,_⟩
     ·omega
     ·have:=bz (show (0:Int)<2 by decide) (show 64≤bb - 1 by omega)
      rw [show (2:Int)^64=18446744073709551616 from rfl] at this
      omega
    have HLe:=Lib.hid (tz oL oS RL.out RS.out hbz hyb yx HTr.out hzr ll ls)
    have hms:=Lib.hid oS.sl.rdL
    have hsl:=oS.len
    have hll:=oL.len
    have HVs:=Lib.hid RS.out.val
    have hyu:Hid (y<4294967296^ns):=by
     have:=dS (β:=4294967296) qD RS.out.dg
     rw [RS.out.val,hsl] at this
     exact this
    clear hbb HBit RL RS oL oS
    go_wp2_with fail
    refine HLe.out.mono ?_
    rintro e w5 ⟨C,D,cs',ds',A5,n5,c5,A6,n6,c6,rfl,rC,rD,oC,oD,d0,d1,d2,d3,b5⟩
    have hn5:n5≤ns:=by rw [←oC.len];exact rC.len_le qD (by have:=hyu.out;omega)
    have hn6:n6≤ns:=by rw [←oD.len];exact rD.len_le qD (by have:=hyu.out;omega)
    have G5:=Lib.hid (d3.trans HG.out)
    have B5:=Lib.hid (HBr.out.trans (b5.mono HBr.out.size))
    have HM:=Lib.hid (show rdL w5 (.slice A6 n6 c6)<rdL wr (.slice AS ns cs) by
     rw [oD.sl.rdL,hms.out,rD.val,HVs.out];omega)
    have RC:=Lib.hid rC
    have RD:=Lib.hid rD
    clear rC rD d3 b5 HLe hms HG HVs
    go_wp2_with fail
    go_roundw
    case rel=>exact ⟨A5,A6,n5,c5,n6,c6,cs',ds',C,D,rfl,rfl,oC,oD,RC,RD,d0,by omega,by omega,by omega,G5,B5.out⟩
    case measure=>exact HM.out
   ·have hyu:y<18446744073709551616:=by
     rcases hbb with ⟨h,_⟩|⟨_,_,h⟩
     ·omega
     ·have:=bz (show (0:Int)<2 by decide) (show bb≤64 by omega)
      rw [show (2:Int)^64=18446744073709551616 from rfl] at this
      omega
    have HBit2:=Lib.hid (ni oL.sl HTr.out RL.out.dg qO)
    clear hbb HBit
    go_wp2_with fail
    refine HBit2.out.mono ?_
    rintro e w' ⟨⟨ba,hba,rfl⟩,rfl⟩
    rw [RL.out.val] at hba
    have hba0:(0:Int)≤ba:=qO
    have B6:Below w.heap.size w wr:=HB3.out.trans (HBr.out.mono hwz)
    have hlen2:∀ (x:Int) (zs:List Int),go 4294967296 x zs→x<18446744073709551616→zs.length≤2:=fun x zs h hx=>h.len_le qD (by rw [show (4294967296:Int)^2=18446744073709551616 from rfl];exact hx)
    have HL2:=Lib.hid hlen2
    clear hlen2 HBit2
    by_cases hns:ns=0
    ·subst hns
     have hy0:y=0:=by rw [←RS.out.val,List.eq_nil_of_length_eq_zero oS.len];rfl
     have RZ:=Lib.hid (show go 4294967296 (ej a b) L by rw [←HG.out,hy0,j4 qO];exact RL.out)
     have B7:=Lib.hid B6
     clear hba RL RS HG B6 oS hy0
     by_cases hb64:64<ba
     all_goals
      go_wp2_with fail
      go_ret
      exact ⟨L,RZ.out,AL,nl,cl,rfl,oL,B7.out⟩
    ·have hns0:((ns:Int)==0)=false:=beq_eq_false_iff_ne.2 qO
     have hypos:0<y:=by
      rcases Int.lt_or_le 0 y with h|h
      ·exact h
      ·have:=Tr.zero (β:=4294967296) qD RS.out.dg RS.out.tr (by rw [RS.out.val];omega)
       have hl:=oS.len
       rw [this] at hl
       simp at hl
       omega
     have hs2:ns≤2:=by rw [←oS.len];exact HL2.out _ _ RS.out hyu
     by_cases hb64:64<ba
     ·have HDv:=Lib.hid (oM oL oS RL.out RS.out hbz qO hypos HTr.out hzr qO qO)
      clear hba RL RS oL oS
      go_wp2_with fail
      refine HDv.out.mono ?_
      rintro e w5 ⟨C,D,cs',ds',A5,n5,c5,A6,n6,c6,rfl,rC,rD,oC,oD,d0,d1,d2,d3,b5⟩
      have hn5:n5≤2:=by rw [←oC.len];exact HL2.out _ _ rC qO
      have hn6:n6≤2:=by rw [←oD.len];exact HL2.out _ _ rD qO
      have G5:=Lib.hid (d3.trans HG.out)
      have B5:Below w.heap.size w w5:=B6.trans (b5.mono hbz)
      have RC:=Lib.hid rC
      have RD:=Lib.hid rD
      have hC64:C<18446744073709551616:=qO
      have hD64:D<18446744073709551616:=qO
      clear rC rD d3 b5 HDv HG
      by_cases hn6z:n6=0
      ·subst hn6z
       have hy0:D=0:=by rw [←RD.out.val,List.eq_nil_of_length_eq_zero oD.len];rfl
       have RZ:=Lib.hid (show go 4294967296 (ej a b) cs' by rw [←G5.out,hy0,j4 qO];exact RC.out)
       have B7:=Lib.hid B5
       clear RC RD G5 B5 oD hy0
       go_wp2_with fail
       go_ret
       exact ⟨cs',RZ.out,A5,n5,c5,rfl,oC,B7.out⟩
      ·have hn60:((n6:Int)==0)=false:=beq_eq_false_iff_ne.2 qO
       have HW1:=Lib.hid (gO oC.sl RC.out.dg hn5)
       have HW2:=Lib.hid (gO oD.sl RD.out.dg hn6)
       rw [RC.out.val] at HW1
       rw [RD.out.val] at HW2
       have HGW:=Lib.hid (k9 (w:=w5) (a:=C) (b:=D) ⟨by omega,hC64⟩ ⟨d0,hD64⟩)
       have hg0:=kP C D
       have hg1:=Lib.hid (tH (a:=C) (b:=D) qO)
       have B7:=Lib.hid B5
       clear oC oD RC RD
       go_wp2_with fail
       refine HW1.out.mono ?_
       rintro e w' ⟨rfl,rfl⟩
       go_wp2_with fail
       refine HW2.out.mono ?_
       rintro e w' ⟨rfl,rfl⟩
       go_wp2_with fail
       refine HGW.out.mono ?_
       rintro e w' ⟨rfl,q7,rfl⟩
       have HR7:=Lib.hid (rK (w:=World.drewN w5 q7) (W:=ej C D) ⟨hg0,by have:=hg1.out;omega⟩)
       go_wp2_with fail
       refine HR7.out.mono ?_
       rintro e w8 ⟨zs,rZ,A8,n8,c8,rfl,o8,b8⟩
       rw [G5.out] at rZ
       have RZ:=Lib.hid rZ
       have o8':=Lib.hid (o8.lower (B':=w.heap.size) (Nat.le_trans B7.out.size (Nat.le_refl _)))
       have B8:=Lib.hid (B7.out.trans ((Below.of_drewN b8).mono B7.out.size))
       clear rZ o8 b8
       go_wp2_with fail
       go_ret
       exact ⟨zs,RZ.out,A8,n8,c8,rfl,o8'.out,B8.out⟩
     ·have hx64:x<18446744073709551616:=by
       rcases hba with ⟨h,_⟩|⟨_,_,h⟩
       ·omega
       ·have:=bz (show (0:Int)<2 by decide) (show ba≤64 by omega)
        rw [show (2:Int)^64=18446744073709551616 from rfl] at this
        omega
      have hl2:nl≤2:=by rw [←oL.len];exact HL2.out _ _ RL.out hx64
      clear hba
      have HW1:=Lib.hid (gO oL.sl RL.out.dg hl2)
      have HW2:=Lib.hid (gO oS.sl RS.out.dg hs2)
      rw [RL.out.val] at HW1
      rw [RS.out.val] at HW2
      have HGW:=Lib.hid (k9 (w:=wr) (a:=x) (b:=y) ⟨by omega,hx64⟩ ⟨y0,hyu⟩)
      have hg0:=kP x y
      have hg1:=Lib.hid (tH (a:=x) (b:=y) qO)
      have B7:=Lib.hid B6
      clear oL oS RL RS
      go_wp2_with fail
      refine HW1.out.mono ?_
      rintro e w' ⟨rfl,rfl⟩
      go_wp2_with fail
      refine HW2.out.mono ?_
      rintro e w' ⟨rfl,rfl⟩
      go_wp2_with fail
      refine HGW.out.mono ?_
      rintro e w' ⟨rfl,q7,rfl⟩
      have HR7:=Lib.hid (rK (w:=World.drewN wr q7) (W:=ej x y) ⟨hg0,by have:=hg1.out;omega⟩)
      go_wp2_with fail
      refine HR7.out.mono ?_
      rintro e w8 ⟨zs,rZ,A8,n8,c8,rfl,o8,b8⟩
      rw [HG.out] at rZ
      have RZ:=Lib.hid rZ
      have o8':=Lib.hid (o8.lower (B':=w.heap.size) (Nat.le_trans B7.out.size (Nat.le_refl _)))
      have B8:=Lib.hid (B7.out.trans ((Below.of_drewN b8).mono B7.out.size))
      clear rZ o8 b8
      go_wp2_with fail
      go_ret
      exact ⟨zs,RZ.out,A8,n8,c8,rfl,o8'.out,B8.out⟩
def mX (g:Int):List (List Int)→Int
 |[]=>g
 |xs::l=>mX (ej g (val 4294967296 xs)) l
theorem zj (g:Int) (l:List (List Int)) (xs:List Int):mX g (l++[xs])=ej (mX g l) (val 4294967296 xs):=by
 induction l generalizing g with
 |nil=>rfl
 |cons x l ih=>simp only [List.cons_append,mX,ih]
theorem vI {l:List (List Int)} {M:Nat} (hl:∀ xs∈l,Dg 4294967296 xs∧xs.length≤M):0≤mX 0 l∧mX 0 l<4294967296^M:=by
 have p:=bp (show (0:Int)<4294967296 by decide) M
 suffices ∀ (l:List (List Int)) (g:Int),(∀ xs∈l,Dg 4294967296 xs∧xs.length≤M)→0≤g→g<4294967296^M→0≤mX g l∧mX g l<4294967296^M from this l 0 hl qO p
 intro l
 induction l with
 |nil=>intro g _ h0 h1;exact ⟨h0,h1⟩
 |cons x l ih=>
  intro g h h0 h1
  obtain ⟨hd,hx⟩:=h x qE
  have x0:=bg (β:=4294967296) qD hd
  have x1:=dS (β:=4294967296) qD hd
  have x2:=bz (show (0:Int)<4294967296 by decide) hx
  refine ih _ (fun xs hxs=>h xs (by simp [hxs])) (kP _ _) ?_
  rcases (show g=0∨0<g by omega) with rfl|hg
  ·rw [jN,j4 x0];omega
  ·have:=tH (a:=g) (b:=val 4294967296 x) hg
   omega
theorem Ew{M:Nat} (hs:nJ w B A n c xss) (hB:B≤w.heap.size) (hT:iq w) (hT0:11<w.heap.size) (hx:∀ xs∈xss,Dg 4294967296 xs∧xs.length≤M) (hM:M≤2000):
 Calls Tryz.prog 286 #[.slice A n c] w (pP w (mX 0 xss)):=by
 have hl:=hs.1
 have hmx:=hs.lenMax
 have HT:=Lib.hid hT
 clear hT
 go_enter Tryz.func286,Tryz.ntmps286
 go_wp2_with fail
 go_loopw [3,8] (fun gv iv wr=>∃ (k ng cg:Nat) (Ag:Option Addr) (G:List Int),k≤n∧iv= .int .i64 k∧gv= .slice Ag ng cg∧cG .u32 128 wr w.heap.size Ag ng cg G∧Hid (go 4294967296 (mX 0 (xss.take k)) G)∧Below w.heap.size w wr) (fun _ iv _=>n - (intOf iv).toNat)
 case atStart=>exact ⟨0,0,0,none,[],Nat.zero_le _,rfl,rfl,cG.nil,⟨Dg.nil,Tr.nil,rfl⟩,Below.refl _ _⟩
 case round=>
  obtain ⟨k,ng,cg,Ag,G,hk,rfl,rfl,oG,RG,br⟩:=hrel
  by_cases hlt:k<n
  ·obtain ⟨b,off,xs,A1,n1,c1,rfl,hbB,ex,hc,s1⟩:=(hs.below br hB).at_ hlt
   obtain ⟨hd,hx1⟩:=hx xs (List.mem_of_getElem? ex)
   have hlx:=s1.len
   have HTr:=Lib.hid (HT.out.below br hT0)
   have hzr:=Nat.lt_of_lt_of_le hT0 br.size
   have bnd:=vI (l:=xss.take k) (M:=M) (fun xs h=>hx xs (List.mem_of_mem_take h))
   have hng:ng≤2000:=by
    have:=RG.out.len_le qD bnd.2
    have:=oG.len
    omega
   have hbz:=br.size
   have HB:=Lib.hid br
   have HG2:=Lib.hid (sK oG.sl (s1.more (Nat.le_trans hB hbz)) (Nat.le_refl _) HTr.out hzr RG.out.dg hd hng qO)
   rw [RG.out.val] at HG2
   have HS:=Lib.hid (show mX 0 (xss.take (k+1))=ej (mX 0 (xss.take k)) (val 4294967296 xs) by
    rw [List.take_add_one,ex];exact zj _ _ _)
   clear br bnd hs oG s1 RG
   go_wp2_with fail
   refine HG2.out.mono ?_
   rintro e w1 ⟨G1,r1,A2,n2,c2,rfl,o1,b1⟩
   rw [←HS.out] at r1
   have R1:=Lib.hid r1
   have B1:=Lib.hid (HB.out.trans (b1.mono hbz))
   have o1':=o1.lower (B':=w.heap.size) hbz
   clear r1 b1 o1 HG2
   go_wp2_with fail
   go_roundw
   case rel=>exact ⟨k+1,n2,c2,A2,G1,by omega,by go_num,rfl,o1',R1,B1.out⟩
   case measure=>simp [intOf]<;>omega
  ·obtain rfl:n=k:=qO
   rw [List.take_of_length_le qO] at RG
   have HB:=Lib.hid br
   clear br
   go_wp2_with fail
   go_ret
   exact ⟨G,RG.out,Ag,ng,cg,rfl,oG,HB.out⟩
theorem rE(h:n<2^64):n<2^Lib.bitLen n∧(n≠0→2^(Lib.bitLen n - 1)≤n):=by
 rcases Nat.eq_zero_or_pos n with rfl|h0
 ·exact ⟨by decide,fun h=>absurd rfl h⟩
 ·have:=Lib.bitLenAux_bounds 64 n h qO
  exact ⟨this.2.2,fun _=>this.2.1⟩
theorem tx(h:n≤4096):Lib.bitLen n≤13:=by
 rcases Nat.eq_zero_or_pos n with rfl|h0
 ·decide
 ·have h1:=(rE (n:=n) qO).2 qO
  rcases Nat.lt_or_ge 13 (Lib.bitLen n) with h2|h2
  ·have:=Nat.pow_le_pow_right (show 0<2 by decide) (show 13≤Lib.bitLen n - 1 by omega)
   omega
  ·exact h2
theorem Bh(h0:0≤x) (h1:x<4097):bits .and .i64 x 1=x%2:=bits_mask .i64 32 qD (fun n h0 h1=>by rw [IntKind.wrap_i64];omega) 1 qD x h0 qO
theorem BE{j:Nat}:(n / 2^j%2=0→b^(n / 2^j)=b^(n / 2^(j+1))*b^(n / 2^(j+1)))∧(n / 2^j%2=1→b^(n / 2^j)=b*(b^(n / 2^(j+1))*b^(n / 2^(j+1)))):=by
 have e:n / 2^(j+1)=n / 2^j / 2:=by rw [Nat.pow_succ,Nat.div_div_eq_div_mul]
 rw [e]
 generalize n / 2^j=m
 refine ⟨fun h=> ?_,fun h=> ?_⟩
 ·rw [←Int.pow_add];congr 1;omega
 ·rw [←Int.pow_add,Int.mul_comm,←Int.pow_succ];congr 1;omega
theorem xn{zs:List Int} (hb:0≤b∧b<4294967296) (h:go 4294967296 (b^n) zs) (hn:n≤m) (hm:0<m):zs.length≤m:=by
 refine h.len_le qD ?_
 have h1:b^n<4294967296^m:=by
  rcases Nat.eq_zero_or_pos n with rfl|h0
  ·have:=bz (show (0:Int)<4294967296 by decide) (show 1≤m by omega)
   simp only [Int.pow_zero,Int.pow_succ,Int.one_mul] at this ⊢
   omega
  ·have h2:b^n<4294967296^n:=by
    obtain ⟨k,rfl⟩:∃ k,n=k+1:=⟨n - 1,by omega⟩
    clear h h0 hn
    induction k with
    |zero=>simp only [Nat.zero_add,Int.pow_succ,Int.pow_zero,Int.one_mul];omega
    |succ k ih=>
     rw [Int.pow_succ,Int.pow_succ (4294967296:Int)]
     have p0:0≤b^(k+1):=Int.pow_nonneg hb.1
     have a1:b^(k+1)*b≤b^(k+1)*4294967296:=Int.mul_le_mul_of_nonneg_left qO p0
     have a2:b^(k+1)*4294967296<4294967296^(k+1)*4294967296:=Int.mul_lt_mul_of_pos_right ih qD
     omega
   have:=bz (show (0:Int)<4294967296 by decide) hn
   omega
 exact h1
theorem Ds(hb:0≤b∧b<4294967296) (hn:n≤4096):
 Calls Tryz.prog 272 #[.int .u32 b, .int .i64 n] w (tI w (b^n)):=by
 have hup:=(rE (n:=n) qO).1
 have hsm:=tx hn
 have hz:n / 2^Lib.bitLen n=0:=Nat.div_eq_of_lt hup
 have HL:=Lib.hid (Tryz.bits_Len (n:Int) (w.alloc (.cells #[.int .u32 1] 128)) qO qO)
 rw [Int.toNat_natCast] at HL
 generalize Lib.bitLen n=L at*
 have h1:¬ (n:Int)<0:=qO
 have h2:¬ 4096<(n:Int):=qO
 have ho:cG .u32 128 (w.alloc (.cells #[.int .u32 1] 128)) w.heap.size (some ⟨w.heap.size,0,none⟩) 1 1 [1]:=cG.lit .u32 128 w (Nat.le_refl _) [1] 1 rfl qO
 have hbl:Below w.heap.size w (w.alloc (.cells #[.int .u32 1] 128)):=(Below.refl _ _).alloc (Nat.le_refl _) _
 go_enter Tryz.func272,Tryz.ntmps272
 go_wp2_with fail
 refine HL.out.mono ?_
 rintro e w1 ⟨rfl,hw1⟩
 generalize w.alloc (.cells #[.int .u32 1] 128)=w2 at*
 subst hw1
 go_wp2_with fail
 go_loopw [6,7] (fun pv iv wr=>∃ (k n3 c3:Nat) (A3:Option Addr) (O:List Int),k≤13∧iv= .int .i64 ((k:Int) - 1)∧pv= .slice A3 n3 c3∧cG .u32 128 wr w.heap.size A3 n3 c3 O∧Hid (go 4294967296 (b^(n / 2^k)) O)∧Below w.heap.size w wr) (fun _ iv _=>(intOf iv+1).toNat)
 case atStart=>exact ⟨L,1,1,_,[1],hsm,rfl,rfl,ho,by rw [hz];exact I3 qE qO,hbl⟩
 case round=>
  clear ho hbl hz hup
  obtain ⟨k,n3,c3,A3,O,hk,rfl,rfl,oP,RP,br⟩:=hrel
  by_cases h0:k=0
  ·subst h0
   have RR:=Lib.hid (show go 4294967296 (b^n) O by have:=RP.out;simpa using this)
   have HB:=Lib.hid br
   clear br RP
   go_wp2_with fail
   go_ret2
   exact ⟨O,A3,n3,c3,RR.out,rfl,oP,HB.out⟩
  ·obtain ⟨j,rfl⟩:∃ j,k=j+1:=⟨k - 1,by omega⟩
   have hbz:=br.size
   have HB:=Lib.hid br
   have hl3:n3≤4096:=by rw [←oP.len];exact xn hb RP.out (Nat.le_trans (Nat.div_le_self _ _) hn) qD
   have HM:=Lib.hid (xd oP.sl oP.sl (Nat.le_refl _) RP.out.dg RP.out.dg qO qO)
   rw [RP.out.val] at HM
   have hph:=Lib.hid (BE (b:=b) (n:=n) (j:=j))
   have hq:(n / 2^j)≤n:=Nat.div_le_self _ _
   have hbit:bits .and .i64 ((n:Int) / 2^j) 1=((n / 2^j%2:Nat):Int):=by
    rw [show (n:Int) / 2^j=((n / 2^j:Nat):Int) by simp]
    clear hph HM
    generalize n / 2^j=m at*
    rw [Bh qO qO]
    omega
   clear br oP RP
   go_wp2_with fail
   refine HM.out.mono ?_
   rintro e w3 ⟨Q,rQ,A4,n4,c4,rfl,oQ,b3⟩
   have B3:=Lib.hid (HB.out.trans (b3.mono hbz))
   have oQ':=oQ.lower (B':=w.heap.size) hbz
   have hbz3:w.heap.size≤w3.heap.size:=B3.out.size
   have RQ:=Lib.hid rQ
   clear b3 oQ rQ HM HB
   rcases (show n / 2^j%2=0∨n / 2^j%2=1 by omega) with hbt|hbt
   ·have hb0:(bits .and .i64 ((n:Int) / 2^j) 1==1)=false:=by rw [hbit,hbt];rfl
    have R2:=Lib.hid (show go 4294967296 (b^(n / 2^j)) Q by rw [hph.out.1 hbt];exact RQ.out)
    clear hbit hph RQ
    go_wp2_with fail
    go_roundw
    case rel=>exact ⟨j,n4,c4,A4,Q,by omega,by simp,rfl,oQ',R2,B3.out⟩
    case measure=>simp [intOf]<;>omega
   ·have hb0:(bits .and .i64 ((n:Int) / 2^j) 1==1)=true:=by rw [hbit,hbt];rfl
    have hd:=RQ.out.dg
    have hmul:∀ zs,go 4294967296 (b*val 4294967296 Q) zs→go 4294967296 (b^(n / 2^j)) zs:=fun zs h=>by rw [hph.out.2 hbt,←RQ.out.val];exact h
    have HMl:=Lib.hid hmul
    have hl4:n4≤100000:=by
     rw [←oQ'.len]
     have:b^(n / 2^(j+1))*b^(n / 2^(j+1))=b^(n / 2^(j+1)+n / 2^(j+1)):=by rw [Int.pow_add]
     have h3:=RQ.out
     rw [this] at h3
     have:=Nat.div_le_self n (2^(j+1))
     exact xn hb h3 qO qD
    clear hbit hph hmul RQ
    go_wp2_with fail
    refine (kA oQ'.sl (Nat.le_refl _) hd hb qO).mono ?_
    rintro e w5 ⟨R,rR,A6,n6,c6,rfl,oR,b5⟩
    have R2:=Lib.hid (HMl.out _ rR)
    have B5:=Lib.hid (B3.out.trans (b5.mono hbz3))
    have oR':=oR.lower (B':=w.heap.size) hbz3
    clear rR b5 oR hd HMl
    go_wp2_with fail
    go_roundw
    case rel=>exact ⟨j,n6,c6,A6,R,by omega,by simp,rfl,oR',R2,B5.out⟩
    case measure=>simp [intOf]<;>omega
open Go Go.RowKit Go.Sort
def zm (s:ByteArray) (e:Ending):Prop:=(gj s∧e= .returned (.bool true))∨(¬ gj s∧e= .returned (.bool false))
theorem vy(s:ByteArray) (hsz:s.size≤maxLen):Calls Tryz.prog 297 #[.string s] w fun e w'=>zm s e∧w=w':=by
 unfold maxLen at hsz
 by_cases h0:s.size=0
 ·have hemp:s.toList.isEmpty=true:=by
   rw [ByteArray.toList_eq,List.isEmpty_iff];exact List.eq_nil_of_length_eq_zero (by simpa using h0)
  have HN:=Lib.hid (show ¬ gj s from fun h=>by have:=h.1;omega)
  go_enter Tryz.func297,Tryz.ntmps297
  go_wp2_with fail
  go_ret
  exact ⟨.inr ⟨HN.out,rfl⟩,rfl⟩
 ·have hemp:s.toList.isEmpty=false:=by
   rw [ByteArray.toList_eq,←Bool.not_eq_true,List.isEmpty_iff]
   intro h
   apply h0
   have:=congrArg List.length h
   simpa using this
  have hp:0<s.size:=qO
  go_enter Tryz.func297,Tryz.ntmps297
  have h3:((s[0].toNat:Int)=48∧1<s.size)∨((s[0].toNat:Int)=48∧¬ 1<s.size)∨(s[0].toNat:Int)≠48:=qO
  rcases h3 with ⟨h48,hs1⟩|⟨h48,hs1⟩|h48
  ·have h48b:((s[0].toNat:Int)==48)=true:=beq_iff_eq.2 h48
   have HN:=Lib.hid (show ¬ gj s from fun h=>h.2.1 hs1 h48)
   clear h48
   go_wp2_with fail
   go_ret
   exact ⟨.inr ⟨HN.out,rfl⟩,rfl⟩
  case' inr.inl=>
   have h48b:((s[0].toNat:Int)==48)=true:=beq_iff_eq.2 h48
   have hlead:=Lib.hid (show ∀ h:1<s.size,(s[0].toNat:Int)≠48 from fun h=>absurd h hs1)
  case' inr.inr=>
   have h48b:((s[0].toNat:Int)==48)=false:=beq_eq_false_iff_ne.2 h48
   have hlead:=Lib.hid (show ∀ h:1<s.size,(s[0].toNat:Int)≠48 from fun _=>h48)
  all_goals
   clear h48
   go_wp2_with fail
   go_loop [18] (fun iv=>∃ k:Nat,k≤s.size∧iv= .int .i64 k∧Hid (∀ c∈s.data.toList.take k,fc c)) (fun iv=>s.size - (intOf iv).toNat)
   case atStart=>exact ⟨0,by omega,rfl,fun c h=>by simp at h⟩
   case round=>
    obtain ⟨k,hk,rfl,hd⟩:=hrel
    by_cases hlt:k<s.size
    ·by_cases hc:fc s[k]
     ·have hnx:=Lib.hid (show ∀ c∈s.data.toList.take (k+1),fc c by
       rw [yj s k hlt]
       intro c h
       rcases List.mem_append.1 h with h|h
       ·exact hd.out c h
       ·rw [List.mem_singleton.1 h];exact hc)
      have hc1:¬ (s[k].toNat:Int)<48:=by have:=hc.1;omega
      have hc2:¬ 57<(s[k].toNat:Int):=by have:=hc.2;omega
      clear hd hc
      go_wp2_with fail
      go_round
      case rel=>exact ⟨k+1,by omega,by go_num,hnx⟩
      case measure=>simp [intOf]<;>omega
     ·have HN:=Lib.hid (show ¬ gj s from fun h=>hc (h.2.2 _ (Fv s k hlt)))
      clear hd
      by_cases hc1:(s[k].toNat:Int)<48
      case' neg=>have hc2:57<(s[k].toNat:Int):=by unfold fc at hc;omega
      all_goals
       clear hc
       go_wp2_with fail
       go_ret
       exact ⟨.inr ⟨HN.out,rfl⟩,rfl⟩
    ·have HW:=Lib.hid (show gj s from ⟨hp,hlead.out,by have h:=hd.out;rw [List.take_of_length_le (by simp;omega)] at h;exact h⟩)
     clear hd
     go_wp2_with fail
     go_ret
     exact ⟨.inl ⟨HW.out,rfl⟩,rfl⟩
structure wD (s:ByteArray) (L n:Nat) (D:List Int):Prop where
 dg:Dg 1000000000 D
 len:D.length=456
 num:dL s.data.toList=val 1000000000 (D.take n)+1000000000^n*dL (s.data.toList.take L)
 fit:L+9*n≤s.size+8∧(0<L→L+9*n=s.size)
theorem wD.start (s:ByteArray):wD s s.size 0 (List.replicate 456 0):=
 ⟨Dg.zeros qD _,List.length_replicate,by rw [List.take_of_length_le (show s.data.toList.length≤s.size by simp),List.take_zero,Int.pow_zero];simp only [val];omega,by omega⟩
theorem wD.step{s:ByteArray} {L:Nat} {D:List Int} (h:wD s L n D) (hs:s.size≤4104) (hd:∀ c∈s.data.toList,fc c) (h0:0<L) {cut:Nat} (hc:cut+9=L∨(L<9∧cut=0)):
 n<456∧(∀ c∈(s.data.toList.take L).drop cut,fc c)∧(s.data.toList.take L).drop cut≠[]∧((s.data.toList.take L).drop cut).length≤9∧
  (0≤dL ((s.data.toList.take L).drop cut)∧dL ((s.data.toList.take L).drop cut)<1000000000)∧wD s cut (n+1) (D.set n (dL ((s.data.toList.take L).drop cut))):=by
 have hf:=h.fit.2 h0
 have hLs:L≤s.size:=qO
 have hn:n<456:=qO
 have hl:s.data.toList.length=s.size:=by simp
 have hdd:∀ c∈(s.data.toList.take L).drop cut,fc c:=fun c hx=>hd c (List.mem_of_mem_take (List.mem_of_mem_drop hx))
 have hlen:((s.data.toList.take L).drop cut).length=L - cut:=by rw [List.length_drop,List.length_take,hl];omega
 have hb:=gZ _ hdd
 rw [hlen] at hb
 have hp:(10:Int)^(L - cut)≤10^9:=bz qD qO
 have hr:0≤dL ((s.data.toList.take L).drop cut)∧dL ((s.data.toList.take L).drop cut)<1000000000:=qO
 refine ⟨hn,hdd,fun e=>by rw [e] at hlen;simp at hlen;omega,by omega,hr,h.dg.set hr,by simp [h.len],?_,by omega⟩
 have hset:(D.set n (dL ((s.data.toList.take L).drop cut)))[n]? =some (dL ((s.data.toList.take L).drop cut))   :=List.getElem?_set_self (by rw [h.len];exact hn)
 rw [bt hset,cj,List.take_set_of_le (Nat.le_refl _),List.length_take,Nat.min_eq_left (by have:=h.len;omega),h.num]
 have e1:dL (s.data.toList.take L)=dL (s.data.toList.take cut)*10^(L - cut)+dL ((s.data.toList.take L).drop cut):=by
  conv=>lhs;rw [←List.take_append_drop cut (s.data.toList.take L)]
  rw [jx,hlen,List.take_take,Nat.min_eq_left qO]
 rw [e1]
 rcases hc with hc|⟨_,rfl⟩
 ·rw [show L - cut=9 by omega,show (10:Int)^9=1000000000 from rfl,Int.pow_succ]
  grind
 ·simp only [List.take_zero]
  have:dL []=0:=rfl
  rw [this]
  grind
section
variable {k:IntKind} {e:TypeId} {w w':World} {B g n:Nat} {xs:List Int}
theorem cG.heap (h:cG k e w B (some ⟨g,0,none⟩) n n xs):w.heap[g]? =some (.cells (xs.map (Value.int k)).toArray e (0,0)):=by
 have hl:=h.len
 rcases h.2 with ⟨hv,_⟩|⟨g',cap,cur,hv,hb,hg,h1,h2,h3,h4⟩
 ·cases hv
 ·injection hv with hv h5 h6
  injection hv with hv
  injection hv with hv
  subst hv
  subst h6
  have hcur:cur.toList=xs.map (Value.int k):=by rw [←h4,List.take_of_length_le (by simp;omega)]
  rw [hg,←hcur]
theorem cG.of_heap (hB:B≤g) (hg:w.heap[g]? =some (.cells (xs.map (Value.int k)).toArray e (0,0))) (hl:xs.length=n) (hn:n≤maxLen):cG k e w B (some ⟨g,0,none⟩) n n xs:=
 ⟨by simp [hl], .inr ⟨g,n,_,rfl,hB,hg,Nat.le_refl _,hn,by simp [hl],by rw [Nat.mul_one,List.take_of_length_le (by simp [hl])]⟩⟩
theorem jU {P:Program} {ops:Array Oper} {rest:List Oper} {o:Oper} {a:Act} {Q:Exit→Act→World→Prop} (hgd:o.guard=none) (ty:TypeId) (x y:Operand) (ho:o.op= .store ty x y) {X:List Int}
 (h:cG k e w B (some ⟨g,0,none⟩) n n xs) (ex:a.eval x= .pointer (some ⟨g,0,none⟩)) (ey:a.eval y= .agg (X.map (Value.int k)).toArray) (hX:X.length=n) (hi:(P.info? ty).map (·.size)=some n) (hn:n≤maxLen)
 (hK:∀ w',cG k e w' B (some ⟨g,0,none⟩) n n X→w.grownBy w' (some g)→wpList P ops Q rest (a.put o.dst undef) w'):wpList P ops Q (o::rest) a w:=by
 have hl:=h.len
 refine wpList_store_row hgd ty x y ho g _ ex ey e _ h.heap (by rw [hi];simp [hX]) (by simp [hX,hl]) (by simp [Value.oneCell']) ?_
 exact hK _ (.of_heap (h.blk_ g rfl).1 (setRow_heap w g _ _ e _ h.heap) hX hn) ⟨rfl,rfl,rfl,by simp [World.setRow],fun i hi hne=>setRow_other w g i _ (fun e=>hne (by rw [e]))⟩
end
theorem rp {P:Program} {fn:Func} {p u:Tmp} {ty:TypeId} (h:fn.results= #[.cell p ty, .tmp u]) (tmps:Array Value) (w:World) (g:Nat) (t:TypeId) (cs:Array Value) (fr:Nat×Nat) (d:TypeDesc)
 (hp:tmps.getD p undef= .pointer (some ⟨g,0,none⟩)) (hg:w.heap[g]? =some (.cells cs t fr)) (hu:P.underlying ty=some d) (hd:(match d with| .struct _| .array _ _=>true|_=>false)=true) (hi:(P.info? ty).map (·.size)=some cs.size):
 (results fn tmps).run P w= .ok (.tuple #[.agg cs,tmps.getD u undef]) w:=by
 rw [results_cell_tmp h,hp]
 simp [asAddr,Result.andThen,run_loadVar_row w g t ty cs fr d hg hu hd hi]
theorem ut:Tryz.zeroCells396=((List.replicate 456 (0:Int)).map (Value.int .u32)).toArray:=by kernel_rfl
theorem sI:(Tryz.prog.info? 396).map (·.size)=some 456:=by kernel_rfl
def Ea (w:World) (s:ByteArray) (e:Ending) (w':World):Prop:=
 ∃ (n:Nat) (D:List Int),e= .returned (.tuple #[.agg (D.map (Value.int .u32)).toArray, .int .i64 n])∧n≤456∧D.length=456∧Dg 1000000000 D∧dL s.data.toList=val 1000000000 (D.take n)∧Below w.heap.size w w'
theorem sS(s:ByteArray) (hs:s.size≤4096) (hd:∀ c∈s.data.toList,fc c):Calls Tryz.prog 298 #[.string s] w (Ea w s):=by
 have ho:cG .u32 396 (w.alloc (.cells Tryz.zeroCells396 396)) w.heap.size (some ⟨w.heap.size,0,none⟩) 456 456 (List.replicate 456 0):=
  .of_heap (Nat.le_refl _) (by rw [ut];exact heap_alloc_new _ _) List.length_replicate qR
 have hb:Below w.heap.size w (w.alloc (.cells Tryz.zeroCells396 396)):=(Below.refl _ _).alloc (Nat.le_refl _) _
 go_enter Tryz.func298,Tryz.ntmps298
 go_wp2_with fail
 generalize w.alloc (.cells Tryz.zeroCells396 396)=w1 at*
 go_loopw [0,3] (fun sv nv wr=>∃ (t:ByteArray) (n:Nat) (D:List Int),sv= .string t∧nv= .int .i64 n∧Hid (t.data.toList=s.data.toList.take t.size)∧t.size≤4096∧n≤456∧cG .u32 396 wr w.heap.size (some ⟨w.heap.size,0,none⟩) 456 456 D∧Hid (wD s t.size n D)∧Below w.heap.size w wr)
  (fun sv _ _=>match sv with| .string t=>t.size|_=>0)
 case atStart=>exact ⟨s,0,_,rfl,rfl,by show _=_;rw [List.take_of_length_le qE],hs,by omega,ho,wD.start s,hb⟩
 case round=>
  clear ho hb
  obtain ⟨t,n,D,rfl,rfl,ht,hts,hn,oD,hI,br⟩:=hrel
  by_cases h0:t.size=0
  ·have hnum:=hI.out.num
   rw [h0,List.take_zero] at hnum
   have HN:=Lib.hid (show dL s.data.toList=val 1000000000 (D.take n) by rw [hnum];show _+_*dL []=_;simp [dL])
   have HL:=Lib.hid hI.out.len
   have HD:=Lib.hid hI.out.dg
   have HB:=Lib.hid br
   clear hnum hI br
   have hg:=Lib.hid oD.heap
   have hsz:=Lib.hid (show (Tryz.prog.info? 396).map (·.size)=some (D.map (Value.int .u32)).toArray.size by rw [sI];simp [HL.out])
   go_wp2_with (first
    |(with_reducible refine wpList_load_row rfl 396 _ rfl w.heap.size rfl _ _ _ _ hg.out Tryz.underlying396 rfl hsz.out ?_)
    |(with_reducible refine jU rfl 396 _ _ rfl oD rfl rfl HL.out sI qR ?_;intro w2 o2 g2))
   have HB2:=Lib.hid (HB.out.grown g2 HB.out.size (fun k hk=>by injection hk with hk;omega))
   refine bodyPost_ret_by (rp rfl _ _ w.heap.size _ _ _ _ rfl o2.heap Tryz.underlying396 rfl hsz.out) rfl ?_
   exact ⟨n,D,rfl,hn,HL.out,HD.out,HN.out,HB2.out⟩
  ·have hts0:(0:Int)<t.size:=qO
   obtain ⟨cut,hcut,hc1,hc2⟩:∃ cut:Nat,(max ((t.size:Int) - 9) 0).toNat=cut∧(cut+9=t.size∨(t.size<9∧cut=0))∧max ((t.size:Int) - 9) 0=(cut:Int):=by
    rcases Nat.lt_or_ge t.size 9 with h|h
    ·exact ⟨0,by rw [Int.max_eq_right qO];rfl, .inr ⟨h,rfl⟩,by rw [Int.max_eq_right qO];rfl⟩
    ·exact ⟨t.size - 9,by rw [Int.max_eq_left qO];omega, .inl qO,by rw [Int.max_eq_left qO];omega⟩
   obtain ⟨p1,p2,p3,p4,p5,p6⟩:=hI.out.step qO hd qO hc1
   have hblk:(t.extract cut t.size).data.toList=(s.data.toList.take t.size).drop cut:=by
    rw [←ht.out,ByteArray.data_extract,Array.toList_extract,List.extract_eq_take_drop,List.take_of_length_le qE]
   have HPU:=Lib.hid (fun W=>Tryz.strconv_ParseUint_10_at32_ok (t.extract cut t.size) (by
    have:(t.extract cut t.size).data.toList.length≤9:=by rw [hblk];exact p4
    have e:(t.extract cut t.size).size=(t.extract cut t.size).data.toList.length:=by simp
    omega) (dL ((s.data.toList.take t.size).drop cut)).toNat (by rw [hblk];exact Co _ p2 p3 p4) W)
   have HI:=Lib.hid p6
   have hfs:(t.extract 0 cut).size=cut:=by simp;omega
   have hfront:=Lib.hid (show (t.extract 0 cut).data.toList=s.data.toList.take (t.extract 0 cut).size by
    rw [hfs,ByteArray.data_extract,Array.toList_extract,List.extract_eq_take_drop,ht.out,List.drop_zero,List.take_take]
    congr 1
    omega)
   generalize dL ((s.data.toList.take t.size).drop cut)=d at*
   clear hI p2 p3 p4 p6 hblk ht
   have hdn:((d.toNat:Nat):Int)=d:=qO
   have hw1:d%4294967296=d:=qO
   have HB:=Lib.hid br
   clear br
   go_wp2_with fail
   refine (HPU.out wr).mono ?_
   rintro e w2 ⟨rfl,hw2⟩
   have hb2:Below wr.heap.size wr w2:=by
    rcases hw2 with rfl|rfl
    ·exact Below.refl _ _
    ·exact Lib.bytesWorld_below _ _ _
   rw [hdn]
   have oD2:=oD.below hb2
   obtain ⟨z,hz,hcell,hfr,hput⟩:=oD2.at_row (i:=n) p1
   have hnext:=Lib.hid (hput d)
   have HB2:=Lib.hid (HB.out.trans (hb2.mono HB.out.size))
   have hzs:=HB2.out.size
   clear hput hw2 hb2 oD oD2 HPU
   go_wp2_with fail
   refine ⟨⟨t.extract 0 cut,n+1,_,rfl,by go_num,hfront,by omega,by omega,hnext.out.1,by rw [hfs];exact HI,HB2.out.trans (Below.own hnext.out.2 (Nat.le_refl _) hzs)⟩,?_⟩
   show (t.extract 0 cut).size<t.size
   omega
def Gq (w:World) (s:ByteArray) (e:Ending) (w':World):Prop:=
 (¬ gj s∧e= .returned (.tuple #[.slice none 0 0, .int .i64 60])∧Below w.heap.size w w')∨
 (gj s∧4096<s.size∧e= .returned (.tuple #[.slice none 0 0, .int .i64 3])∧Below w.heap.size w w')∨
 (gj s∧s.size≤4096∧tI w (dL s.data.toList) e w')
theorem wk{o:Obj} {p:Addr} (hp:p.block<w.heap.size) (h:Below w.heap.size w W∧W.cell? p=some u):Below w.heap.size w (W.alloc o)∧(W.alloc o).cell? p=some u:=
 ⟨h.1.alloc h.1.size o,by rw [World.cell?_alloc_lt _ _ _ (Nat.lt_of_lt_of_le hp h.1.size)];exact h.2⟩
theorem Cl{X:List Int} {p:Addr} (hs:Sl .u32 w w.heap.size A n c X) (rX:go 4294967296 x X) (hn:n≤1000000) (hp:p.block<w.heap.size) (hS:Below w.heap.size w W∧W.cell? p=some u):
 Calls Tryz.prog 300 #[.slice A n c, .int .u32 1000000000] W fun e W'=>∃ ys A' n' c',e= .returned (.slice A' n' c')∧go 4294967296 (1000000000*x) ys∧Sl .u32 W' W'.heap.size A' n' c' ys∧Below W.heap.size W W'∧W'.cell? p=some u:=by
 refine (kA ((hs.below hS.1 (Nat.le_refl _)).more hS.1.size) (Nat.le_refl _) rX.dg (m:=1000000000) qO qO).mono ?_
 rintro e W' ⟨ys,hr,A',n',c',rfl,ho,hb⟩
 rw [rX.val] at hr
 have hsz:=hS.1.size
 exact ⟨ys,A',n',c',rfl,hr,ho.sl,hb,(hb.cell qO).trans hS.2⟩
theorem Ae {w W:World} {A A2:Option Addr} {n c:Nat} {Y:List Int} {x d:Int} {p:Addr} {u:Value} (hs:Sl .u32 W W.heap.size A n c Y) (ht:Sl .u32 W W.heap.size A2 1 1 [d]) (rY:go 4294967296 (1000000000*x) Y) (hx:x<4294967296^500) (hd:0≤d∧d<4294967296)
 (hp:p.block<w.heap.size) (hS:Below w.heap.size w W∧W.cell? p=some u):
 Calls Tryz.prog 299 #[.slice A n c, .slice A2 1 1] W fun e W'=>∃ ys A' n' c',e= .returned (.slice A' n' c')∧go 4294967296 (1000000000*x+d) ys∧cG .u32 128 W' w.heap.size A' n' c' ys∧Below W.heap.size W W'∧W'.cell? p=some u:=by
 have hl:n≤501:=by
  rw [←hs.len]
  refine rY.len_le qD ?_
  rw [show (4294967296:Int)^501=4294967296^500*4294967296 from Int.pow_succ _ _]
  omega
 refine (w_ hs ht (Nat.le_refl _) rY.dg (IL hd) qO qO).mono ?_
 rintro e W' ⟨ys,hr,A',n',c',rfl,ho,hb⟩
 have hv:val 4294967296 Y+val 4294967296 [d]=1000000000*x+d:=by rw [rY.val];simp [val]
 rw [hv] at hr
 have hsz:=hS.1.size
 exact ⟨ys,A',n',c',rfl,hr,ho.lower hsz,hb,(hb.cell qO).trans hS.2⟩
theorem xY(s:ByteArray) (hsz:s.size≤maxLen):Calls Tryz.prog 269 #[.string s] w (Gq w s):=by
 have HW:=Lib.hid (vy (w:=w) s hsz)
 have hsm:=hsz
 unfold maxLen at hsm
 go_enter Tryz.func269,Tryz.ntmps269
 go_wp2_with fail
 refine HW.out.mono ?_
 rintro e w' ⟨h,rfl⟩
 rcases h with ⟨hw,rfl⟩|⟨hw,rfl⟩
 ·by_cases hbig:4096<s.size
  ·have H1:=Lib.hid hw
   clear hw HW
   go_wp2_with fail
   go_ret2
   exact .inr (.inl ⟨H1.out,hbig,rfl,Below.refl _ _⟩)
  ·have HD:=Lib.hid (sS (w:=w) s qO hw.2.2)
   have H1:=Lib.hid hw
   clear hw HW
   go_wp2_with fail
   refine HD.out.mono ?_
   rintro e w1 ⟨N,D,rfl,hN,lD,dD,hv,hb1⟩
   have ho:cG .u32 396 (w1.alloc (.cells Tryz.zeroCells396 396)) w1.heap.size (some ⟨w1.heap.size,0,none⟩) 456 456 (List.replicate 456 0):=
    .of_heap (Nat.le_refl _) (by rw [ut];exact heap_alloc_new _ _) List.length_replicate qR
   have hb:Below w1.heap.size w1 (w1.alloc (.cells Tryz.zeroCells396 396)):=(Below.refl _ _).alloc (Nat.le_refl _) _
   have HV:=Lib.hid hv
   have B1:=Lib.hid hb1
   clear HD hv hb1
   go_wp2_with (with_reducible refine jU rfl 396 _ _ rfl ho rfl rfl lD sI qR ?_;intro w2 o2 g2)
   have hz1:=(ho.blk_ _ rfl).2
   have hsz2:w1.heap.size<w2.heap.size:=Nat.lt_of_lt_of_le hz1 g2.size
   have B2:=Lib.hid (B1.out.trans ((hb.grown g2 (Nat.le_of_lt hz1) (fun k hk=>by injection hk with hk;omega)).mono B1.out.size))
   have hw12:=B1.out.size
   clear hb ho g2 B1 hz1
   have lT:(D.take N).length=N:=by rw [List.length_take];omega
   have dT:Dg 1000000000 (D.take N):=dD.take N
   have hget:∀ j,j<N→(D.take N)[j]? =D[j]? :=fun j hj=>by rw [List.getElem?_take,if_pos hj]
   generalize D.take N=T at*
   go_loopw [5,6] (fun nv av wr=>∃ (k n3 c3:Nat) (A3:Option Addr) (O:List Int),k≤N∧nv= .int .i64 k∧av= .slice A3 n3 c3∧cG .u32 128 wr w2.heap.size A3 n3 c3 O∧Hid (go 4294967296 (val 1000000000 (T.drop k)) O)∧Below w2.heap.size w2 wr) (fun nv _ _=>(intOf nv).toNat)
   case atStart=>exact ⟨N,0,0,none,[],Nat.le_refl _,rfl,rfl,cG.nil,⟨Dg.nil,Tr.nil,by rw [List.drop_of_length_le qO];rfl⟩,Below.refl _ _⟩
   case round=>
    obtain ⟨k,n3,c3,A3,O,hk,rfl,rfl,oA,RA,br⟩:=hrel
    by_cases h0:k=0
    ·subst h0
     have RR:=Lib.hid (show go 4294967296 (dL s.data.toList) O by rw [HV.out];have:=RA.out;rwa [List.drop_zero] at this)
     have B3:=Lib.hid (B2.out.trans (br.mono B2.out.size))
     have hw2s:=B2.out.size
     clear br RA
     go_wp2_with fail
     go_ret2
     exact .inr (.inr ⟨H1.out,by omega,O,A3,n3,c3,RR.out,rfl,oA.lower hw2s,B3.out⟩)
    ·obtain ⟨j,rfl⟩:∃ j,k=j+1:=⟨k - 1,by omega⟩
     obtain ⟨d,hdj⟩:=eE (xs:=T) (i:=j) qO
     have hd:=dT.get hdj
     have hcell:wr.cell? ⟨w1.heap.size,j,none⟩=some (.int .u32 d):=by
      obtain ⟨z,hz,hc, -, -⟩:=o2.at_row (i:=j) qO
      rw [hget j qO,hz] at hdj
      injection hdj with hdj
      subst hdj
      exact (br.cell (show w1.heap.size<_ from hsz2)).trans hc
     have v0:=bg (β:=1000000000) qD (dT.drop (j+1))
     have v1:=dS (β:=1000000000) qD (dT.drop (j+1))
     rw [List.length_drop,lT] at v1
     have hl3:n3≤500:=by
      rw [←oA.len]
      have h1:=bz (show (0:Int)<1000000000 by decide) (show N - (j+1)≤500 by omega)
      have h2:(1000000000:Int)^500≤4294967296^500:=by decide +kernel
      exact RA.out.len_le qD qO
     have hval:=Lib.hid (show val 1000000000 (T.drop j)=1000000000*val 1000000000 (T.drop (j+1))+d by rw [f8 _ hdj];omega)
     have HB:=Lib.hid br
     have hbz:=br.size
     have sA:=oA.sl
     have hwk:wr.heap.size≥w2.heap.size:=hbz
     have hmx:val 1000000000 (T.drop (j+1))<4294967296^500:=by
      have h1:=bz (show (0:Int)<1000000000 by decide) (show N - (j+1)≤500 by omega)
      have h2:(1000000000:Int)^500≤4294967296^500:=by decide +kernel
      omega
     have HMX:=Lib.hid hmx
     have hj456:(j:Int)<456:=qO
     clear br oA v0 v1 hdj hmx
     have h0S:Below wr.heap.size wr wr∧wr.cell? ⟨w1.heap.size,j,none⟩=some (.int .u32 d):=⟨Below.refl _ _,hcell⟩
     have hjk:((j+1:Nat):Int) - 1=j:=qO
     have hw1r:(Addr.mk w1.heap.size j none).block<wr.heap.size:=show w1.heap.size<wr.heap.size by omega
     go_wp2_with fail
     go_region_held3 (fun W=>Below wr.heap.size wr W∧W.cell? ⟨w1.heap.size,j,none⟩=some (.int .u32 d))
      (first
        |assumption
        |exact ⟨Below.drew (And.left qL),And.right qL⟩
        |exact ⟨Below.trans (And.left qL) (Below.mono qL (Below.size (And.left qL))),by assumption⟩
        |exact wk (w:=wr) (p:=⟨w1.heap.size,j,none⟩) hw1r qL)
      (first
        |(go_at_call 300;go_must (refine (Cl (w:=wr) (p:=⟨w1.heap.size,j,none⟩) (u:= .int .u32 d) sA RA.out qO (show w1.heap.size<wr.heap.size by omega) (show Below wr.heap.size wr _∧_ by assumption)).mono ?_;rintro e wS ⟨ys,Az,nz,cz,rfl,rY,sY,hbz2,hcz⟩))
        |(go_at_call 299;go_must (refine (Ae (w:=wr) (d:=d) (p:=⟨w1.heap.size,j,none⟩) (u:= .int .u32 d) (Y:=ys)
           (by first|exact sY|exact ((sY.alloc (Nat.le_refl _) _).more (by rw [aX];exact Nat.le_succ _)))
           (by first|(refine Sl.more ?_ (Nat.le_of_eq (aX _ _).symm);exact DA wS wS.heap.size rfl d _)|exact (((DA wr wr.heap.size rfl d 128).drew1).below hbz2 (by show _≤(wr.alloc _).heap.size;rw [aX];exact Nat.le_refl _)).more (Nat.le_trans (by show _≤(wr.alloc _).heap.size;rw [aX];exact Nat.le_refl _) hbz2.size))
           rY HMX.out qO hw1r (show Below wr.heap.size wr _∧_ by assumption)).mono ?_;rintro e wA ⟨zs,Aa,na,ca,rfl,rZ,oZ,hbz3,hcz2⟩)))
     all_goals
      have RZ:=Lib.hid (show go 4294967296 (val 1000000000 (T.drop j)) zs by rw [hval.out];exact rZ)
      have B5:=Lib.hid (HB.out.trans ((show Below wr.heap.size wr wA∧_ by assumption).1.mono hbz))
      have oZ':=oZ.lower (B':=w2.heap.size) hbz
      clear rZ oZ hbz3 hcz2 hcell h0S sA sY hbz2 hcz rY RA
      go_wp2_with fail
      go_roundw
      case rel=>exact ⟨j,na,ca,Aa,zs,by omega,rfl,rfl,oZ',RZ,B5.out⟩
      case measure=>simp [intOf]<;>omega
 ·have H1:=Lib.hid hw
  clear hw HW
  go_wp2_with fail
  go_ret2
  exact .inl ⟨H1.out,rfl,Below.refl _ _⟩
structure vE (w:World):Prop where
 half:iq w
 hz:11<w.heap.size
 pow : Lib.TabIs Tryz.prog w "internal/strconv.uint64pow10" .u64 Lib.pow10Tab
theorem wC {w w' : World} (h : Lib.TabIs Tryz.prog w "internal/strconv.uint64pow10" .u64 Lib.pow10Tab) (hb : Below w.heap.size w w') : Lib.TabIs Tryz.prog w' "internal/strconv.uint64pow10" .u64 Lib.pow10Tab := by
 have hg : Tryz.prog.globalNamed "internal/strconv.uint64pow10" = some 6 := by kernel_rfl
 unfold Lib.TabIs World.var? at h ⊢
 rw [hg] at h ⊢
 simp only [Option.bind_some] at h ⊢
 have hlt:6<w.heap.size:=by
  rcases Nat.lt_or_ge 6 w.heap.size with h'|h'
  ·exact h'
  ·rw [Array.getElem?_eq_none h'] at h;cases h
 rw [hb.block _ hlt]
 exact h
theorem vE.below(h:vE w) (hb:Below w.heap.size w w'):vE w':=⟨h.half.below hb h.hz,Nat.lt_of_lt_of_le h.hz hb.size,wC h.pow hb⟩
end Go.Proofs.YtcpeiijdgabenaaGreatDoor
