/- limb: used, sign, Trim, Cmp: what each call answers. -/
import Derived.Test.YtcpeiijdgabenaaGreatDoorProg
import Derived.Test.YtcpeiijdgabenaaGreatDoorEA
import Derived.WalkLawsBesides
import Derived.Deep.QuietTactic
import Derived.BigQuiet
import Derived.Lib.Hide
import Derived.KernelRfl
import Derived.WalkKit
import Derived.WalkSpells
import Derived.Laws.BitsLemmas
import Derived.Deep.RegionHeld3
set_option maxHeartbeats 1000000
set_option linter.unusedSimpArgs false
set_option linter.unusedVariables false
namespace Go.Proofs.YtcpeiijdgabenaaGreatDoor
open Go Go.RowKit
variable {B c n m c2 j i:Nat} {w:World} {xs ys X:List Int} {A A2:Option Addr} {x y:Int} {xss:List (List Int)}
theorem l9:ve Tryz.prog 24 128 .u32 4:=⟨Tryz.underlying24,info_parts qK⟩
def uu (w:World) (B:Nat) (A:Option Addr) (c:Nat) (xs:List Int) (e:Ending):Prop:=
 ∃ A' n' c',e= .returned (.slice A' n' c')∧Sl .u32 w B A' n' c' (tl xs)∧((A'=none∧n'=0∧c'=0)∨(A'=A∧c'=c∧0<n'))
theorem uu.none_(h:tl xs=[]):uu w B A c xs (.returned (.slice none 0 0)):=
 ⟨none,0,0,rfl,by rw [h];exact Sl.nil, .inl ⟨rfl,rfl,rfl⟩⟩
theorem uu.some_(hs:Sl .u32 w B A n c xs) (hj:j+1≤n) (h:tl xs=xs.take (j+1)):uu w B A c xs (.returned (.slice A (j+1) c)):=
 ⟨A,j+1,c,rfl,by rw [h];exact hs.front hj, .inr ⟨rfl,rfl,by omega⟩⟩
theorem dX(hs:Sl .u32 w B A n c xs):
 Calls Tryz.prog 290 #[.slice A n c] w fun e w'=>uu w B A c xs e∧w=w':=by
 have hm:=hs.lenMax
 have hnc:=hs.le
 go_enter Tryz.func290,Tryz.ntmps290
 go_wp2
 go_loop [3] (fun i=>∃ k:Nat,k≤n∧i= .int .i64 k∧gJ xs k) (fun i=>(intOf i).toNat)
 case atStart=>exact ⟨n,by omega,rfl, .start hs.len⟩
 case round=>
  obtain ⟨k,hk,rfl,ht⟩:=hrel
  by_cases h0:k=0
  ·subst h0
   go_wp2
   go_ret
   exact ⟨.none_ ht.zero,rfl⟩
  ·obtain ⟨j,rfl⟩:∃ j,k=j+1:=⟨k - 1,by omega⟩
   obtain ⟨b,off,x,rfl,_,hx,hcell⟩:=hs.at_ (j:=j) qO
   by_cases hx0:x=0
   ·subst hx0
    go_wp2
    go_round
    case rel=>exact ⟨j,by omega,rfl,ht.down hx⟩
    case measure=>simp [intOf]<;>omega
   ·have hb:(x==0)=false:=beq_eq_false_iff_ne.2 hx0
    have hj:(((j:Int)+1)==0)=false:=beq_eq_false_iff_ne.2 qO
    have hstop:=Lib.hid (ht.stop hx hx0)
    go_wp2
    go_ret
    exact ⟨.some_ hs hk hstop.out,rfl⟩
def GK (b:Bool):Int:=if b then 1 else -1
theorem uW (b:Bool) (w:World):Calls Tryz.prog 312 #[.bool b] w fun e w'=>e= .returned (.int .i64 (GK b))∧w=w':=by
 cases b<;>
 ·go_enter Tryz.func312,Tryz.ntmps312
  go_wp2
  go_ret
  exact ⟨rfl,rfl⟩
def Hf (w:World) (ys:List Int) (e:Ending) (w':World):Prop:=
 ∃ A n c,e= .returned (.slice A n c)∧cG .u32 128 w' w.heap.size A n c ys∧Below w.heap.size w w'
theorem fi(hs:Sl .u32 w B A n c xs) (hn:n≤1000000000):
 Calls Tryz.prog 255 #[.slice A n c] w (Hf w (tl xs)):=by
 go_enter Tryz.func255,Tryz.ntmps255
 go_wp2_with fail
 refine (dX hs).mono ?_
 rintro e w' ⟨⟨A',n',c',rfl,hs',_⟩,rfl⟩
 have hl:=hs'.len
 have hl2:=fX xs
 have hl3:=hs.len
 go_wp2_with (at_builtin;refine wm l9 rfl _ _ rfl (cG.nil (B:=w.heap.size)) rfl hs' rfl qO qR (Nat.le_refl _) ?_;intro A2 c2 w2 h2 hg)
 rw [Nat.zero_add,List.nil_append] at h2
 go_ret
 exact ⟨_,_,_,rfl,h2,(Below.refl _ _).grown hg (Nat.le_refl _) (fun k hk=>by cases hk)⟩
def wZ (x y c:Int):Int:=if x<y+c then 1 else 0
theorem AE (x y c:Int):0≤wZ x y c∧wZ x y c≤1:=by unfold wZ;split<;>omega
theorem BU{c:Int} (hx:0≤x∧x<4294967296) (hy:0≤y∧y<4294967296) (hc:0≤c∧c≤1):(x - y - c)%4294967296=x - y - c+4294967296*wZ x y c:=by
 unfold wZ;split<;>omega
theorem yo (n:Int) (h0:0≤n) (h1:n<2^32):IntKind.u32.wrap n=n:=by rw [IntKind.wrap_u32];omega
theorem nK (n:Int) (h0:0≤n) (h1:n<2^64):IntKind.u64.wrap n=n:=by
 rw [show IntKind.u64.wrap n=n%18446744073709551616 by simp [IntKind.wrap,IntKind.bits,IntKind.signed]];omega
theorem pY(hx:0≤x∧x<4294967296) (hy:0≤y∧y<4294967296):bits .or .u64 (x*4294967296) y=x*4294967296+y:=
 bits_join .u64 64 qD nK 32 _ _ qO qO qO hy.1 qO qO
theorem pp (a:BitVec 32):a.msb=decide (2147483648≤a.toNat):=BitVec.msb_eq_decide a
theorem ofInt_u32(hx:0≤x∧x<4294967296):((BitVec.ofInt 32 x).toNat:Int)=x:=by
 rw [BitVec.toNat_ofInt];omega
theorem kj (r:BitVec 32):IntKind.u32.wrap (r.toNat:Int)=(r.toNat:Int):=by
 have:=r.isLt
 rw [IntKind.wrap_u32];omega
theorem u_ (x y:Int):bits .and .u32 x y=((BitVec.ofInt 32 x &&& BitVec.ofInt 32 y).toNat:Int):=kj _
theorem me (x y:Int):bits .or .u32 x y=((BitVec.ofInt 32 x ||| BitVec.ofInt 32 y).toNat:Int):=kj _
theorem vi (x y:Int):bits .xor .u32 x y=((BitVec.ofInt 32 x ^^^ BitVec.ofInt 32 y).toNat:Int):=kj _
theorem wq (r:BitVec 32):BitVec.ofInt 32 (r.toNat:Int)=r:=by
 rw [BitVec.ofInt_natCast,BitVec.ofNat_toNat,BitVec.setWidth_eq]
theorem tW{c d:Int} (hx:0≤x∧x<4294967296) (hy:0≤y∧y<4294967296) (hc:0≤c∧c≤1) (hd:d=(x - y - c)%4294967296):
 bits BinOp.or IntKind.u32 (bits BinOp.and IntKind.u32 (bits BinOp.xor IntKind.u32 IntKind.u32.max x) y)
  (bits BinOp.and IntKind.u32 (bits BinOp.xor IntKind.u32 IntKind.u32.max (bits BinOp.xor IntKind.u32 x y)) d) / 2147483648=wZ x y c:=by
 have hm:(BitVec.ofInt 32 IntKind.u32.max:BitVec 32)=BitVec.allOnes 32:=by decide
 simp only [u_,me,vi,wq,hm]
 have hX:=ofInt_u32 hx
 have hY:=ofInt_u32 hy
 have hD:=ofInt_u32 (x:=d) qO
 generalize BitVec.ofInt 32 x=X at*
 generalize BitVec.ofInt 32 y=Y at*
 generalize BitVec.ofInt 32 d=D at*
 generalize hR:(BitVec.allOnes 32 ^^^ X) &&& Y ||| (BitVec.allOnes 32 ^^^ (X ^^^ Y)) &&& D=R
 have hmsb:R.msb=((!X.msb&&Y.msb) || ((X.msb==Y.msb)&&D.msb)):=by
  rw [←hR]
  simp only [BitVec.msb_or,BitVec.msb_and,BitVec.msb_xor]
  rw [show (BitVec.allOnes 32).msb=true by decide]
  cases X.msb<;>cases Y.msb<;>cases D.msb<;>rfl
 rw [pp,pp,pp,pp] at hmsb
 have hl:=R.isLt
 unfold wZ
 rcases Nat.lt_or_ge X.toNat 2147483648 with h1|h1<;>rcases Nat.lt_or_ge Y.toNat 2147483648 with h2|h2<;>rcases Nat.lt_or_ge D.toNat 2147483648 with h3|h3<;>
  rcases Nat.lt_or_ge R.toNat 2147483648 with h4|h4<;>simp [h1,h2,h3,h4,Nat.not_le.2,Nat.not_lt.2] at hmsb<;>split<;>omega
theorem lJ (x y c:Int) (w:World) (hx:0≤x∧x<4294967296) (hy:0≤y∧y<4294967296) (hc:0≤c∧c≤1):
 Calls Tryz.prog 322 #[.int .u32 x, .int .u32 y, .int .u32 c] w fun e w'=>e= .returned (.tuple #[.int .u32 ((x+y+c)%4294967296), .int .u32 ((x+y+c) / 4294967296)])∧w=w':=by
 go_enter Tryz.func322,Tryz.ntmps322
 go_wp2
 go_ret2
 exact ⟨rfl,rfl⟩
theorem v_ (x c:Int) (w:World) (hx:0≤x∧x<4294967296) (hc:0≤c∧c≤1):
 Calls Tryz.prog 322 #[.int .u32 x, .int .u32 0, .int .u32 c] w fun e w'=>e= .returned (.tuple #[.int .u32 ((x+c)%4294967296), .int .u32 ((x+c) / 4294967296)])∧w=w':=by
 have:=lJ x 0 c w hx qO hc
 rw [Int.add_zero] at this
 exact this
theorem lL (x y c:Int) (w:World) (hx:0≤x∧x<4294967296) (hy:0≤y∧y<4294967296) (hc:0≤c∧c≤1):
 Calls Tryz.prog 339 #[.int .u32 x, .int .u32 y, .int .u32 c] w fun e w'=>e= .returned (.tuple #[.int .u32 ((x - y - c)%4294967296), .int .u32 (wZ x y c)])∧w=w':=by
 have hsg:IntKind.u32.signed=false:=rfl
 have hb:=Lib.hid (tW hx hy hc rfl)
 go_enter Tryz.func339,Tryz.ntmps339
 go_wp2
 go_ret2
 rw [hb.out]
 refine ⟨?_,rfl⟩
 show Ending.returned (.tuple #[.int .u32 (((x - y)%4294967296 - c)%4294967296), .int .u32 (wZ x y c)])=_
 rw [show ((x - y)%4294967296 - c)%4294967296=(x - y - c)%4294967296 by omega]
theorem yz (x y:Int) (w:World) (hx:0≤x∧x<4294967296) (hy:0≤y∧y<4294967296):
 Calls Tryz.prog 321 #[.int .u32 x, .int .u32 y] w fun e w'=>e= .returned (.tuple #[.int .u32 (x*y / 4294967296), .int .u32 (x*y%4294967296)])∧w=w':=by
 have h0:0≤x*y:=Int.mul_nonneg hx.1 hy.1
 have h1:x*y≤4294967295*4294967295:=Int.mul_le_mul qO qO hy.1 qO
 go_enter Tryz.func321,Tryz.ntmps321
 go_wp2
 go_ret2
 exact ⟨rfl,rfl⟩
theorem su{hi lo:Int} (hx:0≤lo∧lo<4294967296) (hy:0≤hi∧hi<y):0≤(hi*4294967296+lo) / y∧(hi*4294967296+lo) / y<4294967296:=by
 refine ⟨Int.ediv_nonneg qO qO,Int.ediv_lt_of_lt_mul qO ?_⟩
 have:(hi+1)*4294967296≤y*4294967296:=qO
 omega
theorem zc (hi lo y:Int) (w:World) (hx:0≤lo∧lo<4294967296) (hy:0≤hi∧hi<y) (hc:y<4294967296):
 Calls Tryz.prog 340 #[.int .u32 hi, .int .u32 lo, .int .u32 y] w fun e w'=>e= .returned (.tuple #[.int .u32 ((hi*4294967296+lo) / y), .int .u32 ((hi*4294967296+lo)%y)])∧∃ m,w'=w.drewN m:=by
 have hj:=pY (x:=hi) (y:=lo) qO hx
 have hd:=su hx hy
 have hr0:=Int.emod_nonneg (hi*4294967296+lo) (show y≠0 by omega)
 have hr1:=Int.emod_lt_of_pos (hi*4294967296+lo) (show 0<y by omega)
 have hyb:(y != 0)=true:=by rw [bne_iff_ne];omega
 have hyd:decide (y≤hi)=false:=by simp;omega
 have hy1:1≤y:=qO
 go_enter Tryz.func340,Tryz.ntmps340
 go_wp2
 go_quiet (fail)
 go_wp2
 go_ret2
 exact ⟨rfl,_,rfl⟩
def jD (xs ys:List Int) (e:Ending):Prop:=e= .returned (.int .i64 (eP (val 4294967296 xs) (val 4294967296 ys)))
def n9 (xs ys:List Int) (k:Nat):Prop:=xs.drop k=ys.drop k
theorem jD.same(h:n9 (tl xs) (tl ys) 0):jD xs ys (.returned (.int .i64 0)):=by
 unfold jD
 rw [pq]
 unfold n9 at h
 simp only [List.drop_zero] at h
 rw [←cx _ xs,←cx _ ys,h]
theorem jD.digit(hx:Dg 4294967296 xs) (hy:Dg 4294967296 ys) (h:n9 (tl xs) (tl ys) (j+1)) (ex:(tl xs)[j]? =some x) (ey:(tl ys)[j]? =some y) (hne:x≠y):
 jD xs ys (.returned (.int .i64 (GK (decide (y<x))))):=by
 unfold jD
 rw [←cx _ xs,←cx _ ys]
 by_cases hlt:y<x
 ·rw [iJ (iB qD (dY hy) (dY hx) j ey ex h.symm hlt)];simp [hlt,GK]
 ·rw [fN (iB qD (dY hx) (dY hy) j ex ey h qO)];simp [hlt,GK]
theorem jD.len(hx:Dg 4294967296 xs) (hy:Dg 4294967296 ys) {n1 n2:Nat} (h1:(tl xs).length=n1) (h2:(tl ys).length=n2) (hne:n1≠n2):
 jD xs ys (.returned (.int .i64 (GK (decide (n2<n1))))):=by
 unfold jD
 rw [←cx _ xs,←cx _ ys]
 by_cases hlt:n2<n1
 ·rw [iJ (ga qD (dY hy) (dY hx) (d_ xs) qO)];simp [hlt,GK]
 ·rw [fN (ga qD (dY hx) (dY hy) (d_ ys) qO)];simp [hlt,GK]
theorem iI(hs:Sl .u32 w B A n c xs) (ht:Sl .u32 w B A2 m c2 ys) (hx:Dg 4294967296 xs) (hy:Dg 4294967296 ys):
 Calls Tryz.prog 285 #[.slice A n c, .slice A2 m c2] w fun e w'=>jD xs ys e∧∃ m,w'=w.drewN m:=by
 go_enter Tryz.func285,Tryz.ntmps285
 go_wp2_with fail
 refine (dX hs).mono ?_
 rintro e w' ⟨⟨A',n',c',rfl,hs',_⟩,rfl⟩
 go_wp2_with fail
 refine (dX ht).mono ?_
 rintro e w' ⟨⟨A2',m',c2',rfl,ht',_⟩,rfl⟩
 have hb1:=hs'.lenMax
 have hb2:=ht'.lenMax
 by_cases hne:n'=m'
 ·subst hne
  go_wp2_with fail
  go_loopw [5] (fun i wr=>∃ k q:Nat,k≤n'∧i= .int .i64 ((k:Int) - 1)∧n9 (tl xs) (tl ys) k∧wr=w.drewN q) (fun i _=>(intOf i+1).toNat)
  case atStart=>
   refine ⟨n',0,Nat.le_refl _,rfl,?_,rfl⟩
   unfold n9
   rw [List.drop_of_length_le (by rw [hs'.len];omega),List.drop_of_length_le (by rw [ht'.len];omega)]
  case round=>
   obtain ⟨k,q,hk,rfl,hal,rfl⟩:=hrel
   by_cases h0:k=0
   ·subst h0
    go_wp2
    go_ret
    exact ⟨.same hal,q,rfl⟩
   ·obtain ⟨j,rfl⟩:∃ j,k=j+1:=⟨k - 1,by omega⟩
    obtain ⟨b,off,x,rfl,_,ex,hc1⟩:=hs'.at_ (j:=j) qO
    obtain ⟨b2,off2,y,rfl,_,ey,hc2⟩:=ht'.at_ (j:=j) qO
    have hji:(j:Int)<(n':Int):=qO
    by_cases hxy:x=y
    ·subst hxy
     go_wp2
     go_quiet (fail)
     go_wp2
     go_roundw
     case rel=>
      refine ⟨j,_,by omega,by simp,?_,rfl⟩
      unfold n9 at*
      rw [m9 ex,m9 ey,hal]
     case measure=>simp [intOf]
    ·have hb:(x != y)=true:=by rw [bne_iff_ne];exact hxy
     have hres:=Lib.hid (jD.digit hx hy hal ex ey hxy)
     go_wp2
     go_quiet (fail)
     go_wp2
     go_quiet ((go_at_call 312;refine (uW _ _).mono ?_;rintro e w1 ⟨rfl,rfl⟩;exact ⟨rfl,_,rfl⟩))
     go_wp2
     go_ret
     exact ⟨hres.out,_,by simp only [World.drewN_drewN];rfl⟩
 ·have hb:((n':Int) != (m':Int))=true:=by rw [bne_iff_ne];omega
  have hres:=Lib.hid (jD.len hx hy hs'.len ht'.len hne)
  go_wp2_with fail
  refine (uW _ _).mono ?_
  rintro e w' ⟨rfl,rfl⟩
  go_wp2
  go_ret
  exact ⟨hres.out,0,rfl⟩
def Hu (σ:Int) (w:World) (B:Nat) (A:Option Addr) (n c:Nat) (S X:List Int) (e:Ending) (w':World):Prop:=
 e= .returned (.tuple #[])∧∃ S1,cG .u32 128 w' B A n c S1∧Dg 4294967296 S1∧val 4294967296 S1=val 4294967296 S+σ*val 4294967296 X∧w.grownBy w' (fC A)
def wn (σ:Int) (w:World) (B:Nat) (A:Option Addr) (n c:Nat) (S X:List Int) (i:Nat) (cr:Int) (wr:World):Prop:=
 ∃ S1,cG .u32 128 wr B A n c S1∧ju 4294967296 σ S X S1 i cr∧w.grownBy wr (fC A)
theorem wn.set{σ:Int} {S:List Int} {cr:Int} {wr:World} (h:wn σ w B A n c S X i cr wr) (hi:i<n):
 ∃ g s,A=some ⟨g,0,none⟩∧B≤g∧(0≤s∧s<4294967296)∧(0≤cr∧cr≤1)∧wr.cell? ⟨g,i,none⟩=some (.int .u32 s)∧wr.frozen? ⟨g,i,none⟩=false∧
  ∀ d x cr',X[i]?.getD 0=x→(0≤d∧d<4294967296)→(0≤cr'∧cr'≤1)→d+σ*(4294967296*cr')=s+σ*(x+cr)→
   wn σ w B A n c S X (i+1) cr' (wr.setCell ⟨g,i,none⟩ (.int .u32 d)):=by
 obtain ⟨S1,ho,hc,hg⟩:=h
 obtain ⟨g,s,rfl,hB,hlt,hs,hcell,hfr,hput⟩:=ho.set hi
 refine ⟨g,s,rfl,hB,hc.dg.get hs,hc.c01,hcell,hfr,fun d x cr' hx hd hcr e=> ?_⟩
 obtain ⟨h1,h2⟩:=hput d
 refine ⟨_,h1,hc.step hs hx hd hcr e,?_⟩
 exact ⟨h2.os.trans hg.os,h2.tape.trans hg.tape,h2.output.trans hg.output,Nat.le_trans hg.size h2.size,fun k hk hne=>(h2.block k (Nat.lt_of_lt_of_le hk hg.size) hne).trans (hg.block k hk hne)⟩
theorem zf {w:World} {B:Nat} {A A2:Option Addr} {n c m c2:Nat} {S X:List Int} (ho:cG .u32 128 w B A n c S) (ht:Sl .u32 w B A2 m c2 X) (hB:B≤w.heap.size) (hS:Dg 4294967296 S) (hX:Dg 4294967296 X) (hmn:m≤n)
 (hfit:val 4294967296 S+val 4294967296 X<4294967296^n):
 Calls Tryz.prog 315 #[.slice A n c, .slice A2 m c2] w (Hu 1 w B A n c S X):=by
 have hlen:=ho.len
 have htl:=ht.len
 have hn:=ho.sl.lenMax
 have hm:=ht.lenMax
 rw [←hlen] at hfit
 have HF:=Lib.hid hfit
 clear hfit
 go_enter Tryz.func315,Tryz.ntmps315
 go_wp2_with fail
 go_loopw [4,10] (fun cv iv wr=>∃ (i:Nat) (cr:Int),i≤m∧iv= .int .i64 i∧cv= .int .u32 cr∧wn 1 w B A n c S X i cr wr) (fun _ iv _=>m - (intOf iv).toNat)
 case atStart=>exact ⟨0,0,Nat.zero_le _,rfl,rfl,S,ho, .start hS,World.grownBy.refl _ _⟩
 case round=>
  obtain ⟨i,cr,hi,rfl,rfl,hinv⟩:=hrel
  have hgr:w.grownBy wr (fC A):=hinv.choose_spec.2.2
  by_cases hlt:i<m
  ·obtain ⟨g,s,rfl,hBg,hs,hcr,hcell,hfr,hput⟩:=hinv.set (i:=i) qO
   obtain ⟨b2,off2,x,rfl,_,ex,hc2⟩:=(ht.grown hgr hB (fun k hk=>by have:g=k:=by simpa [fC] using hk
                                                                   omega)).at_ hlt
   have hxx:=hX.get ex
   have hin:i<n:=qO
   have hnext:=Lib.hid (hput ((s+x+cr)%4294967296) x ((s+x+cr) / 4294967296) (by simp [ex]) (lI qD hs hxx hcr).1 (lI qD hs hxx hcr).2.1 (lI qD hs hxx hcr).2.2)
   clear hput hgr hinv ho ht
   go_wp2_with (go_at_call 322;refine (lJ _ _ _ _ hs hxx hcr).mono ?_;rintro e w' ⟨rfl,rfl⟩)
   go_roundw
   case rel=>exact ⟨i+1,_,by omega,by go_num,rfl,hnext.out⟩
   case measure=>simp [intOf]<;>omega
  ·obtain rfl:m=i:=qO
   clear hgr
   go_wp2_with fail
   go_loopw [4,7] (fun cv iv wr=>∃ (i:Nat) (cr:Int),m≤i∧i≤n∧iv= .int .i64 i∧cv= .int .u32 cr∧wn 1 w B A n c S X i cr wr) (fun _ iv _=>n - (intOf iv).toNat)
   case atStart=>exact ⟨m,cr,Nat.le_refl _,hmn,rfl,rfl,hinv⟩
   case round=>
    obtain ⟨i,cr,hi,hin,rfl,rfl,hinv⟩:=hrel
    by_cases h0:cr=0
    ·subst h0
     obtain ⟨S1,h1,h2,h3⟩:=hinv
     go_wp2_with fail
     go_end0
     exact ⟨rfl,S1,h1,h2.dg,by rw [h2.stop qO qO],h3⟩
    ·have hb:(cr != 0)=true:=by rw [bne_iff_ne];exact h0
     have hlt2:i<n:=by
      obtain ⟨S1,h1,h2,h3⟩:=hinv
      have:=h2.room qD qO qO h0 HF.out
      omega
     obtain ⟨g,s,rfl,hBg,hs,hcr,hcell,hfr,hput⟩:=hinv.set (i:=i) hlt2
     have had:=lI (β:=4294967296) (x:=0) qD hs qD hcr
     rw [Int.add_zero] at had
     have hnext:=Lib.hid (hput ((s+cr)%4294967296) 0 ((s+cr) / 4294967296) (by rw [List.getElem?_eq_none (by omega)];rfl) had.1 had.2.1 had.2.2)
     clear hput hinv ho ht had
     go_wp2_with (go_at_call 322;refine (v_ _ _ _ hs hcr).mono ?_;rintro e w' ⟨rfl,rfl⟩)
     go_roundw
     case rel=>exact ⟨i+1,_,by omega,by omega,by go_num,rfl,hnext.out⟩
     case measure=>simp [intOf]<;>omega
theorem vH (x c:Int) (w:World) (hx:0≤x∧x<4294967296) (hc:0≤c∧c≤1):
 Calls Tryz.prog 339 #[.int .u32 x, .int .u32 0, .int .u32 c] w fun e w'=>e= .returned (.tuple #[.int .u32 ((x - c)%4294967296), .int .u32 (wZ x 0 c)])∧w=w':=by
 have:=lL x 0 c w hx qO hc
 rw [Int.sub_zero] at this
 exact this
theorem Aw (x y:Int) (w:World) (hx:0≤x∧x<4294967296) (hy:0≤y∧y<4294967296):
 Calls Tryz.prog 322 #[.int .u32 x, .int .u32 y, .int .u32 0] w fun e w'=>e= .returned (.tuple #[.int .u32 ((x+y)%4294967296), .int .u32 ((x+y) / 4294967296)])∧w=w':=by
 have:=lJ x y 0 w hx hy qO
 rw [Int.add_zero] at this
 exact this
theorem s_ {w:World} {B:Nat} {A A2:Option Addr} {n c m c2:Nat} {S X:List Int} (ho:cG .u32 128 w B A n c S) (ht:Sl .u32 w B A2 m c2 X) (hB:B≤w.heap.size) (hS:Dg 4294967296 S) (hX:Dg 4294967296 X) (hmn:m≤n)
 (hfit:val 4294967296 X≤val 4294967296 S):
 Calls Tryz.prog 332 #[.slice A n c, .slice A2 m c2] w (Hu (-1) w B A n c S X):=by
 have hlen:=ho.len
 have htl:=ht.len
 have hn:=ho.sl.lenMax
 have hm:=ht.lenMax
 have HF:=Lib.hid hfit
 clear hfit
 go_enter Tryz.func332,Tryz.ntmps332
 go_wp2_with fail
 go_loopw [4,10] (fun cv iv wr=>∃ (i:Nat) (cr:Int),i≤m∧iv= .int .i64 i∧cv= .int .u32 cr∧wn (-1) w B A n c S X i cr wr) (fun _ iv _=>m - (intOf iv).toNat)
 case atStart=>exact ⟨0,0,Nat.zero_le _,rfl,rfl,S,ho, .start hS,World.grownBy.refl _ _⟩
 case round=>
  obtain ⟨i,cr,hi,rfl,rfl,hinv⟩:=hrel
  have hgr:w.grownBy wr (fC A):=hinv.choose_spec.2.2
  by_cases hlt:i<m
  ·obtain ⟨g,s,rfl,hBg,hs,hcr,hcell,hfr,hput⟩:=hinv.set (i:=i) qO
   obtain ⟨b2,off2,x,rfl,_,ex,hc2⟩:=(ht.grown hgr hB (fun k hk=>by have:g=k:=by simpa [fC] using hk
                                                                   omega)).at_ hlt
   have hxx:=hX.get ex
   have hin:i<n:=qO
   have had:=rG hs hxx hcr rfl rfl
   have hnext:=Lib.hid (hput ((s - x - cr)%4294967296) x (wZ s x cr) (by simp [ex]) had.1 had.2.1 had.2.2)
   clear hput hgr hinv ho ht had
   go_wp2_with (go_at_call 339;refine (lL _ _ _ _ hs hxx hcr).mono ?_;rintro e w' ⟨rfl,rfl⟩)
   go_roundw
   case rel=>exact ⟨i+1,_,by omega,by go_num,rfl,hnext.out⟩
   case measure=>simp [intOf]<;>omega
  ·obtain rfl:m=i:=qO
   clear hgr
   go_wp2_with fail
   go_loopw [4,7] (fun cv iv wr=>∃ (i:Nat) (cr:Int),m≤i∧i≤n∧iv= .int .i64 i∧cv= .int .u32 cr∧wn (-1) w B A n c S X i cr wr) (fun _ iv _=>n - (intOf iv).toNat)
   case atStart=>exact ⟨m,cr,Nat.le_refl _,hmn,rfl,rfl,hinv⟩
   case round=>
    obtain ⟨i,cr,hi,hin,rfl,rfl,hinv⟩:=hrel
    by_cases h0:cr=0
    ·subst h0
     obtain ⟨S1,h1,h2,h3⟩:=hinv
     go_wp2_with fail
     go_end0
     exact ⟨rfl,S1,h1,h2.dg,by rw [h2.stop qO qO],h3⟩
    ·have hb:(cr != 0)=true:=by rw [bne_iff_ne];exact h0
     have hlt2:i<n:=by
      obtain ⟨S1,h1,h2,h3⟩:=hinv
      have:=h2.roomDown qD qO qO h0 HF.out
      omega
     obtain ⟨g,s,rfl,hBg,hs,hcr,hcell,hfr,hput⟩:=hinv.set (i:=i) hlt2
     have had:=rG (x:=0) hs qD hcr rfl rfl
     rw [Int.sub_zero] at had
     have hnext:=Lib.hid (hput ((s - cr)%4294967296) 0 (wZ s 0 cr) (by rw [List.getElem?_eq_none (by omega)];rfl) had.1 had.2.1 had.2.2)
     clear hput hinv ho ht had
     go_wp2_with (go_at_call 339;refine (vH _ _ _ hs hcr).mono ?_;rintro e w' ⟨rfl,rfl⟩)
     go_roundw
     case rel=>exact ⟨i+1,_,by omega,by omega,by go_num,rfl,hnext.out⟩
     case measure=>simp [intOf]<;>omega
def pP (w:World) (N:Int) (e:Ending) (w':World):Prop:=∃ ys,go 4294967296 N ys∧Hf w ys e w'
theorem cG.used{wr:World} {B2:Nat} {A':Option Addr} {n' c':Nat} (h:cG .u32 128 w B A n c xs) (hs:Sl .u32 wr B2 A' n' c' (tl xs)) (hA:(A'=none∧n'=0∧c'=0)∨(A'=A∧c'=c∧0<n')):
 cG .u32 128 w B A' n' c' (tl xs):=by
 have hl:=hs.len
 rcases hA with ⟨rfl,rfl,rfl⟩|⟨rfl,rfl,h0⟩
 ·rw [List.eq_nil_of_length_eq_zero hl];exact cG.nil
 ·have h1:=fX xs
  have h2:=h.len
  have hne:A'≠none:=by
   rintro rfl
   rcases h.form with ⟨_,h3,_⟩|⟨g,h3,_⟩
   ·omega
   ·cases h3
  have:=h.front (m:=n') qO hne
  have e:=DH xs
  rw [hl] at e
  rw [e]
  exact this
theorem kA{m:Int} (hs:Sl .u32 w B A n c xs) (hB:B≤w.heap.size) (hx:Dg 4294967296 xs) (hm:0≤m∧m<4294967296) (hn:n≤1000000000):
 Calls Tryz.prog 300 #[.slice A n c, .int .u32 m] w (pP w (m*val 4294967296 xs)):=by
 go_enter Tryz.func300,Tryz.ntmps300
 go_wp2_with fail
 refine (dX hs).mono ?_
 rintro e w' ⟨⟨A',n',c',rfl,hs',_⟩,rfl⟩
 have hl:=hs'.len
 have hn':n'≤1000000000:=by have:=fX xs;have:=hs.len;omega
 have hx':=dY hx
 have hv:Hid (val 4294967296 (tl xs)=val 4294967296 xs):=cx _ _
 generalize tl xs=X at*
 go_wp2_with (at_make;refine gx l9 rfl _ _ rfl (B:=w.heap.size) (n'+1) rfl rfl qO qO qO qR (Nat.le_refl _) ?_;intro w1 h1 hg1)
 have hmk:=Mk.made h1 hg1
 clear h1 hg1
 go_loopw [6,21] (fun hv iv wr=>∃ (i:Nat) (h:Int) (P:List Int),i≤n'∧iv= .int .i64 i∧hv= .int .u32 h∧Mk .u32 128 w (some ⟨w.heap.size,0,none⟩) (n'+1) (n'+1) P wr∧Prod 4294967296 m X P i h) (fun _ iv _=>n' - (intOf iv).toNat)
 case atStart=>exact ⟨0,0,_,Nat.zero_le _,rfl,rfl,hmk, .start qD (Dg.zeros qD _)⟩
 case round=>
  obtain ⟨i,h,P,hi,rfl,rfl,hmr,hp⟩:=hrel
  have hhi:=hp.high
  clear hmk
  by_cases hlt:i<n'
  ·obtain ⟨b2,off2,x,rfl,_,ex,hc2⟩:=(hmr.other hs' hB).at_ hlt
   obtain ⟨g,s,hg,_,_,hcell,hfr,hput⟩:=hmr.set (i:=i) qO
   obtain rfl:w.heap.size=g:=by simpa using hg
   have hxx:=hx'.get ex
   have hPl:=hmr.1.len
   obtain ⟨d1,d2,d3,d4,d5⟩:=yT hxx hm hhi
   have hmul:=yz x m wr hxx hm
   have hnext:=Lib.hid (hput ((x*m+h)%4294967296))
   have hstep:=Lib.hid (hp.step ex qO d3 d4 d5)
   clear hput hmr hp hs' hs d3 d5
   have had:=Aw (x*m%4294967296) h wr qO hhi
   have HM:=Lib.hid hmul
   have HA:=Lib.hid had
   clear hmul had
   go_wp2_with (first|(go_at_call 321;refine HM.out.mono ?_;rintro e w' ⟨rfl,rfl⟩)|(go_at_call 322;refine HA.out.mono ?_;rintro e w' ⟨rfl,rfl⟩))
   go_roundw
   case rel=>exact ⟨i+1,_,_,by omega,by go_num,rfl,hnext.out,hstep.out⟩
   case measure=>simp [intOf]<;>omega
  ·obtain rfl:n'=i:=qO
   obtain ⟨g,s,hg,_,_,hcell,hfr,hput⟩:=hmr.set (i:=n') qO
   obtain rfl:w.heap.size=g:=by simpa using hg
   have hfin:=hp.stop hl hmr.1.len
   have hnext:=Lib.hid (hput h)
   have HF:=Lib.hid hfin
   clear hput hfin hmr
   go_wp2_with fail
   refine (dX hnext.out.1.sl).mono ?_
   rintro e w' ⟨⟨A3,n3,c3,rfl,hs3,hA3⟩,rfl⟩
   go_wp2_with fail
   go_ret
   refine ⟨_,⟨dY HF.out.2,d_ _,?_⟩,_,_,_,rfl,hnext.out.1.used hs3 hA3,hnext.out.2⟩
   rw [cx,HF.out.1,hv.out]
def IU (w:World) (N d:Int) (e:Ending) (w':World):Prop:=
 ∃ ys A n c,go 4294967296 (N / d) ys∧e= .returned (.tuple #[.slice A n c, .int .u32 (N%d), .int .i64 0])∧cG .u32 128 w' w.heap.size A n c ys∧Below w.heap.size w w'
theorem tg{d:Int} (hs:Sl .u32 w B A n c xs) (hB:B≤w.heap.size) (hx:Dg 4294967296 xs) (hd:0<d∧d<4294967296) (hn:n≤1000000000):
 Calls Tryz.prog 333 #[.slice A n c, .int .u32 d] w (IU w (val 4294967296 xs) d):=by
 have hd0:(d==0)=false:=beq_eq_false_iff_ne.2 qO
 go_enter Tryz.func333,Tryz.ntmps333
 go_wp2_with fail
 refine (dX hs).mono ?_
 rintro e w' ⟨⟨A',n',c',rfl,hs',_⟩,rfl⟩
 have hl:=hs'.len
 have hn':n'≤1000000000:=by have:=fX xs;have:=hs.len;omega
 have hx':=dY hx
 have hv:Hid (val 4294967296 (tl xs)=val 4294967296 xs):=cx _ _
 generalize tl xs=X at*
 go_wp2_with (at_make;refine gx l9 rfl _ _ rfl (B:=w.heap.size) n' rfl rfl qO qO qO qR (Nat.le_refl _) ?_;intro w1 h1 hg1)
 have hmk:=Mk.made h1 hg1
 clear h1 hg1
 go_loopw [5,7] (fun rv iv wr=>∃ (k:Nat) (r:Int) (Q:List Int),k≤n'∧iv= .int .i64 ((k:Int) - 1)∧rv= .int .u32 r∧Mk .u32 128 w (some ⟨w.heap.size,0,none⟩) n' n' Q wr∧G8 4294967296 d X Q k r) (fun _ iv _=>(intOf iv+1).toNat)
 case atStart=>exact ⟨n',0,_,Nat.le_refl _,rfl,rfl,hmk, .start hd.1 (Dg.zeros qD _) qO qE⟩
 case round=>
  obtain ⟨k,r,Q,hk,rfl,rfl,hmr,hq⟩:=hrel
  have hr:=hq.rest
  clear hmk
  by_cases h0:k=0
  ·subst h0
   have HQ:=Lib.hid hq
   clear hq
   go_wp2_with fail
   refine (dX hmr.1.sl).mono ?_
   rintro e w' ⟨⟨A3,n3,c3,rfl,hs3,hA3⟩,rfl⟩
   have hnum:=HQ.out.num
   simp only [List.drop_zero] at hnum
   have e1:val 4294967296 X / d=val 4294967296 Q:=by
    rw [hnum,Int.add_comm,Int.add_mul_ediv_left _ _ qO,Int.ediv_eq_zero_of_lt hr.1 hr.2];omega
   have e2:val 4294967296 X%d=r:=by rw [hnum,Int.add_comm,Int.add_mul_emod_self_left,Int.emod_eq_of_lt hr.1 hr.2]
   have E1:=Lib.hid e1
   have E2:=Lib.hid e2
   clear e1 e2 hnum
   go_wp2_with fail
   go_ret3
   refine ⟨_,A3,n3,c3,⟨dY HQ.out.dg,d_ _,?_⟩,?_,hmr.1.used hs3 hA3,hmr.2⟩
   ·rw [cx,←hv.out,E1.out]
   ·rw [←hv.out,E2.out];rfl
  ·obtain ⟨j,rfl⟩:∃ j,k=j+1:=⟨k - 1,by omega⟩
   obtain ⟨b2,off2,x,rfl,_,ex,hc2⟩:=(hmr.other hs' hB).at_ (j:=j) qO
   obtain ⟨g,s,hg,_,_,hcell,hfr,hput⟩:=hmr.set (i:=j) qO
   obtain rfl:w.heap.size=g:=by simpa using hg
   have hxx:=hx'.get ex
   have hdiv:=su hxx hr
   have hstep:=Lib.hid (hq.step ex (by have:=hmr.1.len;omega) hdiv)
   have hnext:=Lib.hid fun m=>(hmr.drew m).set (i:=j) qO
   have HD:=Lib.hid (zc r x d wr hxx hr hd.2)
   clear hput hmr hq hs' hs
   go_wp2_with (go_at_call 340;refine HD.out.mono ?_;rintro e w' ⟨rfl,q,rfl⟩)
   obtain ⟨g,s,hg,_,_,_,_,hput⟩:=hnext.out q
   obtain rfl:w.heap.size=g:=by simpa using hg
   go_roundw
   case rel=>exact ⟨j,_,_,by omega,by simp,rfl,hput _,hstep.out⟩
   case measure=>simp [intOf]<;>omega
def tI (w:World) (N:Int) (e:Ending) (w':World):Prop:=
 ∃ ys A n c,go 4294967296 N ys∧e= .returned (.tuple #[.slice A n c, .int .i64 0])∧cG .u32 128 w' w.heap.size A n c ys∧Below w.heap.size w w'
theorem Below.of_drewN{w':World} {q:Nat} (h:Below B (w.drewN q) w'):Below B w w':=⟨h.os,h.tape,h.output,h.size,h.block⟩
theorem nh(hs:Sl .u32 w B A n c xs) (ht:Sl .u32 w B A2 m c2 ys) (hB:B≤w.heap.size) (hx:Dg 4294967296 xs) (hy:Dg 4294967296 ys) (hle:val 4294967296 ys≤val 4294967296 xs) (hn:n≤1000000000):
 Calls Tryz.prog 314 #[.slice A n c, .slice A2 m c2] w (tI w (val 4294967296 xs - val 4294967296 ys)):=by
 have HC:=Lib.hid (iI hs ht hx hy)
 go_enter Tryz.func314,Tryz.ntmps314
 go_wp2_with fail
 refine HC.out.mono ?_
 rintro e w' ⟨hr,q,rfl⟩
 obtain ⟨v,hv0,rfl⟩:∃ v:Int,0≤v∧e= .returned (.int .i64 v):=by
  unfold jD at hr
  refine ⟨_,?_,hr⟩
  unfold eP
  rw [if_neg qO]
  split<;>omega
 clear hr
 go_wp2_with fail
 refine (fi (hs.drew q) hn).mono ?_
 rintro e w1 ⟨A1,n1,c1,rfl,h1,hb1⟩
 have hb1':Below w.heap.size w w1:=Below.of_drewN hb1
 clear hb1
 go_wp2_with fail
 refine (dX (ht.below hb1' hB)).mono ?_
 rintro e w2 ⟨⟨A',n',c',rfl,hs',_⟩,rfl⟩
 have hl1:=h1.len
 have hl2:=hs'.len
 have hlen:n'≤n1:=by
  rcases Nat.lt_or_ge n1 n' with h|h
  ·have:=ga (β:=4294967296) qD (dY hx) (dY hy) (d_ ys) qO
   rw [cx,cx] at this
   omega
  ·exact h
 have h1':cG .u32 128 w1 w.heap.size A1 n1 c1 (tl xs):=h1
 go_wp2_with fail
 refine (s_ (h1'.lower hB) hs' (Nat.le_trans hB hb1'.size) (dY hx) (dY hy) hlen (by rw [cx,cx];exact hle)).mono ?_
 rintro e w2 ⟨rfl,S1,h2,hd2,hval,hg⟩
 have hb2:Below w.heap.size w w2:=hb1'.grown hg hb1'.size (fun k hk=>(h1'.blk_ k hk).1)
 have h2':cG .u32 128 w2 w.heap.size A1 n1 c1 S1:=h2.raise h1'
 go_wp2_with fail
 refine (dX h2'.sl).mono ?_
 rintro e w3 ⟨⟨A3,n3,c3,rfl,hs3,hA3⟩,rfl⟩
 go_wp2_with fail
 go_ret2
 refine ⟨_,A3,n3,c3,⟨dY hd2,d_ _,?_⟩,rfl,h2'.used hs3 hA3,hb2⟩
 rw [cx,hval,cx,cx]
 omega
def nJ (w:World) (B:Nat) (A:Option Addr) (n c:Nat) (xss:List (List Int)):Prop:=
 xss.length=n∧n≤c∧c≤maxLen∧(A=none→c=0)∧
  (0<n→∃ b off,A=some ⟨b,off,none⟩∧b<B∧∀ j xs,xss[j]? =some xs→∃ A' n' c',w.cell? ⟨b,off+j,none⟩=some (.slice A' n' c')∧Sl .u32 w B A' n' c' xs)
section
variable {w w':World} {B:Nat} {A:Option Addr} {n c:Nat} {xss:List (List Int)}
theorem nJ.keep (h:nJ w B A n c xss) (hk:∀ p:Addr,p.block<B→w'.cell? p=w.cell? p):nJ w' B A n c xss:=by
 refine ⟨h.1,h.2.1,h.2.2.1,h.2.2.2.1,fun hn=> ?_⟩
 obtain ⟨b,off,hA,hb,hc⟩:=h.2.2.2.2 hn
 refine ⟨b,off,hA,hb,fun j x hx=> ?_⟩
 obtain ⟨A',n',c',h1,h2⟩:=hc j x hx
 exact ⟨A',n',c',(hk _ hb).trans h1,h2.keep hk⟩
theorem nJ.below {B':Nat} (h:nJ w B A n c xss) (hb:Below B' w w') (hB:B≤B'):nJ w' B A n c xss:=h.keep fun _ hp=>hb.cell qO
theorem nJ.at_(h:nJ w B A n c xss) (hj:j<n):∃ b off xs A' n' c',A=some ⟨b,off,none⟩∧b<B∧xss[j]? =some xs∧w.cell? ⟨b,off+j,none⟩=some (.slice A' n' c')∧Sl .u32 w B A' n' c' xs:=by
 obtain ⟨b,off,hA,hb,hc⟩:=h.2.2.2.2 qO
 have hl:j<xss.length:=by have:=h.1;omega
 obtain ⟨A',n',c',h1,h2⟩:=hc j _ (List.getElem?_eq_getElem hl)
 exact ⟨b,off,xss[j],A',n',c',hA,hb,List.getElem?_eq_getElem hl,h1,h2⟩
theorem nJ.lenMax (h:nJ w B A n c xss):n≤9223372036854775807:=by
 have h1:=h.2.1
 have h2:=h.2.2.1
 unfold maxLen at h2
 omega
end
def jZ (xss:List (List Int)):Int:=(xss.map (val 4294967296)).sum
theorem nH (l:List (List Int)) (xs:List Int):jZ (l++[xs])=jZ l+val 4294967296 xs:=by simp [jZ]
def CJ (xss:List (List Int)) (i M:Nat):Prop:=∀ j xs,j<i→xss[j]? =some xs→(tl xs).length≤M
theorem CJ.step{M L:Nat} (h:CJ xss i M) (hx:xss[i]? =some xs) (hL:(tl xs).length=L):CJ xss (i+1) (max M L):=by
 intro j ys hj hy
 by_cases hji:j=i
 ·subst hji
  rw [hx] at hy
  injection hy with hy
  subst hy
  omega
 ·have:=h j ys qO hy
  omega
structure yO (xss:List (List Int)) (M i:Nat) (S:List Int):Prop where
 dg:Dg 4294967296 S
 num:val 4294967296 S=jZ (xss.take i)
 most:val 4294967296 S≤(i:Int)*4294967296^M
theorem yO.fit{M:Nat} {S:List Int} (h:yO xss M i S) (hx:Dg 4294967296 xs) (hl:(tl xs).length≤M) (hi:(i:Int)+1≤9223372036854775807):
 val 4294967296 S+val 4294967296 xs≤((i:Int)+1)*4294967296^M∧val 4294967296 S+val 4294967296 xs<4294967296^(M+2):=by
 refine DT hi h.most ?_
 rw [←cx]
 exact Int.lt_of_lt_of_le (dS qD (dY hx)) (bz qD hl)
theorem yO.step {xss:List (List Int)} {M i:Nat} {S S1 xs:List Int} (h:yO xss M i S) (ex:xss[i]? =some xs) (hd:Dg 4294967296 S1) (hv:val 4294967296 S1=val 4294967296 S+val 4294967296 xs)
 (hm:val 4294967296 S+val 4294967296 xs≤((i:Int)+1)*4294967296^M):yO xss M (i+1) S1:=by
 refine ⟨hd,?_,by rw [hv];exact hm⟩
 rw [hv,h.num,List.take_add_one,ex]
 exact (nH _ _).symm
theorem nJ.two(w:World) (hB:B≤w.heap.size) (hs:Sl .u32 w B A n c xs) (ht:Sl .u32 w B A2 m c2 ys) (t:TypeId):
 nJ (w.alloc (.cells #[.slice A n c, .slice A2 m c2] t)) (w.heap.size+1) (some ⟨w.heap.size,0,none⟩) 2 2 [xs,ys]:=by
 refine ⟨rfl,Nat.le_refl _,by unfold maxLen;omega,fun h=>(by cases h),fun _=>⟨w.heap.size,0,rfl,by omega,fun j zs hz=> ?_⟩⟩
 have hj:j<2:=(List.getElem?_eq_some_iff.1 hz).1
 rcases j with _|_|j
 ·simp at hz;subst hz
  exact ⟨A,n,c,by simp [World.cell?_alloc_new],(hs.alloc hB _).more qO⟩
 ·simp at hz;subst hz
  exact ⟨A2,m,c2,by simp [World.cell?_alloc_new],(ht.alloc hB _).more qO⟩
 ·omega
theorem sO(hs:nJ w B A n c xss) (hB:B≤w.heap.size) (hx:∀ xs∈xss,Dg 4294967296 xs) (hn:∀ xs∈xss,xs.length≤1000000000):
 Calls Tryz.prog 288 #[.slice A n c] w (pP w (jZ xss)):=by
 have hm:=hs.lenMax
 go_enter Tryz.func288,Tryz.ntmps288
 go_wp2_with fail
 go_loop [3,11] (fun mv iv=>∃ i M:Nat,i≤n∧M≤1000000000∧iv= .int .i64 i∧mv= .int .i64 M∧CJ xss i M) (fun _ iv=>n - (intOf iv).toNat)
 case atStart=>exact ⟨0,0,by omega,by omega,rfl,rfl,fun j xs h=>absurd h qO⟩
 case round=>
  obtain ⟨i,M,hi,hM,rfl,rfl,hmost⟩:=hrel
  by_cases hlt:i<n
  ·obtain ⟨b,off,xs,A',n',c',rfl,_,ex,hcell,hsl⟩:=hs.at_ hlt
   have hmem:=List.mem_of_getElem? ex
   go_wp2_with fail
   refine (dX hsl).mono ?_
   rintro e w' ⟨⟨A2,n2,c2,rfl,hs2,_⟩,rfl⟩
   have hl2:=hs2.len
   have hl3:n2≤1000000000:=by have:=hn xs hmem;have:=fX xs;omega
   have hstep:=Lib.hid (hmost.step ex hl2)
   clear hmost
   go_wp2_with fail
   go_round
   case rel=>exact ⟨i+1,max M n2,by omega,by omega,by go_num,congrArg (Value.int .i64) (by split<;>omega),hstep.out⟩
   case measure=>simp [intOf]<;>omega
  ·obtain rfl:n=i:=qO
   go_wp2_with (at_make;refine gx l9 rfl _ _ rfl (B:=w.heap.size) (M+2) rfl rfl qO qO qO qR (Nat.le_refl _) ?_;intro w1 h1 hg1)
   have hmk:=Mk.made h1 hg1
   clear h1 hg1
   go_loopw [26] (fun iv wr=>∃ (i:Nat) (S:List Int),i≤n∧iv= .int .i64 i∧Mk .u32 128 w (some ⟨w.heap.size,0,none⟩) (M+2) (M+2) S wr∧yO xss M i S) (fun iv _=>n - (intOf iv).toNat)
   case atStart=>exact ⟨0,_,Nat.zero_le _,rfl,hmk,Dg.zeros qD _,by rw [gV];rfl,by rw [gV];simp⟩
   case round=>
    obtain ⟨i,S,hi,rfl,hmr,hsum⟩:=hrel
    clear hmk
    by_cases hlt:i<n
    ·obtain ⟨b,off,xs,A',n',c',rfl,_,ex,hcell,hsl⟩:=(hs.below hmr.2 hB).at_ hlt
     have hmem:=List.mem_of_getElem? ex
     have hl:=hmost i xs hlt ex
     have hfit:=hsum.fit (hx xs hmem) hl qO
     have HS:=Lib.hid hsum
     have HF:=Lib.hid hfit
     have HM:=Lib.hid hmost
     clear hsum hfit hmost
     go_wp2_with fail
     refine (dX hsl).mono ?_
     rintro e w' ⟨⟨A2,n2,c2,rfl,hs2,_⟩,rfl⟩
     have hl2:=hs2.len
     go_wp2_with fail
     refine (zf (hmr.1.lower hB) hs2 (Nat.le_trans hB hmr.2.size) HS.out.1 (dY (hx xs hmem)) qO (by rw [cx];exact HF.out.2)).mono ?_
     rintro e w2 ⟨rfl,S1,h2,hd2,hval,hg⟩
     have hmk2:Mk .u32 128 w (some ⟨w.heap.size,0,none⟩) (M+2) (M+2) S1 w2:=
      ⟨h2.raise hmr.1,hmr.2.grown hg hmr.2.size (fun k hk=>(hmr.1.blk_ k hk).1)⟩
     have hnext:=Lib.hid (HS.out.step ex hd2 (by rw [hval,cx,Int.one_mul]) HF.out.1)
     clear hval h2 hmr hs hsl hs2
     go_wp2_with fail
     go_roundw
     case rel=>exact ⟨i+1,S1,by omega,by go_num,hmk2,hnext.out⟩
     case measure=>simp [intOf]<;>omega
    ·obtain rfl:n=i:=qO
     have HS:=Lib.hid hsum
     clear hsum
     go_wp2_with fail
     refine (dX hmr.1.sl).mono ?_
     rintro e w3 ⟨⟨A3,n3,c3,rfl,hs3,hA3⟩,rfl⟩
     go_wp2_with fail
     go_ret
     refine ⟨_,⟨dY HS.out.1,d_ _,?_⟩,A3,n3,c3,rfl,hmr.1.used hs3 hA3,hmr.2⟩
     rw [cx,HS.out.num,List.take_of_length_le (by rw [hs.1];omega)]
theorem w_(hs:Sl .u32 w B A n c xs) (ht:Sl .u32 w B A2 m c2 ys) (hB:B≤w.heap.size) (hx:Dg 4294967296 xs) (hy:Dg 4294967296 ys) (hn:n≤1000000000) (hm:m≤1000000000):
 Calls Tryz.prog 299 #[.slice A n c, .slice A2 m c2] w (pP w (val 4294967296 xs+val 4294967296 ys)):=by
 have hl1:=hs.len
 have hl2:=ht.len
 have hsl:=Lib.hid (nJ.two w hB hs ht 24)
 go_enter Tryz.func299,Tryz.ntmps299
 go_wp2_with fail
 refine (sO hsl.out qE (by simp [hx,hy]) (by simp;omega)).mono ?_
 rintro e w1 ⟨zs,hr,A3,n3,c3,rfl,h3,hb3⟩
 have hs3:jZ [xs,ys]=val 4294967296 xs+val 4294967296 ys:=by simp [jZ]
 rw [hs3] at hr
 have h4:=h3.lower (B':=w.heap.size) qE
 have hb4:Below w.heap.size w w1:=((Below.refl _ _).alloc (Nat.le_refl _) _).trans (hb3.mono qE)
 clear h3 hb3 hs3
 go_wp2_with fail
 go_ret
 exact ⟨zs,hr,A3,n3,c3,rfl,h4,hb4⟩
theorem xh{d:Nat} (hd:d≤32) (hy:0≤y∧y<2^d) (hx:0≤x):bits BinOp.or IntKind.u32 y (x*2^d%4294967296)=y+x*2^d%4294967296:=by
 have h1:=Int.emod_nonneg (x*2^d) (show (4294967296:Int)≠0 by decide)
 have h2:=Int.emod_lt_of_pos (x*2^d) (show (0:Int)<4294967296 by decide)
 have hp:=oJ hd
 have p:(0:Int)<2^d:=bp qD d
 have e:x*2^d%4294967296%2^d=0:=by
  rw [Int.emod_emod_of_dvd _ ⟨2^(32 - d),(iW hd).symm⟩,Int.mul_emod_left]
 have hc:bits BinOp.or IntKind.u32 y (x*2^d%4294967296)=bits BinOp.or IntKind.u32 (x*2^d%4294967296) y:=by
  rw [me,me,BitVec.or_comm]
 rw [hc,bits_join .u32 32 qD yo d _ _ h1 e qO hy.1 hy.2 qO]
 omega
theorem uw{s:Nat} (hs:Sl .u32 w B A n c X) (hB:B≤w.heap.size) (hx:Dg 4294967296 X) (hn:n≤1000000000) (hsm:s≤65536):
 Calls Tryz.prog 343 #[.slice A n c, .int .u64 s] w (pP w (2^s*val 4294967296 X)):=by
 have hl:=hs.len
 go_enter Tryz.func343,Tryz.ntmps343
 go_wp2_with (at_make;refine gx l9 rfl _ _ rfl (B:=w.heap.size) (n+s / 32+1) rfl rfl qO qO qO qR (Nat.le_refl _) ?_;intro w1 h1 hg1)
 have hmk:=Mk.made h1 hg1
 clear h1 hg1
 go_loopw [23] (fun iv wr=>∃ (i:Nat) (S:List Int) (q:Int),i≤n∧iv= .int .i64 i∧Mk .u32 128 w (some ⟨w.heap.size,0,none⟩) (n+s / 32+1) (n+s / 32+1) S wr∧Up (s%32) (s / 32) X S i q) (fun iv _=>n - (intOf iv).toNat)
 case atStart=>exact ⟨0,_,0,Nat.zero_le _,rfl,hmk, .start⟩
 case round=>
  obtain ⟨i,S,q,hi,rfl,hmr,hup⟩:=hrel
  clear hmk
  by_cases hlt:i<n
  ·obtain ⟨b2,off2,x,rfl,_,ex,hc2⟩:=(hmr.other hs hB).at_ hlt
   have hxx:=hx.get ex
   have hd:s%32≤32:=qO
   obtain ⟨g,y,hg,_,hy,hcell,hfr,hput⟩:=hmr.set (i:=i+s / 32) qO
   obtain rfl:w.heap.size=g:=by simpa using hg
   obtain rfl:y=q:=by have:=hup.here;rw [hy] at this;injection this
   obtain ⟨g2,y2,hg2,_,_,hcell2,hfr2,_⟩:=hmr.set (i:=i+s / 32+1) qO
   obtain rfl:w.heap.size=g2:=by simpa using hg2
   obtain ⟨g2,y3,hg2,_,_,_,_,hput2⟩:=(hput (y+x*2^(s%32)%4294967296)).set (i:=i+s / 32+1) qO
   obtain rfl:w.heap.size=g2:=by simpa using hg2
   have hor:=xh hd hup.small hxx.1
   have hnext:=Lib.hid (hput2 (x / 2^(32 - s%32)))
   have hstep:=Lib.hid (hup.step hd ex hxx (by have:=hmr.1.len;omega))
   clear hput hput2 hup hmr hs hy
   go_wp2
   go_roundw
   case rel=>exact ⟨i+1,_,_,by omega,by go_num,hnext.out,hstep.out⟩
   case measure=>simp [intOf]<;>omega
  ·obtain rfl:n=i:=qO
   have hfin:=Lib.hid (hup.stop hl hmr.1.len)
   have hdg:=hup.dg
   clear hup
   go_wp2_with fail
   refine (dX hmr.1.sl).mono ?_
   rintro e w3 ⟨⟨A3,n3,c3,rfl,hs3,hA3⟩,rfl⟩
   go_wp2_with fail
   go_ret
   refine ⟨_,⟨dY hdg,d_ _,?_⟩,A3,n3,c3,rfl,hmr.1.used hs3 hA3,hmr.2⟩
   rw [cx,hfin.out,ud s]
theorem q5{s:Nat} (hs:Sl .u32 w B A n c X) (hB:B≤w.heap.size) (hx:Dg 4294967296 X) (hn:n≤1000000000) (hsm:s≤9223372036854775808):
 Calls Tryz.prog 342 #[.slice A n c, .int .u64 s] w (pP w (val 4294967296 X / 2^s)):=by
 have hl:=hs.len
 by_cases hsl:n≤s / 32
 ·have hz:=sR hx (s:=s) qO
  have hd:decide ((n:Int)≤(s:Int) / 32)=true:=by simp;omega
  have hr:pP w (val 4294967296 X / 2^s) (.returned (.slice none 0 0)) w:=⟨[],⟨Dg.nil,Tr.nil,by rw [hz];rfl⟩,none,0,0,rfl,cG.nil,Below.refl _ _⟩
  have HR:=Lib.hid hr
  clear hr hz
  go_enter Tryz.func342,Tryz.ntmps342
  go_wp2
  go_ret
  exact HR.out
 ·have hd:decide ((n:Int)≤(s:Int) / 32)=false:=by simp;omega
  obtain ⟨b,off,_,hA,_,_,_⟩:=hs.at_ (j:=s / 32) qO
  have hback:=hs.back (m:=s / 32) qO
  have hcn:=hs.le
  rw [if_neg qO,hA] at hback
  simp only [Option.map_some,Addr.add_lit] at hback
  subst hA
  have hval:=Lib.hid (DI hx (L:=s / 32) qO (s%32))
  have hY:=hx.drop (s / 32)
  have hll:=hback.len
  generalize X.drop (s / 32)=Y at*
  clear hs
  have hmn:n - s / 32≤1000000000:=qO
  go_enter Tryz.func342,Tryz.ntmps342
  go_wp2_with (at_make;refine gx l9 rfl _ _ rfl (B:=w.heap.size) (n - s / 32) rfl rfl qO qO qO qR (Nat.le_refl _) ?_;intro w1 h1 hg1)
  have hmk:=Mk.made h1 hg1
  clear h1 hg1
  generalize n - s / 32=m at*
  generalize c - s / 32=c2 at*
  go_loopw [27] (fun iv wr=>∃ (i:Nat) (S:List Int),i≤m∧iv= .int .i64 i∧Mk .u32 128 w (some ⟨w.heap.size,0,none⟩) m m S wr∧s9 (s%32) Y S i) (fun iv _=>m - (intOf iv).toNat)
  case atStart=>exact ⟨0,_,Nat.zero_le _,rfl,hmk, .start⟩
  case round=>
   obtain ⟨i,S,hi,rfl,hmr,hdn⟩:=hrel
   clear hmk
   by_cases hlt:i<m
   ·obtain ⟨b2,off2,y,hA2,_,ey,hc2⟩:=(hmr.other hback hB).at_ hlt
    injection hA2 with hA2
    injection hA2 with e1 e2
    subst e1
    subst e2
    have hyy:=hY.get ey
    have hSl:=hmr.1.len
    obtain ⟨g,q,hg,_,hq,hcell,hfr,hput⟩:=hmr.set (i:=i) qO
    obtain rfl:w.heap.size=g:=by simpa using hg
    by_cases hi0:i=0
    ·subst hi0
     rw [Nat.add_zero] at hc2
     have hnext:=Lib.hid (hput (y / 2^(s%32)))
     have hstep:=Lib.hid (hdn.first ey hyy qO)
     clear hput hdn hmr hback hq
     go_wp2
     go_roundw
     case rel=>exact ⟨1,_,by omega,by go_num,hnext.out,hstep.out⟩
     case measure=>simp [intOf]<;>omega
    ·obtain ⟨j,rfl⟩:∃ j,i=j+1:=⟨i - 1,by omega⟩
     obtain ⟨g2,z,hg2,_,hz,hcell2,hfr2,_⟩:=hmr.set (i:=j) qO
     obtain rfl:w.heap.size=g2:=by simpa using hg2
     obtain ⟨hzz,hstp⟩:=hdn.next qO ey hyy hz hY qO
     obtain ⟨g2,z2,hg2,_,hz2,hz3,hz4,hput2⟩:=(hput (y / 2^(s%32))).set (i:=j) qO
     obtain rfl:w.heap.size=g2:=by simpa using hg2
     have hor:=xh (d:=32 - s%32) qO hzz hyy.1
     have hnext:=Lib.hid (hput2 (z+y*2^(32 - s%32)%4294967296))
     have hstep:=Lib.hid hstp
     clear hput hput2 hdn hmr hback hq hz hstp hz2 hz3 hz4
     go_wp2
     go_roundw
     case rel=>exact ⟨j+1+1,_,by omega,by go_num,hnext.out,hstep.out⟩
     case measure=>simp [intOf]<;>omega
   ·obtain rfl:m=i:=qO
    have hfin:=Lib.hid hdn
    clear hdn
    go_wp2_with fail
    refine (dX hmr.1.sl).mono ?_
    rintro e w3 ⟨⟨A3,n3,c3,rfl,hs3,hA3⟩,rfl⟩
    go_wp2_with fail
    go_ret
    refine ⟨_,⟨dY hfin.out.dg,d_ _,?_⟩,A3,n3,c3,rfl,hmr.1.used hs3 hA3,hmr.2⟩
    have hnum:=hfin.out.num
    rw [List.take_of_length_le (by have:=hmr.1.len;omega),List.take_of_length_le qO] at hnum
    rw [cx,hnum,hval.out,ud s]
theorem AY(h:(m:Int)≤9223372036854775808):IntKind.u64.wrap (-IntKind.u64.wrap (-(m:Int)))=(m:Int):=by
 have e:∀ n:Int,IntKind.u64.wrap n=n%18446744073709551616:=fun n=>by simp [IntKind.wrap,IntKind.bits,IntKind.signed]
 rw [e,e]
 omega
def mh (w:World) (N:Int) (n:Int) (e:Ending) (w':World):Prop:=
 if n<0 then tI w (N / 2^(-n).toNat) e w'
 else if N=0 then e= .returned (.tuple #[.slice none 0 0, .int .i64 0])∧Below w.heap.size w w'
 else if 65536<n then e= .returned (.tuple #[.slice none 0 0, .int .i64 3])∧Below w.heap.size w w'
 else tI w (2^n.toNat*N) e w'
theorem rS{s:Int} (hs:Sl .u32 w B A n c xs) (hB:B≤w.heap.size) (hx:Dg 4294967296 xs) (hn:n≤1000000000) (hs0: -9223372036854775808≤s) (hs1:s≤9223372036854775807):
 Calls Tryz.prog 336 #[.slice A n c, .int .i64 s] w (mh w (val 4294967296 xs) s):=by
 have hv:Hid (val 4294967296 (tl xs)=val 4294967296 xs):=cx _ _
 have hX:=dY hx
 have hT:=d_ xs
 have hll:(tl xs).length≤1000000000:=by have:=fX xs;have:=hs.len;omega
 by_cases hneg:s<0
 ·obtain ⟨m,rfl,hm⟩:∃ m:Nat,s= -(m:Int)∧0<m:=⟨(-s).toNat,by omega,by omega⟩
  have hw:IntKind.u64.wrap (-IntKind.u64.wrap (-(m:Int)))=(m:Int):=AY qO
  go_enter Tryz.func336,Tryz.ntmps336
  go_wp2_with fail
  refine (dX hs).mono ?_
  rintro e w' ⟨⟨A',n',c',rfl,hs',_⟩,rfl⟩
  have hl':=hs'.len
  go_wp2_with fail
  refine (q5 hs' hB hX qO qO).mono ?_
  rintro e w1 ⟨ys,hr,A3,n3,c3,rfl,h3,hb3⟩
  clear hw
  go_wp2_with fail
  go_ret2
  unfold mh
  rw [if_pos hneg]
  refine ⟨ys,A3,n3,c3,?_,rfl,h3,hb3⟩
  rw [←hv.out,show (- -(m:Int)).toNat=m by omega]
  exact hr
 ·obtain ⟨m,rfl⟩:∃ m:Nat,s=(m:Int):=⟨s.toNat,by omega⟩
  go_enter Tryz.func336,Tryz.ntmps336
  go_wp2_with fail
  refine (dX hs).mono ?_
  rintro e w' ⟨⟨A',n',c',rfl,hs',_⟩,rfl⟩
  have hl':=hs'.len
  by_cases h0:n'=0
  ·subst h0
   go_wp2_with fail
   go_ret2
   unfold mh
   rw [if_neg qO,if_pos (by rw [←hv.out,List.eq_nil_of_length_eq_zero hl'];rfl)]
   exact ⟨rfl,Below.refl _ _⟩
  ·have hbn:((n':Int)==0)=false:=beq_eq_false_iff_ne.2 qO
   have hvne:val 4294967296 xs≠0:=by
    intro h
    rw [←hv.out] at h
    have:=Tr.zero qD hX hT h
    rw [this] at hl'
    exact h0 hl'.symm
   by_cases hbig:65536<m
   ·go_wp2_with fail
    go_ret2
    unfold mh
    rw [if_neg qO,if_neg hvne,if_pos qO]
    exact ⟨rfl,Below.refl _ _⟩
   ·go_wp2_with fail
    refine (uw hs' hB hX qO qO).mono ?_
    rintro e w1 ⟨ys,hr,A3,n3,c3,rfl,h3,hb3⟩
    go_wp2_with fail
    go_ret2
    unfold mh
    rw [if_neg qO,if_neg hvne,if_neg qO]
    refine ⟨ys,A3,n3,c3,?_,rfl,h3,hb3⟩
    rw [←hv.out,Int.toNat_natCast]
    exact hr
def iq (w:World):Prop:=∀ h:Nat,h<128→w.cell? ⟨11,h,none⟩=some (.int .u8 (lf.getD h 0))
theorem iq.below{w':World} (h:iq w) (hb:Below B w w') (hB:11<B):iq w':=fun i hi=>(hb.cell (p:=⟨_,i,none⟩) hB).trans (h i hi)
def HY (N:Int) (e:Ending):Prop:=∃ b:Nat,eK N b∧e= .returned (.int .i64 b)
theorem ni(hs:Sl .u32 w B A n c xs) (hT:iq w) (hx:Dg 4294967296 xs) (hn:n≤1000000000):
 Calls Tryz.prog 326 #[.slice A n c] w fun e w'=>HY (val 4294967296 xs) e∧w=w':=by
 have hv:Hid (val 4294967296 (tl xs)=val 4294967296 xs):=cx _ _
 have hX:=dY hx
 have hTr:=d_ xs
 have hll:(tl xs).length≤1000000000:=by have:=fX xs;have:=hs.len;omega
 have HT:=Lib.hid hT
 clear hT
 go_enter Tryz.func326,Tryz.ntmps326
 go_wp2_with fail
 refine (dX hs).mono ?_
 rintro e w' ⟨⟨A',n',c',rfl,hs',_⟩,rfl⟩
 have hl':=hs'.len
 by_cases h0:n'=0
 ·subst h0
  go_wp2
  go_ret
  refine ⟨⟨0, .inl ⟨?_,rfl⟩,rfl⟩,rfl⟩
  rw [←hv.out,List.eq_nil_of_length_eq_zero hl'];rfl
 ·have hbn:((n':Int)==0)=false:=beq_eq_false_iff_ne.2 qO
  have hne:tl xs≠[]:=by intro h;rw [h] at hl';exact h0 hl'.symm
  obtain ⟨zs,z,ez,hz0,ezl⟩:=hTr.last hne
  obtain ⟨b,off,z',rfl,_,ez',hcell⟩:=hs'.at_ (j:=n' - 1) qO
  rw [hl',ez'] at ezl
  obtain rfl:z'=z:=by injection ezl
  have hzd:=hX.get ez'
  obtain ⟨t,rfl⟩:∃ t:Nat,z'=(t:Int):=⟨z'.toNat,by omega⟩
  have hzl:zs.length=n' - 1:=by have:=congrArg List.length ez;simp at this;omega
  have hstart:vh (val 4294967296 xs) (32*(n' - 1)+t) (32*(n' - 1)) t:=by
   refine ⟨by omega,Nat.le_refl _,fun b hb=> ?_⟩
   have hd:Dg 4294967296 zs:=by rw [ez] at hX;exact hX.left
   have:=eK.row (k:=32) qD hd qO hb
   rw [←ez,hzl,cx] at this
   exact this
  obtain ⟨m,rfl⟩:∃ m,n'=m+1:=⟨n' - 1,by omega⟩
  rw [show m+1 - 1=m by omega] at hcell hstart
  have ht:t<4294967296:=qO
  clear ez ez' ezl hzl hz0 hne
  go_wp2_with fail
  go_loop [3,4] (fun nv tv=>∃ i j:Nat,nv= .int .i64 i∧tv= .int .u32 j∧j≤t∧vh (val 4294967296 xs) (32*m+t) i j) (fun _ tv=>(intOf tv).toNat)
  case atStart=>exact ⟨32*m,t,by go_num,rfl,Nat.le_refl _,hstart⟩
  case round=>
   obtain ⟨i,j,rfl,rfl,hjt,hinv⟩:=hrel
   have hb1:=hinv.pos
   have hb2:=hinv.bound
   by_cases hj:255<j
   ·have hstep:=Lib.hid (hinv.step hj)
    clear hinv hstart
    go_wp2
    go_round
    case rel=>exact ⟨i+8,j / 256,by go_num,by go_num,by omega,hstep.out⟩
    case measure=>simp [intOf]<;>omega
   ·have hfin:=Lib.hid (hinv.num _ (yP qO qO))
    have hc2:=HT.out (j / 2) qO
    obtain ⟨p1,p2,_,_⟩:=ui (j / 2) qO
    generalize lf.getD (j / 2) 0=q at*
    obtain ⟨q,rfl⟩:∃ q':Nat,q=(q':Int):=⟨q.toNat,by omega⟩
    clear hinv hstart
    go_wp2
    go_ret
    refine ⟨⟨_,hfin.out,?_⟩,rfl⟩
    simp
    omega
def Df (e:Ending):Prop:=∃ v:Int,0≤v∧e= .returned (.int .i64 v)
theorem vP(hs:Sl .u32 w B A n c xs) (ht:Sl .u32 w B A2 m c2 ys) (hx:Dg 4294967296 xs) (hy:Dg 4294967296 ys) (h:val 4294967296 ys≤val 4294967296 xs):
 Calls Tryz.prog 285 #[.slice A n c, .slice A2 m c2] w fun e w'=>Df e∧Below w.heap.size w w':=by
 refine (iI hs ht hx hy).mono ?_
 rintro e w' ⟨hr,q,rfl⟩
 unfold jD at hr
 refine ⟨⟨_,?_,hr⟩,Below.drewN' (Below.refl _ _) q⟩
 unfold eP
 rw [if_neg qO]
 split<;>omega
theorem uM(hs:Sl .u32 w B A n c xs) (hB:B≤w.heap.size) (hx:Dg 4294967296 xs) (hn:n≤1000000000) (hm:m≤65536):
 Calls Tryz.prog 336 #[.slice A n c, .int .i64 m] w (tI w (2^m*val 4294967296 xs)):=by
 refine (rS hs hB hx hn qO qO).mono ?_
 intro e w' h
 unfold mh at h
 rw [if_neg qO] at h
 split at h
 ·rename_i h0
  obtain ⟨rfl,hb⟩:=h
  exact ⟨[],none,0,0,⟨Dg.nil,Tr.nil,by rw [h0,Int.mul_zero];rfl⟩,rfl,cG.nil,hb⟩
 ·rw [if_neg qO] at h
  exact h
theorem mw(hs:Sl .u32 w B A n c xs) (hB:B≤w.heap.size) (hx:Dg 4294967296 xs) (hn:n≤1000000000) (hm:m≤65536):
 Calls Tryz.prog 336 #[.slice A n c, .int .i64 (-(m:Int))] w (tI w (val 4294967296 xs / 2^m)):=by
 refine (rS hs hB hx hn qO qO).mono ?_
 intro e w' h
 unfold mh at h
 rcases Nat.eq_zero_or_pos m with h0|h0
 ·subst h0
  rw [if_neg qO] at h
  simp only [Int.pow_zero,Int.ediv_one]
  split at h
  ·rename_i h0
   obtain ⟨rfl,hb⟩:=h
   exact ⟨[],none,0,0,⟨Dg.nil,Tr.nil,by rw [h0];rfl⟩,rfl,cG.nil,hb⟩
  ·rw [if_neg qO] at h
   simpa using h
 ·rw [if_pos qO] at h
  simpa using h
def hv:List Int→List Int
 |[]=>[]
 |x::xs=>x%65536::x / 65536::hv xs
def Ie (w:World) (a b:Int) (e:Ending) (w':World):Prop:=e= .returned (.int .i64 (eP a b))∧Below w.heap.size w w'
end Go.Proofs.YtcpeiijdgabenaaGreatDoor
