/- limb: used, sign, Trim, Cmp: what each call answers. -/
import Derived.Test.YtjjkikchncfekaaGreatDoorProg
import Derived.Test.YtjjkikchncfekaaGreatDoorCA
import Derived.WalkLawsBesides
import Derived.Deep.QuietTactic
import Derived.BigQuiet
import Derived.Lib.Hide
import Derived.KernelRfl
import Derived.WalkKit
import Derived.WalkSpells
import Derived.Laws.BitsLemmas
import Derived.Deep.RegionHeld3
set_option maxHeartbeats 2000000
set_option linter.unusedSimpArgs false
set_option linter.unusedVariables false
namespace Go.Proofs.YtjjkikchncfekaaGreatDoor
open Go Go.RowKit
variable {B c n m c2 j i:Nat} {xs ys X:List Int} {w wr:World} {A A2:Option Addr} {x y:Int}
theorem jC:pP Tryz.prog 23 117 .u32 4:=⟨Tryz.underlying23,info_parts qK⟩
def tS (w:World) (B:Nat) (A:Option Addr) (c:Nat) (xs:List Int) (e:Ending):Prop:=
 ∃ A' n' c',e= .returned (.slice A' n' c')∧Sl .u32 w B A' n' c' (tl xs)∧((A'=none∧n'=0∧c'=0)∨(A'=A∧c'=c∧0<n'))
theorem tS.none_(h:tl xs=[]):tS w B A c xs (.returned (.slice none 0 0)):=
 ⟨none,0,0,rfl,by rw [h];exact Sl.nil, .inl ⟨rfl,rfl,rfl⟩⟩
theorem tS.some_(hs:Sl .u32 w B A n c xs) (hj:j+1≤n) (h:tl xs=xs.take (j+1)):tS w B A c xs (.returned (.slice A (j+1) c)):=
 ⟨A,j+1,c,rfl,by rw [h];exact hs.front hj, .inr ⟨rfl,rfl,by omega⟩⟩
theorem cY(hs:Sl .u32 w B A n c xs):
 Calls Tryz.prog 226 #[.slice A n c] w fun e w'=>tS w B A c xs e∧w=w':=by
 have hm:=hs.lenMax
 have hnc:=hs.le
 go_enter Tryz.func226,Tryz.ntmps226
 go_wp2
 go_loop [3] (fun i=>∃ k:Nat,k≤n∧i= .int .i64 k∧fm xs k) (fun i=>(intOf i).toNat)
 case atStart=>exact ⟨n,by omega,rfl, .start hs.len⟩
 case round=>
  obtain ⟨k,hk,rfl,ht⟩:=hrel
  by_cases h0:k=0
  ·subst h0
   go_wp2
   go_ret
   exact ⟨.none_ ht.zero,rfl⟩
  ·obtain ⟨j,rfl⟩:∃ j,k=j+1:=⟨k - 1,by omega⟩
   obtain ⟨b,off,x,rfl,_,hx,hcell⟩:=hs.at_ (j:=j) qO
   by_cases hx0:x=0
   ·subst hx0
    go_wp2
    go_round
    case rel=>exact ⟨j,by omega,rfl,ht.down hx⟩
    case measure=>simp [intOf]<;>omega
   ·have hb:(x==0)=false:=beq_eq_false_iff_ne.2 hx0
    have hj:(((j:Int)+1)==0)=false:=beq_eq_false_iff_ne.2 qO
    have hstop:=Lib.hid (ht.stop hx hx0)
    go_wp2
    go_ret
    exact ⟨.some_ hs hk hstop.out,rfl⟩
def Hq (b:Bool):Int:=if b then 1 else -1
theorem uv (b:Bool) (w:World):Calls Tryz.prog 246 #[.bool b] w fun e w'=>e= .returned (.int .i64 (Hq b))∧w=w':=by
 cases b<;>
 ·go_enter Tryz.func246,Tryz.ntmps246
  go_wp2
  go_ret
  exact ⟨rfl,rfl⟩
def H9 (w:World) (ys:List Int) (e:Ending) (w':World):Prop:=
 ∃ A n c,e= .returned (.slice A n c)∧bB .u32 117 w' w.heap.size A n c ys∧Below w.heap.size w w'
theorem eC(hs:Sl .u32 w B A n c xs) (hn:n≤1000000000):
 Calls Tryz.prog 211 #[.slice A n c] w (H9 w (tl xs)):=by
 go_enter Tryz.func211,Tryz.ntmps211
 go_wp2_with fail
 refine (cY hs).mono ?_
 rintro e w' ⟨⟨A',n',c',rfl,hs',_⟩,rfl⟩
 have hl:=hs'.len
 have hl2:=eo xs
 have hl3:=hs.len
 go_wp2_with (at_builtin;refine dG jC rfl _ _ rfl (bB.nil (B:=w.heap.size)) rfl hs' rfl qO qR (Nat.le_refl _) ?_;intro A2 c2 w2 h2 hg)
 rw [Nat.zero_add,List.nil_append] at h2
 go_ret
 exact ⟨_,_,_,rfl,h2,(Below.refl _ _).grown hg (Nat.le_refl _) (fun k hk=>by cases hk)⟩
def xf (x y c:Int):Int:=if x<y+c then 1 else 0
theorem Ba (x y c:Int):0≤xf x y c∧xf x y c≤1:=by unfold xf;split<;>omega
theorem Cn{c:Int} (hx:0≤x∧x<4294967296) (hy:0≤y∧y<4294967296) (hc:0≤c∧c≤1):(x - y - c)%4294967296=x - y - c+4294967296*xf x y c:=by
 unfold xf;split<;>omega
theorem yM (n:Int) (h0:0≤n) (h1:n<2^32):IntKind.u32.wrap n=n:=by rw [IntKind.wrap_u32];omega
theorem mT (n:Int) (h0:0≤n) (h1:n<2^64):IntKind.u64.wrap n=n:=by
 rw [show IntKind.u64.wrap n=n%18446744073709551616 by simp [IntKind.wrap,IntKind.bits,IntKind.signed]];omega
theorem pu(hx:0≤x∧x<4294967296) (hy:0≤y∧y<4294967296):bits .or .u64 (x*4294967296) y=x*4294967296+y:=
 bits_join .u64 64 qD mT 32 _ _ qO qO qO hy.1 qO qO
theorem oO (a:BitVec 32):a.msb=decide (2147483648≤a.toNat):=BitVec.msb_eq_decide a
theorem ofInt_u32(hx:0≤x∧x<4294967296):((BitVec.ofInt 32 x).toNat:Int)=x:=by
 rw [BitVec.toNat_ofInt];omega
theorem jK (r:BitVec 32):IntKind.u32.wrap (r.toNat:Int)=(r.toNat:Int):=by
 have:=r.isLt
 rw [IntKind.wrap_u32];omega
theorem uz (x y:Int):bits .and .u32 x y=((BitVec.ofInt 32 x &&& BitVec.ofInt 32 y).toNat:Int):=jK _
theorem lN (x y:Int):bits .or .u32 x y=((BitVec.ofInt 32 x ||| BitVec.ofInt 32 y).toNat:Int):=jK _
theorem uG (x y:Int):bits .xor .u32 x y=((BitVec.ofInt 32 x ^^^ BitVec.ofInt 32 y).toNat:Int):=jK _
theorem vZ (r:BitVec 32):BitVec.ofInt 32 (r.toNat:Int)=r:=by
 rw [BitVec.ofInt_natCast,BitVec.ofNat_toNat,BitVec.setWidth_eq]
theorem tq{c d:Int} (hx:0≤x∧x<4294967296) (hy:0≤y∧y<4294967296) (hc:0≤c∧c≤1) (hd:d=(x - y - c)%4294967296):
 bits BinOp.or IntKind.u32 (bits BinOp.and IntKind.u32 (bits BinOp.xor IntKind.u32 IntKind.u32.max x) y)
  (bits BinOp.and IntKind.u32 (bits BinOp.xor IntKind.u32 IntKind.u32.max (bits BinOp.xor IntKind.u32 x y)) d) / 2147483648=xf x y c:=by
 have hm:(BitVec.ofInt 32 IntKind.u32.max:BitVec 32)=BitVec.allOnes 32:=by decide
 simp only [uz,lN,uG,vZ,hm]
 have hX:=ofInt_u32 hx
 have hY:=ofInt_u32 hy
 have hD:=ofInt_u32 (x:=d) qO
 generalize BitVec.ofInt 32 x=X at*
 generalize BitVec.ofInt 32 y=Y at*
 generalize BitVec.ofInt 32 d=D at*
 generalize hR:(BitVec.allOnes 32 ^^^ X) &&& Y ||| (BitVec.allOnes 32 ^^^ (X ^^^ Y)) &&& D=R
 have hmsb:R.msb=((!X.msb&&Y.msb) || ((X.msb==Y.msb)&&D.msb)):=by
  rw [←hR]
  simp only [BitVec.msb_or,BitVec.msb_and,BitVec.msb_xor]
  rw [show (BitVec.allOnes 32).msb=true by decide]
  cases X.msb<;>cases Y.msb<;>cases D.msb<;>rfl
 rw [oO,oO,oO,oO] at hmsb
 have hl:=R.isLt
 unfold xf
 rcases Nat.lt_or_ge X.toNat 2147483648 with h1|h1<;>rcases Nat.lt_or_ge Y.toNat 2147483648 with h2|h2<;>rcases Nat.lt_or_ge D.toNat 2147483648 with h3|h3<;>
  rcases Nat.lt_or_ge R.toNat 2147483648 with h4|h4<;>simp [h1,h2,h3,h4,Nat.not_le.2,Nat.not_lt.2] at hmsb<;>split<;>omega
theorem lg (x y c:Int) (w:World) (hx:0≤x∧x<4294967296) (hy:0≤y∧y<4294967296) (hc:0≤c∧c≤1):
 Calls Tryz.prog 247 #[.int .u32 x, .int .u32 y, .int .u32 c] w fun e w'=>e= .returned (.tuple #[.int .u32 ((x+y+c)%4294967296), .int .u32 ((x+y+c) / 4294967296)])∧w=w':=by
 go_enter Tryz.func247,Tryz.ntmps247
 go_wp2
 go_ret2
 exact ⟨rfl,rfl⟩
theorem vM (x c:Int) (w:World) (hx:0≤x∧x<4294967296) (hc:0≤c∧c≤1):
 Calls Tryz.prog 247 #[.int .u32 x, .int .u32 0, .int .u32 c] w fun e w'=>e= .returned (.tuple #[.int .u32 ((x+c)%4294967296), .int .u32 ((x+c) / 4294967296)])∧w=w':=by
 have:=lg x 0 c w hx qO hc
 rw [Int.add_zero] at this
 exact this
theorem lh (x y c:Int) (w:World) (hx:0≤x∧x<4294967296) (hy:0≤y∧y<4294967296) (hc:0≤c∧c≤1):
 Calls Tryz.prog 256 #[.int .u32 x, .int .u32 y, .int .u32 c] w fun e w'=>e= .returned (.tuple #[.int .u32 ((x - y - c)%4294967296), .int .u32 (xf x y c)])∧w=w':=by
 have hsg:IntKind.u32.signed=false:=rfl
 have hb:=Lib.hid (tq hx hy hc rfl)
 go_enter Tryz.func256,Tryz.ntmps256
 go_wp2
 go_ret2
 rw [hb.out]
 refine ⟨?_,rfl⟩
 show Ending.returned (.tuple #[.int .u32 (((x - y)%4294967296 - c)%4294967296), .int .u32 (xf x y c)])=_
 rw [show ((x - y)%4294967296 - c)%4294967296=(x - y - c)%4294967296 by omega]
theorem yZ (x y:Int) (w:World) (hx:0≤x∧x<4294967296) (hy:0≤y∧y<4294967296):
 Calls Tryz.prog 263 #[.int .u32 x, .int .u32 y] w fun e w'=>e= .returned (.tuple #[.int .u32 (x*y / 4294967296), .int .u32 (x*y%4294967296)])∧w=w':=by
 have h0:0≤x*y:=Int.mul_nonneg hx.1 hy.1
 have h1:x*y≤4294967295*4294967295:=Int.mul_le_mul qO qO hy.1 qO
 go_enter Tryz.func263,Tryz.ntmps263
 go_wp2
 go_ret2
 exact ⟨rfl,rfl⟩
theorem rj{hi lo:Int} (hx:0≤lo∧lo<4294967296) (hy:0≤hi∧hi<y):0≤(hi*4294967296+lo) / y∧(hi*4294967296+lo) / y<4294967296:=by
 refine ⟨Int.ediv_nonneg qO qO,Int.ediv_lt_of_lt_mul qO ?_⟩
 have:(hi+1)*4294967296≤y*4294967296:=qO
 omega
theorem zK (hi lo y:Int) (w:World) (hx:0≤lo∧lo<4294967296) (hy:0≤hi∧hi<y) (hc:y<4294967296):
 Calls Tryz.prog 254 #[.int .u32 hi, .int .u32 lo, .int .u32 y] w fun e w'=>e= .returned (.tuple #[.int .u32 ((hi*4294967296+lo) / y), .int .u32 ((hi*4294967296+lo)%y)])∧∃ m,w'=w.drewN m:=by
 have hj:=pu (x:=hi) (y:=lo) qO hx
 have hd:=rj hx hy
 have hr0:=Int.emod_nonneg (hi*4294967296+lo) (show y≠0 by omega)
 have hr1:=Int.emod_lt_of_pos (hi*4294967296+lo) (show 0<y by omega)
 have hyb:(y != 0)=true:=by rw [bne_iff_ne];omega
 have hyd:decide (y≤hi)=false:=by simp;omega
 have hy1:1≤y:=qO
 go_enter Tryz.func254,Tryz.ntmps254
 go_wp2
 go_quiet (fail)
 go_wp2
 go_ret2
 exact ⟨rfl,_,rfl⟩
def jh (xs ys:List Int) (e:Ending):Prop:=e= .returned (.int .i64 (cF (val 4294967296 xs) (val 4294967296 ys)))
def nf (xs ys:List Int) (k:Nat):Prop:=xs.drop k=ys.drop k
theorem jh.same(h:nf (tl xs) (tl ys) 0):jh xs ys (.returned (.int .i64 0)):=by
 unfold jh
 rw [k9]
 unfold nf at h
 simp only [List.drop_zero] at h
 rw [←bu _ xs,←bu _ ys,h]
theorem jh.digit(hx:Dg 4294967296 xs) (hy:Dg 4294967296 ys) (h:nf (tl xs) (tl ys) (j+1)) (ex:(tl xs)[j]? =some x) (ey:(tl ys)[j]? =some y) (hne:x≠y):
 jh xs ys (.returned (.int .i64 (Hq (decide (y<x))))):=by
 unfold jh
 rw [←bu _ xs,←bu _ ys]
 by_cases hlt:y<x
 ·rw [gJ (ie qD (cy hy) (cy hx) j ey ex h.symm hlt)];simp [hlt,Hq]
 ·rw [ek (ie qD (cy hx) (cy hy) j ex ey h qO)];simp [hlt,Hq]
theorem jh.len(hx:Dg 4294967296 xs) (hy:Dg 4294967296 ys) {n1 n2:Nat} (h1:(tl xs).length=n1) (h2:(tl ys).length=n2) (hne:n1≠n2):
 jh xs ys (.returned (.int .i64 (Hq (decide (n2<n1))))):=by
 unfold jh
 rw [←bu _ xs,←bu _ ys]
 by_cases hlt:n2<n1
 ·rw [gJ (cU qD (cy hy) (cy hx) (cm xs) qO)];simp [hlt,Hq]
 ·rw [ek (cU qD (cy hx) (cy hy) (cm ys) qO)];simp [hlt,Hq]
theorem iu(hs:Sl .u32 w B A n c xs) (ht:Sl .u32 w B A2 m c2 ys) (hx:Dg 4294967296 xs) (hy:Dg 4294967296 ys):
 Calls Tryz.prog 224 #[.slice A n c, .slice A2 m c2] w fun e w'=>jh xs ys e∧∃ m,w'=w.drewN m:=by
 go_enter Tryz.func224,Tryz.ntmps224
 go_wp2_with fail
 refine (cY hs).mono ?_
 rintro e w' ⟨⟨A',n',c',rfl,hs',_⟩,rfl⟩
 go_wp2_with fail
 refine (cY ht).mono ?_
 rintro e w' ⟨⟨A2',m',c2',rfl,ht',_⟩,rfl⟩
 have hb1:=hs'.lenMax
 have hb2:=ht'.lenMax
 by_cases hne:n'=m'
 ·subst hne
  go_wp2_with fail
  go_loopw [5] (fun i wr=>∃ k q:Nat,k≤n'∧i= .int .i64 ((k:Int) - 1)∧nf (tl xs) (tl ys) k∧wr=w.drewN q) (fun i _=>(intOf i+1).toNat)
  case atStart=>
   refine ⟨n',0,Nat.le_refl _,rfl,?_,rfl⟩
   unfold nf
   rw [List.drop_of_length_le (by rw [hs'.len];omega),List.drop_of_length_le (by rw [ht'.len];omega)]
  case round=>
   obtain ⟨k,q,hk,rfl,hal,rfl⟩:=hrel
   by_cases h0:k=0
   ·subst h0
    go_wp2
    go_ret
    exact ⟨.same hal,q,rfl⟩
   ·obtain ⟨j,rfl⟩:∃ j,k=j+1:=⟨k - 1,by omega⟩
    obtain ⟨b,off,x,rfl,_,ex,hc1⟩:=hs'.at_ (j:=j) qO
    obtain ⟨b2,off2,y,rfl,_,ey,hc2⟩:=ht'.at_ (j:=j) qO
    have hji:(j:Int)<(n':Int):=qO
    by_cases hxy:x=y
    ·subst hxy
     go_wp2
     go_quiet (fail)
     go_wp2
     go_roundw
     case rel=>
      refine ⟨j,_,by omega,by simp,?_,rfl⟩
      unfold nf at*
      rw [mD ex,mD ey,hal]
     case measure=>simp [intOf]
    ·have hb:(x != y)=true:=by rw [bne_iff_ne];exact hxy
     have hres:=Lib.hid (jh.digit hx hy hal ex ey hxy)
     go_wp2
     go_quiet (fail)
     go_wp2
     go_quiet ((go_at_call 246;refine (uv _ _).mono ?_;rintro e w1 ⟨rfl,rfl⟩;exact ⟨rfl,_,rfl⟩))
     go_wp2
     go_ret
     exact ⟨hres.out,_,by simp only [World.drewN_drewN];rfl⟩
 ·have hb:((n':Int) != (m':Int))=true:=by rw [bne_iff_ne];omega
  have hres:=Lib.hid (jh.len hx hy hs'.len ht'.len hne)
  go_wp2_with fail
  refine (uv _ _).mono ?_
  rintro e w' ⟨rfl,rfl⟩
  go_wp2
  go_ret
  exact ⟨hres.out,0,rfl⟩
def Il (σ:Int) (w:World) (B:Nat) (A:Option Addr) (n c:Nat) (S X:List Int) (e:Ending) (w':World):Prop:=
 e= .returned (.tuple #[])∧∃ S1,bB .u32 117 w' B A n c S1∧Dg 4294967296 S1∧val 4294967296 S1=val 4294967296 S+σ*val 4294967296 X∧w.grownBy w' (eT A)
def vW (σ:Int) (w:World) (B:Nat) (A:Option Addr) (n c:Nat) (S X:List Int) (i:Nat) (cr:Int) (wr:World):Prop:=
 ∃ S1,bB .u32 117 wr B A n c S1∧i8 4294967296 σ S X S1 i cr∧w.grownBy wr (eT A)
theorem vW.set{σ:Int} {S:List Int} {cr:Int} (h:vW σ w B A n c S X i cr wr) (hi:i<n):
 ∃ g s,A=some ⟨g,0,none⟩∧B≤g∧(0≤s∧s<4294967296)∧(0≤cr∧cr≤1)∧wr.cell? ⟨g,i,none⟩=some (.int .u32 s)∧wr.frozen? ⟨g,i,none⟩=false∧
  ∀ d x cr',X[i]?.getD 0=x→(0≤d∧d<4294967296)→(0≤cr'∧cr'≤1)→d+σ*(4294967296*cr')=s+σ*(x+cr)→
   vW σ w B A n c S X (i+1) cr' (wr.setCell ⟨g,i,none⟩ (.int .u32 d)):=by
 obtain ⟨S1,ho,hc,hg⟩:=h
 obtain ⟨g,s,rfl,hB,hlt,hs,hcell,hfr,hput⟩:=ho.set hi
 refine ⟨g,s,rfl,hB,hc.dg.get hs,hc.c01,hcell,hfr,fun d x cr' hx hd hcr e=> ?_⟩
 obtain ⟨h1,h2⟩:=hput d
 refine ⟨_,h1,hc.step hs hx hd hcr e,?_⟩
 exact ⟨h2.os.trans hg.os,h2.tape.trans hg.tape,h2.output.trans hg.output,Nat.le_trans hg.size h2.size,fun k hk hne=>(h2.block k (Nat.lt_of_lt_of_le hk hg.size) hne).trans (hg.block k hk hne)⟩
theorem zO {w:World} {B:Nat} {A A2:Option Addr} {n c m c2:Nat} {S X:List Int} (ho:bB .u32 117 w B A n c S) (ht:Sl .u32 w B A2 m c2 X) (hB:B≤w.heap.size) (hS:Dg 4294967296 S) (hX:Dg 4294967296 X) (hmn:m≤n)
 (hfit:val 4294967296 S+val 4294967296 X<4294967296^n):
 Calls Tryz.prog 227 #[.slice A n c, .slice A2 m c2] w (Il 1 w B A n c S X):=by
 have hlen:=ho.len
 have htl:=ht.len
 have hn:=ho.sl.lenMax
 have hm:=ht.lenMax
 rw [←hlen] at hfit
 have HF:=Lib.hid hfit
 clear hfit
 go_enter Tryz.func227,Tryz.ntmps227
 go_wp2_with fail
 go_loopw [4,10] (fun cv iv wr=>∃ (i:Nat) (cr:Int),i≤m∧iv= .int .i64 i∧cv= .int .u32 cr∧vW 1 w B A n c S X i cr wr) (fun _ iv _=>m - (intOf iv).toNat)
 case atStart=>exact ⟨0,0,Nat.zero_le _,rfl,rfl,S,ho, .start hS,World.grownBy.refl _ _⟩
 case round=>
  obtain ⟨i,cr,hi,rfl,rfl,hinv⟩:=hrel
  have hgr:w.grownBy wr (eT A):=hinv.choose_spec.2.2
  by_cases hlt:i<m
  ·obtain ⟨g,s,rfl,hBg,hs,hcr,hcell,hfr,hput⟩:=hinv.set (i:=i) qO
   obtain ⟨b2,off2,x,rfl,_,ex,hc2⟩:=(ht.grown hgr hB (fun k hk=>by have:g=k:=by simpa [eT] using hk
                                                                   omega)).at_ hlt
   have hxx:=hX.get ex
   have hin:i<n:=qO
   have hnext:=Lib.hid (hput ((s+x+cr)%4294967296) x ((s+x+cr) / 4294967296) (by simp [ex]) (ld qD hs hxx hcr).1 (ld qD hs hxx hcr).2.1 (ld qD hs hxx hcr).2.2)
   clear hput hgr hinv ho ht
   go_wp2_with (go_at_call 247;refine (lg _ _ _ _ hs hxx hcr).mono ?_;rintro e w' ⟨rfl,rfl⟩)
   go_roundw
   case rel=>exact ⟨i+1,_,by omega,by go_num,rfl,hnext.out⟩
   case measure=>simp [intOf]<;>omega
  ·obtain rfl:m=i:=qO
   clear hgr
   go_wp2_with fail
   go_loopw [4,7] (fun cv iv wr=>∃ (i:Nat) (cr:Int),m≤i∧i≤n∧iv= .int .i64 i∧cv= .int .u32 cr∧vW 1 w B A n c S X i cr wr) (fun _ iv _=>n - (intOf iv).toNat)
   case atStart=>exact ⟨m,cr,Nat.le_refl _,hmn,rfl,rfl,hinv⟩
   case round=>
    obtain ⟨i,cr,hi,hin,rfl,rfl,hinv⟩:=hrel
    by_cases h0:cr=0
    ·subst h0
     obtain ⟨S1,h1,h2,h3⟩:=hinv
     go_wp2_with fail
     go_end0
     exact ⟨rfl,S1,h1,h2.dg,by rw [h2.stop qO qO],h3⟩
    ·have hb:(cr != 0)=true:=by rw [bne_iff_ne];exact h0
     have hlt2:i<n:=by
      obtain ⟨S1,h1,h2,h3⟩:=hinv
      have:=h2.room qD qO qO h0 HF.out
      omega
     obtain ⟨g,s,rfl,hBg,hs,hcr,hcell,hfr,hput⟩:=hinv.set (i:=i) hlt2
     have had:=ld (β:=4294967296) (x:=0) qD hs qD hcr
     rw [Int.add_zero] at had
     have hnext:=Lib.hid (hput ((s+cr)%4294967296) 0 ((s+cr) / 4294967296) (by rw [List.getElem?_eq_none (by omega)];rfl) had.1 had.2.1 had.2.2)
     clear hput hinv ho ht had
     go_wp2_with (go_at_call 247;refine (vM _ _ _ hs hcr).mono ?_;rintro e w' ⟨rfl,rfl⟩)
     go_roundw
     case rel=>exact ⟨i+1,_,by omega,by omega,by go_num,rfl,hnext.out⟩
     case measure=>simp [intOf]<;>omega
theorem vo (x c:Int) (w:World) (hx:0≤x∧x<4294967296) (hc:0≤c∧c≤1):
 Calls Tryz.prog 256 #[.int .u32 x, .int .u32 0, .int .u32 c] w fun e w'=>e= .returned (.tuple #[.int .u32 ((x - c)%4294967296), .int .u32 (xf x 0 c)])∧w=w':=by
 have:=lh x 0 c w hx qO hc
 rw [Int.sub_zero] at this
 exact this
theorem AZ (x y:Int) (w:World) (hx:0≤x∧x<4294967296) (hy:0≤y∧y<4294967296):
 Calls Tryz.prog 247 #[.int .u32 x, .int .u32 y, .int .u32 0] w fun e w'=>e= .returned (.tuple #[.int .u32 ((x+y)%4294967296), .int .u32 ((x+y) / 4294967296)])∧w=w':=by
 have:=lg x y 0 w hx hy qO
 rw [Int.add_zero] at this
 exact this
theorem si {w:World} {B:Nat} {A A2:Option Addr} {n c m c2:Nat} {S X:List Int} (ho:bB .u32 117 w B A n c S) (ht:Sl .u32 w B A2 m c2 X) (hB:B≤w.heap.size) (hS:Dg 4294967296 S) (hX:Dg 4294967296 X) (hmn:m≤n)
 (hfit:val 4294967296 X≤val 4294967296 S):
 Calls Tryz.prog 245 #[.slice A n c, .slice A2 m c2] w (Il (-1) w B A n c S X):=by
 have hlen:=ho.len
 have htl:=ht.len
 have hn:=ho.sl.lenMax
 have hm:=ht.lenMax
 have HF:=Lib.hid hfit
 clear hfit
 go_enter Tryz.func245,Tryz.ntmps245
 go_wp2_with fail
 go_loopw [4,10] (fun cv iv wr=>∃ (i:Nat) (cr:Int),i≤m∧iv= .int .i64 i∧cv= .int .u32 cr∧vW (-1) w B A n c S X i cr wr) (fun _ iv _=>m - (intOf iv).toNat)
 case atStart=>exact ⟨0,0,Nat.zero_le _,rfl,rfl,S,ho, .start hS,World.grownBy.refl _ _⟩
 case round=>
  obtain ⟨i,cr,hi,rfl,rfl,hinv⟩:=hrel
  have hgr:w.grownBy wr (eT A):=hinv.choose_spec.2.2
  by_cases hlt:i<m
  ·obtain ⟨g,s,rfl,hBg,hs,hcr,hcell,hfr,hput⟩:=hinv.set (i:=i) qO
   obtain ⟨b2,off2,x,rfl,_,ex,hc2⟩:=(ht.grown hgr hB (fun k hk=>by have:g=k:=by simpa [eT] using hk
                                                                   omega)).at_ hlt
   have hxx:=hX.get ex
   have hin:i<n:=qO
   have had:=qk hs hxx hcr rfl rfl
   have hnext:=Lib.hid (hput ((s - x - cr)%4294967296) x (xf s x cr) (by simp [ex]) had.1 had.2.1 had.2.2)
   clear hput hgr hinv ho ht had
   go_wp2_with (go_at_call 256;refine (lh _ _ _ _ hs hxx hcr).mono ?_;rintro e w' ⟨rfl,rfl⟩)
   go_roundw
   case rel=>exact ⟨i+1,_,by omega,by go_num,rfl,hnext.out⟩
   case measure=>simp [intOf]<;>omega
  ·obtain rfl:m=i:=qO
   clear hgr
   go_wp2_with fail
   go_loopw [4,7] (fun cv iv wr=>∃ (i:Nat) (cr:Int),m≤i∧i≤n∧iv= .int .i64 i∧cv= .int .u32 cr∧vW (-1) w B A n c S X i cr wr) (fun _ iv _=>n - (intOf iv).toNat)
   case atStart=>exact ⟨m,cr,Nat.le_refl _,hmn,rfl,rfl,hinv⟩
   case round=>
    obtain ⟨i,cr,hi,hin,rfl,rfl,hinv⟩:=hrel
    by_cases h0:cr=0
    ·subst h0
     obtain ⟨S1,h1,h2,h3⟩:=hinv
     go_wp2_with fail
     go_end0
     exact ⟨rfl,S1,h1,h2.dg,by rw [h2.stop qO qO],h3⟩
    ·have hb:(cr != 0)=true:=by rw [bne_iff_ne];exact h0
     have hlt2:i<n:=by
      obtain ⟨S1,h1,h2,h3⟩:=hinv
      have:=h2.roomDown qD qO qO h0 HF.out
      omega
     obtain ⟨g,s,rfl,hBg,hs,hcr,hcell,hfr,hput⟩:=hinv.set (i:=i) hlt2
     have had:=qk (x:=0) hs qD hcr rfl rfl
     rw [Int.sub_zero] at had
     have hnext:=Lib.hid (hput ((s - cr)%4294967296) 0 (xf s 0 cr) (by rw [List.getElem?_eq_none (by omega)];rfl) had.1 had.2.1 had.2.2)
     clear hput hinv ho ht had
     go_wp2_with (go_at_call 256;refine (vo _ _ _ hs hcr).mono ?_;rintro e w' ⟨rfl,rfl⟩)
     go_roundw
     case rel=>exact ⟨i+1,_,by omega,by omega,by go_num,rfl,hnext.out⟩
     case measure=>simp [intOf]<;>omega
def mp (w:World) (N:Int) (e:Ending) (w':World):Prop:=∃ ys,fM 4294967296 N ys∧H9 w ys e w'
theorem bB.used{B2:Nat} {A':Option Addr} {n' c':Nat} (h:bB .u32 117 w B A n c xs) (hs:Sl .u32 wr B2 A' n' c' (tl xs)) (hA:(A'=none∧n'=0∧c'=0)∨(A'=A∧c'=c∧0<n')):
 bB .u32 117 w B A' n' c' (tl xs):=by
 have hl:=hs.len
 rcases hA with ⟨rfl,rfl,rfl⟩|⟨rfl,rfl,h0⟩
 ·rw [List.eq_nil_of_length_eq_zero hl];exact bB.nil
 ·have h1:=eo xs
  have h2:=h.len
  have hne:A'≠none:=by
   rintro rfl
   rcases h.form with ⟨_,h3,_⟩|⟨g,h3,_⟩
   ·omega
   ·cases h3
  have:=h.front (m:=n') qO hne
  have e:=xI xs
  rw [hl] at e
  rw [e]
  exact this
theorem th{m:Int} (hs:Sl .u32 w B A n c xs) (hB:B≤w.heap.size) (hx:Dg 4294967296 xs) (hm:0≤m∧m<4294967296) (hn:n≤1000000000):
 Calls Tryz.prog 259 #[.slice A n c, .int .u32 m] w (mp w (m*val 4294967296 xs)):=by
 go_enter Tryz.func259,Tryz.ntmps259
 go_wp2_with fail
 refine (cY hs).mono ?_
 rintro e w' ⟨⟨A',n',c',rfl,hs',_⟩,rfl⟩
 have hl:=hs'.len
 have hn':n'≤1000000000:=by have:=eo xs;have:=hs.len;omega
 have hx':=cy hx
 have hv:Hid (val 4294967296 (tl xs)=val 4294967296 xs):=bu _ _
 generalize tl xs=X at*
 go_wp2_with (at_make;refine d_ jC rfl _ _ rfl (B:=w.heap.size) (n'+1) rfl rfl qO qO qO qR (Nat.le_refl _) ?_;intro w1 h1 hg1)
 have hmk:=Mk.made h1 hg1
 clear h1 hg1
 go_loopw [6,21] (fun hv iv wr=>∃ (i:Nat) (h:Int) (P:List Int),i≤n'∧iv= .int .i64 i∧hv= .int .u32 h∧Mk .u32 117 w (some ⟨w.heap.size,0,none⟩) (n'+1) (n'+1) P wr∧Prod 4294967296 m X P i h) (fun _ iv _=>n' - (intOf iv).toNat)
 case atStart=>exact ⟨0,0,_,Nat.zero_le _,rfl,rfl,hmk, .start qD (Dg.zeros qD _)⟩
 case round=>
  obtain ⟨i,h,P,hi,rfl,rfl,hmr,hp⟩:=hrel
  have hhi:=hp.high
  clear hmk
  by_cases hlt:i<n'
  ·obtain ⟨b2,off2,x,rfl,_,ex,hc2⟩:=(hmr.other hs' hB).at_ hlt
   obtain ⟨g,s,hg,_,_,hcell,hfr,hput⟩:=hmr.set (i:=i) qO
   obtain rfl:w.heap.size=g:=by simpa using hg
   have hxx:=hx'.get ex
   have hPl:=hmr.1.len
   obtain ⟨d1,d2,d3,d4,d5⟩:=zq hxx hm hhi
   have hmul:=yZ x m wr hxx hm
   have hnext:=Lib.hid (hput ((x*m+h)%4294967296))
   have hstep:=Lib.hid (hp.step ex qO d3 d4 d5)
   clear hput hmr hp hs' hs d3 d5
   have had:=AZ (x*m%4294967296) h wr qO hhi
   have HM:=Lib.hid hmul
   have HA:=Lib.hid had
   clear hmul had
   go_wp2_with (first|(go_at_call 263;refine HM.out.mono ?_;rintro e w' ⟨rfl,rfl⟩)|(go_at_call 247;refine HA.out.mono ?_;rintro e w' ⟨rfl,rfl⟩))
   go_roundw
   case rel=>exact ⟨i+1,_,_,by omega,by go_num,rfl,hnext.out,hstep.out⟩
   case measure=>simp [intOf]<;>omega
  ·obtain rfl:n'=i:=qO
   obtain ⟨g,s,hg,_,_,hcell,hfr,hput⟩:=hmr.set (i:=n') qO
   obtain rfl:w.heap.size=g:=by simpa using hg
   have hfin:=hp.stop hl hmr.1.len
   have hnext:=Lib.hid (hput h)
   have HF:=Lib.hid hfin
   clear hput hfin hmr
   go_wp2_with fail
   refine (cY hnext.out.1.sl).mono ?_
   rintro e w' ⟨⟨A3,n3,c3,rfl,hs3,hA3⟩,rfl⟩
   go_wp2_with fail
   go_ret
   refine ⟨_,⟨cy HF.out.2,cm _,?_⟩,_,_,_,rfl,hnext.out.1.used hs3 hA3,hnext.out.2⟩
   rw [bu,HF.out.1,hv.out]
def Jk (w:World) (N d:Int) (e:Ending) (w':World):Prop:=
 ∃ ys A n c,fM 4294967296 (N / d) ys∧e= .returned (.tuple #[.slice A n c, .int .u32 (N%d), .int .i64 0])∧bB .u32 117 w' w.heap.size A n c ys∧Below w.heap.size w w'
theorem sj{d:Int} (hs:Sl .u32 w B A n c xs) (hB:B≤w.heap.size) (hx:Dg 4294967296 xs) (hd:0<d∧d<4294967296) (hn:n≤1000000000):
 Calls Tryz.prog 243 #[.slice A n c, .int .u32 d] w (Jk w (val 4294967296 xs) d):=by
 have hd0:(d==0)=false:=beq_eq_false_iff_ne.2 qO
 go_enter Tryz.func243,Tryz.ntmps243
 go_wp2_with fail
 refine (cY hs).mono ?_
 rintro e w' ⟨⟨A',n',c',rfl,hs',_⟩,rfl⟩
 have hl:=hs'.len
 have hn':n'≤1000000000:=by have:=eo xs;have:=hs.len;omega
 have hx':=cy hx
 have hv:Hid (val 4294967296 (tl xs)=val 4294967296 xs):=bu _ _
 generalize tl xs=X at*
 go_wp2_with (at_make;refine d_ jC rfl _ _ rfl (B:=w.heap.size) n' rfl rfl qO qO qO qR (Nat.le_refl _) ?_;intro w1 h1 hg1)
 have hmk:=Mk.made h1 hg1
 clear h1 hg1
 go_loopw [5,7] (fun rv iv wr=>∃ (k:Nat) (r:Int) (Q:List Int),k≤n'∧iv= .int .i64 ((k:Int) - 1)∧rv= .int .u32 r∧Mk .u32 117 w (some ⟨w.heap.size,0,none⟩) n' n' Q wr∧FC 4294967296 d X Q k r) (fun _ iv _=>(intOf iv+1).toNat)
 case atStart=>exact ⟨n',0,_,Nat.le_refl _,rfl,rfl,hmk, .start hd.1 (Dg.zeros qD _) qO qE⟩
 case round=>
  obtain ⟨k,r,Q,hk,rfl,rfl,hmr,hq⟩:=hrel
  have hr:=hq.rest
  clear hmk
  by_cases h0:k=0
  ·subst h0
   have HQ:=Lib.hid hq
   clear hq
   go_wp2_with fail
   refine (cY hmr.1.sl).mono ?_
   rintro e w' ⟨⟨A3,n3,c3,rfl,hs3,hA3⟩,rfl⟩
   have hnum:=HQ.out.num
   simp only [List.drop_zero] at hnum
   have e1:val 4294967296 X / d=val 4294967296 Q:=by
    rw [hnum,Int.add_comm,Int.add_mul_ediv_left _ _ qO,Int.ediv_eq_zero_of_lt hr.1 hr.2];omega
   have e2:val 4294967296 X%d=r:=by rw [hnum,Int.add_comm,Int.add_mul_emod_self_left,Int.emod_eq_of_lt hr.1 hr.2]
   have E1:=Lib.hid e1
   have E2:=Lib.hid e2
   clear e1 e2 hnum
   go_wp2_with fail
   go_ret3
   refine ⟨_,A3,n3,c3,⟨cy HQ.out.dg,cm _,?_⟩,?_,hmr.1.used hs3 hA3,hmr.2⟩
   ·rw [bu,←hv.out,E1.out]
   ·rw [←hv.out,E2.out];rfl
  ·obtain ⟨j,rfl⟩:∃ j,k=j+1:=⟨k - 1,by omega⟩
   obtain ⟨b2,off2,x,rfl,_,ex,hc2⟩:=(hmr.other hs' hB).at_ (j:=j) qO
   obtain ⟨g,s,hg,_,_,hcell,hfr,hput⟩:=hmr.set (i:=j) qO
   obtain rfl:w.heap.size=g:=by simpa using hg
   have hxx:=hx'.get ex
   have hdiv:=rj hxx hr
   have hstep:=Lib.hid (hq.step ex (by have:=hmr.1.len;omega) hdiv)
   have hnext:=Lib.hid fun m=>(hmr.drew m).set (i:=j) qO
   have HD:=Lib.hid (zK r x d wr hxx hr hd.2)
   clear hput hmr hq hs' hs
   go_wp2_with (go_at_call 254;refine HD.out.mono ?_;rintro e w' ⟨rfl,q,rfl⟩)
   obtain ⟨g,s,hg,_,_,_,_,hput⟩:=hnext.out q
   obtain rfl:w.heap.size=g:=by simpa using hg
   go_roundw
   case rel=>exact ⟨j,_,_,by omega,by simp,rfl,hput _,hstep.out⟩
   case measure=>simp [intOf]<;>omega
def zI (w:World) (N:Int) (e:Ending) (w':World):Prop:=
 ∃ ys A n c,fM 4294967296 N ys∧e= .returned (.tuple #[.slice A n c, .int .i64 0])∧bB .u32 117 w' w.heap.size A n c ys∧Below w.heap.size w w'
theorem Below.of_drewN{w':World} {q:Nat} (h:Below B (w.drewN q) w'):Below B w w':=⟨h.os,h.tape,h.output,h.size,h.block⟩
theorem mF(hs:Sl .u32 w B A n c xs) (ht:Sl .u32 w B A2 m c2 ys) (hB:B≤w.heap.size) (hx:Dg 4294967296 xs) (hy:Dg 4294967296 ys) (hle:val 4294967296 ys≤val 4294967296 xs) (hn:n≤1000000000):
 Calls Tryz.prog 222 #[.slice A n c, .slice A2 m c2] w (zI w (val 4294967296 xs - val 4294967296 ys)):=by
 have HC:=Lib.hid (iu hs ht hx hy)
 go_enter Tryz.func222,Tryz.ntmps222
 go_wp2_with fail
 refine HC.out.mono ?_
 rintro e w' ⟨hr,q,rfl⟩
 obtain ⟨v,hv0,rfl⟩:∃ v:Int,0≤v∧e= .returned (.int .i64 v):=by
  unfold jh at hr
  refine ⟨_,?_,hr⟩
  unfold cF
  rw [if_neg qO]
  split<;>omega
 clear hr
 go_wp2_with fail
 refine (eC (hs.drew q) hn).mono ?_
 rintro e w1 ⟨A1,n1,c1,rfl,h1,hb1⟩
 have hb1':Below w.heap.size w w1:=Below.of_drewN hb1
 clear hb1
 go_wp2_with fail
 refine (cY (ht.below hb1' hB)).mono ?_
 rintro e w2 ⟨⟨A',n',c',rfl,hs',_⟩,rfl⟩
 have hl1:=h1.len
 have hl2:=hs'.len
 have hlen:n'≤n1:=by
  rcases Nat.lt_or_ge n1 n' with h|h
  ·have:=cU (β:=4294967296) qD (cy hx) (cy hy) (cm ys) qO
   rw [bu,bu] at this
   omega
  ·exact h
 have h1':bB .u32 117 w1 w.heap.size A1 n1 c1 (tl xs):=h1
 go_wp2_with fail
 refine (si (h1'.lower hB) hs' (Nat.le_trans hB hb1'.size) (cy hx) (cy hy) hlen (by rw [bu,bu];exact hle)).mono ?_
 rintro e w2 ⟨rfl,S1,h2,hd2,hval,hg⟩
 have hb2:Below w.heap.size w w2:=hb1'.grown hg hb1'.size (fun k hk=>(h1'.blk_ k hk).1)
 have h2':bB .u32 117 w2 w.heap.size A1 n1 c1 S1:=h2.raise h1'
 go_wp2_with fail
 refine (cY h2'.sl).mono ?_
 rintro e w3 ⟨⟨A3,n3,c3,rfl,hs3,hA3⟩,rfl⟩
 go_wp2_with fail
 go_ret2
 refine ⟨_,A3,n3,c3,⟨cy hd2,cm _,?_⟩,rfl,h2'.used hs3 hA3,hb2⟩
 rw [bu,hval,bu,bu]
 omega
def mS (w:World) (B:Nat) (A:Option Addr) (n c:Nat) (xss:List (List Int)):Prop:=
 xss.length=n∧n≤c∧c≤maxLen∧(A=none→c=0)∧
  (0<n→∃ b off,A=some ⟨b,off,none⟩∧b<B∧∀ j xs,xss[j]? =some xs→∃ A' n' c',w.cell? ⟨b,off+j,none⟩=some (.slice A' n' c')∧Sl .u32 w B A' n' c' xs)
section
variable {w w':World} {B:Nat} {A:Option Addr} {n c:Nat} {xss:List (List Int)}
theorem mS.keep (h:mS w B A n c xss) (hk:∀ p:Addr,p.block<B→w'.cell? p=w.cell? p):mS w' B A n c xss:=by
 refine ⟨h.1,h.2.1,h.2.2.1,h.2.2.2.1,fun hn=> ?_⟩
 obtain ⟨b,off,hA,hb,hc⟩:=h.2.2.2.2 hn
 refine ⟨b,off,hA,hb,fun j x hx=> ?_⟩
 obtain ⟨A',n',c',h1,h2⟩:=hc j x hx
 exact ⟨A',n',c',(hk _ hb).trans h1,h2.keep hk⟩
theorem mS.below {B':Nat} (h:mS w B A n c xss) (hb:Below B' w w') (hB:B≤B'):mS w' B A n c xss:=h.keep fun _ hp=>hb.cell qO
theorem mS.at_(h:mS w B A n c xss) (hj:j<n):∃ b off xs A' n' c',A=some ⟨b,off,none⟩∧b<B∧xss[j]? =some xs∧w.cell? ⟨b,off+j,none⟩=some (.slice A' n' c')∧Sl .u32 w B A' n' c' xs:=by
 obtain ⟨b,off,hA,hb,hc⟩:=h.2.2.2.2 qO
 have hl:j<xss.length:=by have:=h.1;omega
 obtain ⟨A',n',c',h1,h2⟩:=hc j _ (List.getElem?_eq_getElem hl)
 exact ⟨b,off,xss[j],A',n',c',hA,hb,List.getElem?_eq_getElem hl,h1,h2⟩
theorem mS.lenMax (h:mS w B A n c xss):n≤9223372036854775807:=by
 have h1:=h.2.1
 have h2:=h.2.2.1
 unfold maxLen at h2
 omega
end
def jA (xss:List (List Int)):Int:=(xss.map (val 4294967296)).sum
theorem mR (l:List (List Int)) (xs:List Int):jA (l++[xs])=jA l+val 4294967296 xs:=by simp [jA]
def C7 (xss:List (List Int)) (i M:Nat):Prop:=∀ j xs,j<i→xss[j]? =some xs→(tl xs).length≤M
theorem C7.step {xss:List (List Int)} {i M L:Nat} (h:C7 xss i M) {xs:List Int} (hx:xss[i]? =some xs) (hL:(tl xs).length=L):C7 xss (i+1) (max M L):=by
 intro j ys hj hy
 by_cases hji:j=i
 ·subst hji
  rw [hx] at hy
  injection hy with hy
  subst hy
  omega
 ·have:=h j ys qO hy
  omega
structure zk (xss:List (List Int)) (M i:Nat) (S:List Int):Prop where
 dg:Dg 4294967296 S
 num:val 4294967296 S=jA (xss.take i)
 most:val 4294967296 S≤(i:Int)*4294967296^M
theorem zk.fit{xss:List (List Int)} {M:Nat} {S:List Int} (h:zk xss M i S) (hx:Dg 4294967296 xs) (hl:(tl xs).length≤M) (hi:(i:Int)+1≤9223372036854775807):
 val 4294967296 S+val 4294967296 xs≤((i:Int)+1)*4294967296^M∧val 4294967296 S+val 4294967296 xs<4294967296^(M+2):=by
 refine Ex hi h.most ?_
 rw [←bu]
 exact Int.lt_of_lt_of_le (ci qD (cy hx)) (aX qD hl)
theorem zk.step {xss:List (List Int)} {M i:Nat} {S S1 xs:List Int} (h:zk xss M i S) (ex:xss[i]? =some xs) (hd:Dg 4294967296 S1) (hv:val 4294967296 S1=val 4294967296 S+val 4294967296 xs)
 (hm:val 4294967296 S+val 4294967296 xs≤((i:Int)+1)*4294967296^M):zk xss M (i+1) S1:=by
 refine ⟨hd,?_,by rw [hv];exact hm⟩
 rw [hv,h.num,List.take_add_one,ex]
 exact (mR _ _).symm
theorem mS.two(w:World) (hB:B≤w.heap.size) (hs:Sl .u32 w B A n c xs) (ht:Sl .u32 w B A2 m c2 ys) (t:TypeId):
 mS (w.alloc (.cells #[.slice A n c, .slice A2 m c2] t)) (w.heap.size+1) (some ⟨w.heap.size,0,none⟩) 2 2 [xs,ys]:=by
 refine ⟨rfl,Nat.le_refl _,by unfold maxLen;omega,fun h=>(by cases h),fun _=>⟨w.heap.size,0,rfl,by omega,fun j zs hz=> ?_⟩⟩
 have hj:j<2:=(List.getElem?_eq_some_iff.1 hz).1
 rcases j with _|_|j
 ·simp at hz;subst hz
  exact ⟨A,n,c,by simp [World.cell?_alloc_new],(hs.alloc hB _).more qO⟩
 ·simp at hz;subst hz
  exact ⟨A2,m,c2,by simp [World.cell?_alloc_new],(ht.alloc hB _).more qO⟩
 ·omega
theorem rJ{xss:List (List Int)} (hs:mS w B A n c xss) (hB:B≤w.heap.size) (hx:∀ xs∈xss,Dg 4294967296 xs) (hn:∀ xs∈xss,xs.length≤1000000000):
 Calls Tryz.prog 185 #[.slice A n c] w (mp w (jA xss)):=by
 have hm:=hs.lenMax
 go_enter Tryz.func185,Tryz.ntmps185
 go_wp2_with fail
 go_loop [3,11] (fun mv iv=>∃ i M:Nat,i≤n∧M≤1000000000∧iv= .int .i64 i∧mv= .int .i64 M∧C7 xss i M) (fun _ iv=>n - (intOf iv).toNat)
 case atStart=>exact ⟨0,0,by omega,by omega,rfl,rfl,fun j xs h=>absurd h qO⟩
 case round=>
  obtain ⟨i,M,hi,hM,rfl,rfl,hmost⟩:=hrel
  by_cases hlt:i<n
  ·obtain ⟨b,off,xs,A',n',c',rfl,_,ex,hcell,hsl⟩:=hs.at_ hlt
   have hmem:=List.mem_of_getElem? ex
   go_wp2_with fail
   refine (cY hsl).mono ?_
   rintro e w' ⟨⟨A2,n2,c2,rfl,hs2,_⟩,rfl⟩
   have hl2:=hs2.len
   have hl3:n2≤1000000000:=by have:=hn xs hmem;have:=eo xs;omega
   have hstep:=Lib.hid (hmost.step ex hl2)
   clear hmost
   go_wp2_with fail
   go_round
   case rel=>exact ⟨i+1,max M n2,by omega,by omega,by go_num,congrArg (Value.int .i64) (by split<;>omega),hstep.out⟩
   case measure=>simp [intOf]<;>omega
  ·obtain rfl:n=i:=qO
   go_wp2_with (at_make;refine d_ jC rfl _ _ rfl (B:=w.heap.size) (M+2) rfl rfl qO qO qO qR (Nat.le_refl _) ?_;intro w1 h1 hg1)
   have hmk:=Mk.made h1 hg1
   clear h1 hg1
   go_loopw [26] (fun iv wr=>∃ (i:Nat) (S:List Int),i≤n∧iv= .int .i64 i∧Mk .u32 117 w (some ⟨w.heap.size,0,none⟩) (M+2) (M+2) S wr∧zk xss M i S) (fun iv _=>n - (intOf iv).toNat)
   case atStart=>exact ⟨0,_,Nat.zero_le _,rfl,hmk,Dg.zeros qD _,by rw [gy];rfl,by rw [gy];simp⟩
   case round=>
    obtain ⟨i,S,hi,rfl,hmr,hsum⟩:=hrel
    clear hmk
    by_cases hlt:i<n
    ·obtain ⟨b,off,xs,A',n',c',rfl,_,ex,hcell,hsl⟩:=(hs.below hmr.2 hB).at_ hlt
     have hmem:=List.mem_of_getElem? ex
     have hl:=hmost i xs hlt ex
     have hfit:=hsum.fit (hx xs hmem) hl qO
     have HS:=Lib.hid hsum
     have HF:=Lib.hid hfit
     have HM:=Lib.hid hmost
     clear hsum hfit hmost
     go_wp2_with fail
     refine (cY hsl).mono ?_
     rintro e w' ⟨⟨A2,n2,c2,rfl,hs2,_⟩,rfl⟩
     have hl2:=hs2.len
     go_wp2_with fail
     refine (zO (hmr.1.lower hB) hs2 (Nat.le_trans hB hmr.2.size) HS.out.1 (cy (hx xs hmem)) qO (by rw [bu];exact HF.out.2)).mono ?_
     rintro e w2 ⟨rfl,S1,h2,hd2,hval,hg⟩
     have hmk2:Mk .u32 117 w (some ⟨w.heap.size,0,none⟩) (M+2) (M+2) S1 w2:=
      ⟨h2.raise hmr.1,hmr.2.grown hg hmr.2.size (fun k hk=>(hmr.1.blk_ k hk).1)⟩
     have hnext:=Lib.hid (HS.out.step ex hd2 (by rw [hval,bu,Int.one_mul]) HF.out.1)
     clear hval h2 hmr hs hsl hs2
     go_wp2_with fail
     go_roundw
     case rel=>exact ⟨i+1,S1,by omega,by go_num,hmk2,hnext.out⟩
     case measure=>simp [intOf]<;>omega
    ·obtain rfl:n=i:=qO
     have HS:=Lib.hid hsum
     clear hsum
     go_wp2_with fail
     refine (cY hmr.1.sl).mono ?_
     rintro e w3 ⟨⟨A3,n3,c3,rfl,hs3,hA3⟩,rfl⟩
     go_wp2_with fail
     go_ret
     refine ⟨_,⟨cy HS.out.1,cm _,?_⟩,A3,n3,c3,rfl,hmr.1.used hs3 hA3,hmr.2⟩
     rw [bu,HS.out.num,List.take_of_length_le (by rw [hs.1];omega)]
theorem Dn(hs:Sl .u32 w B A n c xs) (ht:Sl .u32 w B A2 m c2 ys) (hB:B≤w.heap.size) (hx:Dg 4294967296 xs) (hy:Dg 4294967296 ys) (hn:n≤1000000000) (hm:m≤1000000000):
 Calls Tryz.prog 221 #[.slice A n c, .slice A2 m c2] w (mp w (val 4294967296 xs+val 4294967296 ys)):=by
 have hl1:=hs.len
 have hl2:=ht.len
 have hsl:=Lib.hid (mS.two w hB hs ht 23)
 go_enter Tryz.func221,Tryz.ntmps221
 go_wp2_with fail
 refine (rJ hsl.out qE (by simp [hx,hy]) (by simp;omega)).mono ?_
 rintro e w1 ⟨zs,hr,A3,n3,c3,rfl,h3,hb3⟩
 have hs3:jA [xs,ys]=val 4294967296 xs+val 4294967296 ys:=by simp [jA]
 rw [hs3] at hr
 have h4:=h3.lower (B':=w.heap.size) qE
 have hb4:Below w.heap.size w w1:=((Below.refl _ _).alloc (Nat.le_refl _) _).trans (hb3.mono qE)
 clear h3 hb3 hs3
 go_wp2_with fail
 go_ret
 exact ⟨zs,hr,A3,n3,c3,rfl,h4,hb4⟩
theorem xw{d:Nat} (hd:d≤32) (hy:0≤y∧y<2^d) (hx:0≤x):bits BinOp.or IntKind.u32 y (x*2^d%4294967296)=y+x*2^d%4294967296:=by
 have h1:=Int.emod_nonneg (x*2^d) (show (4294967296:Int)≠0 by decide)
 have h2:=Int.emod_lt_of_pos (x*2^d) (show (0:Int)<4294967296 by decide)
 have hp:=nQ hd
 have p:(0:Int)<2^d:=aL qD d
 have e:x*2^d%4294967296%2^d=0:=by
  rw [Int.emod_emod_of_dvd _ ⟨2^(32 - d),(iB hd).symm⟩,Int.mul_emod_left]
 have hc:bits BinOp.or IntKind.u32 y (x*2^d%4294967296)=bits BinOp.or IntKind.u32 (x*2^d%4294967296) y:=by
  rw [lN,lN,BitVec.or_comm]
 rw [hc,bits_join .u32 32 qD yM d _ _ h1 e qO hy.1 hy.2 qO]
 omega
theorem tZ{s:Nat} (hs:Sl .u32 w B A n c X) (hB:B≤w.heap.size) (hx:Dg 4294967296 X) (hn:n≤1000000000) (hsm:s≤65536):
 Calls Tryz.prog 258 #[.slice A n c, .int .u64 s] w (mp w (2^s*val 4294967296 X)):=by
 have hl:=hs.len
 go_enter Tryz.func258,Tryz.ntmps258
 go_wp2_with (at_make;refine d_ jC rfl _ _ rfl (B:=w.heap.size) (n+s / 32+1) rfl rfl qO qO qO qR (Nat.le_refl _) ?_;intro w1 h1 hg1)
 have hmk:=Mk.made h1 hg1
 clear h1 hg1
 go_loopw [23] (fun iv wr=>∃ (i:Nat) (S:List Int) (q:Int),i≤n∧iv= .int .i64 i∧Mk .u32 117 w (some ⟨w.heap.size,0,none⟩) (n+s / 32+1) (n+s / 32+1) S wr∧Up (s%32) (s / 32) X S i q) (fun iv _=>n - (intOf iv).toNat)
 case atStart=>exact ⟨0,_,0,Nat.zero_le _,rfl,hmk, .start⟩
 case round=>
  obtain ⟨i,S,q,hi,rfl,hmr,hup⟩:=hrel
  clear hmk
  by_cases hlt:i<n
  ·obtain ⟨b2,off2,x,rfl,_,ex,hc2⟩:=(hmr.other hs hB).at_ hlt
   have hxx:=hx.get ex
   have hd:s%32≤32:=qO
   obtain ⟨g,y,hg,_,hy,hcell,hfr,hput⟩:=hmr.set (i:=i+s / 32) qO
   obtain rfl:w.heap.size=g:=by simpa using hg
   obtain rfl:y=q:=by have:=hup.here;rw [hy] at this;injection this
   obtain ⟨g2,y2,hg2,_,_,hcell2,hfr2,_⟩:=hmr.set (i:=i+s / 32+1) qO
   obtain rfl:w.heap.size=g2:=by simpa using hg2
   obtain ⟨g2,y3,hg2,_,_,_,_,hput2⟩:=(hput (y+x*2^(s%32)%4294967296)).set (i:=i+s / 32+1) qO
   obtain rfl:w.heap.size=g2:=by simpa using hg2
   have hor:=xw hd hup.small hxx.1
   have hnext:=Lib.hid (hput2 (x / 2^(32 - s%32)))
   have hstep:=Lib.hid (hup.step hd ex hxx (by have:=hmr.1.len;omega))
   clear hput hput2 hup hmr hs hy
   go_wp2
   go_roundw
   case rel=>exact ⟨i+1,_,_,by omega,by go_num,hnext.out,hstep.out⟩
   case measure=>simp [intOf]<;>omega
  ·obtain rfl:n=i:=qO
   have hfin:=Lib.hid (hup.stop hl hmr.1.len)
   have hdg:=hup.dg
   clear hup
   go_wp2_with fail
   refine (cY hmr.1.sl).mono ?_
   rintro e w3 ⟨⟨A3,n3,c3,rfl,hs3,hA3⟩,rfl⟩
   go_wp2_with fail
   go_ret
   refine ⟨_,⟨cy hdg,cm _,?_⟩,A3,n3,c3,rfl,hmr.1.used hs3 hA3,hmr.2⟩
   rw [bu,hfin.out,tE s]
theorem pY{s:Nat} (hs:Sl .u32 w B A n c X) (hB:B≤w.heap.size) (hx:Dg 4294967296 X) (hn:n≤1000000000) (hsm:s≤9223372036854775808):
 Calls Tryz.prog 257 #[.slice A n c, .int .u64 s] w (mp w (val 4294967296 X / 2^s)):=by
 have hl:=hs.len
 by_cases hsl:n≤s / 32
 ·have hz:=rM hx (s:=s) qO
  have hd:decide ((n:Int)≤(s:Int) / 32)=true:=by simp;omega
  have hr:mp w (val 4294967296 X / 2^s) (.returned (.slice none 0 0)) w:=⟨[],⟨Dg.nil,Tr.nil,by rw [hz];rfl⟩,none,0,0,rfl,bB.nil,Below.refl _ _⟩
  have HR:=Lib.hid hr
  clear hr hz
  go_enter Tryz.func257,Tryz.ntmps257
  go_wp2
  go_ret
  exact HR.out
 ·have hd:decide ((n:Int)≤(s:Int) / 32)=false:=by simp;omega
  obtain ⟨b,off,_,hA,_,_,_⟩:=hs.at_ (j:=s / 32) qO
  have hback:=hs.back (m:=s / 32) qO
  have hcn:=hs.le
  rw [if_neg qO,hA] at hback
  simp only [Option.map_some,Addr.add_lit] at hback
  subst hA
  have hval:=Lib.hid (Ep hx (L:=s / 32) qO (s%32))
  have hY:=hx.drop (s / 32)
  have hll:=hback.len
  generalize X.drop (s / 32)=Y at*
  clear hs
  have hmn:n - s / 32≤1000000000:=qO
  go_enter Tryz.func257,Tryz.ntmps257
  go_wp2_with (at_make;refine d_ jC rfl _ _ rfl (B:=w.heap.size) (n - s / 32) rfl rfl qO qO qO qR (Nat.le_refl _) ?_;intro w1 h1 hg1)
  have hmk:=Mk.made h1 hg1
  clear h1 hg1
  generalize n - s / 32=m at*
  generalize c - s / 32=c2 at*
  go_loopw [27] (fun iv wr=>∃ (i:Nat) (S:List Int),i≤m∧iv= .int .i64 i∧Mk .u32 117 w (some ⟨w.heap.size,0,none⟩) m m S wr∧sh (s%32) Y S i) (fun iv _=>m - (intOf iv).toNat)
  case atStart=>exact ⟨0,_,Nat.zero_le _,rfl,hmk, .start⟩
  case round=>
   obtain ⟨i,S,hi,rfl,hmr,hdn⟩:=hrel
   clear hmk
   by_cases hlt:i<m
   ·obtain ⟨b2,off2,y,hA2,_,ey,hc2⟩:=(hmr.other hback hB).at_ hlt
    injection hA2 with hA2
    injection hA2 with e1 e2
    subst e1
    subst e2
    have hyy:=hY.get ey
    have hSl:=hmr.1.len
    obtain ⟨g,q,hg,_,hq,hcell,hfr,hput⟩:=hmr.set (i:=i) qO
    obtain rfl:w.heap.size=g:=by simpa using hg
    by_cases hi0:i=0
    ·subst hi0
     rw [Nat.add_zero] at hc2
     have hnext:=Lib.hid (hput (y / 2^(s%32)))
     have hstep:=Lib.hid (hdn.first ey hyy qO)
     clear hput hdn hmr hback hq
     go_wp2
     go_roundw
     case rel=>exact ⟨1,_,by omega,by go_num,hnext.out,hstep.out⟩
     case measure=>simp [intOf]<;>omega
    ·obtain ⟨j,rfl⟩:∃ j,i=j+1:=⟨i - 1,by omega⟩
     obtain ⟨g2,z,hg2,_,hz,hcell2,hfr2,_⟩:=hmr.set (i:=j) qO
     obtain rfl:w.heap.size=g2:=by simpa using hg2
     obtain ⟨hzz,hstp⟩:=hdn.next qO ey hyy hz hY qO
     obtain ⟨g2,z2,hg2,_,hz2,hz3,hz4,hput2⟩:=(hput (y / 2^(s%32))).set (i:=j) qO
     obtain rfl:w.heap.size=g2:=by simpa using hg2
     have hor:=xw (d:=32 - s%32) qO hzz hyy.1
     have hnext:=Lib.hid (hput2 (z+y*2^(32 - s%32)%4294967296))
     have hstep:=Lib.hid hstp
     clear hput hput2 hdn hmr hback hq hz hstp hz2 hz3 hz4
     go_wp2
     go_roundw
     case rel=>exact ⟨j+1+1,_,by omega,by go_num,hnext.out,hstep.out⟩
     case measure=>simp [intOf]<;>omega
   ·obtain rfl:m=i:=qO
    have hfin:=Lib.hid hdn
    clear hdn
    go_wp2_with fail
    refine (cY hmr.1.sl).mono ?_
    rintro e w3 ⟨⟨A3,n3,c3,rfl,hs3,hA3⟩,rfl⟩
    go_wp2_with fail
    go_ret
    refine ⟨_,⟨cy hfin.out.dg,cm _,?_⟩,A3,n3,c3,rfl,hmr.1.used hs3 hA3,hmr.2⟩
    have hnum:=hfin.out.num
    rw [List.take_of_length_le (by have:=hmr.1.len;omega),List.take_of_length_le qO] at hnum
    rw [bu,hnum,hval.out,tE s]
theorem Bm(h:(m:Int)≤9223372036854775808):IntKind.u64.wrap (-IntKind.u64.wrap (-(m:Int)))=(m:Int):=by
 have e:∀ n:Int,IntKind.u64.wrap n=n%18446744073709551616:=fun n=>by simp [IntKind.wrap,IntKind.bits,IntKind.signed]
 rw [e,e]
 omega
def lQ (w:World) (N:Int) (n:Int) (e:Ending) (w':World):Prop:=
 if n<0 then zI w (N / 2^(-n).toNat) e w'
 else if N=0 then e= .returned (.tuple #[.slice none 0 0, .int .i64 0])∧Below w.heap.size w w'
 else if 65536<n then e= .returned (.tuple #[.slice none 0 0, .int .i64 3])∧Below w.heap.size w w'
 else zI w (2^n.toNat*N) e w'
theorem qy{s:Int} (hs:Sl .u32 w B A n c xs) (hB:B≤w.heap.size) (hx:Dg 4294967296 xs) (hn:n≤1000000000) (hs0: -9223372036854775808≤s) (hs1:s≤9223372036854775807):
 Calls Tryz.prog 251 #[.slice A n c, .int .i64 s] w (lQ w (val 4294967296 xs) s):=by
 have hv:Hid (val 4294967296 (tl xs)=val 4294967296 xs):=bu _ _
 have hX:=cy hx
 have hT:=cm xs
 have hll:(tl xs).length≤1000000000:=by have:=eo xs;have:=hs.len;omega
 by_cases hneg:s<0
 ·obtain ⟨m,rfl,hm⟩:∃ m:Nat,s= -(m:Int)∧0<m:=⟨(-s).toNat,by omega,by omega⟩
  have hw:IntKind.u64.wrap (-IntKind.u64.wrap (-(m:Int)))=(m:Int):=Bm qO
  go_enter Tryz.func251,Tryz.ntmps251
  go_wp2_with fail
  refine (cY hs).mono ?_
  rintro e w' ⟨⟨A',n',c',rfl,hs',_⟩,rfl⟩
  have hl':=hs'.len
  go_wp2_with fail
  refine (pY hs' hB hX qO qO).mono ?_
  rintro e w1 ⟨ys,hr,A3,n3,c3,rfl,h3,hb3⟩
  clear hw
  go_wp2_with fail
  go_ret2
  unfold lQ
  rw [if_pos hneg]
  refine ⟨ys,A3,n3,c3,?_,rfl,h3,hb3⟩
  rw [←hv.out,show (- -(m:Int)).toNat=m by omega]
  exact hr
 ·obtain ⟨m,rfl⟩:∃ m:Nat,s=(m:Int):=⟨s.toNat,by omega⟩
  go_enter Tryz.func251,Tryz.ntmps251
  go_wp2_with fail
  refine (cY hs).mono ?_
  rintro e w' ⟨⟨A',n',c',rfl,hs',_⟩,rfl⟩
  have hl':=hs'.len
  by_cases h0:n'=0
  ·subst h0
   go_wp2_with fail
   go_ret2
   unfold lQ
   rw [if_neg qO,if_pos (by rw [←hv.out,List.eq_nil_of_length_eq_zero hl'];rfl)]
   exact ⟨rfl,Below.refl _ _⟩
  ·have hbn:((n':Int)==0)=false:=beq_eq_false_iff_ne.2 qO
   have hvne:val 4294967296 xs≠0:=by
    intro h
    rw [←hv.out] at h
    have:=Tr.zero qD hX hT h
    rw [this] at hl'
    exact h0 hl'.symm
   by_cases hbig:65536<m
   ·go_wp2_with fail
    go_ret2
    unfold lQ
    rw [if_neg qO,if_neg hvne,if_pos qO]
    exact ⟨rfl,Below.refl _ _⟩
   ·go_wp2_with fail
    refine (tZ hs' hB hX qO qO).mono ?_
    rintro e w1 ⟨ys,hr,A3,n3,c3,rfl,h3,hb3⟩
    go_wp2_with fail
    go_ret2
    unfold lQ
    rw [if_neg qO,if_neg hvne,if_neg qO]
    refine ⟨ys,A3,n3,c3,?_,rfl,h3,hb3⟩
    rw [←hv.out,Int.toNat_natCast]
    exact hr
def gk (w:World):Prop:=∀ h:Nat,h<128→w.cell? ⟨3,h,none⟩=some (.int .u8 (kM.getD h 0))
theorem gk.below{w':World} (h:gk w) (hb:Below B w w') (hB:3<B):gk w':=fun i hi=>(hb.cell (p:=⟨_,i,none⟩) hB).trans (h i hi)
def Iu (N:Int) (e:Ending):Prop:=∃ b:Nat,dI N b∧e= .returned (.int .i64 b)
theorem mG(hs:Sl .u32 w B A n c xs) (hT:gk w) (hx:Dg 4294967296 xs) (hn:n≤1000000000):
 Calls Tryz.prog 237 #[.slice A n c] w fun e w'=>Iu (val 4294967296 xs) e∧w=w':=by
 have hv:Hid (val 4294967296 (tl xs)=val 4294967296 xs):=bu _ _
 have hX:=cy hx
 have hTr:=cm xs
 have hll:(tl xs).length≤1000000000:=by have:=eo xs;have:=hs.len;omega
 have HT:=Lib.hid hT
 clear hT
 go_enter Tryz.func237,Tryz.ntmps237
 go_wp2_with fail
 refine (cY hs).mono ?_
 rintro e w' ⟨⟨A',n',c',rfl,hs',_⟩,rfl⟩
 have hl':=hs'.len
 by_cases h0:n'=0
 ·subst h0
  go_wp2
  go_ret
  refine ⟨⟨0, .inl ⟨?_,rfl⟩,rfl⟩,rfl⟩
  rw [←hv.out,List.eq_nil_of_length_eq_zero hl'];rfl
 ·have hbn:((n':Int)==0)=false:=beq_eq_false_iff_ne.2 qO
  have hne:tl xs≠[]:=by intro h;rw [h] at hl';exact h0 hl'.symm
  obtain ⟨zs,z,ez,hz0,ezl⟩:=hTr.last hne
  obtain ⟨b,off,z',rfl,_,ez',hcell⟩:=hs'.at_ (j:=n' - 1) qO
  rw [hl',ez'] at ezl
  obtain rfl:z'=z:=by injection ezl
  have hzd:=hX.get ez'
  obtain ⟨t,rfl⟩:∃ t:Nat,z'=(t:Int):=⟨z'.toNat,by omega⟩
  have hzl:zs.length=n' - 1:=by have:=congrArg List.length ez;simp at this;omega
  have hstart:uF (val 4294967296 xs) (32*(n' - 1)+t) (32*(n' - 1)) t:=by
   refine ⟨by omega,Nat.le_refl _,fun b hb=> ?_⟩
   have hd:Dg 4294967296 zs:=by rw [ez] at hX;exact hX.left
   have:=dI.row (k:=32) qD hd qO hb
   rw [←ez,hzl,bu] at this
   exact this
  obtain ⟨m,rfl⟩:∃ m,n'=m+1:=⟨n' - 1,by omega⟩
  rw [show m+1 - 1=m by omega] at hcell hstart
  have ht:t<4294967296:=qO
  clear ez ez' ezl hzl hz0 hne
  go_wp2_with fail
  go_loop [3,4] (fun nv tv=>∃ i j:Nat,nv= .int .i64 i∧tv= .int .u32 j∧j≤t∧uF (val 4294967296 xs) (32*m+t) i j) (fun _ tv=>(intOf tv).toNat)
  case atStart=>exact ⟨32*m,t,by go_num,rfl,Nat.le_refl _,hstart⟩
  case round=>
   obtain ⟨i,j,rfl,rfl,hjt,hinv⟩:=hrel
   have hb1:=hinv.pos
   have hb2:=hinv.bound
   by_cases hj:255<j
   ·have hstep:=Lib.hid (hinv.step hj)
    clear hinv hstart
    go_wp2
    go_round
    case rel=>exact ⟨i+8,j / 256,by go_num,by go_num,by omega,hstep.out⟩
    case measure=>simp [intOf]<;>omega
   ·have hfin:=Lib.hid (hinv.num _ (zl qO qO))
    have hc2:=HT.out (j / 2) qO
    obtain ⟨p1,p2,_,_⟩:=tH (j / 2) qO
    generalize kM.getD (j / 2) 0=q at*
    obtain ⟨q,rfl⟩:∃ q':Nat,q=(q':Int):=⟨q.toNat,by omega⟩
    clear hinv hstart
    go_wp2
    go_ret
    refine ⟨⟨_,hfin.out,?_⟩,rfl⟩
    simp
    omega
def DK (e:Ending):Prop:=∃ v:Int,0≤v∧e= .returned (.int .i64 v)
theorem vx(hs:Sl .u32 w B A n c xs) (ht:Sl .u32 w B A2 m c2 ys) (hx:Dg 4294967296 xs) (hy:Dg 4294967296 ys) (h:val 4294967296 ys≤val 4294967296 xs):
 Calls Tryz.prog 224 #[.slice A n c, .slice A2 m c2] w fun e w'=>DK e∧Below w.heap.size w w':=by
 refine (iu hs ht hx hy).mono ?_
 rintro e w' ⟨hr,q,rfl⟩
 unfold jh at hr
 refine ⟨⟨_,?_,hr⟩,Below.drewN' (Below.refl _ _) q⟩
 unfold cF
 rw [if_neg qO]
 split<;>omega
theorem ug(hs:Sl .u32 w B A n c xs) (hB:B≤w.heap.size) (hx:Dg 4294967296 xs) (hn:n≤1000000000) (hm:m≤65536):
 Calls Tryz.prog 251 #[.slice A n c, .int .i64 m] w (zI w (2^m*val 4294967296 xs)):=by
 refine (qy hs hB hx hn qO qO).mono ?_
 intro e w' h
 unfold lQ at h
 rw [if_neg qO] at h
 split at h
 ·rename_i h0
  obtain ⟨rfl,hb⟩:=h
  exact ⟨[],none,0,0,⟨Dg.nil,Tr.nil,by rw [h0,Int.mul_zero];rfl⟩,rfl,bB.nil,hb⟩
 ·rw [if_neg qO] at h
  exact h
theorem md(hs:Sl .u32 w B A n c xs) (hB:B≤w.heap.size) (hx:Dg 4294967296 xs) (hn:n≤1000000000) (hm:m≤65536):
 Calls Tryz.prog 251 #[.slice A n c, .int .i64 (-(m:Int))] w (zI w (val 4294967296 xs / 2^m)):=by
 refine (qy hs hB hx hn qO qO).mono ?_
 intro e w' h
 unfold lQ at h
 rcases Nat.eq_zero_or_pos m with h0|h0
 ·subst h0
  rw [if_neg qO] at h
  simp only [Int.pow_zero,Int.ediv_one]
  split at h
  ·rename_i h0
   obtain ⟨rfl,hb⟩:=h
   exact ⟨[],none,0,0,⟨Dg.nil,Tr.nil,by rw [h0];rfl⟩,rfl,bB.nil,hb⟩
  ·rw [if_neg qO] at h
   simpa using h
 ·rw [if_pos qO] at h
  simpa using h
theorem j8:pP Tryz.prog 198 3 .i64 8:=⟨Tryz.underlying198,info_parts qK⟩
def IJ (w:World) (B:Nat) (A:Option Addr) (c:Nat) (xs:List Int) (e:Ending):Prop:=
 ∃ n',e= .returned (.slice A n' c)∧Sl .i64 w B A n' c (tl xs)
theorem xi(hs:Sl .i64 w B A n c xs):
 Calls Tryz.prog 236 #[.slice A n c] w fun e w'=>IJ w B A c xs e∧w=w':=by
 have hm:=hs.lenMax
 have hnc:=hs.le
 go_enter Tryz.func236,Tryz.ntmps236
 go_wp2
 go_loop [0] (fun l=>∃ k:Nat,k≤n∧l= .slice A k c∧fm xs k) (fun l=>match l with| .slice _ k _=>k|_=>0)
 case atStart=>exact ⟨n,by omega,rfl, .start hs.len⟩
 case round=>
  obtain ⟨k,hk,rfl,ht⟩:=hrel
  by_cases h0:k=0
  ·subst h0
   have hz:=Lib.hid ht.zero
   go_wp2
   go_ret
   refine ⟨⟨0,rfl,?_⟩,rfl⟩
   rw [hz.out]
   have:=hs.front (m:=0) qO
   simpa using this
  ·obtain ⟨j,rfl⟩:∃ j,k=j+1:=⟨k - 1,by omega⟩
   obtain ⟨b,off,x,rfl,_,hx,hcell⟩:=hs.at_ (j:=j) qO
   by_cases hx0:x=0
   ·subst hx0
    go_wp2
    go_round
    case rel=>exact ⟨j,by omega,rfl,ht.down hx⟩
    case measure=>simp
   ·have hb:(x==0)=false:=beq_eq_false_iff_ne.2 hx0
    have hstop:=Lib.hid (ht.stop hx hx0)
    go_wp2
    go_ret
    refine ⟨⟨j+1,rfl,?_⟩,rfl⟩
    rw [hstop.out]
    exact hs.front qO
theorem pp(hs:Sl .i64 w B A n c xs):
 Calls Tryz.prog 234 #[.slice A n c, .int .i64 i] w fun e w'=>e= .returned (.int .i64 (xs[i]?.getD 0))∧w=w':=by
 have hm:=hs.lenMax
 by_cases hlt:i<n
 ·obtain ⟨b,off,x,rfl,_,hx,hcell⟩:=hs.at_ hlt
  have e:xs[i]?.getD 0=x:=by rw [hx];rfl
  rw [e]
  go_enter Tryz.func234,Tryz.ntmps234
  go_wp2
  go_ret
  exact ⟨rfl,rfl⟩
 ·have e:xs[i]?.getD 0=0:=by rw [List.getElem?_eq_none (by have:=hs.len;omega)];rfl
  rw [e]
  go_enter Tryz.func234,Tryz.ntmps234
  go_wp2
  go_ret
  exact ⟨rfl,rfl⟩
theorem bB.cutR{B2:Nat} {n':Nat} (h:bB .i64 3 w B A n c xs) (hs:Sl .i64 wr B2 A n' c (tl xs)):bB .i64 3 w B A n' c (tl xs):=by
 have hl:=hs.len
 have h1:=eo xs
 have h2:=h.len
 have e:=xI xs
 rw [hl] at e
 rcases h.form with ⟨rfl,h3,rfl⟩|⟨g,rfl,_⟩
 ·obtain rfl:n'=0:=qO
  rw [List.eq_nil_of_length_eq_zero hl]
  exact bB.nil
 ·rw [e]
  exact h.front qO qE
def hv:List Int→List Int
 |[]=>[]
 |x::xs=>x%65536::x / 65536::hv xs
theorem xe (xs:List Int) (x:Int):hv (xs++[x])=hv xs++[x%65536,x / 65536]:=by
 induction xs with
 |nil=>rfl
 |cons y ys ih=>simp [hv,ih]
theorem Cl (xs:List Int):(hv xs).length=2*xs.length:=by
 induction xs with
 |nil=>rfl
 |cons y ys ih=>simp [hv,ih];omega
theorem B_ (xs:List Int):val 65536 (hv xs)=val 4294967296 xs:=by
 induction xs with
 |nil=>rfl
 |cons y ys ih=>simp only [hv,val,ih];omega
theorem Fl(h:Dg 4294967296 xs):Dg 65536 (hv xs):=by
 induction xs with
 |nil=>exact Dg.nil
 |cons y ys ih=>
  have:=h.head
  exact Dg.cons qO (Dg.cons qO (ih h.tail))
def C2 (w:World) (N:Int) (e:Ending) (w':World):Prop:=
 ∃ ys A n c,fM 65536 N ys∧e= .returned (.slice A n c)∧bB .i64 3 w' w.heap.size A n c ys∧Below w.heap.size w w'
theorem xA(h:0≤x∧x<4294967296):IntKind.i64.wrap (x.tmod 65536)=x%65536:=by
 rw [Int.tmod_eq_emod_of_nonneg h.1,IntKind.wrap_i64];omega
theorem xR(h:0≤x∧x<4294967296):IntKind.i64.wrap (IntKind.u32.wrap (x.tdiv 65536))=x / 65536:=by
 rw [Int.tdiv_eq_ediv_of_nonneg h.1,IntKind.wrap_u32,IntKind.wrap_i64];omega
theorem fB(hs:Sl .u32 w B A n c xs) (hB:B≤w.heap.size) (hx:Dg 4294967296 xs) (hn:n≤1000000000):
 Calls Tryz.prog 218 #[.slice A n c] w (C2 w (val 4294967296 xs)):=by
 go_enter Tryz.func218,Tryz.ntmps218
 go_wp2
 go_loopw [3,4] (fun ov iv wr=>∃ (i m c2:Nat) (A2:Option Addr),i≤n∧iv= .int .i64 i∧ov= .slice A2 m c2∧bB .i64 3 wr w.heap.size A2 m c2 (hv (xs.take i))∧Below w.heap.size w wr) (fun _ iv _=>n - (intOf iv).toNat)
 case atStart=>exact ⟨0,0,0,none,Nat.zero_le _,rfl,rfl,bB.nil,Below.refl _ _⟩
 case round=>
  obtain ⟨i,m,c2,A2,hi,rfl,rfl,ho,hb⟩:=hrel
  have hol:=ho.len
  rw [Cl,List.length_take] at hol
  by_cases hlt:i<n
  ·obtain ⟨b,off,x,rfl,_,ex,hcell⟩:=(hs.below hb hB).at_ hlt
   have hxx:=hx.get ex
   have hin:(i:Int)<(n:Int):=qO
   have hbB:b<w.heap.size:=qO
   have hi1:0≤(i:Int):=Int.natCast_nonneg _
   go_wp2
   go_region_held3 (fun w'=>w'.cell? ⟨b,off+i,none⟩=some (.int .u32 x))
    (first|go_keep|(rw [hg.cell_far _ qN (by intro h;have:=(ho.blk_ b h.symm).1;omega)];assumption))
    ((refine vc j8 (by rfl) _ _ (by rfl) (ho.alloc _).drew1 (by rfl) (Sl.new2 .i64 _ _ _ _).drew1 (by rfl) qO qR qN ?_;intro A3 c3 w3 h3 hg))
   rw [xA hxx,xR hxx,←xe,←aE ex] at h3
   have hb3:Below w.heap.size w w3:=((hb.alloc hb.size _).drew).grown hg qN (fun k hk=>(ho.blk_ k hk).1)
   clear hg ho hb hbB hi1
   go_wp2
   go_roundw
   case rel=>exact ⟨i+1,_,_,_,by omega,by go_num,rfl,h3,hb3⟩
   case measure=>simp [intOf]<;>omega
  ·obtain rfl:n=i:=qO
   have hN:=Lib.hid (show val 65536 (tl (hv (xs.take n)))=val 4294967296 xs by rw [bu,B_,List.take_of_length_le (by rw [hs.len];omega)])
   have hD:=Fl (hx.take n)
   go_wp2_with fail
   refine (xi ho.sl).mono ?_
   rintro e w' ⟨⟨n',rfl,hs'⟩,rfl⟩
   go_wp2
   go_ret
   refine ⟨_,A2,n',c2,⟨cy hD,cm _,hN.out⟩,rfl,ho.cutR hs',hb⟩
def pr:List Int→List Int
 |[]=>[]
 |[x]=>[x]
 |x::y::r=>(x+65536*y)::pr r
theorem vT:∀ l:List Int,val 4294967296 (pr l)=val 65536 l
 |[]=>rfl
 |[x]=>by simp [pr,val]
 |x::y::r=>by simp only [pr,val,vT r];omega
theorem Ad:∀ {l:List Int},Dg 65536 l→Dg 4294967296 (pr l)
 |[],_=>Dg.nil
 |[x],h=>Dg.cons (by have:=h.head;omega) Dg.nil
 |x::y::r,h=>Dg.cons (by have:=h.head;have:=h.tail.head;omega) (Ad h.tail.tail)
theorem Gb:∀ {l:List Int},pr l=[]→l=[]
 |[],_=>rfl
 |[x],h=>by simp [pr] at h
 |x::y::r,h=>by simp [pr] at h
theorem Fv:∀ {l:List Int},Dg 65536 l→Tr l→Tr (pr l)
 |[],_,_=>rfl
 |[x],_,h=>h
 |x::y::r,hd,h=>by
  refine Tr.cons (Fv hd.tail.tail h.tail.tail) fun e=> ?_
  have hr:=Gb e
  subst hr
  have h1:=h.tail.single
  have h2:=hd.head
  have h3:=hd.tail.head
  omega
theorem iy:∀ (l m:List Int) (j:Nat),l.length=2*j→pr (l++m)=pr l++pr m
 |[],m,_,_=>rfl
 |[x],m,j,h=>by simp at h;omega
 |x::y::r,m,j,h=>by
  simp only [List.cons_append,pr]
  rw [iy r m (j - 1) (by simp at h;omega)]
theorem B9:∀ (l:List Int),(pr l).length≤l.length
 |[]=>by simp [pr]
 |[x]=>by simp [pr]
 |x::y::r=>by have:=B9 r;simp [pr];omega
theorem mL(hs:Sl .i64 w B A n c xs) (hB:B≤w.heap.size) (hx:Dg 65536 xs) (hn:n≤2000000000):
 Calls Tryz.prog 217 #[.slice A n c] w (mp w (val 65536 xs)):=by
 have hll:(tl xs).length≤2000000000:=by have:=eo xs;have:=hs.len;omega
 have hv:=Lib.hid (bu 65536 xs)
 have hX:=cy hx
 have hT:=cm xs
 go_enter Tryz.func217,Tryz.ntmps217
 go_wp2_with fail
 refine (xi hs).mono ?_
 rintro e w' ⟨⟨n',rfl,hs'⟩,rfl⟩
 have hl':=hs'.len
 generalize tl xs=X at*
 clear hs
 go_wp2_with fail
 go_loopw [3,4] (fun ov iv wr=>∃ (j m c2:Nat) (A2:Option Addr),2*j≤n'+1∧iv= .int .i64 (2*(j:Int))∧ov= .slice A2 m c2∧bB .u32 117 wr w.heap.size A2 m c2 (pr (X.take (2*j)))∧Below w.heap.size w wr) (fun _ iv _=>n'+1 - (intOf iv).toNat)
 case atStart=>exact ⟨0,0,0,none,by omega,rfl,rfl,bB.nil,Below.refl _ _⟩
 case round=>
  obtain ⟨j,m,c2,A2,hj,rfl,rfl,ho,hb⟩:=hrel
  have hol:=ho.len
  have hpl:=B9 (X.take (2*j))
  rw [List.length_take] at hpl
  have hm:m≤2000000000:=qO
  by_cases hlt:2*j<n'
  ·obtain ⟨b,off,x,rfl,_,ex,hcell⟩:=(hs'.below hb hB).at_ hlt
   have hxx:=hX.get ex
   by_cases hlt2:2*j+1<n'
   ·obtain ⟨b',off',y,hA,_,ey,hcell2⟩:=(hs'.below hb hB).at_ hlt2
    injection hA with hA
    injection hA with e1 e2
    subst e1
    subst e2
    have hyy:=hX.get ey
    have hnx:pr (X.take (2*j))++[x+65536*y]=pr (X.take (2*(j+1))):=by
     rw [show 2*(j+1)=2*j+1+1 by omega,aE ey,aE ex,List.append_assoc,iy _ _ j (by rw [List.length_take];omega)]
     rfl
    have HN:=Lib.hid hnx
    clear hnx hol hpl
    go_wp2_with (at_builtin;refine dG jC rfl _ _ rfl (ho.alloc _) rfl (Sl.new1 .u32 _ _ _) rfl qO qR qN ?_;intro A3 c3 w3 h3 hg)
    rw [HN.out] at h3
    have hb3:Below w.heap.size w w3:=(hb.alloc hb.size _).grown hg qN (fun k hk=>(ho.blk_ k hk).1)
    clear hg ho hb
    go_wp2
    go_roundw
    case rel=>exact ⟨j+1,_,_,_,by omega,by go_num,rfl,h3,hb3⟩
    case measure=>simp [intOf]<;>omega
   ·have hnx:pr (X.take (2*j))++[x]=pr (X.take (2*(j+1))):=by
     have e1:X.take (2*(j+1))=X.take (2*j)++[x]:=by rw [List.take_of_length_le qO,←aE ex,List.take_of_length_le qO]
     rw [e1,iy _ _ j (by rw [List.length_take];omega)]
     rfl
    have HN:=Lib.hid hnx
    clear hnx hol hpl
    go_wp2_with (at_builtin;refine dG jC rfl _ _ rfl (ho.alloc _) rfl (Sl.new1 .u32 _ _ _) rfl qO qR qN ?_;intro A3 c3 w3 h3 hg)
    rw [HN.out] at h3
    have hb3:Below w.heap.size w w3:=(hb.alloc hb.size _).grown hg qN (fun k hk=>(ho.blk_ k hk).1)
    clear hg ho hb
    go_wp2
    go_roundw
    case rel=>exact ⟨j+1,_,_,_,by omega,by go_num,rfl,h3,hb3⟩
    case measure=>simp [intOf]<;>omega
  ·have hN:=Lib.hid (show val 4294967296 (pr (X.take (2*j)))=val 65536 xs by rw [vT,List.take_of_length_le qO];exact hv.out)
   have hD:=Ad (hX.take (2*j))
   have hTr:Tr (pr (X.take (2*j))):=by rw [List.take_of_length_le qO];exact Fv hX hT
   have HT:=Lib.hid hTr
   clear hTr hT
   go_wp2_with fail
   go_ret
   exact ⟨_,⟨hD,HT.out,hN.out⟩,A2,m,c2,rfl,ho,hb⟩
theorem fw(hl:xs.length=n) (hx:Dg 4294967296 xs) (hr:fM 65536 (val 4294967296 xs) ys):ys.length≤2*n:=by
 refine hr.len_le qD (Int.lt_of_lt_of_le (ci qD hx) ?_)
 rw [hl,show (4294967296:Int)=65536^2 by decide,←Int.pow_mul]
 exact Int.le_refl _
theorem vb(hs:Sl .u32 w B A n c xs) (hB:B≤w.heap.size) (hx:Dg 4294967296 xs) (hn:n≤500000000):
 Calls Tryz.prog 171 #[.slice A n c] w (mp w (val 4294967296 xs)):=by
 go_enter Tryz.func171,Tryz.ntmps171
 go_wp2_with fail
 refine (fB hs hB hx qO).mono ?_
 rintro e w1 ⟨ys,A1,n1,c1,hr,rfl,ho,hb⟩
 have hl1:n1≤2*n:=by
  have:=fw hs.len hx hr
  have:=ho.len
  omega
 go_wp2_with fail
 refine (mL ho.sl (Nat.le_refl _) hr.dg qO).mono ?_
 rintro e w2 ⟨zs,hz,A2,n2,c2,rfl,ho2,hb2⟩
 rw [hr.val] at hz
 go_wp2
 go_ret
 exact ⟨zs,hz,A2,n2,c2,rfl,ho2.lower hb.size,hb.trans (hb2.mono hb.size)⟩
def Bk (w:World) (a b:Int) (e:Ending) (w':World):Prop:=e= .returned (.int .i64 (cF a b))∧Below w.heap.size w w'
theorem jO(hs:Sl .u32 w B A n c xs) (ht:Sl .u32 w B A2 m c2 ys) (hB:B≤w.heap.size) (hx:Dg 4294967296 xs) (hy:Dg 4294967296 ys) (hn:n≤500000000) (hm:m≤500000000):
 Calls Tryz.prog 212 #[.slice A n c, .slice A2 m c2] w (Bk w (val 4294967296 xs) (val 4294967296 ys)):=by
 go_enter Tryz.func212,Tryz.ntmps212
 go_wp2_with fail
 refine (fB hs hB hx qO).mono ?_
 rintro e w1 ⟨us,A1,n1,c1,hu,rfl,ho1,b1⟩
 have hl1:n1≤2*n:=by have:=fw hs.len hx hu;have:=ho1.len;omega
 go_wp2_with fail
 refine (fB ((ht.below b1 hB).more (Nat.le_trans hB b1.size)) (Nat.le_refl _) hy qO).mono ?_
 rintro e w2 ⟨vs,A2',n2,c2',hv,rfl,ho2,b2⟩
 have hl2:n2≤2*m:=by have:=fw ht.len hy hv;have:=ho2.len;omega
 have s1:=(ho1.below b2).sl
 have s2:=ho2.sl
 have hb:=b1.trans (b2.mono b1.size)
 have hul:=ho1.len
 have hvl:=ho2.len
 have EU:=Lib.hid hu.val
 have EV:=Lib.hid hv.val
 have dU:=hu.dg
 have dV:=hv.dg
 clear ho1 ho2 b1 b2 hu hv hs ht
 by_cases hcase:n1<n2
 all_goals
  go_wp2_with fail
  go_loop [7] (fun iv=>∃ k:Nat,k≤max n1 n2∧iv= .int .i64 ((k:Int) - 1)∧gD us vs k) (fun iv=>(intOf iv+1).toNat)
  case atStart=>
   refine ⟨max n1 n2,Nat.le_refl _,congrArg (Value.int .i64) qO,fun i hi=> ?_⟩
   rw [List.getElem?_eq_none qO,List.getElem?_eq_none qO]
  case round=>
   obtain ⟨k,hk,rfl,hal⟩:=hrel
   by_cases h0:k=0
   ·subst h0
    have hfin:=Lib.hid (k9 (show val 4294967296 xs=val 4294967296 ys by rw [←EU.out,←EV.out];exact hal.eq))
    clear hal
    go_wp2_with fail
    go_ret
    exact ⟨by rw [hfin.out];rfl,hb⟩
   ·obtain ⟨j,rfl⟩:∃ j,k=j+1:=⟨k - 1,by omega⟩
    have ha:=pp (i:=j) s1
    have hc:=pp (i:=j) s2
    have hlt:=hal.lt (β:=65536) (i:=j) qD dU dV
    have hgt:=gD.lt (β:=65536) (i:=j) qD dV dU (fun i hi=>(hal i hi).symm)
    have hnx:us[j]?.getD 0=vs[j]?.getD 0→gD us vs j:=fun e i hi=>by
     rcases Nat.eq_or_lt_of_le hi with h|h
     ·subst h;exact e
     ·exact hal i h
    generalize us[j]?.getD 0=x at*
    generalize vs[j]?.getD 0=y at*
    have HA:=Lib.hid ha
    have HC:=Lib.hid hc
    have HL:=Lib.hid hlt
    have HG:=Lib.hid hgt
    have HN:=Lib.hid hnx
    clear ha hc hlt hgt hnx hal
    go_wp2_with fail
    refine HA.out.mono ?_
    rintro e w' ⟨rfl,rfl⟩
    go_wp2_with fail
    refine HC.out.mono ?_
    rintro e w' ⟨rfl,rfl⟩
    rcases Int.lt_trichotomy x y with h|h|h
    ·go_wp2_with fail
     go_ret
     exact ⟨by rw [ek (by rw [←EU.out,←EV.out];exact HL.out h)];rfl,hb⟩
    ·subst h
     go_wp2_with fail
     refine HA.out.mono ?_
     rintro e w' ⟨rfl,rfl⟩
     go_wp2_with fail
     refine HC.out.mono ?_
     rintro e w' ⟨rfl,rfl⟩
     go_wp2_with fail
     go_round
     case rel=>exact ⟨j,by omega,by simp,by first|exact HN.out rfl|exact HN.out trivial⟩
     case measure=>simp [intOf]
    ·go_wp2_with fail
     refine HA.out.mono ?_
     rintro e w' ⟨rfl,rfl⟩
     go_wp2_with fail
     refine HC.out.mono ?_
     rintro e w' ⟨rfl,rfl⟩
     go_wp2_with fail
     go_ret
     exact ⟨by rw [gJ (by rw [←EU.out,←EV.out];exact HG.out h)];rfl,hb⟩
theorem wi(hs:Sl .u32 w B A n c xs) (ht:Sl .u32 w B A2 m c2 ys) (hB:B≤w.heap.size) (hx:Dg 4294967296 xs) (hy:Dg 4294967296 ys) (hn:n≤400000000) (hm:m≤400000000):
 Calls Tryz.prog 215 #[.slice A n c, .slice A2 m c2] w (mp w (val 4294967296 xs+val 4294967296 ys)):=by
 go_enter Tryz.func215,Tryz.ntmps215
 go_wp2_with fail
 refine (fB hs hB hx qO).mono ?_
 rintro e w1 ⟨us,A1,n1,c1,hu,rfl,ho1,b1⟩
 have hl1:n1≤2*n:=by have:=fw hs.len hx hu;have:=ho1.len;omega
 go_wp2_with fail
 refine (fB ((ht.below b1 hB).more (Nat.le_trans hB b1.size)) (Nat.le_refl _) hy qO).mono ?_
 rintro e w2 ⟨vs,A2',n2,c2',hv,rfl,ho2,b2⟩
 have hl2:n2≤2*m:=by have:=fw ht.len hy hv;have:=ho2.len;omega
 have s1:=(ho1.below b2).sl
 have s2:=ho2.sl
 have hb0:=b1.trans (b2.mono b1.size)
 have hul:=ho1.len
 have hvl:=ho2.len
 have EU:=Lib.hid hu.val
 have EV:=Lib.hid hv.val
 have dU:=hu.dg
 have dV:=hv.dg
 clear ho1 ho2 b1 b2 hu hv hs ht
 by_cases hcase:n1<n2
 all_goals
  go_wp2_with fail
  go_loopw [7,8,9] (fun ov cv iv wr=>∃ (i c2:Nat) (q:Int) (A3:Option Addr) (O:List Int),iv= .int .i64 i∧cv= .int .i64 q∧ov= .slice A3 i c2∧(0≤q∧q≤1)∧i≤max n1 n2+1∧(i=max n1 n2+1→q=0)∧bB .i64 3 wr w2.heap.size A3 i c2 O∧Below w2.heap.size w2 wr∧
   Acc 65536 (val 65536 (us.take i)+val 65536 (vs.take i)) O i q) (fun _ _ iv _=>max n1 n2+1 - (intOf iv).toNat)
  case atStart=>exact ⟨0,0,0,none,[],rfl,rfl,rfl,by omega,by omega,by omega,bB.nil,Below.refl _ _, .start⟩
  case round=>
   obtain ⟨i,c3,q,A3,O,rfl,rfl,rfl,hq,hi,hiq,ho,hb,hacc⟩:=hrel
   by_cases hend:max n1 n2≤i∧q=0
   ·obtain ⟨hge,rfl⟩:=hend
    have hN:=Lib.hid (show val 65536 O=val 4294967296 xs+val 4294967296 ys by
     have:=hacc.num
     rw [List.take_of_length_le qO,List.take_of_length_le qO,EU.out,EV.out] at this
     omega)
    have hD:=hacc.dg
    clear hacc hiq
    go_wp2_with fail
    refine (mL ho.sl (Nat.le_refl _) hD qO).mono ?_
    rintro e w4 ⟨zs,hz,A4,n4,c4,rfl,ho4,b4⟩
    rw [hN.out] at hz
    go_wp2_with fail
    go_ret
    exact ⟨zs,hz,A4,n4,c4,rfl,ho4.lower (Nat.le_trans hb0.size hb.size),hb0.trans ((hb.trans (b4.mono hb.size)).mono hb0.size)⟩
   ·have hgo:i<max n1 n2∨(max n1 n2≤i∧0<q):=qO
    have hilt:i≤max n1 n2:=by rcases Nat.lt_or_ge (max n1 n2) i with h|h<;>omega
    have ha:=pp (i:=i) (s1.below hb (Nat.le_refl _))
    have hc:=pp (i:=i) (s2.below hb (Nat.le_refl _))
    have hxr:=oP qD dU i
    have hyr:=oP qD dV i
    have hnx:∀ d q':Int,(0≤d∧d<65536)→d+65536*q'=us[i]?.getD 0+vs[i]?.getD 0+q→Acc 65536 (val 65536 (us.take (i+1))+val 65536 (vs.take (i+1))) (O++[d]) (i+1) q':=by
     intro d q' hd e
     have:=hacc.step hd e
     rw [dC,dC]
     rw [Int.mul_add] at this
     rw [show val 65536 (us.take i)+65536^i*us[i]?.getD 0+(val 65536 (vs.take i)+65536^i*vs[i]?.getD 0)=val 65536 (us.take i)+val 65536 (vs.take i)+(65536^i*us[i]?.getD 0+65536^i*vs[i]?.getD 0) by omega]
     exact this
    have hz:max n1 n2≤i→us[i]?.getD 0=0∧vs[i]?.getD 0=0:=fun h=>⟨by rw [List.getElem?_eq_none qO];rfl,by rw [List.getElem?_eq_none qO];rfl⟩
    generalize us[i]?.getD 0=x at*
    generalize vs[i]?.getD 0=y at*
    have HA:=Lib.hid ha
    have HC:=Lib.hid hc
    have HN:=Lib.hid hnx
    have HZ:=Lib.hid hz
    have HO:=Lib.hid ho
    clear ha hc hnx hz hacc hiq ho
    rcases hgo with hgo|hgo
    all_goals
     go_wp2_with (first|(go_at_call_of 234 (Value.slice A1 n1 c1);refine HA.out.mono ?_;rintro e w' ⟨rfl,rfl⟩)|(go_at_call_of 234 (Value.slice A2' n2 c2');refine HC.out.mono ?_;rintro e w' ⟨rfl,rfl⟩)|(at_builtin;refine dG j8 rfl _ _ rfl (HO.out.alloc _) rfl (Sl.new1 .i64 _ _ _) rfl qO qR qN ?_;intro A5 c5 w5 h5 hg))
     have hb5:Below w2.heap.size w2 w5:=(hb.alloc hb.size _).grown hg qN (fun k hk=>(HO.out.blk_ k hk).1)
     have hq':(0≤(x+y+q) / 65536∧(x+y+q) / 65536≤1)∧(i+1=max n1 n2+1→(x+y+q) / 65536=0):=by
      refine ⟨by omega,fun h=> ?_⟩
      obtain ⟨h1,h2⟩:=HZ.out qO
      omega
     have hacc':=HN.out ((x+y+q)%65536) ((x+y+q) / 65536) qO qO
     have HR:=Lib.hid hq'
     have HA5:=Lib.hid hacc'
     clear hq' hacc' hg hb HO HN HZ HA HC
     go_wp2
     go_roundw
     case rel=>exact ⟨i+1,c5,_,A5,_,by go_num,rfl,rfl,HR.out.1,by omega,HR.out.2,h5,hb5,HA5.out⟩
     case measure=>simp [intOf]<;>omega
theorem vg(hs:Sl .u32 w B A n c xs) (ht:Sl .u32 w B A2 m c2 ys) (hB:B≤w.heap.size) (hx:Dg 4294967296 xs) (hy:Dg 4294967296 ys) (hn:n≤400000000) (hm:m≤400000000) (hlt:val 4294967296 xs<val 4294967296 ys):
 Calls Tryz.prog 216 #[.slice A n c, .slice A2 m c2] w fun e w'=>e= .returned (.tuple #[.slice none 0 0, .int .i64 2])∧Below w.heap.size w w':=by
 have HC:=Lib.hid (jO hs ht hB hx hy qO qO)
 have hv:=ek hlt
 go_enter Tryz.func216,Tryz.ntmps216
 go_wp2_with fail
 refine HC.out.mono ?_
 rintro e w' ⟨he,hb⟩
 rw [hv] at he
 subst he
 clear hv
 go_wp2_with fail
 go_ret2
 exact ⟨rfl,hb⟩
theorem pz(hs:Sl .u32 w B A n c xs) (ht:Sl .u32 w B A2 m c2 ys) (hB:B≤w.heap.size) (hx:Dg 4294967296 xs) (hy:Dg 4294967296 ys) (hn:n≤400000000) (hm:m≤400000000) (hle:val 4294967296 ys≤val 4294967296 xs):
 Calls Tryz.prog 216 #[.slice A n c, .slice A2 m c2] w (zI w (val 4294967296 xs - val 4294967296 ys)):=by
 have HC:=Lib.hid (jO hs ht hB hx hy qO qO)
 go_enter Tryz.func216,Tryz.ntmps216
 go_wp2_with fail
 refine HC.out.mono ?_
 rintro e w0 ⟨he,b0⟩
 obtain ⟨v,hv0,rfl⟩:∃ v:Int,0≤v∧e= .returned (.int .i64 v):=by
  refine ⟨_,?_,he⟩
  unfold cF
  rw [if_neg qO]
  split<;>omega
 clear he
 go_wp2_with fail
 refine (fB ((hs.below b0 hB).more (Nat.le_trans hB b0.size)) (Nat.le_refl _) hx qO).mono ?_
 rintro e w1 ⟨us,A1,n1,c1,hu,rfl,ho1,b1⟩
 have hl1:n1≤2*n:=by have:=fw hs.len hx hu;have:=ho1.len;omega
 have b01:=b0.trans (b1.mono b0.size)
 go_wp2_with fail
 refine (fB ((ht.below b01 hB).more (Nat.le_trans hB b01.size)) (Nat.le_refl _) hy qO).mono ?_
 rintro e w2 ⟨vs,A2',n2,c2',hv,rfl,ho2,b2⟩
 have s1:=(ho1.below b2).sl
 have s2:=ho2.sl
 have hb0:=b01.trans (b2.mono b01.size)
 have hul:=ho1.len
 have hvl:=ho2.len
 have hlen:n2≤n1:=by
  rcases Nat.lt_or_ge n1 n2 with h|h
  ·have:=cU (β:=65536) qD hu.dg hv.dg hv.tr qO
   rw [hu.val,hv.val] at this
   omega
  ·exact h
 have EU:=Lib.hid hu.val
 have EV:=Lib.hid hv.val
 have dU:=hu.dg
 have dV:=hv.dg
 clear ho1 ho2 b0 b01 b1 b2 hu hv hs ht HC
 go_wp2_with fail
 go_loopw [8,9,10] (fun ov cv iv wr=>∃ (i c2:Nat) (q:Int) (A3:Option Addr) (O:List Int),iv= .int .i64 i∧cv= .int .i64 q∧ov= .slice A3 i c2∧(0≤q∧q≤1)∧i≤n1∧bB .i64 3 wr w2.heap.size A3 i c2 O∧Below w2.heap.size w2 wr∧
  Acc 65536 (val 65536 (us.take i) - val 65536 (vs.take i)) O i (-q)) (fun _ _ iv _=>n1 - (intOf iv).toNat)
 case atStart=>exact ⟨0,0,0,none,[],rfl,rfl,rfl,by omega,by omega,bB.nil,Below.refl _ _, .start⟩
 case round=>
  obtain ⟨i,c3,q,A3,O,rfl,rfl,rfl,hq,hi,ho,hb,hacc⟩:=hrel
  by_cases hlt:i<n1
  ·obtain ⟨b,off,x,rfl,_,ex,hcell⟩:=(s1.below hb (Nat.le_refl _)).at_ hlt
   have hs2:=s2.below hb (Nat.le_refl _)
   have hxr:=dU.get ex
   have hyr:=oP qD dV i
   have hin:(i:Int)<(n1:Int):=qO
   have hnx:∀ d q':Int,(0≤d∧d<65536)→d+65536*(-q')=x - vs[i]?.getD 0 - q→Acc 65536 (val 65536 (us.take (i+1)) - val 65536 (vs.take (i+1))) (O++[d]) (i+1) (-q'):=by
    intro d q' hd e
    have:=hacc.step (f:=x - vs[i]?.getD 0) (c':= -q') hd qO
    rw [dC,dC,ex]
    rw [Int.mul_sub] at this
    rw [show val 65536 (us.take i)+65536^i*(some x).getD 0 - (val 65536 (vs.take i)+65536^i*vs[i]?.getD 0)=val 65536 (us.take i) - val 65536 (vs.take i)+(65536^i*x - 65536^i*vs[i]?.getD 0) by simp only [Option.getD_some];omega]
    exact this
   have HC2:Hid (∀ k,Calls Tryz.prog 234 #[.slice A2' n2 c2', .int .i64 i] (wr.drewN k) fun e w'=>e= .returned (.int .i64 (vs[i]?.getD 0))∧wr.drewN k=w'):=fun k=>pp (i:=i) (hs2.drew k)
   generalize vs[i]?.getD 0=y at*
   have HN:=Lib.hid hnx
   have HO:=Lib.hid ho
   clear hnx hacc ho hs2
   go_wp2_with fail
   go_quiet ((go_at_call 234;refine (HC2.out _).mono ?_;rintro e w9 ⟨rfl,rfl⟩;exact ⟨rfl,_,rfl⟩))
   generalize hwq:wr.drewN _=wq
   have HO':bB .i64 3 wq w2.heap.size A3 i c3 O:=by rw [←hwq];exact HO.out.drew _
   have hb':Below w2.heap.size w2 wq:=by rw [←hwq];exact Below.drewN' hb _
   clear hwq HO hb hcell HC2
   rcases Int.lt_or_le (x - y - q) 0 with hneg|hneg
   ·have HA5:=Lib.hid (HN.out (x - y - q+65536) 1 qO qO)
    clear HN
    go_wp2_with (at_builtin;refine dG j8 rfl _ _ rfl (HO'.alloc _) rfl (Sl.new1 .i64 _ _ _) rfl qO qR (by have:=hb'.size;simp;omega) ?_;intro A5 c5 w5 h5 hg)
    have hb5:Below w2.heap.size w2 w5:=(hb'.alloc hb'.size _).grown hg (by have:=hb'.size;simp;omega) (fun k hk=>(HO'.blk_ k hk).1)
    clear hg hb' HO'
    go_wp2
    go_roundw
    case rel=>exact ⟨i+1,c5,1,A5,_,by go_num,rfl,rfl,by omega,by omega,h5,hb5,HA5.out⟩
    case measure=>simp [intOf]<;>omega
   ·have HA5:=Lib.hid (HN.out (x - y - q) 0 qO qO)
    clear HN
    go_wp2_with (at_builtin;refine dG j8 rfl _ _ rfl (HO'.alloc _) rfl (Sl.new1 .i64 _ _ _) rfl qO qR (by have:=hb'.size;simp;omega) ?_;intro A5 c5 w5 h5 hg)
    have hb5:Below w2.heap.size w2 w5:=(hb'.alloc hb'.size _).grown hg (by have:=hb'.size;simp;omega) (fun k hk=>(HO'.blk_ k hk).1)
    clear hg hb' HO'
    go_wp2
    go_roundw
    case rel=>exact ⟨i+1,c5,0,A5,_,by go_num,rfl,rfl,by omega,by omega,h5,hb5,HA5.out⟩
    case measure=>simp [intOf]<;>omega
  ·obtain rfl:n1=i:=qO
   have hN:val 65536 O=val 4294967296 xs - val 4294967296 ys:=by
    have h1:=hacc.num
    have h2:=ci qD hacc.dg
    have h3:=ar qD hacc.dg
    rw [hacc.len] at h2
    rw [List.take_of_length_le (l:=us) qO,List.take_of_length_le (l:=vs) qO,EU.out,EV.out] at h1
    have hq0:q=0:=by
     rcases Int.lt_or_le 0 q with h|h
     ·obtain rfl:q=1:=qO
      omega
     ·omega
    subst hq0
    omega
   have HN:=Lib.hid hN
   have hD:=hacc.dg
   clear hacc hN
   go_wp2_with fail
   refine (mL ho.sl (Nat.le_refl _) hD qO).mono ?_
   rintro e w4 ⟨zs,hz,A4,n4,c4,rfl,ho4,b4⟩
   rw [HN.out] at hz
   go_wp2_with fail
   go_ret2
   exact ⟨zs,A4,n4,c4,hz,rfl,ho4.lower (Nat.le_trans hb0.size hb.size),hb0.trans ((hb.trans (b4.mono hb.size)).mono hb0.size)⟩
end Go.Proofs.YtjjkikchncfekaaGreatDoor
