/- limb: used, sign, Trim, Cmp: what each call answers. -/
import Derived.Test.YtpmhjieibebclaaGreatDoorProg
import Derived.Test.YtpmhjieibebclaaGreatDoorCA
import Derived.WalkLawsBesides
import Derived.Deep.QuietTactic
import Derived.BigQuiet
import Derived.Lib.Hide
import Derived.KernelRfl
import Derived.WalkKit
import Derived.WalkSpells
import Derived.Laws.BitsLemmas
import Derived.Deep.RegionHeld3
set_option maxHeartbeats 2000000
set_option linter.unusedSimpArgs false
set_option linter.unusedVariables false
namespace Go.Proofs.YtpmhjieibebclaaGreatDoor
open Go Go.RowKit
variable {B c n m c2 j i:Nat} {xs ys X:List Int} {w wr:World} {A A2:Option Addr} {x y:Int}
theorem jL:qT Tryz.prog 23 115 .u32 4:=⟨Tryz.underlying23,info_parts qK⟩
def ux (w:World) (B:Nat) (A:Option Addr) (c:Nat) (xs:List Int) (e:Ending):Prop:=
 ∃ A' n' c',e= .returned (.slice A' n' c')∧Sl .u32 w B A' n' c' (tl xs)∧((A'=none∧n'=0∧c'=0)∨(A'=A∧c'=c∧0<n'))
theorem ux.none_(h:tl xs=[]):ux w B A c xs (.returned (.slice none 0 0)):=
 ⟨none,0,0,rfl,by rw [h];exact Sl.nil, .inl ⟨rfl,rfl,rfl⟩⟩
theorem ux.some_(hs:Sl .u32 w B A n c xs) (hj:j+1≤n) (h:tl xs=xs.take (j+1)):ux w B A c xs (.returned (.slice A (j+1) c)):=
 ⟨A,j+1,c,rfl,by rw [h];exact hs.front hj, .inr ⟨rfl,rfl,by omega⟩⟩
theorem dm(hs:Sl .u32 w B A n c xs):
 Calls Tryz.prog 148 #[.slice A n c] w fun e w'=>ux w B A c xs e∧w=w':=by
 have hm:=hs.lenMax
 have hnc:=hs.le
 go_enter Tryz.func148,Tryz.ntmps148
 go_wp2
 go_loop [3] (fun i=>∃ k:Nat,k≤n∧i= .int .i64 k∧fI xs k) (fun i=>(intOf i).toNat)
 case atStart=>exact ⟨n,by omega,rfl, .start hs.len⟩
 case round=>
  obtain ⟨k,hk,rfl,ht⟩:=hrel
  by_cases h0:k=0
  ·subst h0
   go_wp2
   go_ret
   exact ⟨.none_ ht.zero,rfl⟩
  ·obtain ⟨j,rfl⟩:∃ j,k=j+1:=⟨k - 1,by omega⟩
   obtain ⟨b,off,x,rfl,_,hx,hcell⟩:=hs.at_ (j:=j) qO
   by_cases hx0:x=0
   ·subst hx0
    go_wp2
    go_round
    case rel=>exact ⟨j,by omega,rfl,ht.down hx⟩
    case measure=>simp [intOf]<;>omega
   ·have hb:(x==0)=false:=beq_eq_false_iff_ne.2 hx0
    have hj:(((j:Int)+1)==0)=false:=beq_eq_false_iff_ne.2 qO
    have hstop:=Lib.hid (ht.stop hx hx0)
    go_wp2
    go_ret
    exact ⟨.some_ hs hk hstop.out,rfl⟩
def It (b:Bool):Int:=if b then 1 else -1
theorem vj (b:Bool) (w:World):Calls Tryz.prog 164 #[.bool b] w fun e w'=>e= .returned (.int .i64 (It b))∧w=w':=by
 cases b<;>
 ·go_enter Tryz.func164,Tryz.ntmps164
  go_wp2
  go_ret
  exact ⟨rfl,rfl⟩
def IP (w:World) (ys:List Int) (e:Ending) (w':World):Prop:=
 ∃ A n c,e= .returned (.slice A n c)∧bH .u32 115 w' w.heap.size A n c ys∧Below w.heap.size w w'
theorem eW(hs:Sl .u32 w B A n c xs) (hn:n≤1000000000):
 Calls Tryz.prog 122 #[.slice A n c] w (IP w (tl xs)):=by
 go_enter Tryz.func122,Tryz.ntmps122
 go_wp2_with fail
 refine (dm hs).mono ?_
 rintro e w' ⟨⟨A',n',c',rfl,hs',_⟩,rfl⟩
 have hl:=hs'.len
 have hl2:=eP xs
 have hl3:=hs.len
 go_wp2_with (at_builtin;refine dN jL rfl _ _ rfl (bH.nil (B:=w.heap.size)) rfl hs' rfl qO qR (Nat.le_refl _) ?_;intro A2 c2 w2 h2 hg)
 rw [Nat.zero_add,List.nil_append] at h2
 go_ret
 exact ⟨_,_,_,rfl,h2,(Below.refl _ _).grown hg (Nat.le_refl _) (fun k hk=>by cases hk)⟩
def xQ (x y c:Int):Int:=if x<y+c then 1 else 0
theorem Ci (x y c:Int):0≤xQ x y c∧xQ x y c≤1:=by unfold xQ;split<;>omega
theorem C9{c:Int} (hx:0≤x∧x<4294967296) (hy:0≤y∧y<4294967296) (hc:0≤c∧c≤1):(x - y - c)%4294967296=x - y - c+4294967296*xQ x y c:=by
 unfold xQ;split<;>omega
theorem zq (n:Int) (h0:0≤n) (h1:n<2^32):IntKind.u32.wrap n=n:=by rw [IntKind.wrap_u32];omega
theorem nS (n:Int) (h0:0≤n) (h1:n<2^64):IntKind.u64.wrap n=n:=by
 rw [show IntKind.u64.wrap n=n%18446744073709551616 by simp [IntKind.wrap,IntKind.bits,IntKind.signed]];omega
theorem qj(hx:0≤x∧x<4294967296) (hy:0≤y∧y<4294967296):bits .or .u64 (x*4294967296) y=x*4294967296+y:=
 bits_join .u64 64 qD nS 32 _ _ qO qO qO hy.1 qO qO
theorem pE (a:BitVec 32):a.msb=decide (2147483648≤a.toNat):=BitVec.msb_eq_decide a
theorem ofInt_u32(hx:0≤x∧x<4294967296):((BitVec.ofInt 32 x).toNat:Int)=x:=by
 rw [BitVec.toNat_ofInt];omega
theorem j4 (r:BitVec 32):IntKind.u32.wrap (r.toNat:Int)=(r.toNat:Int):=by
 have:=r.isLt
 rw [IntKind.wrap_u32];omega
theorem vo (x y:Int):bits .and .u32 x y=((BitVec.ofInt 32 x &&& BitVec.ofInt 32 y).toNat:Int):=j4 _
theorem mt (x y:Int):bits .or .u32 x y=((BitVec.ofInt 32 x ||| BitVec.ofInt 32 y).toNat:Int):=j4 _
theorem vz (x y:Int):bits .xor .u32 x y=((BitVec.ofInt 32 x ^^^ BitVec.ofInt 32 y).toNat:Int):=j4 _
theorem wY (r:BitVec 32):BitVec.ofInt 32 (r.toNat:Int)=r:=by
 rw [BitVec.ofInt_natCast,BitVec.ofNat_toNat,BitVec.setWidth_eq]
theorem t8{c d:Int} (hx:0≤x∧x<4294967296) (hy:0≤y∧y<4294967296) (hc:0≤c∧c≤1) (hd:d=(x - y - c)%4294967296):
 bits BinOp.or IntKind.u32 (bits BinOp.and IntKind.u32 (bits BinOp.xor IntKind.u32 IntKind.u32.max x) y)
  (bits BinOp.and IntKind.u32 (bits BinOp.xor IntKind.u32 IntKind.u32.max (bits BinOp.xor IntKind.u32 x y)) d) / 2147483648=xQ x y c:=by
 have hm:(BitVec.ofInt 32 IntKind.u32.max:BitVec 32)=BitVec.allOnes 32:=by decide
 simp only [vo,mt,vz,wY,hm]
 have hX:=ofInt_u32 hx
 have hY:=ofInt_u32 hy
 have hD:=ofInt_u32 (x:=d) qO
 generalize BitVec.ofInt 32 x=X at*
 generalize BitVec.ofInt 32 y=Y at*
 generalize BitVec.ofInt 32 d=D at*
 generalize hR:(BitVec.allOnes 32 ^^^ X) &&& Y ||| (BitVec.allOnes 32 ^^^ (X ^^^ Y)) &&& D=R
 have hmsb:R.msb=((!X.msb&&Y.msb) || ((X.msb==Y.msb)&&D.msb)):=by
  rw [←hR]
  simp only [BitVec.msb_or,BitVec.msb_and,BitVec.msb_xor]
  rw [show (BitVec.allOnes 32).msb=true by decide]
  cases X.msb<;>cases Y.msb<;>cases D.msb<;>rfl
 rw [pE,pE,pE,pE] at hmsb
 have hl:=R.isLt
 unfold xQ
 rcases Nat.lt_or_ge X.toNat 2147483648 with h1|h1<;>rcases Nat.lt_or_ge Y.toNat 2147483648 with h2|h2<;>rcases Nat.lt_or_ge D.toNat 2147483648 with h3|h3<;>
  rcases Nat.lt_or_ge R.toNat 2147483648 with h4|h4<;>simp [h1,h2,h3,h4,Nat.not_le.2,Nat.not_lt.2] at hmsb<;>split<;>omega
theorem lQ (x y c:Int) (w:World) (hx:0≤x∧x<4294967296) (hy:0≤y∧y<4294967296) (hc:0≤c∧c≤1):
 Calls Tryz.prog 187 #[.int .u32 x, .int .u32 y, .int .u32 c] w fun e w'=>e= .returned (.tuple #[.int .u32 ((x+y+c)%4294967296), .int .u32 ((x+y+c) / 4294967296)])∧w=w':=by
 go_enter Tryz.func187,Tryz.ntmps187
 go_wp2
 go_ret2
 exact ⟨rfl,rfl⟩
theorem wL (x c:Int) (w:World) (hx:0≤x∧x<4294967296) (hc:0≤c∧c≤1):
 Calls Tryz.prog 187 #[.int .u32 x, .int .u32 0, .int .u32 c] w fun e w'=>e= .returned (.tuple #[.int .u32 ((x+c)%4294967296), .int .u32 ((x+c) / 4294967296)])∧w=w':=by
 have:=lQ x 0 c w hx qO hc
 rw [Int.add_zero] at this
 exact this
theorem lR (x y c:Int) (w:World) (hx:0≤x∧x<4294967296) (hy:0≤y∧y<4294967296) (hc:0≤c∧c≤1):
 Calls Tryz.prog 196 #[.int .u32 x, .int .u32 y, .int .u32 c] w fun e w'=>e= .returned (.tuple #[.int .u32 ((x - y - c)%4294967296), .int .u32 (xQ x y c)])∧w=w':=by
 have hsg:IntKind.u32.signed=false:=rfl
 have hb:=Lib.hid (t8 hx hy hc rfl)
 go_enter Tryz.func196,Tryz.ntmps196
 go_wp2
 go_ret2
 rw [hb.out]
 refine ⟨?_,rfl⟩
 show Ending.returned (.tuple #[.int .u32 (((x - y)%4294967296 - c)%4294967296), .int .u32 (xQ x y c)])=_
 rw [show ((x - y)%4294967296 - c)%4294967296=(x - y - c)%4294967296 by omega]
theorem zD (x y:Int) (w:World) (hx:0≤x∧x<4294967296) (hy:0≤y∧y<4294967296):
 Calls Tryz.prog 205 #[.int .u32 x, .int .u32 y] w fun e w'=>e= .returned (.tuple #[.int .u32 (x*y / 4294967296), .int .u32 (x*y%4294967296)])∧w=w':=by
 have h0:0≤x*y:=Int.mul_nonneg hx.1 hy.1
 have h1:x*y≤4294967295*4294967295:=Int.mul_le_mul qO qO hy.1 qO
 go_enter Tryz.func205,Tryz.ntmps205
 go_wp2
 go_ret2
 exact ⟨rfl,rfl⟩
theorem sI{hi lo:Int} (hx:0≤lo∧lo<4294967296) (hy:0≤hi∧hi<y):0≤(hi*4294967296+lo) / y∧(hi*4294967296+lo) / y<4294967296:=by
 refine ⟨Int.ediv_nonneg qO qO,Int.ediv_lt_of_lt_mul qO ?_⟩
 have:(hi+1)*4294967296≤y*4294967296:=qO
 omega
theorem Am (hi lo y:Int) (w:World) (hx:0≤lo∧lo<4294967296) (hy:0≤hi∧hi<y) (hc:y<4294967296):
 Calls Tryz.prog 197 #[.int .u32 hi, .int .u32 lo, .int .u32 y] w fun e w'=>e= .returned (.tuple #[.int .u32 ((hi*4294967296+lo) / y), .int .u32 ((hi*4294967296+lo)%y)])∧∃ m,w'=w.drewN m:=by
 have hj:=qj (x:=hi) (y:=lo) qO hx
 have hd:=sI hx hy
 have hr0:=Int.emod_nonneg (hi*4294967296+lo) (show y≠0 by omega)
 have hr1:=Int.emod_lt_of_pos (hi*4294967296+lo) (show 0<y by omega)
 have hyb:(y != 0)=true:=by rw [bne_iff_ne];omega
 have hyd:decide (y≤hi)=false:=by simp;omega
 have hy1:1≤y:=qO
 go_enter Tryz.func197,Tryz.ntmps197
 go_wp2
 go_quiet (fail)
 go_wp2
 go_ret2
 exact ⟨rfl,_,rfl⟩
def jq (xs ys:List Int) (e:Ending):Prop:=e= .returned (.int .i64 (b_ (val 4294967296 xs) (val 4294967296 ys)))
def oc (xs ys:List Int) (k:Nat):Prop:=xs.drop k=ys.drop k
theorem jq.same(h:oc (tl xs) (tl ys) 0):jq xs ys (.returned (.int .i64 0)):=by
 unfold jq
 rw [lM]
 unfold oc at h
 simp only [List.drop_zero] at h
 rw [←bw _ xs,←bw _ ys,h]
theorem jq.digit(hx:Dg 4294967296 xs) (hy:Dg 4294967296 ys) (h:oc (tl xs) (tl ys) (j+1)) (ex:(tl xs)[j]? =some x) (ey:(tl ys)[j]? =some y) (hne:x≠y):
 jq xs ys (.returned (.int .i64 (It (decide (y<x))))):=by
 unfold jq
 rw [←bw _ xs,←bw _ ys]
 by_cases hlt:y<x
 ·rw [gV (ip qD (cH hy) (cH hx) j ey ex h.symm hlt)];simp [hlt,It]
 ·rw [eO (ip qD (cH hx) (cH hy) j ex ey h qO)];simp [hlt,It]
theorem jq.len(hx:Dg 4294967296 xs) (hy:Dg 4294967296 ys) {n1 n2:Nat} (h1:(tl xs).length=n1) (h2:(tl ys).length=n2) (hne:n1≠n2):
 jq xs ys (.returned (.int .i64 (It (decide (n2<n1))))):=by
 unfold jq
 rw [←bw _ xs,←bw _ ys]
 by_cases hlt:n2<n1
 ·rw [gV (dj qD (cH hy) (cH hx) (cd xs) qO)];simp [hlt,It]
 ·rw [eO (dj qD (cH hx) (cH hy) (cd ys) qO)];simp [hlt,It]
theorem iI(hs:Sl .u32 w B A n c xs) (ht:Sl .u32 w B A2 m c2 ys) (hx:Dg 4294967296 xs) (hy:Dg 4294967296 ys):
 Calls Tryz.prog 143 #[.slice A n c, .slice A2 m c2] w fun e w'=>jq xs ys e∧∃ m,w'=w.drewN m:=by
 go_enter Tryz.func143,Tryz.ntmps143
 go_wp2_with fail
 refine (dm hs).mono ?_
 rintro e w' ⟨⟨A',n',c',rfl,hs',_⟩,rfl⟩
 go_wp2_with fail
 refine (dm ht).mono ?_
 rintro e w' ⟨⟨A2',m',c2',rfl,ht',_⟩,rfl⟩
 have hb1:=hs'.lenMax
 have hb2:=ht'.lenMax
 by_cases hne:n'=m'
 ·subst hne
  go_wp2_with fail
  go_loopw [5] (fun i wr=>∃ k q:Nat,k≤n'∧i= .int .i64 ((k:Int) - 1)∧oc (tl xs) (tl ys) k∧wr=w.drewN q) (fun i _=>(intOf i+1).toNat)
  case atStart=>
   refine ⟨n',0,Nat.le_refl _,rfl,?_,rfl⟩
   unfold oc
   rw [List.drop_of_length_le (by rw [hs'.len];omega),List.drop_of_length_le (by rw [ht'.len];omega)]
  case round=>
   obtain ⟨k,q,hk,rfl,hal,rfl⟩:=hrel
   by_cases h0:k=0
   ·subst h0
    go_wp2
    go_ret
    exact ⟨.same hal,q,rfl⟩
   ·obtain ⟨j,rfl⟩:∃ j,k=j+1:=⟨k - 1,by omega⟩
    obtain ⟨b,off,x,rfl,_,ex,hc1⟩:=hs'.at_ (j:=j) qO
    obtain ⟨b2,off2,y,rfl,_,ey,hc2⟩:=ht'.at_ (j:=j) qO
    have hji:(j:Int)<(n':Int):=qO
    by_cases hxy:x=y
    ·subst hxy
     go_wp2
     go_quiet (fail)
     go_wp2
     go_roundw
     case rel=>
      refine ⟨j,_,by omega,by simp,?_,rfl⟩
      unfold oc at*
      rw [np ex,np ey,hal]
     case measure=>simp [intOf]
    ·have hb:(x != y)=true:=by rw [bne_iff_ne];exact hxy
     have hres:=Lib.hid (jq.digit hx hy hal ex ey hxy)
     go_wp2
     go_quiet (fail)
     go_wp2
     go_quiet ((go_at_call 164;refine (vj _ _).mono ?_;rintro e w1 ⟨rfl,rfl⟩;exact ⟨rfl,_,rfl⟩))
     go_wp2
     go_ret
     exact ⟨hres.out,_,by simp only [World.drewN_drewN];rfl⟩
 ·have hb:((n':Int) != (m':Int))=true:=by rw [bne_iff_ne];omega
  have hres:=Lib.hid (jq.len hx hy hs'.len ht'.len hne)
  go_wp2_with fail
  refine (vj _ _).mono ?_
  rintro e w' ⟨rfl,rfl⟩
  go_wp2
  go_ret
  exact ⟨hres.out,0,rfl⟩
def IX (σ:Int) (w:World) (B:Nat) (A:Option Addr) (n c:Nat) (S X:List Int) (e:Ending) (w':World):Prop:=
 e= .returned (.tuple #[])∧∃ S1,bH .u32 115 w' B A n c S1∧Dg 4294967296 S1∧val 4294967296 S1=val 4294967296 S+σ*val 4294967296 X∧w.grownBy w' (fh A)
def wX (σ:Int) (w:World) (B:Nat) (A:Option Addr) (n c:Nat) (S X:List Int) (i:Nat) (cr:Int) (wr:World):Prop:=
 ∃ S1,bH .u32 115 wr B A n c S1∧jd 4294967296 σ S X S1 i cr∧w.grownBy wr (fh A)
theorem wX.set{σ:Int} {S:List Int} {cr:Int} (h:wX σ w B A n c S X i cr wr) (hi:i<n):
 ∃ g s,A=some ⟨g,0,none⟩∧B≤g∧(0≤s∧s<4294967296)∧(0≤cr∧cr≤1)∧wr.cell? ⟨g,i,none⟩=some (.int .u32 s)∧wr.frozen? ⟨g,i,none⟩=false∧
  ∀ d x cr',X[i]?.getD 0=x→(0≤d∧d<4294967296)→(0≤cr'∧cr'≤1)→d+σ*(4294967296*cr')=s+σ*(x+cr)→
   wX σ w B A n c S X (i+1) cr' (wr.setCell ⟨g,i,none⟩ (.int .u32 d)):=by
 obtain ⟨S1,ho,hc,hg⟩:=h
 obtain ⟨g,s,rfl,hB,hlt,hs,hcell,hfr,hput⟩:=ho.set hi
 refine ⟨g,s,rfl,hB,hc.dg.get hs,hc.c01,hcell,hfr,fun d x cr' hx hd hcr e=> ?_⟩
 obtain ⟨h1,h2⟩:=hput d
 refine ⟨_,h1,hc.step hs hx hd hcr e,?_⟩
 exact ⟨h2.os.trans hg.os,h2.tape.trans hg.tape,h2.output.trans hg.output,Nat.le_trans hg.size h2.size,fun k hk hne=>(h2.block k (Nat.lt_of_lt_of_le hk hg.size) hne).trans (hg.block k hk hne)⟩
theorem Ap {w:World} {B:Nat} {A A2:Option Addr} {n c m c2:Nat} {S X:List Int} (ho:bH .u32 115 w B A n c S) (ht:Sl .u32 w B A2 m c2 X) (hB:B≤w.heap.size) (hS:Dg 4294967296 S) (hX:Dg 4294967296 X) (hmn:m≤n)
 (hfit:val 4294967296 S+val 4294967296 X<4294967296^n):
 Calls Tryz.prog 167 #[.slice A n c, .slice A2 m c2] w (IX 1 w B A n c S X):=by
 have hlen:=ho.len
 have htl:=ht.len
 have hn:=ho.sl.lenMax
 have hm:=ht.lenMax
 rw [←hlen] at hfit
 have HF:=Lib.hid hfit
 clear hfit
 go_enter Tryz.func167,Tryz.ntmps167
 go_wp2_with fail
 go_loopw [4,10] (fun cv iv wr=>∃ (i:Nat) (cr:Int),i≤m∧iv= .int .i64 i∧cv= .int .u32 cr∧wX 1 w B A n c S X i cr wr) (fun _ iv _=>m - (intOf iv).toNat)
 case atStart=>exact ⟨0,0,Nat.zero_le _,rfl,rfl,S,ho, .start hS,World.grownBy.refl _ _⟩
 case round=>
  obtain ⟨i,cr,hi,rfl,rfl,hinv⟩:=hrel
  have hgr:w.grownBy wr (fh A):=hinv.choose_spec.2.2
  by_cases hlt:i<m
  ·obtain ⟨g,s,rfl,hBg,hs,hcr,hcell,hfr,hput⟩:=hinv.set (i:=i) qO
   obtain ⟨b2,off2,x,rfl,_,ex,hc2⟩:=(ht.grown hgr hB (fun k hk=>by have:g=k:=by simpa [fh] using hk
                                                                   omega)).at_ hlt
   have hxx:=hX.get ex
   have hin:i<n:=qO
   have hnext:=Lib.hid (hput ((s+x+cr)%4294967296) x ((s+x+cr) / 4294967296) (by simp [ex]) (lO qD hs hxx hcr).1 (lO qD hs hxx hcr).2.1 (lO qD hs hxx hcr).2.2)
   clear hput hgr hinv ho ht
   go_wp2_with (go_at_call 187;refine (lQ _ _ _ _ hs hxx hcr).mono ?_;rintro e w' ⟨rfl,rfl⟩)
   go_roundw
   case rel=>exact ⟨i+1,_,by omega,by go_num,rfl,hnext.out⟩
   case measure=>simp [intOf]<;>omega
  ·obtain rfl:m=i:=qO
   clear hgr
   go_wp2_with fail
   go_loopw [4,7] (fun cv iv wr=>∃ (i:Nat) (cr:Int),m≤i∧i≤n∧iv= .int .i64 i∧cv= .int .u32 cr∧wX 1 w B A n c S X i cr wr) (fun _ iv _=>n - (intOf iv).toNat)
   case atStart=>exact ⟨m,cr,Nat.le_refl _,hmn,rfl,rfl,hinv⟩
   case round=>
    obtain ⟨i,cr,hi,hin,rfl,rfl,hinv⟩:=hrel
    by_cases h0:cr=0
    ·subst h0
     obtain ⟨S1,h1,h2,h3⟩:=hinv
     go_wp2_with fail
     go_end0
     exact ⟨rfl,S1,h1,h2.dg,by rw [h2.stop qO qO],h3⟩
    ·have hb:(cr != 0)=true:=by rw [bne_iff_ne];exact h0
     have hlt2:i<n:=by
      obtain ⟨S1,h1,h2,h3⟩:=hinv
      have:=h2.room qD qO qO h0 HF.out
      omega
     obtain ⟨g,s,rfl,hBg,hs,hcr,hcell,hfr,hput⟩:=hinv.set (i:=i) hlt2
     have had:=lO (β:=4294967296) (x:=0) qD hs qD hcr
     rw [Int.add_zero] at had
     have hnext:=Lib.hid (hput ((s+cr)%4294967296) 0 ((s+cr) / 4294967296) (by rw [List.getElem?_eq_none (by omega)];rfl) had.1 had.2.1 had.2.2)
     clear hput hinv ho ht had
     go_wp2_with (go_at_call 187;refine (wL _ _ _ hs hcr).mono ?_;rintro e w' ⟨rfl,rfl⟩)
     go_roundw
     case rel=>exact ⟨i+1,_,by omega,by omega,by go_num,rfl,hnext.out⟩
     case measure=>simp [intOf]<;>omega
theorem wo (x c:Int) (w:World) (hx:0≤x∧x<4294967296) (hc:0≤c∧c≤1):
 Calls Tryz.prog 196 #[.int .u32 x, .int .u32 0, .int .u32 c] w fun e w'=>e= .returned (.tuple #[.int .u32 ((x - c)%4294967296), .int .u32 (xQ x 0 c)])∧w=w':=by
 have:=lR x 0 c w hx qO hc
 rw [Int.sub_zero] at this
 exact this
theorem Cf (x y:Int) (w:World) (hx:0≤x∧x<4294967296) (hy:0≤y∧y<4294967296):
 Calls Tryz.prog 187 #[.int .u32 x, .int .u32 y, .int .u32 0] w fun e w'=>e= .returned (.tuple #[.int .u32 ((x+y)%4294967296), .int .u32 ((x+y) / 4294967296)])∧w=w':=by
 have:=lQ x y 0 w hx hy qO
 rw [Int.add_zero] at this
 exact this
theorem tn {w:World} {B:Nat} {A A2:Option Addr} {n c m c2:Nat} {S X:List Int} (ho:bH .u32 115 w B A n c S) (ht:Sl .u32 w B A2 m c2 X) (hB:B≤w.heap.size) (hS:Dg 4294967296 S) (hX:Dg 4294967296 X) (hmn:m≤n)
 (hfit:val 4294967296 X≤val 4294967296 S):
 Calls Tryz.prog 186 #[.slice A n c, .slice A2 m c2] w (IX (-1) w B A n c S X):=by
 have hlen:=ho.len
 have htl:=ht.len
 have hn:=ho.sl.lenMax
 have hm:=ht.lenMax
 have HF:=Lib.hid hfit
 clear hfit
 go_enter Tryz.func186,Tryz.ntmps186
 go_wp2_with fail
 go_loopw [4,10] (fun cv iv wr=>∃ (i:Nat) (cr:Int),i≤m∧iv= .int .i64 i∧cv= .int .u32 cr∧wX (-1) w B A n c S X i cr wr) (fun _ iv _=>m - (intOf iv).toNat)
 case atStart=>exact ⟨0,0,Nat.zero_le _,rfl,rfl,S,ho, .start hS,World.grownBy.refl _ _⟩
 case round=>
  obtain ⟨i,cr,hi,rfl,rfl,hinv⟩:=hrel
  have hgr:w.grownBy wr (fh A):=hinv.choose_spec.2.2
  by_cases hlt:i<m
  ·obtain ⟨g,s,rfl,hBg,hs,hcr,hcell,hfr,hput⟩:=hinv.set (i:=i) qO
   obtain ⟨b2,off2,x,rfl,_,ex,hc2⟩:=(ht.grown hgr hB (fun k hk=>by have:g=k:=by simpa [fh] using hk
                                                                   omega)).at_ hlt
   have hxx:=hX.get ex
   have hin:i<n:=qO
   have had:=rJ hs hxx hcr rfl rfl
   have hnext:=Lib.hid (hput ((s - x - cr)%4294967296) x (xQ s x cr) (by simp [ex]) had.1 had.2.1 had.2.2)
   clear hput hgr hinv ho ht had
   go_wp2_with (go_at_call 196;refine (lR _ _ _ _ hs hxx hcr).mono ?_;rintro e w' ⟨rfl,rfl⟩)
   go_roundw
   case rel=>exact ⟨i+1,_,by omega,by go_num,rfl,hnext.out⟩
   case measure=>simp [intOf]<;>omega
  ·obtain rfl:m=i:=qO
   clear hgr
   go_wp2_with fail
   go_loopw [4,7] (fun cv iv wr=>∃ (i:Nat) (cr:Int),m≤i∧i≤n∧iv= .int .i64 i∧cv= .int .u32 cr∧wX (-1) w B A n c S X i cr wr) (fun _ iv _=>n - (intOf iv).toNat)
   case atStart=>exact ⟨m,cr,Nat.le_refl _,hmn,rfl,rfl,hinv⟩
   case round=>
    obtain ⟨i,cr,hi,hin,rfl,rfl,hinv⟩:=hrel
    by_cases h0:cr=0
    ·subst h0
     obtain ⟨S1,h1,h2,h3⟩:=hinv
     go_wp2_with fail
     go_end0
     exact ⟨rfl,S1,h1,h2.dg,by rw [h2.stop qO qO],h3⟩
    ·have hb:(cr != 0)=true:=by rw [bne_iff_ne];exact h0
     have hlt2:i<n:=by
      obtain ⟨S1,h1,h2,h3⟩:=hinv
      have:=h2.roomDown qD qO qO h0 HF.out
      omega
     obtain ⟨g,s,rfl,hBg,hs,hcr,hcell,hfr,hput⟩:=hinv.set (i:=i) hlt2
     have had:=rJ (x:=0) hs qD hcr rfl rfl
     rw [Int.sub_zero] at had
     have hnext:=Lib.hid (hput ((s - cr)%4294967296) 0 (xQ s 0 cr) (by rw [List.getElem?_eq_none (by omega)];rfl) had.1 had.2.1 had.2.2)
     clear hput hinv ho ht had
     go_wp2_with (go_at_call 196;refine (wo _ _ _ hs hcr).mono ?_;rintro e w' ⟨rfl,rfl⟩)
     go_roundw
     case rel=>exact ⟨i+1,_,by omega,by omega,by go_num,rfl,hnext.out⟩
     case measure=>simp [intOf]<;>omega
def mR (w:World) (N:Int) (e:Ending) (w':World):Prop:=∃ ys,fZ 4294967296 N ys∧IP w ys e w'
theorem bH.used{B2:Nat} {A':Option Addr} {n' c':Nat} (h:bH .u32 115 w B A n c xs) (hs:Sl .u32 wr B2 A' n' c' (tl xs)) (hA:(A'=none∧n'=0∧c'=0)∨(A'=A∧c'=c∧0<n')):
 bH .u32 115 w B A' n' c' (tl xs):=by
 have hl:=hs.len
 rcases hA with ⟨rfl,rfl,rfl⟩|⟨rfl,rfl,h0⟩
 ·rw [List.eq_nil_of_length_eq_zero hl];exact bH.nil
 ·have h1:=eP xs
  have h2:=h.len
  have hne:A'≠none:=by
   rintro rfl
   rcases h.form with ⟨_,h3,_⟩|⟨g,h3,_⟩
   ·omega
   ·cases h3
  have:=h.front (m:=n') qO hne
  have e:=yj xs
  rw [hl] at e
  rw [e]
  exact this
theorem tW{m:Int} (hs:Sl .u32 w B A n c xs) (hB:B≤w.heap.size) (hx:Dg 4294967296 xs) (hm:0≤m∧m<4294967296) (hn:n≤1000000000):
 Calls Tryz.prog 201 #[.slice A n c, .int .u32 m] w (mR w (m*val 4294967296 xs)):=by
 go_enter Tryz.func201,Tryz.ntmps201
 go_wp2_with fail
 refine (dm hs).mono ?_
 rintro e w' ⟨⟨A',n',c',rfl,hs',_⟩,rfl⟩
 have hl:=hs'.len
 have hn':n'≤1000000000:=by have:=eP xs;have:=hs.len;omega
 have hx':=cH hx
 have hv:Hid (val 4294967296 (tl xs)=val 4294967296 xs):=bw _ _
 generalize tl xs=X at*
 go_wp2_with (at_make;refine eJ jL rfl _ _ rfl (B:=w.heap.size) (n'+1) rfl rfl qO qO qO qR (Nat.le_refl _) ?_;intro w1 h1 hg1)
 have hmk:=Mk.made h1 hg1
 clear h1 hg1
 go_loopw [6,21] (fun hv iv wr=>∃ (i:Nat) (h:Int) (P:List Int),i≤n'∧iv= .int .i64 i∧hv= .int .u32 h∧Mk .u32 115 w (some ⟨w.heap.size,0,none⟩) (n'+1) (n'+1) P wr∧Prod 4294967296 m X P i h) (fun _ iv _=>n' - (intOf iv).toNat)
 case atStart=>exact ⟨0,0,_,Nat.zero_le _,rfl,rfl,hmk, .start qD (Dg.zeros qD _)⟩
 case round=>
  obtain ⟨i,h,P,hi,rfl,rfl,hmr,hp⟩:=hrel
  have hhi:=hp.high
  clear hmk
  by_cases hlt:i<n'
  ·obtain ⟨b2,off2,x,rfl,_,ex,hc2⟩:=(hmr.other hs' hB).at_ hlt
   obtain ⟨g,s,hg,_,_,hcell,hfr,hput⟩:=hmr.set (i:=i) qO
   obtain rfl:w.heap.size=g:=by simpa using hg
   have hxx:=hx'.get ex
   have hPl:=hmr.1.len
   obtain ⟨d1,d2,d3,d4,d5⟩:=zV hxx hm hhi
   have hmul:=zD x m wr hxx hm
   have hnext:=Lib.hid (hput ((x*m+h)%4294967296))
   have hstep:=Lib.hid (hp.step ex qO d3 d4 d5)
   clear hput hmr hp hs' hs d3 d5
   have had:=Cf (x*m%4294967296) h wr qO hhi
   have HM:=Lib.hid hmul
   have HA:=Lib.hid had
   clear hmul had
   go_wp2_with (first|(go_at_call 205;refine HM.out.mono ?_;rintro e w' ⟨rfl,rfl⟩)|(go_at_call 187;refine HA.out.mono ?_;rintro e w' ⟨rfl,rfl⟩))
   go_roundw
   case rel=>exact ⟨i+1,_,_,by omega,by go_num,rfl,hnext.out,hstep.out⟩
   case measure=>simp [intOf]<;>omega
  ·obtain rfl:n'=i:=qO
   obtain ⟨g,s,hg,_,_,hcell,hfr,hput⟩:=hmr.set (i:=n') qO
   obtain rfl:w.heap.size=g:=by simpa using hg
   have hfin:=hp.stop hl hmr.1.len
   have hnext:=Lib.hid (hput h)
   have HF:=Lib.hid hfin
   clear hput hfin hmr
   go_wp2_with fail
   refine (dm hnext.out.1.sl).mono ?_
   rintro e w' ⟨⟨A3,n3,c3,rfl,hs3,hA3⟩,rfl⟩
   go_wp2_with fail
   go_ret
   refine ⟨_,⟨cH HF.out.2,cd _,?_⟩,_,_,_,rfl,hnext.out.1.used hs3 hA3,hnext.out.2⟩
   rw [bw,HF.out.1,hv.out]
def JE (w:World) (N d:Int) (e:Ending) (w':World):Prop:=
 ∃ ys A n c,fZ 4294967296 (N / d) ys∧e= .returned (.tuple #[.slice A n c, .int .u32 (N%d), .int .i64 0])∧bH .u32 115 w' w.heap.size A n c ys∧Below w.heap.size w w'
theorem tq{d:Int} (hs:Sl .u32 w B A n c xs) (hB:B≤w.heap.size) (hx:Dg 4294967296 xs) (hd:0<d∧d<4294967296) (hn:n≤1000000000):
 Calls Tryz.prog 188 #[.slice A n c, .int .u32 d] w (JE w (val 4294967296 xs) d):=by
 have hd0:(d==0)=false:=beq_eq_false_iff_ne.2 qO
 go_enter Tryz.func188,Tryz.ntmps188
 go_wp2_with fail
 refine (dm hs).mono ?_
 rintro e w' ⟨⟨A',n',c',rfl,hs',_⟩,rfl⟩
 have hl:=hs'.len
 have hn':n'≤1000000000:=by have:=eP xs;have:=hs.len;omega
 have hx':=cH hx
 have hv:Hid (val 4294967296 (tl xs)=val 4294967296 xs):=bw _ _
 generalize tl xs=X at*
 go_wp2_with (at_make;refine eJ jL rfl _ _ rfl (B:=w.heap.size) n' rfl rfl qO qO qO qR (Nat.le_refl _) ?_;intro w1 h1 hg1)
 have hmk:=Mk.made h1 hg1
 clear h1 hg1
 go_loopw [5,7] (fun rv iv wr=>∃ (k:Nat) (r:Int) (Q:List Int),k≤n'∧iv= .int .i64 ((k:Int) - 1)∧rv= .int .u32 r∧Mk .u32 115 w (some ⟨w.heap.size,0,none⟩) n' n' Q wr∧F8 4294967296 d X Q k r) (fun _ iv _=>(intOf iv+1).toNat)
 case atStart=>exact ⟨n',0,_,Nat.le_refl _,rfl,rfl,hmk, .start hd.1 (Dg.zeros qD _) qO qE⟩
 case round=>
  obtain ⟨k,r,Q,hk,rfl,rfl,hmr,hq⟩:=hrel
  have hr:=hq.rest
  clear hmk
  by_cases h0:k=0
  ·subst h0
   have HQ:=Lib.hid hq
   clear hq
   go_wp2_with fail
   refine (dm hmr.1.sl).mono ?_
   rintro e w' ⟨⟨A3,n3,c3,rfl,hs3,hA3⟩,rfl⟩
   have hnum:=HQ.out.num
   simp only [List.drop_zero] at hnum
   have e1:val 4294967296 X / d=val 4294967296 Q:=by
    rw [hnum,Int.add_comm,Int.add_mul_ediv_left _ _ qO,Int.ediv_eq_zero_of_lt hr.1 hr.2];omega
   have e2:val 4294967296 X%d=r:=by rw [hnum,Int.add_comm,Int.add_mul_emod_self_left,Int.emod_eq_of_lt hr.1 hr.2]
   have E1:=Lib.hid e1
   have E2:=Lib.hid e2
   clear e1 e2 hnum
   go_wp2_with fail
   go_ret3
   refine ⟨_,A3,n3,c3,⟨cH HQ.out.dg,cd _,?_⟩,?_,hmr.1.used hs3 hA3,hmr.2⟩
   ·rw [bw,←hv.out,E1.out]
   ·rw [←hv.out,E2.out];rfl
  ·obtain ⟨j,rfl⟩:∃ j,k=j+1:=⟨k - 1,by omega⟩
   obtain ⟨b2,off2,x,rfl,_,ex,hc2⟩:=(hmr.other hs' hB).at_ (j:=j) qO
   obtain ⟨g,s,hg,_,_,hcell,hfr,hput⟩:=hmr.set (i:=j) qO
   obtain rfl:w.heap.size=g:=by simpa using hg
   have hxx:=hx'.get ex
   have hdiv:=sI hxx hr
   have hstep:=Lib.hid (hq.step ex (by have:=hmr.1.len;omega) hdiv)
   have hnext:=Lib.hid fun m=>(hmr.drew m).set (i:=j) qO
   have HD:=Lib.hid (Am r x d wr hxx hr hd.2)
   clear hput hmr hq hs' hs
   go_wp2_with (go_at_call 197;refine HD.out.mono ?_;rintro e w' ⟨rfl,q,rfl⟩)
   obtain ⟨g,s,hg,_,_,_,_,hput⟩:=hnext.out q
   obtain rfl:w.heap.size=g:=by simpa using hg
   go_roundw
   case rel=>exact ⟨j,_,_,by omega,by simp,rfl,hput _,hstep.out⟩
   case measure=>simp [intOf]<;>omega
def Ae (w:World) (N:Int) (e:Ending) (w':World):Prop:=
 ∃ ys A n c,fZ 4294967296 N ys∧e= .returned (.tuple #[.slice A n c, .int .i64 0])∧bH .u32 115 w' w.heap.size A n c ys∧Below w.heap.size w w'
theorem Below.of_drewN{w':World} {q:Nat} (h:Below B (w.drewN q) w'):Below B w w':=⟨h.os,h.tape,h.output,h.size,h.block⟩
theorem nC(hs:Sl .u32 w B A n c xs) (ht:Sl .u32 w B A2 m c2 ys) (hB:B≤w.heap.size) (hx:Dg 4294967296 xs) (hy:Dg 4294967296 ys) (hle:val 4294967296 ys≤val 4294967296 xs) (hn:n≤1000000000):
 Calls Tryz.prog 166 #[.slice A n c, .slice A2 m c2] w (Ae w (val 4294967296 xs - val 4294967296 ys)):=by
 have HC:=Lib.hid (iI hs ht hx hy)
 go_enter Tryz.func166,Tryz.ntmps166
 go_wp2_with fail
 refine HC.out.mono ?_
 rintro e w' ⟨hr,q,rfl⟩
 obtain ⟨v,hv0,rfl⟩:∃ v:Int,0≤v∧e= .returned (.int .i64 v):=by
  unfold jq at hr
  refine ⟨_,?_,hr⟩
  unfold b_
  rw [if_neg qO]
  split<;>omega
 clear hr
 go_wp2_with fail
 refine (eW (hs.drew q) hn).mono ?_
 rintro e w1 ⟨A1,n1,c1,rfl,h1,hb1⟩
 have hb1':Below w.heap.size w w1:=Below.of_drewN hb1
 clear hb1
 go_wp2_with fail
 refine (dm (ht.below hb1' hB)).mono ?_
 rintro e w2 ⟨⟨A',n',c',rfl,hs',_⟩,rfl⟩
 have hl1:=h1.len
 have hl2:=hs'.len
 have hlen:n'≤n1:=by
  rcases Nat.lt_or_ge n1 n' with h|h
  ·have:=dj (β:=4294967296) qD (cH hx) (cH hy) (cd ys) qO
   rw [bw,bw] at this
   omega
  ·exact h
 have h1':bH .u32 115 w1 w.heap.size A1 n1 c1 (tl xs):=h1
 go_wp2_with fail
 refine (tn (h1'.lower hB) hs' (Nat.le_trans hB hb1'.size) (cH hx) (cH hy) hlen (by rw [bw,bw];exact hle)).mono ?_
 rintro e w2 ⟨rfl,S1,h2,hd2,hval,hg⟩
 have hb2:Below w.heap.size w w2:=hb1'.grown hg hb1'.size (fun k hk=>(h1'.blk_ k hk).1)
 have h2':bH .u32 115 w2 w.heap.size A1 n1 c1 S1:=h2.raise h1'
 go_wp2_with fail
 refine (dm h2'.sl).mono ?_
 rintro e w3 ⟨⟨A3,n3,c3,rfl,hs3,hA3⟩,rfl⟩
 go_wp2_with fail
 go_ret2
 refine ⟨_,A3,n3,c3,⟨cH hd2,cd _,?_⟩,rfl,h2'.used hs3 hA3,hb2⟩
 rw [bw,hval,bw,bw]
 omega
def nR (w:World) (B:Nat) (A:Option Addr) (n c:Nat) (xss:List (List Int)):Prop:=
 xss.length=n∧n≤c∧c≤maxLen∧(A=none→c=0)∧
  (0<n→∃ b off,A=some ⟨b,off,none⟩∧b<B∧∀ j xs,xss[j]? =some xs→∃ A' n' c',w.cell? ⟨b,off+j,none⟩=some (.slice A' n' c')∧Sl .u32 w B A' n' c' xs)
section
variable {w w':World} {B:Nat} {A:Option Addr} {n c:Nat} {xss:List (List Int)}
theorem nR.keep (h:nR w B A n c xss) (hk:∀ p:Addr,p.block<B→w'.cell? p=w.cell? p):nR w' B A n c xss:=by
 refine ⟨h.1,h.2.1,h.2.2.1,h.2.2.2.1,fun hn=> ?_⟩
 obtain ⟨b,off,hA,hb,hc⟩:=h.2.2.2.2 hn
 refine ⟨b,off,hA,hb,fun j x hx=> ?_⟩
 obtain ⟨A',n',c',h1,h2⟩:=hc j x hx
 exact ⟨A',n',c',(hk _ hb).trans h1,h2.keep hk⟩
theorem nR.below {B':Nat} (h:nR w B A n c xss) (hb:Below B' w w') (hB:B≤B'):nR w' B A n c xss:=h.keep fun _ hp=>hb.cell qO
theorem nR.at_(h:nR w B A n c xss) (hj:j<n):∃ b off xs A' n' c',A=some ⟨b,off,none⟩∧b<B∧xss[j]? =some xs∧w.cell? ⟨b,off+j,none⟩=some (.slice A' n' c')∧Sl .u32 w B A' n' c' xs:=by
 obtain ⟨b,off,hA,hb,hc⟩:=h.2.2.2.2 qO
 have hl:j<xss.length:=by have:=h.1;omega
 obtain ⟨A',n',c',h1,h2⟩:=hc j _ (List.getElem?_eq_getElem hl)
 exact ⟨b,off,xss[j],A',n',c',hA,hb,List.getElem?_eq_getElem hl,h1,h2⟩
theorem nR.lenMax (h:nR w B A n c xss):n≤9223372036854775807:=by
 have h1:=h.2.1
 have h2:=h.2.2.1
 unfold maxLen at h2
 omega
end
def jJ (xss:List (List Int)):Int:=(xss.map (val 4294967296)).sum
theorem nQ (l:List (List Int)) (xs:List Int):jJ (l++[xs])=jJ l+val 4294967296 xs:=by simp [jJ]
def DS (xss:List (List Int)) (i M:Nat):Prop:=∀ j xs,j<i→xss[j]? =some xs→(tl xs).length≤M
theorem DS.step {xss:List (List Int)} {i M L:Nat} (h:DS xss i M) {xs:List Int} (hx:xss[i]? =some xs) (hL:(tl xs).length=L):DS xss (i+1) (max M L):=by
 intro j ys hj hy
 by_cases hji:j=i
 ·subst hji
  rw [hx] at hy
  injection hy with hy
  subst hy
  omega
 ·have:=h j ys qO hy
  omega
structure zR (xss:List (List Int)) (M i:Nat) (S:List Int):Prop where
 dg:Dg 4294967296 S
 num:val 4294967296 S=jJ (xss.take i)
 most:val 4294967296 S≤(i:Int)*4294967296^M
theorem zR.fit{xss:List (List Int)} {M:Nat} {S:List Int} (h:zR xss M i S) (hx:Dg 4294967296 xs) (hl:(tl xs).length≤M) (hi:(i:Int)+1≤9223372036854775807):
 val 4294967296 S+val 4294967296 xs≤((i:Int)+1)*4294967296^M∧val 4294967296 S+val 4294967296 xs<4294967296^(M+2):=by
 refine E9 hi h.most ?_
 rw [←bw]
 exact Int.lt_of_lt_of_le (bQ qD (cH hx)) (aP qD hl)
theorem zR.step {xss:List (List Int)} {M i:Nat} {S S1 xs:List Int} (h:zR xss M i S) (ex:xss[i]? =some xs) (hd:Dg 4294967296 S1) (hv:val 4294967296 S1=val 4294967296 S+val 4294967296 xs)
 (hm:val 4294967296 S+val 4294967296 xs≤((i:Int)+1)*4294967296^M):zR xss M (i+1) S1:=by
 refine ⟨hd,?_,by rw [hv];exact hm⟩
 rw [hv,h.num,List.take_add_one,ex]
 exact (nQ _ _).symm
theorem nR.two(w:World) (hB:B≤w.heap.size) (hs:Sl .u32 w B A n c xs) (ht:Sl .u32 w B A2 m c2 ys) (t:TypeId):
 nR (w.alloc (.cells #[.slice A n c, .slice A2 m c2] t)) (w.heap.size+1) (some ⟨w.heap.size,0,none⟩) 2 2 [xs,ys]:=by
 refine ⟨rfl,Nat.le_refl _,by unfold maxLen;omega,fun h=>(by cases h),fun _=>⟨w.heap.size,0,rfl,by omega,fun j zs hz=> ?_⟩⟩
 have hj:j<2:=(List.getElem?_eq_some_iff.1 hz).1
 rcases j with _|_|j
 ·simp at hz;subst hz
  exact ⟨A,n,c,by simp [World.cell?_alloc_new],(hs.alloc hB _).more qO⟩
 ·simp at hz;subst hz
  exact ⟨A2,m,c2,by simp [World.cell?_alloc_new],(ht.alloc hB _).more qO⟩
 ·omega
theorem sW{xss:List (List Int)} (hs:nR w B A n c xss) (hB:B≤w.heap.size) (hx:∀ xs∈xss,Dg 4294967296 xs) (hn:∀ xs∈xss,xs.length≤1000000000):
 Calls Tryz.prog 146 #[.slice A n c] w (mR w (jJ xss)):=by
 have hm:=hs.lenMax
 go_enter Tryz.func146,Tryz.ntmps146
 go_wp2_with fail
 go_loop [3,11] (fun mv iv=>∃ i M:Nat,i≤n∧M≤1000000000∧iv= .int .i64 i∧mv= .int .i64 M∧DS xss i M) (fun _ iv=>n - (intOf iv).toNat)
 case atStart=>exact ⟨0,0,by omega,by omega,rfl,rfl,fun j xs h=>absurd h qO⟩
 case round=>
  obtain ⟨i,M,hi,hM,rfl,rfl,hmost⟩:=hrel
  by_cases hlt:i<n
  ·obtain ⟨b,off,xs,A',n',c',rfl,_,ex,hcell,hsl⟩:=hs.at_ hlt
   have hmem:=List.mem_of_getElem? ex
   go_wp2_with fail
   refine (dm hsl).mono ?_
   rintro e w' ⟨⟨A2,n2,c2,rfl,hs2,_⟩,rfl⟩
   have hl2:=hs2.len
   have hl3:n2≤1000000000:=by have:=hn xs hmem;have:=eP xs;omega
   have hstep:=Lib.hid (hmost.step ex hl2)
   clear hmost
   go_wp2_with fail
   go_round
   case rel=>exact ⟨i+1,max M n2,by omega,by omega,by go_num,congrArg (Value.int .i64) (by split<;>omega),hstep.out⟩
   case measure=>simp [intOf]<;>omega
  ·obtain rfl:n=i:=qO
   go_wp2_with (at_make;refine eJ jL rfl _ _ rfl (B:=w.heap.size) (M+2) rfl rfl qO qO qO qR (Nat.le_refl _) ?_;intro w1 h1 hg1)
   have hmk:=Mk.made h1 hg1
   clear h1 hg1
   go_loopw [26] (fun iv wr=>∃ (i:Nat) (S:List Int),i≤n∧iv= .int .i64 i∧Mk .u32 115 w (some ⟨w.heap.size,0,none⟩) (M+2) (M+2) S wr∧zR xss M i S) (fun iv _=>n - (intOf iv).toNat)
   case atStart=>exact ⟨0,_,Nat.zero_le _,rfl,hmk,Dg.zeros qD _,by rw [gM];rfl,by rw [gM];simp⟩
   case round=>
    obtain ⟨i,S,hi,rfl,hmr,hsum⟩:=hrel
    clear hmk
    by_cases hlt:i<n
    ·obtain ⟨b,off,xs,A',n',c',rfl,_,ex,hcell,hsl⟩:=(hs.below hmr.2 hB).at_ hlt
     have hmem:=List.mem_of_getElem? ex
     have hl:=hmost i xs hlt ex
     have hfit:=hsum.fit (hx xs hmem) hl qO
     have HS:=Lib.hid hsum
     have HF:=Lib.hid hfit
     have HM:=Lib.hid hmost
     clear hsum hfit hmost
     go_wp2_with fail
     refine (dm hsl).mono ?_
     rintro e w' ⟨⟨A2,n2,c2,rfl,hs2,_⟩,rfl⟩
     have hl2:=hs2.len
     go_wp2_with fail
     refine (Ap (hmr.1.lower hB) hs2 (Nat.le_trans hB hmr.2.size) HS.out.1 (cH (hx xs hmem)) qO (by rw [bw];exact HF.out.2)).mono ?_
     rintro e w2 ⟨rfl,S1,h2,hd2,hval,hg⟩
     have hmk2:Mk .u32 115 w (some ⟨w.heap.size,0,none⟩) (M+2) (M+2) S1 w2:=
      ⟨h2.raise hmr.1,hmr.2.grown hg hmr.2.size (fun k hk=>(hmr.1.blk_ k hk).1)⟩
     have hnext:=Lib.hid (HS.out.step ex hd2 (by rw [hval,bw,Int.one_mul]) HF.out.1)
     clear hval h2 hmr hs hsl hs2
     go_wp2_with fail
     go_roundw
     case rel=>exact ⟨i+1,S1,by omega,by go_num,hmk2,hnext.out⟩
     case measure=>simp [intOf]<;>omega
    ·obtain rfl:n=i:=qO
     have HS:=Lib.hid hsum
     clear hsum
     go_wp2_with fail
     refine (dm hmr.1.sl).mono ?_
     rintro e w3 ⟨⟨A3,n3,c3,rfl,hs3,hA3⟩,rfl⟩
     go_wp2_with fail
     go_ret
     refine ⟨_,⟨cH HS.out.1,cd _,?_⟩,A3,n3,c3,rfl,hmr.1.used hs3 hA3,hmr.2⟩
     rw [bw,HS.out.num,List.take_of_length_le (by rw [hs.1];omega)]
theorem Ec(hs:Sl .u32 w B A n c xs) (ht:Sl .u32 w B A2 m c2 ys) (hB:B≤w.heap.size) (hx:Dg 4294967296 xs) (hy:Dg 4294967296 ys) (hn:n≤1000000000) (hm:m≤1000000000):
 Calls Tryz.prog 171 #[.slice A n c, .slice A2 m c2] w (mR w (val 4294967296 xs+val 4294967296 ys)):=by
 have hl1:=hs.len
 have hl2:=ht.len
 have hsl:=Lib.hid (nR.two w hB hs ht 23)
 go_enter Tryz.func171,Tryz.ntmps171
 go_wp2_with fail
 refine (sW hsl.out qE (by simp [hx,hy]) (by simp;omega)).mono ?_
 rintro e w1 ⟨zs,hr,A3,n3,c3,rfl,h3,hb3⟩
 have hs3:jJ [xs,ys]=val 4294967296 xs+val 4294967296 ys:=by simp [jJ]
 rw [hs3] at hr
 have h4:=h3.lower (B':=w.heap.size) qE
 have hb4:Below w.heap.size w w1:=((Below.refl _ _).alloc (Nat.le_refl _) _).trans (hb3.mono qE)
 clear h3 hb3 hs3
 go_wp2_with fail
 go_ret
 exact ⟨zs,hr,A3,n3,c3,rfl,h4,hb4⟩
theorem yb{d:Nat} (hd:d≤32) (hy:0≤y∧y<2^d) (hx:0≤x):bits BinOp.or IntKind.u32 y (x*2^d%4294967296)=y+x*2^d%4294967296:=by
 have h1:=Int.emod_nonneg (x*2^d) (show (4294967296:Int)≠0 by decide)
 have h2:=Int.emod_lt_of_pos (x*2^d) (show (0:Int)<4294967296 by decide)
 have hp:=o9 hd
 have p:(0:Int)<2^d:=aI qD d
 have e:x*2^d%4294967296%2^d=0:=by
  rw [Int.emod_emod_of_dvd _ ⟨2^(32 - d),(iQ hd).symm⟩,Int.mul_emod_left]
 have hc:bits BinOp.or IntKind.u32 y (x*2^d%4294967296)=bits BinOp.or IntKind.u32 (x*2^d%4294967296) y:=by
  rw [mt,mt,BitVec.or_comm]
 rw [hc,bits_join .u32 32 qD zq d _ _ h1 e qO hy.1 hy.2 qO]
 omega
theorem uF{s:Nat} (hs:Sl .u32 w B A n c X) (hB:B≤w.heap.size) (hx:Dg 4294967296 X) (hn:n≤1000000000) (hsm:s≤65536):
 Calls Tryz.prog 200 #[.slice A n c, .int .u64 s] w (mR w (2^s*val 4294967296 X)):=by
 have hl:=hs.len
 go_enter Tryz.func200,Tryz.ntmps200
 go_wp2_with (at_make;refine eJ jL rfl _ _ rfl (B:=w.heap.size) (n+s / 32+1) rfl rfl qO qO qO qR (Nat.le_refl _) ?_;intro w1 h1 hg1)
 have hmk:=Mk.made h1 hg1
 clear h1 hg1
 go_loopw [23] (fun iv wr=>∃ (i:Nat) (S:List Int) (q:Int),i≤n∧iv= .int .i64 i∧Mk .u32 115 w (some ⟨w.heap.size,0,none⟩) (n+s / 32+1) (n+s / 32+1) S wr∧Up (s%32) (s / 32) X S i q) (fun iv _=>n - (intOf iv).toNat)
 case atStart=>exact ⟨0,_,0,Nat.zero_le _,rfl,hmk, .start⟩
 case round=>
  obtain ⟨i,S,q,hi,rfl,hmr,hup⟩:=hrel
  clear hmk
  by_cases hlt:i<n
  ·obtain ⟨b2,off2,x,rfl,_,ex,hc2⟩:=(hmr.other hs hB).at_ hlt
   have hxx:=hx.get ex
   have hd:s%32≤32:=qO
   obtain ⟨g,y,hg,_,hy,hcell,hfr,hput⟩:=hmr.set (i:=i+s / 32) qO
   obtain rfl:w.heap.size=g:=by simpa using hg
   obtain rfl:y=q:=by have:=hup.here;rw [hy] at this;injection this
   obtain ⟨g2,y2,hg2,_,_,hcell2,hfr2,_⟩:=hmr.set (i:=i+s / 32+1) qO
   obtain rfl:w.heap.size=g2:=by simpa using hg2
   obtain ⟨g2,y3,hg2,_,_,_,_,hput2⟩:=(hput (y+x*2^(s%32)%4294967296)).set (i:=i+s / 32+1) qO
   obtain rfl:w.heap.size=g2:=by simpa using hg2
   have hor:=yb hd hup.small hxx.1
   have hnext:=Lib.hid (hput2 (x / 2^(32 - s%32)))
   have hstep:=Lib.hid (hup.step hd ex hxx (by have:=hmr.1.len;omega))
   clear hput hput2 hup hmr hs hy
   go_wp2
   go_roundw
   case rel=>exact ⟨i+1,_,_,by omega,by go_num,hnext.out,hstep.out⟩
   case measure=>simp [intOf]<;>omega
  ·obtain rfl:n=i:=qO
   have hfin:=Lib.hid (hup.stop hl hmr.1.len)
   have hdg:=hup.dg
   clear hup
   go_wp2_with fail
   refine (dm hmr.1.sl).mono ?_
   rintro e w3 ⟨⟨A3,n3,c3,rfl,hs3,hA3⟩,rfl⟩
   go_wp2_with fail
   go_ret
   refine ⟨_,⟨cH hdg,cd _,?_⟩,A3,n3,c3,rfl,hmr.1.used hs3 hA3,hmr.2⟩
   rw [bw,hfin.out,ug s]
theorem rj{s:Nat} (hs:Sl .u32 w B A n c X) (hB:B≤w.heap.size) (hx:Dg 4294967296 X) (hn:n≤1000000000) (hsm:s≤9223372036854775808):
 Calls Tryz.prog 199 #[.slice A n c, .int .u64 s] w (mR w (val 4294967296 X / 2^s)):=by
 have hl:=hs.len
 by_cases hsl:n≤s / 32
 ·have hz:=sZ hx (s:=s) qO
  have hd:decide ((n:Int)≤(s:Int) / 32)=true:=by simp;omega
  have hr:mR w (val 4294967296 X / 2^s) (.returned (.slice none 0 0)) w:=⟨[],⟨Dg.nil,Tr.nil,by rw [hz];rfl⟩,none,0,0,rfl,bH.nil,Below.refl _ _⟩
  have HR:=Lib.hid hr
  clear hr hz
  go_enter Tryz.func199,Tryz.ntmps199
  go_wp2
  go_ret
  exact HR.out
 ·have hd:decide ((n:Int)≤(s:Int) / 32)=false:=by simp;omega
  obtain ⟨b,off,_,hA,_,_,_⟩:=hs.at_ (j:=s / 32) qO
  have hback:=hs.back (m:=s / 32) qO
  have hcn:=hs.le
  rw [if_neg qO,hA] at hback
  simp only [Option.map_some,Addr.add_lit] at hback
  subst hA
  have hval:=Lib.hid (EZ hx (L:=s / 32) qO (s%32))
  have hY:=hx.drop (s / 32)
  have hll:=hback.len
  generalize X.drop (s / 32)=Y at*
  clear hs
  have hmn:n - s / 32≤1000000000:=qO
  go_enter Tryz.func199,Tryz.ntmps199
  go_wp2_with (at_make;refine eJ jL rfl _ _ rfl (B:=w.heap.size) (n - s / 32) rfl rfl qO qO qO qR (Nat.le_refl _) ?_;intro w1 h1 hg1)
  have hmk:=Mk.made h1 hg1
  clear h1 hg1
  generalize n - s / 32=m at*
  generalize c - s / 32=c2 at*
  go_loopw [27] (fun iv wr=>∃ (i:Nat) (S:List Int),i≤m∧iv= .int .i64 i∧Mk .u32 115 w (some ⟨w.heap.size,0,none⟩) m m S wr∧tm (s%32) Y S i) (fun iv _=>m - (intOf iv).toNat)
  case atStart=>exact ⟨0,_,Nat.zero_le _,rfl,hmk, .start⟩
  case round=>
   obtain ⟨i,S,hi,rfl,hmr,hdn⟩:=hrel
   clear hmk
   by_cases hlt:i<m
   ·obtain ⟨b2,off2,y,hA2,_,ey,hc2⟩:=(hmr.other hback hB).at_ hlt
    injection hA2 with hA2
    injection hA2 with e1 e2
    subst e1
    subst e2
    have hyy:=hY.get ey
    have hSl:=hmr.1.len
    obtain ⟨g,q,hg,_,hq,hcell,hfr,hput⟩:=hmr.set (i:=i) qO
    obtain rfl:w.heap.size=g:=by simpa using hg
    by_cases hi0:i=0
    ·subst hi0
     rw [Nat.add_zero] at hc2
     have hnext:=Lib.hid (hput (y / 2^(s%32)))
     have hstep:=Lib.hid (hdn.first ey hyy qO)
     clear hput hdn hmr hback hq
     go_wp2
     go_roundw
     case rel=>exact ⟨1,_,by omega,by go_num,hnext.out,hstep.out⟩
     case measure=>simp [intOf]<;>omega
    ·obtain ⟨j,rfl⟩:∃ j,i=j+1:=⟨i - 1,by omega⟩
     obtain ⟨g2,z,hg2,_,hz,hcell2,hfr2,_⟩:=hmr.set (i:=j) qO
     obtain rfl:w.heap.size=g2:=by simpa using hg2
     obtain ⟨hzz,hstp⟩:=hdn.next qO ey hyy hz hY qO
     obtain ⟨g2,z2,hg2,_,hz2,hz3,hz4,hput2⟩:=(hput (y / 2^(s%32))).set (i:=j) qO
     obtain rfl:w.heap.size=g2:=by simpa using hg2
     have hor:=yb (d:=32 - s%32) qO hzz hyy.1
     have hnext:=Lib.hid (hput2 (z+y*2^(32 - s%32)%4294967296))
     have hstep:=Lib.hid hstp
     clear hput hput2 hdn hmr hback hq hz hstp hz2 hz3 hz4
     go_wp2
     go_roundw
     case rel=>exact ⟨j+1+1,_,by omega,by go_num,hnext.out,hstep.out⟩
     case measure=>simp [intOf]<;>omega
   ·obtain rfl:m=i:=qO
    have hfin:=Lib.hid hdn
    clear hdn
    go_wp2_with fail
    refine (dm hmr.1.sl).mono ?_
    rintro e w3 ⟨⟨A3,n3,c3,rfl,hs3,hA3⟩,rfl⟩
    go_wp2_with fail
    go_ret
    refine ⟨_,⟨cH hfin.out.dg,cd _,?_⟩,A3,n3,c3,rfl,hmr.1.used hs3 hA3,hmr.2⟩
    have hnum:=hfin.out.num
    rw [List.take_of_length_le (by have:=hmr.1.len;omega),List.take_of_length_le qO] at hnum
    rw [bw,hnum,hval.out,ug s]
theorem Cy(h:(m:Int)≤9223372036854775808):IntKind.u64.wrap (-IntKind.u64.wrap (-(m:Int)))=(m:Int):=by
 have e:∀ n:Int,IntKind.u64.wrap n=n%18446744073709551616:=fun n=>by simp [IntKind.wrap,IntKind.bits,IntKind.signed]
 rw [e,e]
 omega
def mx (w:World) (N:Int) (n:Int) (e:Ending) (w':World):Prop:=
 if n<0 then Ae w (N / 2^(-n).toNat) e w'
 else if N=0 then e= .returned (.tuple #[.slice none 0 0, .int .i64 0])∧Below w.heap.size w w'
 else if 65536<n then e= .returned (.tuple #[.slice none 0 0, .int .i64 3])∧Below w.heap.size w w'
 else Ae w (2^n.toNat*N) e w'
theorem rS{s:Int} (hs:Sl .u32 w B A n c xs) (hB:B≤w.heap.size) (hx:Dg 4294967296 xs) (hn:n≤1000000000) (hs0: -9223372036854775808≤s) (hs1:s≤9223372036854775807):
 Calls Tryz.prog 193 #[.slice A n c, .int .i64 s] w (mx w (val 4294967296 xs) s):=by
 have hv:Hid (val 4294967296 (tl xs)=val 4294967296 xs):=bw _ _
 have hX:=cH hx
 have hT:=cd xs
 have hll:(tl xs).length≤1000000000:=by have:=eP xs;have:=hs.len;omega
 by_cases hneg:s<0
 ·obtain ⟨m,rfl,hm⟩:∃ m:Nat,s= -(m:Int)∧0<m:=⟨(-s).toNat,by omega,by omega⟩
  have hw:IntKind.u64.wrap (-IntKind.u64.wrap (-(m:Int)))=(m:Int):=Cy qO
  go_enter Tryz.func193,Tryz.ntmps193
  go_wp2_with fail
  refine (dm hs).mono ?_
  rintro e w' ⟨⟨A',n',c',rfl,hs',_⟩,rfl⟩
  have hl':=hs'.len
  go_wp2_with fail
  refine (rj hs' hB hX qO qO).mono ?_
  rintro e w1 ⟨ys,hr,A3,n3,c3,rfl,h3,hb3⟩
  clear hw
  go_wp2_with fail
  go_ret2
  unfold mx
  rw [if_pos hneg]
  refine ⟨ys,A3,n3,c3,?_,rfl,h3,hb3⟩
  rw [←hv.out,show (- -(m:Int)).toNat=m by omega]
  exact hr
 ·obtain ⟨m,rfl⟩:∃ m:Nat,s=(m:Int):=⟨s.toNat,by omega⟩
  go_enter Tryz.func193,Tryz.ntmps193
  go_wp2_with fail
  refine (dm hs).mono ?_
  rintro e w' ⟨⟨A',n',c',rfl,hs',_⟩,rfl⟩
  have hl':=hs'.len
  by_cases h0:n'=0
  ·subst h0
   go_wp2_with fail
   go_ret2
   unfold mx
   rw [if_neg qO,if_pos (by rw [←hv.out,List.eq_nil_of_length_eq_zero hl'];rfl)]
   exact ⟨rfl,Below.refl _ _⟩
  ·have hbn:((n':Int)==0)=false:=beq_eq_false_iff_ne.2 qO
   have hvne:val 4294967296 xs≠0:=by
    intro h
    rw [←hv.out] at h
    have:=Tr.zero qD hX hT h
    rw [this] at hl'
    exact h0 hl'.symm
   by_cases hbig:65536<m
   ·go_wp2_with fail
    go_ret2
    unfold mx
    rw [if_neg qO,if_neg hvne,if_pos qO]
    exact ⟨rfl,Below.refl _ _⟩
   ·go_wp2_with fail
    refine (uF hs' hB hX qO qO).mono ?_
    rintro e w1 ⟨ys,hr,A3,n3,c3,rfl,h3,hb3⟩
    go_wp2_with fail
    go_ret2
    unfold mx
    rw [if_neg qO,if_neg hvne,if_neg qO]
    refine ⟨ys,A3,n3,c3,?_,rfl,h3,hb3⟩
    rw [←hv.out,Int.toNat_natCast]
    exact hr
def f_ (w:World):Prop:=∀ h:Nat,h<128→w.cell? ⟨3,h,none⟩=some (.int .u8 (kH.getD h 0))
theorem f_.below{w':World} (h:f_ w) (hb:Below B w w') (hB:3<B):f_ w':=fun i hi=>(hb.cell (p:=⟨_,i,none⟩) hB).trans (h i hi)
def I2 (N:Int) (e:Ending):Prop:=∃ b:Nat,dW N b∧e= .returned (.int .i64 b)
theorem nD(hs:Sl .u32 w B A n c xs) (hT:f_ w) (hx:Dg 4294967296 xs) (hn:n≤1000000000):
 Calls Tryz.prog 180 #[.slice A n c] w fun e w'=>I2 (val 4294967296 xs) e∧w=w':=by
 have hv:Hid (val 4294967296 (tl xs)=val 4294967296 xs):=bw _ _
 have hX:=cH hx
 have hTr:=cd xs
 have hll:(tl xs).length≤1000000000:=by have:=eP xs;have:=hs.len;omega
 have HT:=Lib.hid hT
 clear hT
 go_enter Tryz.func180,Tryz.ntmps180
 go_wp2_with fail
 refine (dm hs).mono ?_
 rintro e w' ⟨⟨A',n',c',rfl,hs',_⟩,rfl⟩
 have hl':=hs'.len
 by_cases h0:n'=0
 ·subst h0
  go_wp2
  go_ret
  refine ⟨⟨0, .inl ⟨?_,rfl⟩,rfl⟩,rfl⟩
  rw [←hv.out,List.eq_nil_of_length_eq_zero hl'];rfl
 ·have hbn:((n':Int)==0)=false:=beq_eq_false_iff_ne.2 qO
  have hne:tl xs≠[]:=by intro h;rw [h] at hl';exact h0 hl'.symm
  obtain ⟨zs,z,ez,hz0,ezl⟩:=hTr.last hne
  obtain ⟨b,off,z',rfl,_,ez',hcell⟩:=hs'.at_ (j:=n' - 1) qO
  rw [hl',ez'] at ezl
  obtain rfl:z'=z:=by injection ezl
  have hzd:=hX.get ez'
  obtain ⟨t,rfl⟩:∃ t:Nat,z'=(t:Int):=⟨z'.toNat,by omega⟩
  have hzl:zs.length=n' - 1:=by have:=congrArg List.length ez;simp at this;omega
  have hstart:vy (val 4294967296 xs) (32*(n' - 1)+t) (32*(n' - 1)) t:=by
   refine ⟨by omega,Nat.le_refl _,fun b hb=> ?_⟩
   have hd:Dg 4294967296 zs:=by rw [ez] at hX;exact hX.left
   have:=dW.row (k:=32) qD hd qO hb
   rw [←ez,hzl,bw] at this
   exact this
  obtain ⟨m,rfl⟩:∃ m,n'=m+1:=⟨n' - 1,by omega⟩
  rw [show m+1 - 1=m by omega] at hcell hstart
  have ht:t<4294967296:=qO
  clear ez ez' ezl hzl hz0 hne
  go_wp2_with fail
  go_loop [3,4] (fun nv tv=>∃ i j:Nat,nv= .int .i64 i∧tv= .int .u32 j∧j≤t∧vy (val 4294967296 xs) (32*m+t) i j) (fun _ tv=>(intOf tv).toNat)
  case atStart=>exact ⟨32*m,t,by go_num,rfl,Nat.le_refl _,hstart⟩
  case round=>
   obtain ⟨i,j,rfl,rfl,hjt,hinv⟩:=hrel
   have hb1:=hinv.pos
   have hb2:=hinv.bound
   by_cases hj:255<j
   ·have hstep:=Lib.hid (hinv.step hj)
    clear hinv hstart
    go_wp2
    go_round
    case rel=>exact ⟨i+8,j / 256,by go_num,by go_num,by omega,hstep.out⟩
    case measure=>simp [intOf]<;>omega
   ·have hfin:=Lib.hid (hinv.num _ (zS qO qO))
    have hc2:=HT.out (j / 2) qO
    obtain ⟨p1,p2,_,_⟩:=uj (j / 2) qO
    generalize kH.getD (j / 2) 0=q at*
    obtain ⟨q,rfl⟩:∃ q':Nat,q=(q':Int):=⟨q.toNat,by omega⟩
    clear hinv hstart
    go_wp2
    go_ret
    refine ⟨⟨_,hfin.out,?_⟩,rfl⟩
    simp
    omega
def Ev (e:Ending):Prop:=∃ v:Int,0≤v∧e= .returned (.int .i64 v)
theorem wA(hs:Sl .u32 w B A n c xs) (ht:Sl .u32 w B A2 m c2 ys) (hx:Dg 4294967296 xs) (hy:Dg 4294967296 ys) (h:val 4294967296 ys≤val 4294967296 xs):
 Calls Tryz.prog 143 #[.slice A n c, .slice A2 m c2] w fun e w'=>Ev e∧Below w.heap.size w w':=by
 refine (iI hs ht hx hy).mono ?_
 rintro e w' ⟨hr,q,rfl⟩
 unfold jq at hr
 refine ⟨⟨_,?_,hr⟩,Below.drewN' (Below.refl _ _) q⟩
 unfold b_
 rw [if_neg qO]
 split<;>omega
theorem uV(hs:Sl .u32 w B A n c xs) (hB:B≤w.heap.size) (hx:Dg 4294967296 xs) (hn:n≤1000000000) (hm:m≤65536):
 Calls Tryz.prog 193 #[.slice A n c, .int .i64 m] w (Ae w (2^m*val 4294967296 xs)):=by
 refine (rS hs hB hx hn qO qO).mono ?_
 intro e w' h
 unfold mx at h
 rw [if_neg qO] at h
 split at h
 ·rename_i h0
  obtain ⟨rfl,hb⟩:=h
  exact ⟨[],none,0,0,⟨Dg.nil,Tr.nil,by rw [h0,Int.mul_zero];rfl⟩,rfl,bH.nil,hb⟩
 ·rw [if_neg qO] at h
  exact h
theorem mG(hs:Sl .u32 w B A n c xs) (hB:B≤w.heap.size) (hx:Dg 4294967296 xs) (hn:n≤1000000000) (hm:m≤65536):
 Calls Tryz.prog 193 #[.slice A n c, .int .i64 (-(m:Int))] w (Ae w (val 4294967296 xs / 2^m)):=by
 refine (rS hs hB hx hn qO qO).mono ?_
 intro e w' h
 unfold mx at h
 rcases Nat.eq_zero_or_pos m with h0|h0
 ·subst h0
  rw [if_neg qO] at h
  simp only [Int.pow_zero,Int.ediv_one]
  split at h
  ·rename_i h0
   obtain ⟨rfl,hb⟩:=h
   exact ⟨[],none,0,0,⟨Dg.nil,Tr.nil,by rw [h0];rfl⟩,rfl,bH.nil,hb⟩
  ·rw [if_neg qO] at h
   simpa using h
 ·rw [if_pos qO] at h
  simpa using h
theorem kJ:qT Tryz.prog 93 3 .i64 8:=⟨Tryz.underlying93,info_parts qK⟩
def Jb (w:World) (B:Nat) (A:Option Addr) (c:Nat) (xs:List Int) (e:Ending):Prop:=
 ∃ n',e= .returned (.slice A n' c)∧Sl .i64 w B A n' c (tl xs)
theorem xV(hs:Sl .i64 w B A n c xs):
 Calls Tryz.prog 192 #[.slice A n c] w fun e w'=>Jb w B A c xs e∧w=w':=by
 have hm:=hs.lenMax
 have hnc:=hs.le
 go_enter Tryz.func192,Tryz.ntmps192
 go_wp2
 go_loop [0] (fun l=>∃ k:Nat,k≤n∧l= .slice A k c∧fI xs k) (fun l=>match l with| .slice _ k _=>k|_=>0)
 case atStart=>exact ⟨n,by omega,rfl, .start hs.len⟩
 case round=>
  obtain ⟨k,hk,rfl,ht⟩:=hrel
  by_cases h0:k=0
  ·subst h0
   have hz:=Lib.hid ht.zero
   go_wp2
   go_ret
   refine ⟨⟨0,rfl,?_⟩,rfl⟩
   rw [hz.out]
   have:=hs.front (m:=0) qO
   simpa using this
  ·obtain ⟨j,rfl⟩:∃ j,k=j+1:=⟨k - 1,by omega⟩
   obtain ⟨b,off,x,rfl,_,hx,hcell⟩:=hs.at_ (j:=j) qO
   by_cases hx0:x=0
   ·subst hx0
    go_wp2
    go_round
    case rel=>exact ⟨j,by omega,rfl,ht.down hx⟩
    case measure=>simp
   ·have hb:(x==0)=false:=beq_eq_false_iff_ne.2 hx0
    have hstop:=Lib.hid (ht.stop hx hx0)
    go_wp2
    go_ret
    refine ⟨⟨j+1,rfl,?_⟩,rfl⟩
    rw [hstop.out]
    exact hs.front qO
theorem p_(hs:Sl .i64 w B A n c xs):
 Calls Tryz.prog 190 #[.slice A n c, .int .i64 i] w fun e w'=>e= .returned (.int .i64 (xs[i]?.getD 0))∧w=w':=by
 have hm:=hs.lenMax
 by_cases hlt:i<n
 ·obtain ⟨b,off,x,rfl,_,hx,hcell⟩:=hs.at_ hlt
  have e:xs[i]?.getD 0=x:=by rw [hx];rfl
  rw [e]
  go_enter Tryz.func190,Tryz.ntmps190
  go_wp2
  go_ret
  exact ⟨rfl,rfl⟩
 ·have e:xs[i]?.getD 0=0:=by rw [List.getElem?_eq_none (by have:=hs.len;omega)];rfl
  rw [e]
  go_enter Tryz.func190,Tryz.ntmps190
  go_wp2
  go_ret
  exact ⟨rfl,rfl⟩
theorem bH.cutR{B2:Nat} {n':Nat} (h:bH .i64 3 w B A n c xs) (hs:Sl .i64 wr B2 A n' c (tl xs)):bH .i64 3 w B A n' c (tl xs):=by
 have hl:=hs.len
 have h1:=eP xs
 have h2:=h.len
 have e:=yj xs
 rw [hl] at e
 rcases h.form with ⟨rfl,h3,rfl⟩|⟨g,rfl,_⟩
 ·obtain rfl:n'=0:=qO
  rw [List.eq_nil_of_length_eq_zero hl]
  exact bH.nil
 ·rw [e]
  exact h.front qO qE
def hv:List Int→List Int
 |[]=>[]
 |x::xs=>x%65536::x / 65536::hv xs
theorem xP (xs:List Int) (x:Int):hv (xs++[x])=hv xs++[x%65536,x / 65536]:=by
 induction xs with
 |nil=>rfl
 |cons y ys ih=>simp [hv,ih]
theorem C7 (xs:List Int):(hv xs).length=2*xs.length:=by
 induction xs with
 |nil=>rfl
 |cons y ys ih=>simp [hv,ih];omega
theorem CV (xs:List Int):val 65536 (hv xs)=val 4294967296 xs:=by
 induction xs with
 |nil=>rfl
 |cons y ys ih=>simp only [hv,val,ih];omega
theorem FR(h:Dg 4294967296 xs):Dg 65536 (hv xs):=by
 induction xs with
 |nil=>exact Dg.nil
 |cons y ys ih=>
  have:=h.head
  exact Dg.cons qO (Dg.cons qO (ih h.tail))
def DK (w:World) (N:Int) (e:Ending) (w':World):Prop:=
 ∃ ys A n c,fZ 65536 N ys∧e= .returned (.slice A n c)∧bH .i64 3 w' w.heap.size A n c ys∧Below w.heap.size w w'
theorem yd(h:0≤x∧x<4294967296):IntKind.i64.wrap (x.tmod 65536)=x%65536:=by
 rw [Int.tmod_eq_emod_of_nonneg h.1,IntKind.wrap_i64];omega
theorem yp(h:0≤x∧x<4294967296):IntKind.i64.wrap (IntKind.u32.wrap (x.tdiv 65536))=x / 65536:=by
 rw [Int.tdiv_eq_ediv_of_nonneg h.1,IntKind.wrap_u32,IntKind.wrap_i64];omega
theorem fR(hs:Sl .u32 w B A n c xs) (hB:B≤w.heap.size) (hx:Dg 4294967296 xs) (hn:n≤1000000000):
 Calls Tryz.prog 179 #[.slice A n c] w (DK w (val 4294967296 xs)):=by
 go_enter Tryz.func179,Tryz.ntmps179
 go_wp2
 go_loopw [3,4] (fun ov iv wr=>∃ (i m c2:Nat) (A2:Option Addr),i≤n∧iv= .int .i64 i∧ov= .slice A2 m c2∧bH .i64 3 wr w.heap.size A2 m c2 (hv (xs.take i))∧Below w.heap.size w wr) (fun _ iv _=>n - (intOf iv).toNat)
 case atStart=>exact ⟨0,0,0,none,Nat.zero_le _,rfl,rfl,bH.nil,Below.refl _ _⟩
 case round=>
  obtain ⟨i,m,c2,A2,hi,rfl,rfl,ho,hb⟩:=hrel
  have hol:=ho.len
  rw [C7,List.length_take] at hol
  by_cases hlt:i<n
  ·obtain ⟨b,off,x,rfl,_,ex,hcell⟩:=(hs.below hb hB).at_ hlt
   have hxx:=hx.get ex
   have hin:(i:Int)<(n:Int):=qO
   have hbB:b<w.heap.size:=qO
   have hi1:0≤(i:Int):=Int.natCast_nonneg _
   go_wp2
   go_region_held3 (fun w'=>w'.cell? ⟨b,off+i,none⟩=some (.int .u32 x))
    (first|go_keep|(rw [hg.cell_far _ qN (by intro h;have:=(ho.blk_ b h.symm).1;omega)];assumption))
    ((refine v_ kJ (by rfl) _ _ (by rfl) (ho.alloc _).drew1 (by rfl) (Sl.new2 .i64 _ _ _ _).drew1 (by rfl) qO qR qN ?_;intro A3 c3 w3 h3 hg))
   rw [yd hxx,yp hxx,←xP,←aH ex] at h3
   have hb3:Below w.heap.size w w3:=((hb.alloc hb.size _).drew).grown hg qN (fun k hk=>(ho.blk_ k hk).1)
   clear hg ho hb hbB hi1
   go_wp2
   go_roundw
   case rel=>exact ⟨i+1,_,_,_,by omega,by go_num,rfl,h3,hb3⟩
   case measure=>simp [intOf]<;>omega
  ·obtain rfl:n=i:=qO
   have hN:=Lib.hid (show val 65536 (tl (hv (xs.take n)))=val 4294967296 xs by rw [bw,CV,List.take_of_length_le (by rw [hs.len];omega)])
   have hD:=FR (hx.take n)
   go_wp2_with fail
   refine (xV ho.sl).mono ?_
   rintro e w' ⟨⟨n',rfl,hs'⟩,rfl⟩
   go_wp2
   go_ret
   refine ⟨_,A2,n',c2,⟨cH hD,cd _,hN.out⟩,rfl,ho.cutR hs',hb⟩
def pr:List Int→List Int
 |[]=>[]
 |[x]=>[x]
 |x::y::r=>(x+65536*y)::pr r
theorem wV:∀ l:List Int,val 4294967296 (pr l)=val 65536 l
 |[]=>rfl
 |[x]=>by simp [pr,val]
 |x::y::r=>by simp only [pr,val,wV r];omega
theorem AR:∀ {l:List Int},Dg 65536 l→Dg 4294967296 (pr l)
 |[],_=>Dg.nil
 |[x],h=>Dg.cons (by have:=h.head;omega) Dg.nil
 |x::y::r,h=>Dg.cons (by have:=h.head;have:=h.tail.head;omega) (AR h.tail.tail)
theorem GS:∀ {l:List Int},pr l=[]→l=[]
 |[],_=>rfl
 |[x],h=>by simp [pr] at h
 |x::y::r,h=>by simp [pr] at h
theorem FX:∀ {l:List Int},Dg 65536 l→Tr l→Tr (pr l)
 |[],_,_=>rfl
 |[x],_,h=>h
 |x::y::r,hd,h=>by
  refine Tr.cons (FX hd.tail.tail h.tail.tail) fun e=> ?_
  have hr:=GS e
  subst hr
  have h1:=h.tail.single
  have h2:=hd.head
  have h3:=hd.tail.head
  omega
theorem iL:∀ (l m:List Int) (j:Nat),l.length=2*j→pr (l++m)=pr l++pr m
 |[],m,_,_=>rfl
 |[x],m,j,h=>by simp at h;omega
 |x::y::r,m,j,h=>by
  simp only [List.cons_append,pr]
  rw [iL r m (j - 1) (by simp at h;omega)]
theorem CT:∀ (l:List Int),(pr l).length≤l.length
 |[]=>by simp [pr]
 |[x]=>by simp [pr]
 |x::y::r=>by have:=CT r;simp [pr];omega
theorem nI(hs:Sl .i64 w B A n c xs) (hB:B≤w.heap.size) (hx:Dg 65536 xs) (hn:n≤2000000000):
 Calls Tryz.prog 178 #[.slice A n c] w (mR w (val 65536 xs)):=by
 have hll:(tl xs).length≤2000000000:=by have:=eP xs;have:=hs.len;omega
 have hv:=Lib.hid (bw 65536 xs)
 have hX:=cH hx
 have hT:=cd xs
 go_enter Tryz.func178,Tryz.ntmps178
 go_wp2_with fail
 refine (xV hs).mono ?_
 rintro e w' ⟨⟨n',rfl,hs'⟩,rfl⟩
 have hl':=hs'.len
 generalize tl xs=X at*
 clear hs
 go_wp2_with fail
 go_loopw [3,4] (fun ov iv wr=>∃ (j m c2:Nat) (A2:Option Addr),2*j≤n'+1∧iv= .int .i64 (2*(j:Int))∧ov= .slice A2 m c2∧bH .u32 115 wr w.heap.size A2 m c2 (pr (X.take (2*j)))∧Below w.heap.size w wr) (fun _ iv _=>n'+1 - (intOf iv).toNat)
 case atStart=>exact ⟨0,0,0,none,by omega,rfl,rfl,bH.nil,Below.refl _ _⟩
 case round=>
  obtain ⟨j,m,c2,A2,hj,rfl,rfl,ho,hb⟩:=hrel
  have hol:=ho.len
  have hpl:=CT (X.take (2*j))
  rw [List.length_take] at hpl
  have hm:m≤2000000000:=qO
  by_cases hlt:2*j<n'
  ·obtain ⟨b,off,x,rfl,_,ex,hcell⟩:=(hs'.below hb hB).at_ hlt
   have hxx:=hX.get ex
   by_cases hlt2:2*j+1<n'
   ·obtain ⟨b',off',y,hA,_,ey,hcell2⟩:=(hs'.below hb hB).at_ hlt2
    injection hA with hA
    injection hA with e1 e2
    subst e1
    subst e2
    have hyy:=hX.get ey
    have hnx:pr (X.take (2*j))++[x+65536*y]=pr (X.take (2*(j+1))):=by
     rw [show 2*(j+1)=2*j+1+1 by omega,aH ey,aH ex,List.append_assoc,iL _ _ j (by rw [List.length_take];omega)]
     rfl
    have HN:=Lib.hid hnx
    clear hnx hol hpl
    go_wp2_with (at_builtin;refine dN jL rfl _ _ rfl (ho.alloc _) rfl (Sl.new1 .u32 _ _ _) rfl qO qR qN ?_;intro A3 c3 w3 h3 hg)
    rw [HN.out] at h3
    have hb3:Below w.heap.size w w3:=(hb.alloc hb.size _).grown hg qN (fun k hk=>(ho.blk_ k hk).1)
    clear hg ho hb
    go_wp2
    go_roundw
    case rel=>exact ⟨j+1,_,_,_,by omega,by go_num,rfl,h3,hb3⟩
    case measure=>simp [intOf]<;>omega
   ·have hnx:pr (X.take (2*j))++[x]=pr (X.take (2*(j+1))):=by
     have e1:X.take (2*(j+1))=X.take (2*j)++[x]:=by rw [List.take_of_length_le qO,←aH ex,List.take_of_length_le qO]
     rw [e1,iL _ _ j (by rw [List.length_take];omega)]
     rfl
    have HN:=Lib.hid hnx
    clear hnx hol hpl
    go_wp2_with (at_builtin;refine dN jL rfl _ _ rfl (ho.alloc _) rfl (Sl.new1 .u32 _ _ _) rfl qO qR qN ?_;intro A3 c3 w3 h3 hg)
    rw [HN.out] at h3
    have hb3:Below w.heap.size w w3:=(hb.alloc hb.size _).grown hg qN (fun k hk=>(ho.blk_ k hk).1)
    clear hg ho hb
    go_wp2
    go_roundw
    case rel=>exact ⟨j+1,_,_,_,by omega,by go_num,rfl,h3,hb3⟩
    case measure=>simp [intOf]<;>omega
  ·have hN:=Lib.hid (show val 4294967296 (pr (X.take (2*j)))=val 65536 xs by rw [wV,List.take_of_length_le qO];exact hv.out)
   have hD:=AR (hX.take (2*j))
   have hTr:Tr (pr (X.take (2*j))):=by rw [List.take_of_length_le qO];exact FX hX hT
   have HT:=Lib.hid hTr
   clear hTr hT
   go_wp2_with fail
   go_ret
   exact ⟨_,⟨hD,HT.out,hN.out⟩,A2,m,c2,rfl,ho,hb⟩
theorem eV(hl:xs.length=n) (hx:Dg 4294967296 xs) (hr:fZ 65536 (val 4294967296 xs) ys):ys.length≤2*n:=by
 refine hr.len_le qD (Int.lt_of_lt_of_le (bQ qD hx) ?_)
 rw [hl,show (4294967296:Int)=65536^2 by decide,←Int.pow_mul]
 exact Int.le_refl _
theorem v9(hs:Sl .u32 w B A n c xs) (hB:B≤w.heap.size) (hx:Dg 4294967296 xs) (hn:n≤500000000):
 Calls Tryz.prog 158 #[.slice A n c] w (mR w (val 4294967296 xs)):=by
 go_enter Tryz.func158,Tryz.ntmps158
 go_wp2_with fail
 refine (fR hs hB hx qO).mono ?_
 rintro e w1 ⟨ys,A1,n1,c1,hr,rfl,ho,hb⟩
 have hl1:n1≤2*n:=by
  have:=eV hs.len hx hr
  have:=ho.len
  omega
 go_wp2_with fail
 refine (nI ho.sl (Nat.le_refl _) hr.dg qO).mono ?_
 rintro e w2 ⟨zs,hz,A2,n2,c2,rfl,ho2,hb2⟩
 rw [hr.val] at hz
 go_wp2
 go_ret
 exact ⟨zs,hz,A2,n2,c2,rfl,ho2.lower hb.size,hb.trans (hb2.mono hb.size)⟩
def Cw (w:World) (a b:Int) (e:Ending) (w':World):Prop:=e= .returned (.int .i64 (b_ a b))∧Below w.heap.size w w'
theorem j9(hs:Sl .u32 w B A n c xs) (ht:Sl .u32 w B A2 m c2 ys) (hB:B≤w.heap.size) (hx:Dg 4294967296 xs) (hy:Dg 4294967296 ys) (hn:n≤500000000) (hm:m≤500000000):
 Calls Tryz.prog 172 #[.slice A n c, .slice A2 m c2] w (Cw w (val 4294967296 xs) (val 4294967296 ys)):=by
 go_enter Tryz.func172,Tryz.ntmps172
 go_wp2_with fail
 refine (fR hs hB hx qO).mono ?_
 rintro e w1 ⟨us,A1,n1,c1,hu,rfl,ho1,b1⟩
 have hl1:n1≤2*n:=by have:=eV hs.len hx hu;have:=ho1.len;omega
 go_wp2_with fail
 refine (fR ((ht.below b1 hB).more (Nat.le_trans hB b1.size)) (Nat.le_refl _) hy qO).mono ?_
 rintro e w2 ⟨vs,A2',n2,c2',hv,rfl,ho2,b2⟩
 have hl2:n2≤2*m:=by have:=eV ht.len hy hv;have:=ho2.len;omega
 have s1:=(ho1.below b2).sl
 have s2:=ho2.sl
 have hb:=b1.trans (b2.mono b1.size)
 have hul:=ho1.len
 have hvl:=ho2.len
 have EU:=Lib.hid hu.val
 have EV:=Lib.hid hv.val
 have dU:=hu.dg
 have dV:=hv.dg
 clear ho1 ho2 b1 b2 hu hv hs ht
 by_cases hcase:n1<n2
 all_goals
  go_wp2_with fail
  go_loop [7] (fun iv=>∃ k:Nat,k≤max n1 n2∧iv= .int .i64 ((k:Int) - 1)∧gP us vs k) (fun iv=>(intOf iv+1).toNat)
  case atStart=>
   refine ⟨max n1 n2,Nat.le_refl _,congrArg (Value.int .i64) qO,fun i hi=> ?_⟩
   rw [List.getElem?_eq_none qO,List.getElem?_eq_none qO]
  case round=>
   obtain ⟨k,hk,rfl,hal⟩:=hrel
   by_cases h0:k=0
   ·subst h0
    have hfin:=Lib.hid (lM (show val 4294967296 xs=val 4294967296 ys by rw [←EU.out,←EV.out];exact hal.eq))
    clear hal
    go_wp2_with fail
    go_ret
    exact ⟨by rw [hfin.out];rfl,hb⟩
   ·obtain ⟨j,rfl⟩:∃ j,k=j+1:=⟨k - 1,by omega⟩
    have ha:=p_ (i:=j) s1
    have hc:=p_ (i:=j) s2
    have hlt:=hal.lt (β:=65536) (i:=j) qD dU dV
    have hgt:=gP.lt (β:=65536) (i:=j) qD dV dU (fun i hi=>(hal i hi).symm)
    have hnx:us[j]?.getD 0=vs[j]?.getD 0→gP us vs j:=fun e i hi=>by
     rcases Nat.eq_or_lt_of_le hi with h|h
     ·subst h;exact e
     ·exact hal i h
    generalize us[j]?.getD 0=x at*
    generalize vs[j]?.getD 0=y at*
    have HA:=Lib.hid ha
    have HC:=Lib.hid hc
    have HL:=Lib.hid hlt
    have HG:=Lib.hid hgt
    have HN:=Lib.hid hnx
    clear ha hc hlt hgt hnx hal
    go_wp2_with fail
    refine HA.out.mono ?_
    rintro e w' ⟨rfl,rfl⟩
    go_wp2_with fail
    refine HC.out.mono ?_
    rintro e w' ⟨rfl,rfl⟩
    rcases Int.lt_trichotomy x y with h|h|h
    ·go_wp2_with fail
     go_ret
     exact ⟨by rw [eO (by rw [←EU.out,←EV.out];exact HL.out h)];rfl,hb⟩
    ·subst h
     go_wp2_with fail
     refine HA.out.mono ?_
     rintro e w' ⟨rfl,rfl⟩
     go_wp2_with fail
     refine HC.out.mono ?_
     rintro e w' ⟨rfl,rfl⟩
     go_wp2_with fail
     go_round
     case rel=>exact ⟨j,by omega,by simp,by first|exact HN.out rfl|exact HN.out trivial⟩
     case measure=>simp [intOf]
    ·go_wp2_with fail
     refine HA.out.mono ?_
     rintro e w' ⟨rfl,rfl⟩
     go_wp2_with fail
     refine HC.out.mono ?_
     rintro e w' ⟨rfl,rfl⟩
     go_wp2_with fail
     go_ret
     exact ⟨by rw [gV (by rw [←EU.out,←EV.out];exact HG.out h)];rfl,hb⟩
theorem xf(hs:Sl .u32 w B A n c xs) (ht:Sl .u32 w B A2 m c2 ys) (hB:B≤w.heap.size) (hx:Dg 4294967296 xs) (hy:Dg 4294967296 ys) (hn:n≤400000000) (hm:m≤400000000):
 Calls Tryz.prog 176 #[.slice A n c, .slice A2 m c2] w (mR w (val 4294967296 xs+val 4294967296 ys)):=by
 go_enter Tryz.func176,Tryz.ntmps176
 go_wp2_with fail
 refine (fR hs hB hx qO).mono ?_
 rintro e w1 ⟨us,A1,n1,c1,hu,rfl,ho1,b1⟩
 have hl1:n1≤2*n:=by have:=eV hs.len hx hu;have:=ho1.len;omega
 go_wp2_with fail
 refine (fR ((ht.below b1 hB).more (Nat.le_trans hB b1.size)) (Nat.le_refl _) hy qO).mono ?_
 rintro e w2 ⟨vs,A2',n2,c2',hv,rfl,ho2,b2⟩
 have hl2:n2≤2*m:=by have:=eV ht.len hy hv;have:=ho2.len;omega
 have s1:=(ho1.below b2).sl
 have s2:=ho2.sl
 have hb0:=b1.trans (b2.mono b1.size)
 have hul:=ho1.len
 have hvl:=ho2.len
 have EU:=Lib.hid hu.val
 have EV:=Lib.hid hv.val
 have dU:=hu.dg
 have dV:=hv.dg
 clear ho1 ho2 b1 b2 hu hv hs ht
 by_cases hcase:n1<n2
 all_goals
  go_wp2_with fail
  go_loopw [7,8,9] (fun ov cv iv wr=>∃ (i c2:Nat) (q:Int) (A3:Option Addr) (O:List Int),iv= .int .i64 i∧cv= .int .i64 q∧ov= .slice A3 i c2∧(0≤q∧q≤1)∧i≤max n1 n2+1∧(i=max n1 n2+1→q=0)∧bH .i64 3 wr w2.heap.size A3 i c2 O∧Below w2.heap.size w2 wr∧
   Acc 65536 (val 65536 (us.take i)+val 65536 (vs.take i)) O i q) (fun _ _ iv _=>max n1 n2+1 - (intOf iv).toNat)
  case atStart=>exact ⟨0,0,0,none,[],rfl,rfl,rfl,by omega,by omega,by omega,bH.nil,Below.refl _ _, .start⟩
  case round=>
   obtain ⟨i,c3,q,A3,O,rfl,rfl,rfl,hq,hi,hiq,ho,hb,hacc⟩:=hrel
   by_cases hend:max n1 n2≤i∧q=0
   ·obtain ⟨hge,rfl⟩:=hend
    have hN:=Lib.hid (show val 65536 O=val 4294967296 xs+val 4294967296 ys by
     have:=hacc.num
     rw [List.take_of_length_le qO,List.take_of_length_le qO,EU.out,EV.out] at this
     omega)
    have hD:=hacc.dg
    clear hacc hiq
    go_wp2_with fail
    refine (nI ho.sl (Nat.le_refl _) hD qO).mono ?_
    rintro e w4 ⟨zs,hz,A4,n4,c4,rfl,ho4,b4⟩
    rw [hN.out] at hz
    go_wp2_with fail
    go_ret
    exact ⟨zs,hz,A4,n4,c4,rfl,ho4.lower (Nat.le_trans hb0.size hb.size),hb0.trans ((hb.trans (b4.mono hb.size)).mono hb0.size)⟩
   ·have hgo:i<max n1 n2∨(max n1 n2≤i∧0<q):=qO
    have hilt:i≤max n1 n2:=by rcases Nat.lt_or_ge (max n1 n2) i with h|h<;>omega
    have ha:=p_ (i:=i) (s1.below hb (Nat.le_refl _))
    have hc:=p_ (i:=i) (s2.below hb (Nat.le_refl _))
    have hxr:=pG qD dU i
    have hyr:=pG qD dV i
    have hnx:∀ d q':Int,(0≤d∧d<65536)→d+65536*q'=us[i]?.getD 0+vs[i]?.getD 0+q→Acc 65536 (val 65536 (us.take (i+1))+val 65536 (vs.take (i+1))) (O++[d]) (i+1) q':=by
     intro d q' hd e
     have:=hacc.step hd e
     rw [dI,dI]
     rw [Int.mul_add] at this
     rw [show val 65536 (us.take i)+65536^i*us[i]?.getD 0+(val 65536 (vs.take i)+65536^i*vs[i]?.getD 0)=val 65536 (us.take i)+val 65536 (vs.take i)+(65536^i*us[i]?.getD 0+65536^i*vs[i]?.getD 0) by omega]
     exact this
    have hz:max n1 n2≤i→us[i]?.getD 0=0∧vs[i]?.getD 0=0:=fun h=>⟨by rw [List.getElem?_eq_none qO];rfl,by rw [List.getElem?_eq_none qO];rfl⟩
    generalize us[i]?.getD 0=x at*
    generalize vs[i]?.getD 0=y at*
    have HA:=Lib.hid ha
    have HC:=Lib.hid hc
    have HN:=Lib.hid hnx
    have HZ:=Lib.hid hz
    have HO:=Lib.hid ho
    clear ha hc hnx hz hacc hiq ho
    rcases hgo with hgo|hgo
    all_goals
     go_wp2_with (first|(go_at_call_of 190 (Value.slice A1 n1 c1);refine HA.out.mono ?_;rintro e w' ⟨rfl,rfl⟩)|(go_at_call_of 190 (Value.slice A2' n2 c2');refine HC.out.mono ?_;rintro e w' ⟨rfl,rfl⟩)|(at_builtin;refine dN kJ rfl _ _ rfl (HO.out.alloc _) rfl (Sl.new1 .i64 _ _ _) rfl qO qR qN ?_;intro A5 c5 w5 h5 hg))
     have hb5:Below w2.heap.size w2 w5:=(hb.alloc hb.size _).grown hg qN (fun k hk=>(HO.out.blk_ k hk).1)
     have hq':(0≤(x+y+q) / 65536∧(x+y+q) / 65536≤1)∧(i+1=max n1 n2+1→(x+y+q) / 65536=0):=by
      refine ⟨by omega,fun h=> ?_⟩
      obtain ⟨h1,h2⟩:=HZ.out qO
      omega
     have hacc':=HN.out ((x+y+q)%65536) ((x+y+q) / 65536) qO qO
     have HR:=Lib.hid hq'
     have HA5:=Lib.hid hacc'
     clear hq' hacc' hg hb HO HN HZ HA HC
     go_wp2
     go_roundw
     case rel=>exact ⟨i+1,c5,_,A5,_,by go_num,rfl,rfl,HR.out.1,by omega,HR.out.2,h5,hb5,HA5.out⟩
     case measure=>simp [intOf]<;>omega
theorem wj(hs:Sl .u32 w B A n c xs) (ht:Sl .u32 w B A2 m c2 ys) (hB:B≤w.heap.size) (hx:Dg 4294967296 xs) (hy:Dg 4294967296 ys) (hn:n≤400000000) (hm:m≤400000000) (hlt:val 4294967296 xs<val 4294967296 ys):
 Calls Tryz.prog 177 #[.slice A n c, .slice A2 m c2] w fun e w'=>e= .returned (.tuple #[.slice none 0 0, .int .i64 2])∧Below w.heap.size w w':=by
 have HC:=Lib.hid (j9 hs ht hB hx hy qO qO)
 have hv:=eO hlt
 go_enter Tryz.func177,Tryz.ntmps177
 go_wp2_with fail
 refine HC.out.mono ?_
 rintro e w' ⟨he,hb⟩
 rw [hv] at he
 subst he
 clear hv
 go_wp2_with fail
 go_ret2
 exact ⟨rfl,hb⟩
theorem qm(hs:Sl .u32 w B A n c xs) (ht:Sl .u32 w B A2 m c2 ys) (hB:B≤w.heap.size) (hx:Dg 4294967296 xs) (hy:Dg 4294967296 ys) (hn:n≤400000000) (hm:m≤400000000) (hle:val 4294967296 ys≤val 4294967296 xs):
 Calls Tryz.prog 177 #[.slice A n c, .slice A2 m c2] w (Ae w (val 4294967296 xs - val 4294967296 ys)):=by
 have HC:=Lib.hid (j9 hs ht hB hx hy qO qO)
 go_enter Tryz.func177,Tryz.ntmps177
 go_wp2_with fail
 refine HC.out.mono ?_
 rintro e w0 ⟨he,b0⟩
 obtain ⟨v,hv0,rfl⟩:∃ v:Int,0≤v∧e= .returned (.int .i64 v):=by
  refine ⟨_,?_,he⟩
  unfold b_
  rw [if_neg qO]
  split<;>omega
 clear he
 go_wp2_with fail
 refine (fR ((hs.below b0 hB).more (Nat.le_trans hB b0.size)) (Nat.le_refl _) hx qO).mono ?_
 rintro e w1 ⟨us,A1,n1,c1,hu,rfl,ho1,b1⟩
 have hl1:n1≤2*n:=by have:=eV hs.len hx hu;have:=ho1.len;omega
 have b01:=b0.trans (b1.mono b0.size)
 go_wp2_with fail
 refine (fR ((ht.below b01 hB).more (Nat.le_trans hB b01.size)) (Nat.le_refl _) hy qO).mono ?_
 rintro e w2 ⟨vs,A2',n2,c2',hv,rfl,ho2,b2⟩
 have s1:=(ho1.below b2).sl
 have s2:=ho2.sl
 have hb0:=b01.trans (b2.mono b01.size)
 have hul:=ho1.len
 have hvl:=ho2.len
 have hlen:n2≤n1:=by
  rcases Nat.lt_or_ge n1 n2 with h|h
  ·have:=dj (β:=65536) qD hu.dg hv.dg hv.tr qO
   rw [hu.val,hv.val] at this
   omega
  ·exact h
 have EU:=Lib.hid hu.val
 have EV:=Lib.hid hv.val
 have dU:=hu.dg
 have dV:=hv.dg
 clear ho1 ho2 b0 b01 b1 b2 hu hv hs ht HC
 go_wp2_with fail
 go_loopw [8,9,10] (fun ov cv iv wr=>∃ (i c2:Nat) (q:Int) (A3:Option Addr) (O:List Int),iv= .int .i64 i∧cv= .int .i64 q∧ov= .slice A3 i c2∧(0≤q∧q≤1)∧i≤n1∧bH .i64 3 wr w2.heap.size A3 i c2 O∧Below w2.heap.size w2 wr∧
  Acc 65536 (val 65536 (us.take i) - val 65536 (vs.take i)) O i (-q)) (fun _ _ iv _=>n1 - (intOf iv).toNat)
 case atStart=>exact ⟨0,0,0,none,[],rfl,rfl,rfl,by omega,by omega,bH.nil,Below.refl _ _, .start⟩
 case round=>
  obtain ⟨i,c3,q,A3,O,rfl,rfl,rfl,hq,hi,ho,hb,hacc⟩:=hrel
  by_cases hlt:i<n1
  ·obtain ⟨b,off,x,rfl,_,ex,hcell⟩:=(s1.below hb (Nat.le_refl _)).at_ hlt
   have hs2:=s2.below hb (Nat.le_refl _)
   have hxr:=dU.get ex
   have hyr:=pG qD dV i
   have hin:(i:Int)<(n1:Int):=qO
   have hnx:∀ d q':Int,(0≤d∧d<65536)→d+65536*(-q')=x - vs[i]?.getD 0 - q→Acc 65536 (val 65536 (us.take (i+1)) - val 65536 (vs.take (i+1))) (O++[d]) (i+1) (-q'):=by
    intro d q' hd e
    have:=hacc.step (f:=x - vs[i]?.getD 0) (c':= -q') hd qO
    rw [dI,dI,ex]
    rw [Int.mul_sub] at this
    rw [show val 65536 (us.take i)+65536^i*(some x).getD 0 - (val 65536 (vs.take i)+65536^i*vs[i]?.getD 0)=val 65536 (us.take i) - val 65536 (vs.take i)+(65536^i*x - 65536^i*vs[i]?.getD 0) by simp only [Option.getD_some];omega]
    exact this
   have HC2:Hid (∀ k,Calls Tryz.prog 190 #[.slice A2' n2 c2', .int .i64 i] (wr.drewN k) fun e w'=>e= .returned (.int .i64 (vs[i]?.getD 0))∧wr.drewN k=w'):=fun k=>p_ (i:=i) (hs2.drew k)
   generalize vs[i]?.getD 0=y at*
   have HN:=Lib.hid hnx
   have HO:=Lib.hid ho
   clear hnx hacc ho hs2
   go_wp2_with fail
   go_quiet ((go_at_call 190;refine (HC2.out _).mono ?_;rintro e w9 ⟨rfl,rfl⟩;exact ⟨rfl,_,rfl⟩))
   generalize hwq:wr.drewN _=wq
   have HO':bH .i64 3 wq w2.heap.size A3 i c3 O:=by rw [←hwq];exact HO.out.drew _
   have hb':Below w2.heap.size w2 wq:=by rw [←hwq];exact Below.drewN' hb _
   clear hwq HO hb hcell HC2
   rcases Int.lt_or_le (x - y - q) 0 with hneg|hneg
   ·have HA5:=Lib.hid (HN.out (x - y - q+65536) 1 qO qO)
    clear HN
    go_wp2_with (at_builtin;refine dN kJ rfl _ _ rfl (HO'.alloc _) rfl (Sl.new1 .i64 _ _ _) rfl qO qR (by have:=hb'.size;simp;omega) ?_;intro A5 c5 w5 h5 hg)
    have hb5:Below w2.heap.size w2 w5:=(hb'.alloc hb'.size _).grown hg (by have:=hb'.size;simp;omega) (fun k hk=>(HO'.blk_ k hk).1)
    clear hg hb' HO'
    go_wp2
    go_roundw
    case rel=>exact ⟨i+1,c5,1,A5,_,by go_num,rfl,rfl,by omega,by omega,h5,hb5,HA5.out⟩
    case measure=>simp [intOf]<;>omega
   ·have HA5:=Lib.hid (HN.out (x - y - q) 0 qO qO)
    clear HN
    go_wp2_with (at_builtin;refine dN kJ rfl _ _ rfl (HO'.alloc _) rfl (Sl.new1 .i64 _ _ _) rfl qO qR (by have:=hb'.size;simp;omega) ?_;intro A5 c5 w5 h5 hg)
    have hb5:Below w2.heap.size w2 w5:=(hb'.alloc hb'.size _).grown hg (by have:=hb'.size;simp;omega) (fun k hk=>(HO'.blk_ k hk).1)
    clear hg hb' HO'
    go_wp2
    go_roundw
    case rel=>exact ⟨i+1,c5,0,A5,_,by go_num,rfl,rfl,by omega,by omega,h5,hb5,HA5.out⟩
    case measure=>simp [intOf]<;>omega
  ·obtain rfl:n1=i:=qO
   have hN:val 65536 O=val 4294967296 xs - val 4294967296 ys:=by
    have h1:=hacc.num
    have h2:=bQ qD hacc.dg
    have h3:=am qD hacc.dg
    rw [hacc.len] at h2
    rw [List.take_of_length_le (l:=us) qO,List.take_of_length_le (l:=vs) qO,EU.out,EV.out] at h1
    have hq0:q=0:=by
     rcases Int.lt_or_le 0 q with h|h
     ·obtain rfl:q=1:=qO
      omega
     ·omega
    subst hq0
    omega
   have HN:=Lib.hid hN
   have hD:=hacc.dg
   clear hacc hN
   go_wp2_with fail
   refine (nI ho.sl (Nat.le_refl _) hD qO).mono ?_
   rintro e w4 ⟨zs,hz,A4,n4,c4,rfl,ho4,b4⟩
   rw [HN.out] at hz
   go_wp2_with fail
   go_ret2
   exact ⟨zs,A4,n4,c4,hz,rfl,ho4.lower (Nat.le_trans hb0.size hb.size),hb0.trans ((hb.trans (b4.mono hb.size)).mono hb0.size)⟩
end Go.Proofs.YtpmhjieibebclaaGreatDoor
