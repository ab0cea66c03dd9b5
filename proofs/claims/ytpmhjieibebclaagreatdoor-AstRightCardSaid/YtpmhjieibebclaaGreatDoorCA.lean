/- Plain facts on rows of digits in a base (least first): their number, trimming, uniqueness. No program stands in it. -/
import Derived.WalkKit
import Derived.WalkSpells
import Derived.Deep.AppendLies
import Derived.Laws.AppendOwnNone
import Derived.Deep.Draws
import Derived.Lib.ParseIntB
import Derived.Lib.ItoaNum
import Derived.Lib.Repeat
import Derived.ProofKit
import Derived.Lib.SmallJoins
import Derived.Deep.Slices
import Derived.Deep.Fields
import Derived.ChangeSame
set_option linter.unusedSimpArgs false
set_option linter.unusedVariables false
namespace Go.Proofs.YtpmhjieibebclaaGreatDoor
theorem qO {p:Prop} (h:p:=by omega):p:=h
theorem qK {p:Prop} (h:p:=by kernel_rfl):p:=h
theorem qD {p:Prop} (h:p:=by decide):p:=h
theorem qS {p:Prop} (h:p:=by simp [Op.operands,e]):p:=h
theorem qE {p:Prop} (h:p:=by simp):p:=h
theorem qA {p:Prop} (h:p:=by rw [ak];omega):p:=h
theorem qR {p:Prop} (h:p:=by unfold maxLen;omega):p:=h
theorem qF {p:Prop} (h:p:=by simp [aK]):p:=h
theorem qG {p:Prop} (h:p:=by first|assumption|rfl):p:=h
theorem qH {p:Prop} (h:p:=by have:=HL.out;omega):p:=h
theorem qI {p:Prop} (h:p:=by simp [Op.operands]):p:=h
theorem qJ {p:Prop} (h:p:=by simp [Op.operands,Call.operands]):p:=h
theorem qL {p:Prop} (h:p:=by assumption):p:=h
theorem qM {p:Prop} (h:p:=by rw [eX];omega):p:=h
theorem qN {p:Prop} (h:p:=by have:=hb.size;simp;omega):p:=h
variable {β x s b a V N q y cr r hi σ U a0 b0 vA vB f u c nA nB lo:Int} {xs X S ys S1 Y P Q U0:List Int} {i n d k m j o B M L:Nat} {w w':World} {t:Bool}
def val (β:Int):List Int→Int
 |[]=>0
 |x::xs=>x+β*val β xs
def Dg (β:Int) (xs:List Int):Prop:=∀ x∈xs,0≤x∧x<β
def tl:List Int→List Int
 |[]=>[]
 |x::xs=>if tl xs=[] then (if x=0 then [] else [x]) else x::tl xs
def Tr (xs:List Int):Prop:=tl xs=xs
theorem Dg.nil:Dg β []:=fun _ h=>by cases h
theorem Dg.cons {β x:Int} {xs:List Int} (h:0≤x∧x<β) (hs:Dg β xs):Dg β (x::xs):=fun y hy=>by
 rcases List.mem_cons.1 hy with rfl|hy
 ·exact h
 ·exact hs y hy
theorem Dg.head(h:Dg β (x::xs)):0≤x∧x<β:=h x qE
theorem Dg.tail(h:Dg β (x::xs)):Dg β xs:=fun y hy=>h y (by simp [hy])
theorem Dg.append(h:Dg β xs) (h':Dg β ys):Dg β (xs++ys):=fun y hy=>by
 rcases List.mem_append.1 hy with hy|hy
 ·exact h y hy
 ·exact h' y hy
theorem Dg.left(h:Dg β (xs++ys)):Dg β xs:=fun y hy=>h y (by simp [hy])
theorem Dg.right(h:Dg β (xs++ys)):Dg β ys:=fun y hy=>h y (by simp [hy])
theorem Dg.take(h:Dg β xs) (n:Nat):Dg β (xs.take n):=fun y hy=>h y (List.mem_of_mem_take hy)
theorem Dg.drop(h:Dg β xs) (n:Nat):Dg β (xs.drop n):=fun y hy=>h y (List.mem_of_mem_drop hy)
theorem Dg.get(h:Dg β xs) (hx:xs[i]? =some x):0≤x∧x<β:=h x (List.mem_of_getElem? hx)
theorem Dg.set(h:Dg β xs) (hx:0≤x∧x<β):Dg β (xs.set i x):=fun y hy=>by
 rcases List.mem_or_eq_of_mem_set hy with hy|rfl
 ·exact h y hy
 ·exact hx
theorem Dg.zeros(hβ:0<β) (n:Nat):Dg β (List.replicate n 0):=fun y hy=>by
 obtain ⟨_,rfl⟩:=List.mem_replicate.1 hy
 exact ⟨Int.le_refl _,hβ⟩
theorem cI (β:Int) (xs ys:List Int):val β (xs++ys)=val β xs+β^xs.length*val β ys:=by
 induction xs with
 |nil=>simp [val]
 |cons x xs ih=>simp only [List.cons_append,val,ih,List.length_cons,Int.pow_succ];grind
theorem bN (β:Int) (xs:List Int) (y:Int):val β (xs++[y])=val β xs+β^xs.length*y:=by
 rw [cI];simp [val]
theorem am(hβ:0<β) (h:Dg β xs):0≤val β xs:=by
 induction xs with
 |nil=>simp [val]
 |cons x xs ih=>
  have h1:=ih h.tail
  have h2:=h.head
  have h3:0≤β*val β xs:=Int.mul_nonneg qO h1
  simp only [val];omega
theorem aI(hβ:0<β) (n:Nat):0<β^n:=Int.pow_pos hβ
theorem bQ(hβ:0<β) (h:Dg β xs):val β xs<β^xs.length:=by
 induction xs with
 |nil=>simp [val]
 |cons x xs ih=>
  have h1:=ih h.tail
  have h2:=h.head
  have h3:β*(val β xs+1)≤β*β^xs.length:=Int.mul_le_mul_of_nonneg_left qO qO
  simp only [val,List.length_cons,Int.pow_succ]
  have h4:β*(val β xs+1)=β*val β xs+β:=by grind
  have h5:β^xs.length*β=β*β^xs.length:=Int.mul_comm _ _
  omega
theorem gM (β:Int) (n:Nat):val β (List.replicate n 0)=0:=by
 induction n with
 |zero=>rfl
 |succ n ih=>simp [List.replicate_succ,val,ih]
theorem eP (xs:List Int):(tl xs).length≤xs.length:=by
 induction xs with
 |nil=>simp [tl]
 |cons x xs ih=>simp only [tl];split<;>(try split)<;>simp<;>omega
theorem bw (β:Int) (xs:List Int):val β (tl xs)=val β xs:=by
 induction xs with
 |nil=>rfl
 |cons x xs ih=>
  simp only [tl]
  split
  ·rename_i h
   rw [h] at ih
   have ih':val β xs=0:=by rw [←ih];rfl
   split<;>simp [val,ih']<;>omega
  ·simp [val,ih]
theorem cH(h:Dg β xs):Dg β (tl xs):=by
 induction xs with
 |nil=>exact h
 |cons x xs ih=>
  simp only [tl]
  split
  ·split
   ·exact Dg.nil
   ·exact Dg.cons h.head Dg.nil
  ·exact Dg.cons h.head (ih h.tail)
theorem cd (xs:List Int):Tr (tl xs):=by
 unfold Tr
 induction xs with
 |nil=>rfl
 |cons x xs ih=>
  simp only [tl]
  split
  ·split
   ·rfl
   ·rename_i h;simp [tl,h]
  ·rename_i h;simp only [tl,ih,if_neg h]
theorem iK (xs:List Int):tl (xs++[0])=tl xs:=by
 induction xs with
 |nil=>simp [tl]
 |cons x xs ih=>simp only [List.cons_append,tl,ih]
theorem mH(xs:List Int) (hy:y≠0):tl (xs++[y])=xs++[y]:=by
 induction xs with
 |nil=>simp [tl,hy]
 |cons x xs ih=>simp only [List.cons_append,tl,ih];simp
theorem yj (xs:List Int):tl xs=xs.take (tl xs).length:=by
 induction xs with
 |nil=>rfl
 |cons x xs ih=>
  simp only [tl]
  split
  ·split<;>simp
  ·simp [←ih]
theorem Tr.tail(h:Tr (x::xs)):Tr xs:=by
 unfold Tr at*
 simp only [tl] at h
 split at h
 ·rename_i h1
  split at h
  ·cases h
  ·injection h with _ h;rw [h1,←h]
 ·injection h
theorem Tr.nil:Tr []:=rfl
theorem Tr.zero(hβ:0<β) (h:Dg β xs) (ht:Tr xs) (hv:val β xs=0):xs=[]:=by
 induction xs with
 |nil=>rfl
 |cons x xs ih=>
  have h1:=am hβ h.tail
  have h2:=h.head
  have h3:0≤β*val β xs:=Int.mul_nonneg qO h1
  simp only [val] at hv
  have h4:β*val β xs=0:=qO
  have h5:val β xs=0:=by
   rcases Int.mul_eq_zero.1 h4 with h|h
   ·omega
   ·exact h
  have h6:=ih h.tail ht.tail h5
  subst h6
  obtain rfl:x=0:=qO
  unfold Tr at ht
  simp [tl] at ht
theorem DV(hβ:0<β) (h:Dg β xs) (h':Dg β ys) (ht:Tr xs) (ht':Tr ys) (hv:val β xs=val β ys):xs=ys:=by
 induction xs generalizing ys with
 |nil=>exact (Tr.zero hβ h' ht' hv.symm).symm
 |cons x xs ih=>
  cases ys with
  |nil=>exact Tr.zero hβ h ht hv
  |cons y ys=>
   simp only [val] at hv
   have hx:=h.head
   have hy:=h'.head
   have e1:(x+β*val β xs)%β=x:=by rw [Int.add_mul_emod_self_left];exact Int.emod_eq_of_lt hx.1 hx.2
   have e2:(y+β*val β ys)%β=y:=by rw [Int.add_mul_emod_self_left];exact Int.emod_eq_of_lt hy.1 hy.2
   have e3:x=y:=by rw [←e1,←e2,hv]
   subst e3
   have e4:β*val β xs=β*val β ys:=qO
   have e5:val β xs=val β ys:=Int.eq_of_mul_eq_mul_left qO e4
   rw [ih h.tail h'.tail ht.tail ht'.tail e5]
structure fZ (β N:Int) (xs:List Int):Prop where
 dg:Dg β xs
 tr:Tr xs
 val:val β xs=N
theorem fZ.uniq(hβ:0<β) (h:fZ β N xs) (h':fZ β N ys):xs=ys:=
 DV hβ h.dg h'.dg h.tr h'.tr (h.val.trans h'.val.symm)
def b_ (a b:Int):Int:=if a<b then -1 else if a=b then 0 else 1
theorem fj(h:xs[i]? =some x):xs=xs.take i++x::xs.drop (i+1):=by
 obtain ⟨hi,rfl⟩:=List.getElem?_eq_some_iff.1 h
 simp
theorem aH(h:xs[i]? =some x):xs.take (i+1)=xs.take i++[x]:=by
 rw [List.take_add_one,h];rfl
theorem np(h:xs[i]? =some x):xs.drop i=x::xs.drop (i+1):=by
 obtain ⟨hi,rfl⟩:=List.getElem?_eq_some_iff.1 h
 simp
theorem bT(h:xs[i]? =some x):i<xs.length:=(List.getElem?_eq_some_iff.1 h).1
theorem c_(h:i<xs.length):∃ x,xs[i]? =some x:=⟨xs[i],List.getElem?_eq_getElem h⟩
theorem ip {β:Int} (hβ:0<β) {xs ys:List Int} (hx:Dg β xs) (hy:Dg β ys) (i:Nat) {x y:Int} (ex:xs[i]? =some x) (ey:ys[i]? =some y)
 (hd:xs.drop (i+1)=ys.drop (i+1)) (hlt:x<y):val β xs<val β ys:=by
 have l1:=bT ex
 have l2:=bT ey
 rw [fj ex,fj ey,cI,cI,hd]
 simp only [val,List.length_take]
 rw [Nat.min_eq_left qO,Nat.min_eq_left qO]
 have a1:=bQ hβ (hx.take i)
 have a2:=am hβ (hy.take i)
 rw [List.length_take,Nat.min_eq_left qO] at a1
 have p:=aI hβ i
 have m:β^i*(x+1)≤β^i*y:=Int.mul_le_mul_of_nonneg_left qO qO
 generalize val β (ys.drop (i+1))=V at*
 have e1:β^i*(x+β*V)=β^i*(x+1) - β^i+β^i*(β*V):=by grind
 have e2:β^i*(y+β*V)=β^i*y+β^i*(β*V):=by grind
 omega
theorem dj(hβ:1<β) (hx:Dg β xs) (hy:Dg β ys) (ty:Tr ys) (hl:xs.length<ys.length):val β xs<val β ys:=by
 have a1:=bQ qO hx
 have hne:ys≠[]:=by intro e;subst e;simp at hl
 obtain ⟨zs,z,rfl⟩:∃ zs z,ys=zs++[z]:=⟨ys.dropLast,ys.getLast hne,(List.dropLast_concat_getLast hne).symm⟩
 have hz:z≠0:=by
  rintro rfl
  have:=ty
  unfold Tr at this
  rw [iK] at this
  have l:=eP zs
  rw [this] at l
  simp at l
  omega
 have hz':=hy z qE
 rw [bN]
 have a2:=am qO hy.left
 have p:=aI (show 0<β by omega) zs.length
 have m:β^zs.length*1≤β^zs.length*z:=Int.mul_le_mul_of_nonneg_left qO qO
 have q:β^xs.length≤β^zs.length:=by
  obtain ⟨d,hd⟩:∃ d,zs.length=xs.length+d:=⟨zs.length - xs.length,by simp at hl;omega⟩
  rw [hd,Int.pow_add]
  have p1:=aI (show 0<β by omega) xs.length
  have p2:=aI (show 0<β by omega) d
  have:β^xs.length*1≤β^xs.length*β^d:=Int.mul_le_mul_of_nonneg_left qO qO
  omega
 omega
structure jd (β σ:Int) (S X S1:List Int) (i:Nat) (cr:Int):Prop where
 dg:Dg β S1
 len:S1.length=S.length
 c01:0≤cr∧cr≤1
 rest:S1.drop i=S.drop i
 num:val β (S1.take i)+σ*(β^i*cr)=val β (S.take i)+σ*val β (X.take i)
theorem jd.start(h:Dg β S):jd β σ S X S 0 0:=⟨h,rfl,by omega,rfl,by simp [val]⟩
theorem jd.at_(h:jd β σ S X S1 i cr):S1[i]? =S[i]? :=by
 have:=congrArg (fun l=>l[0]?) h.rest
 simpa using this
theorem jd.step {β σ:Int} {S X S1:List Int} {i:Nat} {cr s x d cr':Int} (h:jd β σ S X S1 i cr) (hs:S1[i]? =some s) (hx:X[i]?.getD 0=x)
 (hd:0≤d∧d<β) (hc:0≤cr'∧cr'≤1) (e:d+σ*(β*cr')=s+σ*(x+cr)):jd β σ S X (S1.set i d) (i+1) cr':=by
 have hi:=bT hs
 have hS:S[i]? =some s:=by rw [←h.at_];exact hs
 have hd':(S1.set i d)[i]? =some d:=by simp [hi]
 refine ⟨h.dg.set hd,by simp [h.len],hc,?_,?_⟩
 ·rw [List.drop_set_of_lt qO]
  have:=congrArg (List.drop 1) h.rest
  simpa [List.drop_drop] using this
 ·rw [aH hd',aH hS,List.take_set_of_le qO,bN,bN]
  have hX:val β (X.take (i+1))=val β (X.take i)+β^i*x:=by
   rcases Nat.lt_or_ge i X.length with hl|hl
   ·obtain ⟨y,hy⟩:=c_ hl
    rw [hy] at hx
    obtain rfl:y=x:=hx
    rw [aH hy,bN,List.length_take,Nat.min_eq_left qO]
   ·rw [List.getElem?_eq_none hl] at hx
    obtain rfl:(0:Int)=x:=hx
    rw [List.take_of_length_le qO,List.take_of_length_le qO]
    omega
  rw [hX,List.length_take,List.length_take,Nat.min_eq_left qO,Nat.min_eq_left (by have:=bT hS;omega)]
  have hn:=h.num
  have e2:β^i*d+σ*(β^(i+1)*cr')=β^i*s+σ*(β^i*x)+σ*(β^i*cr):=by
   rw [Int.pow_succ]
   have:β^i*(d+σ*(β*cr'))=β^i*(s+σ*(x+cr)):=by rw [e]
   grind
  have e3:σ*(val β (X.take i)+β^i*x)=σ*val β (X.take i)+σ*(β^i*x):=Int.mul_add _ _ _
  omega
theorem jd.stop(h:jd β σ S X S1 i 0) (hX:X.length≤i) (hi:i≤S.length):val β S1=val β S+σ*val β X:=by
 have hn:=h.num
 rw [List.take_of_length_le hX] at hn
 have a:val β S1=val β (S1.take i)+β^i*val β (S1.drop i):=by
  conv=>lhs;rw [←List.take_append_drop i S1]
  rw [cI,List.length_take,Nat.min_eq_left (by have:=h.len;omega)]
 have b:val β S=val β (S.take i)+β^i*val β (S.drop i):=by
  conv=>lhs;rw [←List.take_append_drop i S]
  rw [cI,List.length_take,Nat.min_eq_left qO]
 rw [a,b,h.rest]
 simp only [Int.mul_zero,Int.add_zero] at hn
 omega
theorem jd.room(hβ:0<β) (h:jd β 1 S X S1 i cr) (hX:X.length≤i) (hi:i≤S.length) (hc:cr≠0) (hfit:val β S+val β X<β^S.length):i<S.length:=by
 rcases Nat.lt_or_ge i S.length with hl|hl
 ·exact hl
 ·obtain rfl:i=S.length:=qO
  obtain rfl:cr=1:=by have:=h.c01;omega
  have hn:=h.num
  rw [List.take_of_length_le hX,List.take_of_length_le (Nat.le_refl _),List.take_of_length_le (by have:=h.len;omega)] at hn
  have:=am hβ h.dg
  omega
theorem jd.roomDown(hβ:0<β) (h:jd β (-1) S X S1 i cr) (hX:X.length≤i) (hi:i≤S.length) (hc:cr≠0) (hfit:val β X≤val β S):i<S.length:=by
 rcases Nat.lt_or_ge i S.length with hl|hl
 ·exact hl
 ·obtain rfl:i=S.length:=qO
  obtain rfl:cr=1:=by have:=h.c01;omega
  have hn:=h.num
  rw [List.take_of_length_le hX,List.take_of_length_le (Nat.le_refl _),List.take_of_length_le (by have:=h.len;omega)] at hn
  have:=bQ hβ h.dg
  rw [h.len] at this
  omega
theorem lO(hβ:1<β) (hs:0≤s∧s<β) (hx:0≤x∧x<β) (hc:0≤cr∧cr≤1):
 (0≤(s+x+cr)%β∧(s+x+cr)%β<β)∧(0≤(s+x+cr) / β∧(s+x+cr) / β≤1)∧(s+x+cr)%β+1*(β*((s+x+cr) / β))=s+1*(x+cr):=by
 have h1:=Int.emod_nonneg (s+x+cr) (show β≠0 by omega)
 have h2:=Int.emod_lt_of_pos (s+x+cr) (show 0<β by omega)
 have h3:=Int.emod_add_mul_ediv (s+x+cr) β
 have h4:0≤(s+x+cr) / β:=Int.ediv_nonneg qO qO
 have h5:(s+x+cr) / β<2:=Int.ediv_lt_of_lt_mul qO qO
 exact ⟨⟨h1,h2⟩,⟨h4,by omega⟩,by omega⟩
theorem rJ{d:Int} (_hs:0≤s∧s<4294967296) (_hx:0≤x∧x<4294967296) (_hc:0≤cr∧cr≤1) (hd:d=(s - x - cr)%4294967296) (hb:b=if s<x+cr then 1 else 0):
 (0≤d∧d<4294967296)∧(0≤b∧b≤1)∧d+ -1*(4294967296*b)=s+ -1*(x+cr):=by
 subst hd;subst hb;split<;>omega
theorem fZ.len_le(hβ:1<β) (h:fZ β N xs) (hN:N<β^k):xs.length≤k:=by
 rcases Nat.lt_or_ge k xs.length with hl|hl
 ·have:=dj hβ (xs:=List.replicate k 0) (ys:=xs) (Dg.zeros qO k) h.dg h.tr (by simpa using hl)
  have hne:xs≠[]:=by intro e;subst e;simp at hl
  obtain ⟨zs,z,rfl⟩:∃ zs z,xs=zs++[z]:=⟨xs.dropLast,xs.getLast hne,(List.dropLast_concat_getLast hne).symm⟩
  have hz:z≠0:=by
   rintro rfl
   have h1:=h.tr
   unfold Tr at h1
   rw [iK] at h1
   have h2:=eP zs
   rw [h1] at h2
   simp at h2
   omega
  have hz':=h.dg z qE
  have hv:=h.val
  rw [bN] at hv
  have p0:=am qO h.dg.left
  have p1:=aI (show 0<β by omega) zs.length
  have m:β^zs.length*1≤β^zs.length*z:=Int.mul_le_mul_of_nonneg_left qO qO
  obtain ⟨d,hd⟩:∃ d,zs.length=k+d:=⟨zs.length - k,by simp at hl;omega⟩
  have p2:=aI (show 0<β by omega) d
  have p3:=aI (show 0<β by omega) k
  have q:β^k*1≤β^k*β^d:=Int.mul_le_mul_of_nonneg_left qO qO
  rw [hd,Int.pow_add] at hv m
  omega
 ·exact hl
structure Prod (β m:Int) (X P:List Int) (i:Nat) (h:Int):Prop where
 dg:Dg β P
 high:0≤h∧h<β
 num:val β (P.take i)+β^i*h=m*val β (X.take i)
theorem zV{m h:Int} (hx:0≤x∧x<4294967296) (hm:0≤m∧m<4294967296) (hh:0≤h∧h<4294967296):
 0≤x*m∧x*m≤18446744065119617025∧(0≤(x*m+h)%4294967296∧(x*m+h)%4294967296<4294967296)∧
 (0≤x*m / 4294967296+(x*m%4294967296+h) / 4294967296∧x*m / 4294967296+(x*m%4294967296+h) / 4294967296<4294967296)∧
 (x*m+h)%4294967296+4294967296*(x*m / 4294967296+(x*m%4294967296+h) / 4294967296)=x*m+h:=by
 have h0:0≤x*m:=Int.mul_nonneg hx.1 hm.1
 have h1:x*m≤4294967295*4294967295:=Int.mul_le_mul qO qO hm.1 qO
 omega
theorem Prod.start{m:Int} (hβ:0<β) (h:Dg β P):Prod β m X P 0 0:=⟨h,⟨Int.le_refl _,hβ⟩,by simp [val]⟩
theorem Prod.step {β m:Int} {X P:List Int} {i:Nat} {h x d h':Int} (hp:Prod β m X P i h) (hx:X[i]? =some x) (hi:i<P.length) (hd:0≤d∧d<β) (hh:0≤h'∧h'<β) (e:d+β*h'=x*m+h):
 Prod β m X (P.set i d) (i+1) h':=by
 have hd':(P.set i d)[i]? =some d:=by simp [hi]
 refine ⟨hp.dg.set hd,hh,?_⟩
 rw [aH hd',aH hx,List.take_set_of_le qO,bN,bN,List.length_take,List.length_take,Nat.min_eq_left qO,Nat.min_eq_left (by have:=bT hx;omega)]
 have hn:=hp.num
 rw [Int.pow_succ]
 have:β^i*(d+β*h')=β^i*(x*m+h):=by rw [e]
 grind
theorem Prod.stop{m:Int} {h:Int} (hp:Prod β m X P n h) (hX:X.length=n) (hP:P.length=n+1):val β (P.set n h)=m*val β X∧Dg β (P.set n h):=by
 refine ⟨?_,hp.dg.set hp.high⟩
 have hn:=hp.num
 rw [List.take_of_length_le (l:=X) qO] at hn
 have hd':(P.set n h)[n]? =some h:=by simp [hP]
 rw [fj hd',cI,List.take_set_of_le qO,List.drop_of_length_le (by simp;omega),List.length_take,Nat.min_eq_left qO,←hn]
 simp [val]
structure F8 (β d:Int) (X Q:List Int) (k:Nat) (r:Int):Prop where
 dg:Dg β Q
 rest:0≤r∧r<d
 num:val β (X.drop k)=d*val β (Q.drop k)+r
theorem F8.start{d:Int} (hd:0<d) (h:Dg β Q) (hX:X.length≤n) (hQ:Q.length≤n):F8 β d X Q n 0:=
 ⟨h,⟨Int.le_refl _,hd⟩,by rw [List.drop_of_length_le hX,List.drop_of_length_le hQ];simp [val]⟩
theorem F8.step {β d:Int} {X Q:List Int} {j:Nat} {r x:Int} (h:F8 β d X Q (j+1) r) (hx:X[j]? =some x) (hj:j<Q.length) (hq:0≤(r*β+x) / d∧(r*β+x) / d<β):
 F8 β d X (Q.set j ((r*β+x) / d)) j ((r*β+x)%d):=by
 have hd:0<d:=by have:=h.rest;omega
 refine ⟨h.dg.set hq,⟨Int.emod_nonneg _ qO,Int.emod_lt_of_pos _ hd⟩,?_⟩
 have hd':(Q.set j ((r*β+x) / d))[j]? =some ((r*β+x) / d):=by simp [hj]
 rw [np hx,np hd',List.drop_set_of_lt qO]
 simp only [val]
 rw [h.num]
 have:=Int.emod_add_mul_ediv (r*β+x) d
 grind
theorem E9{S:Int} (hi:(i:Int)+1≤9223372036854775807) (hS:S≤(i:Int)*4294967296^M) (hx:x<4294967296^M):
 S+x≤((i:Int)+1)*4294967296^M∧S+x<4294967296^(M+2):=by
 have p:=aI (show (0:Int)<4294967296 by decide) M
 rw [Int.pow_add]
 generalize (4294967296:Int)^M=Y at*
 have e1:((i:Int)+1)*Y=(i:Int)*Y+Y:=by rw [Int.add_mul];omega
 have e2:((i:Int)+1)*Y≤9223372036854775807*Y:=Int.mul_le_mul_of_nonneg_right hi qO
 have e3:(4294967296:Int)^2=18446744073709551616:=by decide
 rw [e3]
 omega
theorem aP(hβ:0<β) {a b:Nat} (h:a≤b):β^a≤β^b:=by
 obtain ⟨d,rfl⟩:∃ d,b=a+d:=⟨b - a,by omega⟩
 rw [Int.pow_add]
 have p1:=aI hβ a
 have p2:=aI hβ d
 have:β^a*1≤β^a*β^d:=Int.mul_le_mul_of_nonneg_left qO qO
 omega
theorem iQ(hd:d≤32):(2:Int)^d*2^(32 - d)=4294967296:=by
 rw [←Int.pow_add,show d+(32 - d)=32 by omega];decide
theorem ug (s:Nat):(2:Int)^s=4294967296^(s / 32)*2^(s%32):=by
 rw [show (4294967296:Int)=2^32 by decide,←Int.pow_mul,←Int.pow_add,show 32*(s / 32)+s%32=s by omega]
theorem xH(hd:d≤32):x*2^d / 4294967296=x / 2^(32 - d):=by
 have p:(0:Int)<2^d:=aI qD d
 rw [←iQ hd,Int.mul_comm x,Int.mul_ediv_mul_of_pos _ _ p]
theorem oF(hd:d≤32):x*2^d%4294967296+4294967296*(x / 2^(32 - d))=x*2^d:=by
 rw [←xH hd];exact Int.emod_add_mul_ediv _ _
theorem pY(hd:d≤32) (hx:0≤x∧x<4294967296):0≤x / 2^(32 - d)∧x / 2^(32 - d)<2^d:=by
 have p:(0:Int)<2^(32 - d):=aI qD _
 refine ⟨Int.ediv_nonneg hx.1 qO,Int.ediv_lt_of_lt_mul p ?_⟩
 rw [iQ hd];exact hx.2
theorem o9(hd:d≤32):(2:Int)^d≤4294967296:=by
 have:=aP (show (0:Int)<2 by decide) hd
 exact Int.le_trans this qD
theorem qo(hd:d≤32) (hy:0≤y∧y<2^d) (_hx:0≤x):0≤y+x*2^d%4294967296∧y+x*2^d%4294967296<4294967296:=by
 have h1:=Int.emod_nonneg (x*2^d) (show (4294967296:Int)≠0 by decide)
 refine ⟨by omega,?_⟩
 have p:(0:Int)<2^d:=aI qD d
 have e:x*2^d%4294967296=2^d*(x%2^(32 - d)):=by
  rw [←iQ hd,Int.mul_comm x,Int.mul_emod_mul_of_pos _ _ p]
 have h2:=Int.emod_lt_of_pos x (show (0:Int)<2^(32 - d) from aI qD _)
 have h3:2^d*(x%2^(32 - d)+1)≤2^d*2^(32 - d):=Int.mul_le_mul_of_nonneg_left qO qO
 rw [iQ hd,Int.mul_add] at h3
 omega
structure Up (d L:Nat) (X S:List Int) (i:Nat) (c:Int):Prop where
 dg:Dg 4294967296 S
 here:S[i+L]? =some c
 small:0≤c∧c<2^d
 num:val 4294967296 (S.take (i+L))+4294967296^(i+L)*c=4294967296^L*2^d*val 4294967296 (X.take i)
theorem Up.start:Up d L X (List.replicate (n+L+1) 0) 0 0:=by
 refine ⟨Dg.zeros qD _,?_,⟨Int.le_refl _,aI qD _⟩,?_⟩
 ·rw [List.getElem?_replicate,if_pos qO]
 ·rw [List.take_replicate,gM];simp [val]
theorem Up.step {d L:Nat} {X S:List Int} {i:Nat} {c x:Int} (h:Up d L X S i c) (hd:d≤32) (hx:X[i]? =some x) (hxd:0≤x∧x<4294967296) (hl:i+L+1<S.length):
 Up d L X ((S.set (i+L) (c+x*2^d%4294967296)).set (i+L+1) (x / 2^(32 - d))) (i+1) (x / 2^(32 - d)):=by
 have hs:=pY hd hxd
 have hj:=qo hd h.small hxd.1
 have hp:=o9 hd
 refine ⟨(h.dg.set hj).set qO,?_,hs,?_⟩
 ·rw [show i+1+L=i+L+1 by omega];simp [hl]
 ·rw [show i+1+L=i+L+1 by omega,List.take_set_of_le (Nat.le_refl _)]
  have e1:(S.set (i+L) (c+x*2^d%4294967296))[i+L]? =some (c+x*2^d%4294967296):=List.getElem?_set_self qO
  rw [aH e1,List.take_set_of_le (Nat.le_refl _),bN,aH hx,bN,List.length_take,List.length_take,Nat.min_eq_left qO,Nat.min_eq_left (by have:=bT hx;omega)]
  have hn:=h.num
  have hsp:=oF (x:=x) hd
  generalize x*2^d%4294967296=lo at*
  generalize x / 2^(32 - d)=hi at*
  have e2:(4294967296:Int)^(i+L)*(lo+4294967296*hi)=4294967296^(i+L)*(x*2^d):=by rw [hsp]
  rw [Int.pow_succ,Int.pow_add] at*
  grind
theorem Up.stop(h:Up d L X S n c) (hX:X.length=n) (hS:S.length=n+L+1):val 4294967296 S=4294967296^L*2^d*val 4294967296 X:=by
 have hn:=h.num
 rw [List.take_of_length_le (l:=X) qO] at hn
 have:=bN 4294967296 (S.take (n+L)) c
 rw [←aH h.here,List.take_of_length_le qO,List.length_take,Nat.min_eq_left qO,hn] at this
 exact this
structure tm (d:Nat) (Y S:List Int) (i:Nat):Prop where
 dg:Dg 4294967296 S
 last:∀ j,i=j+1→∃ y s,Y[j]? =some y∧S[j]? =some s∧s=y / 2^d
 num:val 4294967296 (S.take i)=val 4294967296 (Y.take i) / 2^d
theorem tm.start:tm d Y (List.replicate n 0) 0:=⟨Dg.zeros qD _,fun j h=>by omega,by simp [val]⟩
theorem rN(hy:0≤y∧y<4294967296):0≤y / 2^d∧y / 2^d<4294967296:=by
 have p:(0:Int)<2^d:=aI qD d
 refine ⟨Int.ediv_nonneg hy.1 qO,Int.ediv_lt_of_lt_mul p ?_⟩
 have:(4294967296:Int)*1≤4294967296*2^d:=Int.mul_le_mul_of_nonneg_left qO qO
 omega
theorem tm.first(h:tm d Y S 0) (hy:Y[0]? =some y) (hyd:0≤y∧y<4294967296) (hl:0<S.length):tm d Y (S.set 0 (y / 2^d)) 1:=by
 have hn:=rN (d:=d) hyd
 have e1:(S.set 0 (y / 2^d))[0]? =some (y / 2^d):=by simp [hl]
 refine ⟨h.dg.set hn,fun j hj=> ?_,?_⟩
 ·obtain rfl:j=0:=qO
  exact ⟨y,_,hy,e1,rfl⟩
 ·rw [aH e1,aH hy];simp [val]
theorem tm.next(hd:d≤32) (h:tm d Y S (j+1)) (hy:Y[j+1]? =some y) (hyd:0≤y∧y<4294967296) (hs:S[j]? =some s) (hYd:Dg 4294967296 Y) (hl:j+1<S.length):
 (0≤s∧s<2^(32 - d))∧tm d Y ((S.set (j+1) (y / 2^d)).set j (s+y*2^(32 - d)%4294967296)) (j+1+1):=by
 obtain ⟨y0,s0,hy0,hs0,e0⟩:=h.last j rfl
 rw [hs] at hs0
 injection hs0 with hs0
 subst hs0
 have hd':32 - d≤32:=qO
 have hsm:0≤s∧s<2^(32 - d):=by
  have:=pY hd' (hYd.get hy0)
  rw [show 32 - (32 - d)=d by omega] at this
  rw [e0];exact this
 refine ⟨hsm,(h.dg.set (rN hyd)).set (qo hd' hsm hyd.1),fun i hi=> ?_,?_⟩
 ·obtain rfl:i=j+1:=qO
  refine ⟨y,_,hy,?_,rfl⟩
  rw [List.getElem?_set_ne qO];simp [hl]
 ·have e1:((S.set (j+1) (y / 2^d)).set j (s+y*2^(32 - d)%4294967296))[j+1]? =some (y / 2^d):=by rw [List.getElem?_set_ne qO];simp [hl]
  have e2:((S.set (j+1) (y / 2^d)).set j (s+y*2^(32 - d)%4294967296))[j]? =some (s+y*2^(32 - d)%4294967296):=List.getElem?_set_self (by rw [List.length_set];omega)
  have hn:=h.num
  rw [aH hs,bN] at hn
  rw [aH e1,bN,aH e2,bN,aH hy,bN,List.take_set_of_le (Nat.le_refl _),List.take_set_of_le qO]
  simp only [List.length_append,List.length_take,List.length_set,List.length_cons,List.length_nil]
  simp only [List.length_take] at hn
  rw [Nat.min_eq_left qO] at hn
  rw [Nat.min_eq_left qO,Nat.min_eq_left (by have:=bT hy;omega)]
  have hsp:=oF (x:=y) hd'
  rw [show 32 - (32 - d)=d by omega] at hsp
  have e3:(4294967296:Int)^(j+1)*y=2^d*(4294967296^j*(y*2^(32 - d))):=by
   rw [Int.pow_succ]
   have:=iQ hd
   grind
  have p:(0:Int)<2^d:=aI qD d
  rw [e3,Int.add_mul_ediv_left _ _ qO,←hn]
  generalize y*2^(32 - d)%4294967296=lo at*
  generalize y / 2^d=hi at*
  have e4:(4294967296:Int)^j*(lo+4294967296*hi)=4294967296^j*(y*2^(32 - d)):=by rw [hsp]
  rw [Int.pow_succ]
  grind
theorem EZ(hx:Dg 4294967296 X) (hL:L≤X.length) (d:Nat):val 4294967296 (X.drop L) / 2^d=val 4294967296 X / (4294967296^L*2^d):=by
 have e:val 4294967296 X=val 4294967296 (X.take L)+4294967296^L*val 4294967296 (X.drop L):=by
  conv=>lhs;rw [←List.take_append_drop L X]
  rw [cI,List.length_take,Nat.min_eq_left hL]
 have p:(0:Int)<4294967296^L:=aI qD L
 have h1:=bQ qD (hx.take L)
 rw [List.length_take,Nat.min_eq_left hL] at h1
 have h2:=am qD (hx.take L)
 rw [←Int.ediv_ediv_of_nonneg qO,e,Int.add_mul_ediv_left _ _ qO,Int.ediv_eq_zero_of_lt h2 h1,Int.zero_add]
theorem sZ(hx:Dg 4294967296 X) {s:Nat} (hs:X.length≤s / 32):val 4294967296 X / 2^s=0:=by
 refine Int.ediv_eq_zero_of_lt (am qD hx) (Int.lt_of_lt_of_le (bQ qD hx) ?_)
 rw [show (4294967296:Int)=2^32 by decide,←Int.pow_mul]
 exact aP qD qO
def dW (N:Int) (b:Nat):Prop:=(N=0∧b=0)∨(0<b∧2^(b - 1)≤N∧N<2^b)
theorem dW.uniq{b b':Nat} (h:dW N b) (h':dW N b'):b=b':=by
 have key:∀ {b b':Nat},dW N b→dW N b'→¬ b<b':=by
  intro b b' h h' hlt
  rcases h' with ⟨_,h0⟩|⟨_,h1,h2⟩
  ·omega
  ·have p:(0:Int)<2^(b' - 1):=aI qD _
   rcases h with ⟨h3,h4⟩|⟨_,h3,h4⟩
   ·omega
   ·have:=aP (show (0:Int)<2 by decide) (show b≤b' - 1 by omega)
    omega
 have h1:=key h h'
 have h2:=key h' h
 omega
theorem dW.row(hβ:β=2^k) {zs:List Int} {z:Int} {b:Nat} (hz:Dg β zs) (h0:0<z) (h:dW z b):dW (val β (zs++[z])) (k*zs.length+b):=by
 have hb:0<β:=by rw [hβ];exact aI qD _
 have v0:=am hb hz
 have v1:=bQ hb hz
 rw [bN]
 rcases h with ⟨h1,_⟩|⟨h1,h2,h3⟩
 ·omega
 ·have e:β^zs.length=2^(k*zs.length):=by rw [hβ,←Int.pow_mul]
  rw [e] at v1 ⊢
  have p:(0:Int)<2^(k*zs.length):=aI qD _
  have m1:(2:Int)^(k*zs.length)*2^(b - 1)≤2^(k*zs.length)*z:=Int.mul_le_mul_of_nonneg_left h2 qO
  have m2:(2:Int)^(k*zs.length)*(z+1)≤2^(k*zs.length)*2^b:=Int.mul_le_mul_of_nonneg_left qO qO
  rw [←Int.pow_add] at m1 m2
  rw [Int.mul_add] at m2
  refine .inr ⟨by omega,?_,?_⟩
  ·rw [show k*zs.length+b - 1=k*zs.length+(b - 1) by omega];omega
  ·omega
theorem dW.high{t:Int} {b:Nat} (h1:0<t / 2^j) (h:dW (t / 2^j) b):dW t (b+j):=by
 have p:(0:Int)<2^j:=aI qD _
 rcases h with ⟨h2,_⟩|⟨h2,h3,h4⟩
 ·omega
 ·have e:=Int.emod_add_mul_ediv t (2^j)
  have r0:=Int.emod_nonneg t (show (2:Int)^j≠0 by omega)
  have r1:=Int.emod_lt_of_pos t p
  generalize t / 2^j=q at*
  generalize t%2^j=r at*
  have m1:(2:Int)^j*2^(b - 1)≤2^j*q:=Int.mul_le_mul_of_nonneg_left h3 qO
  have m2:(2:Int)^j*(q+1)≤2^j*2^b:=Int.mul_le_mul_of_nonneg_left qO qO
  rw [←Int.pow_add] at m1 m2
  rw [Int.mul_add] at m2
  refine .inr ⟨by omega,?_,?_⟩
  ·rw [show b+j - 1=j+(b - 1) by omega];omega
  ·rw [show b+j=j+b by omega];omega
theorem dW.one:dW 1 1:= .inr ⟨by decide,by decide,by decide⟩
def kH:List Int:=[0,1]++List.replicate 2 2++List.replicate 4 3++List.replicate 8 4++List.replicate 16 5++List.replicate 32 6++List.replicate 64 7
theorem uj:∀ h:Nat,h<128→0≤kH.getD h 0∧kH.getD h 0≤7∧(h=0→kH.getD h 0=0)∧(0<h→0<kH.getD h 0∧(2:Int)^((kH.getD h 0).toNat - 1)≤h∧(h:Int)<2^(kH.getD h 0).toNat):=by
 decide +kernel
theorem zS {t:Nat} (h0:0<t) (h1:t≤255):dW (t:Int) (1+(kH.getD (t / 2) 0).toNat):=by
 obtain ⟨a,b,c,d⟩:=uj (t / 2) qO
 rcases Nat.eq_zero_or_pos (t / 2) with hz|hz
 ·rw [c hz]
  obtain rfl:t=1:=qO
  exact dW.one
 ·obtain ⟨d1,d2,d3⟩:=d hz
  have e:(t:Int) / 2^1=((t / 2:Nat):Int):=qO
  have:=dW.high (t:=(t:Int)) (j:=1) (b:=(kH.getD (t / 2) 0).toNat) (by rw [e];omega) (by rw [e];exact .inr ⟨by omega,d2,d3⟩)
  rw [Nat.add_comm]
  exact this
structure vy (N:Int) (n0 n t:Nat):Prop where
 pos:0<t
 bound:n+t≤n0
 num:∀ b,dW (t:Int) b→dW N (n+b)
theorem vy.step {N:Int} {n0 n t:Nat} (h:vy N n0 n t) (ht:255<t):vy N n0 (n+8) (t / 256):=by
 refine ⟨by omega,by have:=h.bound;omega,fun b hb=> ?_⟩
 have e:((t / 256:Nat):Int)=(t:Int) / 2^8:=qO
 rw [e] at hb
 have:=h.num _ (dW.high qO hb)
 rw [show n+8+b=n+(b+8) by omega]
 exact this
theorem Tr.last(h:Tr xs) (hne:xs≠[]):∃ zs z,xs=zs++[z]∧z≠0∧xs[xs.length - 1]? =some z:=by
 obtain ⟨zs,z,rfl⟩:∃ zs z,xs=zs++[z]:=⟨xs.dropLast,xs.getLast hne,(List.dropLast_concat_getLast hne).symm⟩
 refine ⟨zs,z,rfl,?_,by simp⟩
 rintro rfl
 unfold Tr at h
 rw [iK] at h
 have:=eP zs
 rw [h] at this
 simp at this
 omega
theorem eO(h:a<b):b_ a b= -1:=by unfold b_;rw [if_pos h]
theorem gV(h:b<a):b_ a b=1:=by unfold b_;rw [if_neg qO,if_neg qO]
theorem lM(h:a=b):b_ a b=0:=by unfold b_;rw [if_neg qO,if_pos h]
def fI (xs:List Int) (k:Nat):Prop:=tl (xs.take k)=tl xs
theorem fI.start(h:xs.length=n):fI xs n:=by unfold fI;rw [List.take_of_length_le qO]
theorem fI.down(h:fI xs (j+1)) (hx:xs[j]? =some 0):fI xs j:=by
 unfold fI at *;rw [aH hx,iK] at h;exact h
theorem fI.zero(h:fI xs 0):tl xs=[]:=by unfold fI at h;simpa [tl] using h.symm
theorem fI.stop(h:fI xs (j+1)) (hx:xs[j]? =some x) (h0:x≠0):tl xs=xs.take (j+1):=by
 unfold fI at h;rw [aH hx,mH _ h0] at h;rw [aH hx,h]
theorem Tr.cons {x:Int} {xs:List Int} (h:Tr xs) (hx:xs=[]→x≠0):Tr (x::xs):=by
 unfold Tr at*
 simp only [tl,h]
 split
 ·rename_i h0
  rw [if_neg (hx h0),h0]
 ·rfl
theorem Tr.single(h:Tr [x]):x≠0:=by
 rintro rfl
 simp [Tr,tl] at h
def gP (xs ys:List Int) (k:Nat):Prop:=∀ i,k≤i→xs[i]?.getD 0=ys[i]?.getD 0
def Fj (xs:List Int) (M:Nat):List Int:=xs++List.replicate (M - xs.length) 0
theorem pJ (β:Int) (xs:List Int) (M:Nat):val β (Fj xs M)=val β xs:=by
 unfold Fj
 rw [cI,gM];simp
theorem AO(hβ:0<β) (h:Dg β xs) (M:Nat):Dg β (Fj xs M):=h.append (Dg.zeros hβ _)
theorem yq(h:xs.length≤M):(Fj xs M).length=M:=by simp [Fj];omega
theorem pL(h:xs.length≤M) (hi:i<M):(Fj xs M)[i]? =some (xs[i]?.getD 0):=by
 unfold Fj
 rcases Nat.lt_or_ge i xs.length with hl|hl
 ·rw [List.getElem?_append_left hl,List.getElem?_eq_getElem hl];rfl
 ·rw [List.getElem?_append_right hl,List.getElem?_eq_none hl,List.getElem?_replicate,if_pos qO];rfl
theorem uq(hx:xs.length≤M) (hy:ys.length≤M) (h:gP xs ys k):(Fj xs M).drop k=(Fj ys M).drop k:=by
 refine List.ext_getElem? fun i=> ?_
 rw [List.getElem?_drop,List.getElem?_drop]
 rcases Nat.lt_or_ge (k+i) M with hl|hl
 ·rw [pL hx hl,pL hy hl,h _ qO]
 ·rw [List.getElem?_eq_none (by rw [yq hx];omega),List.getElem?_eq_none (by rw [yq hy];omega)]
theorem gP.eq(h:gP xs ys 0):val β xs=val β ys:=by
 have:=uq (M:=max xs.length ys.length) qO qO h
 simp only [List.drop_zero] at this
 rw [←pJ β xs (max xs.length ys.length),this,pJ]
theorem gP.lt(hβ:0<β) (hx:Dg β xs) (hy:Dg β ys) (h:gP xs ys (i+1)) (hlt:xs[i]?.getD 0<ys[i]?.getD 0):val β xs<val β ys:=by
 have l1:xs.length≤max (i+1) (max xs.length ys.length):=qO
 have l2:ys.length≤max (i+1) (max xs.length ys.length):=qO
 rw [←pJ β xs (max (i+1) (max xs.length ys.length)),←pJ β ys (max (i+1) (max xs.length ys.length))]
 exact ip hβ (AO hβ hx _) (AO hβ hy _) i (pL l1 qO) (pL l2 qO) (uq l1 l2 h) hlt
structure Acc (β F:Int) (O:List Int) (i:Nat) (c:Int):Prop where
 dg:Dg β O
 len:O.length=i
 num:val β O+β^i*c=F
theorem Acc.start:Acc β 0 [] 0 0:=⟨Dg.nil,rfl,by simp [val]⟩
theorem Acc.step {β F f c d c':Int} {O:List Int} {i:Nat} (h:Acc β F O i c) (hd:0≤d∧d<β) (e:d+β*c'=f+c):Acc β (F+β^i*f) (O++[d]) (i+1) c':=by
 refine ⟨h.dg.append (Dg.cons hd Dg.nil),by simp [h.len],?_⟩
 rw [bN,h.len,←h.num,Int.pow_succ]
 have:β^i*(d+β*c')=β^i*(f+c):=by rw [e]
 grind
theorem dI (β:Int) (X:List Int) (i:Nat):val β (X.take (i+1))=val β (X.take i)+β^i*X[i]?.getD 0:=by
 rcases Nat.lt_or_ge i X.length with hl|hl
 ·obtain ⟨y,hy⟩:=c_ hl
  rw [aH hy,bN,List.length_take,Nat.min_eq_left qO,hy]
  rfl
 ·rw [List.getElem?_eq_none hl,List.take_of_length_le qO,List.take_of_length_le hl]
  simp
theorem pG(hβ:0<β) (h:Dg β X) (i:Nat):0≤X[i]?.getD 0∧X[i]?.getD 0<β:=by
 rcases Nat.lt_or_ge i X.length with hl|hl
 ·obtain ⟨y,hy⟩:=c_ hl
  rw [hy]
  exact h.get hy
 ·rw [List.getElem?_eq_none hl]
  exact ⟨Int.le_refl _,hβ⟩
open Go Go.RowKit
def Sl (k:IntKind) (w:World) (B:Nat) (A:Option Addr) (n c:Nat) (xs:List Int):Prop:=
 xs.length=n∧n≤c∧c≤maxLen∧(A=none→c=0)∧
  (0<n→∃ b off,A=some ⟨b,off,none⟩∧b<B∧∀ j x,xs[j]? =some x→w.cell? ⟨b,off+j,none⟩=some (.int k x))
section
variable {k:IntKind} {w w':World} {B B':Nat} {A:Option Addr} {n c:Nat} {xs:List Int}
theorem Sl.len (h:Sl k w B A n c xs):xs.length=n:=h.1
theorem Sl.le (h:Sl k w B A n c xs):n≤c:=h.2.1
theorem Sl.cap (h:Sl k w B A n c xs):c≤maxLen:=h.2.2.1
theorem Sl.lenMax (h:Sl k w B A n c xs):n≤9223372036854775807:=by
 have h1:=h.le
 have h2:=h.cap
 unfold maxLen at h2
 omega
theorem Sl.nil:Sl k w B none 0 0 []:=⟨rfl,Nat.le_refl _,Nat.zero_le _,fun _=>rfl,fun h=>absurd h qO⟩
theorem Sl.at_(h:Sl k w B A n c xs) (hj:j<n):∃ b off x,A=some ⟨b,off,none⟩∧b<B∧xs[j]? =some x∧w.cell? ⟨b,off+j,none⟩=some (.int k x):=by
 obtain ⟨b,off,hA,hb,hc⟩:=h.2.2.2.2 qO
 have hl:j<xs.length:=by have:=h.1;omega
 exact ⟨b,off,xs[j],hA,hb,List.getElem?_eq_getElem hl,hc j _ (List.getElem?_eq_getElem hl)⟩
theorem Sl.keep (h:Sl k w B A n c xs) (hk:∀ p:Addr,p.block<B→w'.cell? p=w.cell? p):Sl k w' B A n c xs:=by
 refine ⟨h.1,h.2.1,h.2.2.1,h.2.2.2.1,fun hn=> ?_⟩
 obtain ⟨b,off,hA,hb,hc⟩:=h.2.2.2.2 hn
 exact ⟨b,off,hA,hb,fun j x hx=>(hk _ hb).trans (hc j x hx)⟩
theorem Sl.more (h:Sl k w B A n c xs) (hB:B≤B'):Sl k w B' A n c xs:=by
 refine ⟨h.1,h.2.1,h.2.2.1,h.2.2.2.1,fun hn=> ?_⟩
 obtain ⟨b,off,hA,hb,hc⟩:=h.2.2.2.2 hn
 exact ⟨b,off,hA,by omega,hc⟩
theorem Sl.below (h:Sl k w B A n c xs) (hb:Below B' w w') (hB:B≤B'):Sl k w' B A n c xs:=h.keep fun _ hp=>hb.cell qO
theorem Sl.drew (h:Sl k w B A n c xs) (m:Nat):Sl k (w.drewN m) B A n c xs:=h
theorem Sl.drew1 (h:Sl k w B A n c xs):Sl k w.drew B A n c xs:=h
theorem Sl.alloc (h:Sl k w B A n c xs) (hB:B≤w.heap.size) (o:Obj):Sl k (w.alloc o) B A n c xs:=h.keep fun p hp=>World.cell?_alloc_lt w o p qO
theorem Sl.setCell (h:Sl k w B A n c xs) {p:Addr} (hp:B≤p.block) (u:Value):Sl k (w.setCell p u) B A n c xs:=
 h.keep fun q hq=>World.cell?_setCell_other w p q u (fun e=>by subst e;omega)
theorem Sl.grown (h:Sl k w B A n c xs) {row:Option Nat} (hg:w.grownBy w' row) (hB:B≤w.heap.size) (hr:∀ g,row=some g→B≤g):Sl k w' B A n c xs:=
 h.keep fun p hp=>World.cell?_of_block (hg.block p.block qO (fun e=>by have:=hr _ e.symm;omega))
theorem Sl.front(h:Sl k w B A n c xs) (hm:m≤n):Sl k w B A m c (xs.take m):=by
 refine ⟨by rw [List.length_take];have:=h.1;omega,by have:=h.le;omega,h.cap,h.2.2.2.1,fun hn=> ?_⟩
 obtain ⟨b,off,hA,hb,hc⟩:=h.2.2.2.2 qO
 refine ⟨b,off,hA,hb,fun j x hx=>hc j x ?_⟩
 rw [List.getElem?_take] at hx
 split at hx
 ·exact hx
 ·cases hx
theorem Sl.back(h:Sl k w B A n c xs) (hm:m≤n):Sl k w B (if c=m then A else A.map (·.add m)) (n - m) (c - m) (xs.drop m):=by
 have h1:=h.1
 have h2:=h.le
 have h3:=h.cap
 refine ⟨by rw [List.length_drop];omega,by omega,by omega,fun hA=> ?_,fun hn=> ?_⟩
 ·split at hA
  ·omega
  ·have h0:=h.2.2.2.1 (by cases A<;>simp_all)
   omega
 ·obtain ⟨b,off,rfl,hb,hc⟩:=h.2.2.2.2 qO
  rw [if_neg qO]
  refine ⟨b,off+m,by simp [Addr.add_lit],hb,fun j x hx=> ?_⟩
  rw [Nat.add_assoc]
  exact hc _ x (by rw [←hx,List.getElem?_drop])
end
def bH (k:IntKind) (e:TypeId) (w:World) (B:Nat) (A:Option Addr) (n c:Nat) (xs:List Int):Prop:=
 w.ownsRow B e 1 (.slice A n c) n (xs.map (Value.int k))
def fh (A:Option Addr):Option Nat:=A.map (·.block)
theorem eG (A:Option Addr) (n c:Nat):(Value.slice A n c).ownBlock=fh A:=by cases A<;>rfl
section
variable {k:IntKind} {e:TypeId} {w w':World} {B B':Nat} {A:Option Addr} {n c:Nat} {xs:List Int}
theorem bH.len (h:bH k e w B A n c xs):xs.length=n:=by simpa using h.1
theorem bH.nil:bH k e w B none 0 0 []:=World.ownsRow_nil _ _ _ _
theorem bH.form (h:bH k e w B A n c xs):(A=none∧n=0∧c=0)∨∃ g,A=some ⟨g,0,none⟩∧B≤g∧g<w.heap.size:=by
 rcases h.2 with ⟨hv,h0⟩|⟨g,cap,cur,hv,hb,hg,_⟩
 ·injection hv with h1 h2 h3
  exact .inl ⟨h1,h0,h3⟩
 ·injection hv with h1 h2 h3
  refine .inr ⟨g,h1,hb,?_⟩
  rcases Nat.lt_or_ge g w.heap.size with hlt|hge
  ·exact hlt
  ·rw [Array.getElem?_eq_none hge] at hg;cases hg
theorem bH.blk_ (h:bH k e w B A n c xs):∀ g,fh A=some g→B≤g∧g<w.heap.size:=by
 intro g hg
 rcases h.form with ⟨rfl,_⟩|⟨g',rfl,h1,h2⟩
 ·cases hg
 ·have:g'=g:=by simpa [fh] using hg
  subst this
  exact ⟨h1,h2⟩
theorem bH.cap (h:bH k e w B A n c xs):n≤c∧c≤maxLen:=by
 rcases h.2 with ⟨hv,h0⟩|⟨g,cap,cur,hv,hb,hg,h1,h2,_⟩
 ·injection hv with h1 h2 h3
  subst h3;subst h0
  exact ⟨Nat.le_refl _,Nat.zero_le _⟩
 ·injection hv with h3 h4 h5
  subst h5
  exact ⟨h1,h2⟩
theorem bH.sl (h:bH k e w B A n c xs):Sl k w w.heap.size A n c xs:=by
 refine ⟨h.len,h.cap.1,h.cap.2,fun hA=> ?_,fun hn=> ?_⟩
 ·rcases h.form with ⟨_,_,h0⟩|⟨g,rfl,_⟩
  ·exact h0
  ·cases hA
 ·rcases h.form with ⟨_,h0,_⟩|⟨g,rfl,h1,h2⟩
  ·omega
  ·refine ⟨g,0,rfl,h2,fun j x hx=> ?_⟩
   have hj:j<n:=by have:=(List.getElem?_eq_some_iff.1 hx).1;have:=h.len;omega
   have:=World.ownsRow.cellAt h j qO
   rw [Nat.zero_add,this]
   simp [hx]
theorem bH.keep (h:bH k e w B A n c xs) {row:Option Nat} (hg:w.grownBy w' row) (hne:fh A=none∨fh A≠row):bH k e w' B A n c xs:=
 World.ownsRow.kept h hg (by rw [eG];exact hne)
theorem bH.below (h:bH k e w B A n c xs) (hb:Below w.heap.size w w'):bH k e w' B A n c xs:=
 h.keep (row:=none) ⟨hb.os,hb.tape,hb.output,hb.size,fun i hi _=>hb.block i hi⟩ (by cases hA:fh A<;>simp)
theorem bH.drew (h:bH k e w B A n c xs) (m:Nat):bH k e (w.drewN m) B A n c xs:=h
theorem bH.drew1 (h:bH k e w B A n c xs):bH k e w.drew B A n c xs:=h
theorem bH.alloc (h:bH k e w B A n c xs) (o:Obj):bH k e (w.alloc o) B A n c xs:=World.ownsRow.alloc h o
theorem bH.lower (h:bH k e w B A n c xs) (hB:B'≤B):bH k e w B' A n c xs:=by
 refine ⟨h.1,?_⟩
 rcases h.2 with h1|⟨g,cap,cur,h1,h2,h3⟩
 ·exact .inl h1
 ·exact .inr ⟨g,cap,cur,h1,Nat.le_trans hB h2,h3⟩
theorem bH.front(h:bH k e w B A n c xs) (hm:m≤n) (hA:A≠none):bH k e w B A m c (xs.take m):=by
 have hl:=h.len
 refine ⟨by simp;omega,?_⟩
 rcases h.2 with ⟨hv,_⟩|⟨g,cap,cur,hv,hb,hg,h1,h2,h3,h4⟩
 ·injection hv with hv;exact absurd hv hA
 ·injection hv with h5 h6 h7
  subst h7
  subst h5
  refine .inr ⟨g,c,cur,rfl,hb,hg,by omega,h2,h3,?_⟩
  have:(cur.toList.take (n*1)).take m=(xs.map (Value.int k)).take m:=by rw [h4]
  rw [List.take_take] at this
  rw [List.map_take,←this]
  congr 1
  omega
theorem bH.set(h:bH k e w B A n c xs) (hi:i<n):∃ g x,A=some ⟨g,0,none⟩∧B≤g∧g<w.heap.size∧xs[i]? =some x∧w.cell? ⟨g,i,none⟩=some (.int k x)∧w.frozen? ⟨g,i,none⟩=false∧
 ∀ y,bH k e (w.setCell ⟨g,i,none⟩ (.int k y)) B A n c (xs.set i y)∧w.grownBy (w.setCell ⟨g,i,none⟩ (.int k y)) (some g):=by
 rcases h.form with ⟨_,h0,_⟩|⟨g,rfl,h1,h2⟩
 ·omega
 ·have hl:i<xs.length:=by have:=h.len;omega
  have hcell:=World.ownsRow.cellAt h i qO
  refine ⟨g,xs[i],rfl,h1,h2,List.getElem?_eq_getElem hl,?_,World.ownsRow.frozenAt h i,fun y=> ?_⟩
  ·rw [hcell];simp [hl]
  ·have:=World.ownsRow.stored h i (.int k y)
   unfold bH
   rw [List.map_set]
   exact this
end
theorem bH.raise{k:IntKind} {e:TypeId} {B':Nat} {A:Option Addr} {c:Nat} (h:bH k e w B A n c xs) (h':bH k e w' B' A n c ys):bH k e w B' A n c xs:=by
 refine ⟨h.1,?_⟩
 rcases h.2 with h1|⟨g,cap,cur,e1,e2,e3⟩
 ·exact .inl h1
 ·injection e1 with e4 e5 e6
  subst e4
  exact .inr ⟨g,cap,cur,by rw [e6],(h'.blk_ g rfl).1,e3⟩
structure qT (P:Program) (t e:TypeId) (k:IntKind) (bytes:Nat):Prop where
 slice:P.underlying t=some (.slice e)
 info:∃ i,P.info? e=some i∧i.zero=some (.int k 0)∧i.size=1∧i.bytes=bytes
theorem Sl.news{k:IntKind} {ad:Addr} {c:Nat} (h:Sl k w B (some ad) n c xs):∀ j u,(xs.map (Value.int k))[j]? =some u→w.cell? (ad.add j)=some u:=by
 intro j u hu
 rw [List.getElem?_map] at hu
 obtain ⟨x,hx,rfl⟩:=Option.map_eq_some_iff.1 hu
 have hj:j<n:=by have:=(List.getElem?_eq_some_iff.1 hx).1;have:=h.1;omega
 obtain ⟨b,off,hA,_,hc⟩:=h.2.2.2.2 qO
 injection hA with hA
 subst hA
 rw [Addr.add_lit]
 exact hc j x hx
theorem yz {P:Program} {t e:TypeId} {k:IntKind} {bytes:Nat} (T:qT P t e k bytes) (ty:TypeId) {w:World} {B:Nat} {A:Option Addr} {n c:Nat} {xs:List Int} (h:bH k e w B A n c xs)
 {B2:Nat} {A2:Option Addr} {m c2:Nat} {ys:List Int} (hs:Sl k w B2 A2 m c2 ys) (hn:(n+m)*bytes≤140737488355328) (hm:n+m≤maxLen) (hB:B≤w.heap.size):
 ∃ A' c' w',(Builtin.append_ #[t,t] ty #[.slice A n c, .slice A2 m c2]).run P w= .ok (.slice A' (n+m) c') w'∧bH k e w' B A' (n+m) c' (xs++ys)∧w.grownBy w' (fh A):=by
 obtain ⟨i,hi,hz,hsz,hby⟩:=T.info
 cases A2 with
 |none=>
  have h0:=hs.2.2.2.1 rfl
  subst h0
  obtain rfl:m=0:=by have:=hs.le;omega
  have hy:ys=[]:=List.eq_nil_of_length_eq_zero hs.1
  subst hy
  exact ⟨A,c,w,run_append_owned_none (P:=P) w B t ty e i 1 T.slice hi _ n _ h,by simpa using h,World.grownBy.refl _ _⟩
 |some ad=>
  obtain ⟨v',w',hr,h2,h3,_⟩:=run_append_own (P:=P) w B t ty e i (.int k 0) 1 bytes T.slice hi hz hsz hby rfl qO _ n _ h ad m c2 (ys.map (Value.int k)) (by simp [hs.1]) hs.news
   (fun u hu=>by obtain ⟨_,_,rfl⟩:=List.mem_map.1 hu;rfl) hm hn hB
  have hf:∃ A' c',v'= .slice A' (n+m) c':=by
   rcases h2.2 with ⟨hv,h0⟩|⟨g,cap,cur,hv,_⟩
   ·exact ⟨none,0,by rw [hv,h0]⟩
   ·exact ⟨_,_,hv⟩
  obtain ⟨A',c',rfl⟩:=hf
  refine ⟨A',c',w',hr,?_,by rw [←eG];exact h3⟩
  unfold bH
  rw [List.map_append]
  exact h2
theorem dN {P:Program} {t e:TypeId} {k:IntKind} {bytes:Nat} (T:qT P t e k bytes) {w:World} {ops:Array Oper} {rest:List Oper} {o:Oper} {a:Act} {Q:Exit→Act→World→Prop} (hgd:o.guard=none) (s x:Operand)
 (ho:o.op= .call { callee:= .builtin .append,args:= #[s,x],argTypes:= #[t,t] }) {B:Nat} {A:Option Addr} {n c:Nat} {xs:List Int} (h:bH k e w B A n c xs) (es:a.eval s= .slice A n c)
 {B2:Nat} {A2:Option Addr} {m c2:Nat} {ys:List Int} (hs:Sl k w B2 A2 m c2 ys) (ex:a.eval x= .slice A2 m c2) (hn:(n+m)*bytes≤140737488355328) (hm:n+m≤maxLen) (hB:B≤w.heap.size)
 (hK:∀ A' c' w',bH k e w' B A' (n+m) c' (xs++ys)→w.grownBy w' (fh A)→wpList P ops Q rest (a.put o.dst (.slice A' (n+m) c')) w'):wpList P ops Q (o::rest) a w:=by
 refine wpList_plain hgd fun K hK'=> ?_
 obtain ⟨A',c',w',hr,h2,h3⟩:=yz T o.type h hs hn hm hB
 unfold Oper.wp execOp
 simp only [ho,resolve,invoke,builtin,Sem.run_bind,Sem.run_pure,Result.andThen_ok,List.map_toArray,List.map_cons,List.map_nil,es,ex,hr]
 exact hK' _ _ (hK A' c' w' h2 h3)
theorem v_ {P:Program} {t e:TypeId} {k:IntKind} {bytes:Nat} (T:qT P t e k bytes) {w:World} {ops:Array Oper} {o:Oper} {a:Act} {K:Act→World→Prop} {Q:Exit→Act→World→Prop} {E:Prop} (hgd:o.guard=none) (s x:Operand)
 (ho:o.op= .call { callee:= .builtin .append,args:= #[s,x],argTypes:= #[t,t] }) {B:Nat} {A:Option Addr} {n c:Nat} {xs:List Int} (h:bH k e w B A n c xs) (es:a.eval s= .slice A n c)
 {B2:Nat} {A2:Option Addr} {m c2:Nat} {ys:List Int} (hs:Sl k w B2 A2 m c2 ys) (ex:a.eval x= .slice A2 m c2) (hn:(n+m)*bytes≤140737488355328) (hm:n+m≤maxLen) (hB:B≤w.heap.size)
 (hK:∀ A' c' w',bH k e w' B A' (n+m) c' (xs++ys)→w.grownBy w' (fh A)→K (a.put o.dst (.slice A' (n+m) c')) w'):if Region.wanted o (yielded ops a.tmps)=true then Oper.wp P o a w K Q else E:=by
 have hw:Region.wanted o (yielded ops a.tmps)=true:=by simp [Region.wanted,hgd]
 rw [if_pos hw]
 obtain ⟨A',c',w',hr,h2,h3⟩:=yz T o.type h hs hn hm hB
 unfold Oper.wp execOp
 simp only [ho,resolve,invoke,builtin,Sem.run_bind,Sem.run_pure,Result.andThen_ok,List.map_toArray,List.map_cons,List.map_nil,es,ex,hr]
 exact hK A' c' w' h2 h3
theorem Sl.new1 (k:IntKind) (w:World) (x:Int) (t:TypeId):Sl k (w.alloc (.cells #[.int k x] t)) (w.heap.size+1) (some ⟨w.heap.size,0,none⟩) 1 1 [x]:=by
 refine ⟨rfl,Nat.le_refl _,by unfold maxLen;omega,fun h=>(by cases h),fun _=>⟨w.heap.size,0,rfl,by omega,fun j y hy=> ?_⟩⟩
 have hj:j=0:=by have:=(List.getElem?_eq_some_iff.1 hy).1;simp at this;omega
 subst hj
 simp at hy
 subst hy
 simp [World.cell?_alloc_new]
theorem Sl.new2 (k:IntKind) (w:World) (x y:Int) (t:TypeId):Sl k (w.alloc (.cells #[.int k x, .int k y] t)) (w.heap.size+1) (some ⟨w.heap.size,0,none⟩) 2 2 [x,y]:=by
 refine ⟨rfl,Nat.le_refl _,by unfold maxLen;omega,fun h=>(by cases h),fun _=>⟨w.heap.size,0,rfl,by omega,fun j z hz=> ?_⟩⟩
 have hj:j<2:=(List.getElem?_eq_some_iff.1 hz).1
 rcases j with _|_|j
 ·simp at hz;subst hz;simp [World.cell?_alloc_new]
 ·simp at hz;subst hz;simp [World.cell?_alloc_new]
 ·omega
theorem eJ {P:Program} {t e:TypeId} {k:IntKind} {bytes:Nat} (T:qT P t e k bytes) {w:World} {ops:Array Oper} {rest:List Oper} {o:Oper} {a:Act} {Q:Exit→Act→World→Prop} (hgd:o.guard=none) (l c:Operand)
 (ho:o.op=Op.makeSlice t l c) {B:Nat} {kl kc:IntKind} {L C:Int} (n:Nat) (hl:a.eval l= .int kl L) (hc:a.eval c= .int kc C) (hL:L=(n:Int)) (hC:C=(n:Int)) (hb:bytes*n≤281474976710656) (hm:n≤maxLen) (hB:B≤w.heap.size)
 (hK:∀ w',bH k e w' B (some ⟨w.heap.size,0,none⟩) n n (List.replicate n 0)→w.grownBy w' none→wpList P ops Q rest (a.put o.dst (.slice (some ⟨w.heap.size,0,none⟩) n n)) w'):wpList P ops Q (o::rest) a w:=by
 obtain ⟨i,hi,hz,hsz,hby⟩:=T.info
 refine wpList_make_full w hgd l c t ho B e i (.int k 0) 1 T.slice hi hz hsz kl kc L C n hl hc hL hC (by rw [hby];exact hb) hm hB fun w' h1 h2=>hK w' ?_ h2
 unfold bH
 have:(madeCells (Value.int k 0).cells (n*1)).toList=(List.replicate n (0:Int)).map (Value.int k):=by
  rw [Nat.mul_one,List.map_replicate]
  exact toList_madeCells_one _ _
 rw [←this]
 exact h1
def Mk (k:IntKind) (e:TypeId) (w:World) (A:Option Addr) (n c:Nat) (xs:List Int) (wr:World):Prop:=
 bH k e wr w.heap.size A n c xs∧Below w.heap.size w wr
section
variable {k:IntKind} {e:TypeId} {w w' wr:World} {A:Option Addr} {n c:Nat} {xs:List Int}
theorem Mk.made (h:bH k e w' w.heap.size A n c xs) (hg:w.grownBy w' none):Mk k e w A n c xs w':=
 ⟨h,(Below.refl _ _).grown hg (Nat.le_refl _) (fun _ h=>by cases h)⟩
theorem Mk.drew (h:Mk k e w A n c xs wr) (m:Nat):Mk k e w A n c xs (wr.drewN m):=⟨h.1,⟨h.2.os,h.2.tape,h.2.output,h.2.size,h.2.block⟩⟩
theorem Mk.below (h:Mk k e w A n c xs wr) (hb:Below wr.heap.size wr w'):Mk k e w A n c xs w':=⟨h.1.below hb,h.2.trans (hb.mono h.2.size)⟩
theorem Mk.set(h:Mk k e w A n c xs wr) (hi:i<n):∃ g x,A=some ⟨g,0,none⟩∧w.heap.size≤g∧xs[i]? =some x∧wr.cell? ⟨g,i,none⟩=some (.int k x)∧wr.frozen? ⟨g,i,none⟩=false∧
 ∀ y,Mk k e w A n c (xs.set i y) (wr.setCell ⟨g,i,none⟩ (.int k y)):=by
 obtain ⟨g,x,h1,h2,_,h4,h5,h6,h7⟩:=h.1.set hi
 exact ⟨g,x,h1,h2,h4,h5,h6,fun y=>⟨(h7 y).1,h.2.setCell h2 _⟩⟩
theorem Mk.other{A2:Option Addr} {n2 c2:Nat} {k2:IntKind} (h:Mk k e w A n c xs wr) (hs:Sl k2 w B A2 n2 c2 ys) (hB:B≤w.heap.size):Sl k2 wr B A2 n2 c2 ys:=hs.below h.2 hB
theorem Below.drewN'{a w:World} (h:Below B a w) (m:Nat):Below B a (w.drewN m):=⟨h.os,h.tape,h.output,h.size,h.block⟩
end
theorem ak (w:World) (o:Obj):(w.alloc o).heap.size=w.heap.size+1:=Array.size_push ..
theorem cW{o:Obj} (h:Below (w.alloc o).heap.size (w.alloc o) w'):Below w.heap.size w w':=
 ((Below.refl _ _).alloc (Nat.le_refl _) o).trans (h.mono qA)
theorem h_{o o2:Obj} (h:Below ((w.alloc o).alloc o2).heap.size ((w.alloc o).alloc o2) w'):Below w.heap.size w w':=cW (cW h)
theorem bH.lit(k:IntKind) (e:TypeId) (w:World) (hB:B≤w.heap.size) (xs:List Int) (n:Nat) (hn:xs.length=n) (hm:n≤1000):bH k e (w.alloc (.cells (xs.map (Value.int k)).toArray e)) B (some ⟨w.heap.size,0,none⟩) n n xs:=by
 have:=World.ownsRow_lit (base:=B) (e:=e) (size:=1) w (xs.map (Value.int k)).toArray n hB qR (by simp [hn])
 simpa [bH] using this
theorem bH.apart{k k':IntKind} {e e':TypeId} {w1 w2:World} {B':Nat} {A A':Option Addr} {n' c c':Nat} (h:bH k e w1 B A n c xs) (h':bH k' e' w2 B' A' n' c' ys) (hB:w1.heap.size≤B'):fh A'=none∨fh A'≠fh A:=by
 rcases h'.form with ⟨rfl,_⟩|⟨g,rfl,hg,_⟩
 ·exact .inl rfl
 ·refine .inr fun hne=> ?_
  have:=(h.blk_ g hne.symm).2
  omega
theorem JR(h:0≤x∧x<4294967296):Dg 4294967296 [x]:=Dg.cons h Dg.nil
theorem Jx(h:0≤x∧x<4294967296) (h':0≤y∧y<4294967296):Dg 4294967296 [x,y]:=Dg.cons h (JR h')
theorem I9 (w:World) (s:Nat) (hs:w.heap.size=s) (x:Int) (t:TypeId):Sl .u32 (w.alloc (.cells #[.int .u32 x] t)) (s+1) (some ⟨s,0,none⟩) 1 1 [x]:=by subst hs;exact Sl.new1 .u32 w x t
theorem rF (w:World) (s:Nat) (hs:w.heap.size=s) (x y:Int) (t:TypeId):Sl .u32 (w.alloc (.cells #[.int .u32 x, .int .u32 y] t)) (s+1) (some ⟨s,0,none⟩) 2 2 [x,y]:=by subst hs;exact Sl.new2 .u32 w x y t
theorem pR(h:U=q*V+r) (h0:0≤r) (h1:r<V):U / V=q∧U%V=r:=by
 subst h
 rw [Int.add_comm,Int.add_mul_ediv_right _ _ qO,Int.add_mul_emod_self_right,Int.ediv_eq_zero_of_lt h0 h1,Int.emod_eq_of_lt h0 h1]
 omega
theorem yU(hV:0<V) (hs:0<s):(U*s) / (V*s)=U / V∧(U*s)%(V*s)=(U%V)*s:=by
 have h0:=Int.emod_nonneg U (show V≠0 by omega)
 have h1:=Int.emod_lt_of_pos U hV
 refine pR ?_ (Int.mul_nonneg h0 qO) (Int.mul_lt_mul_of_pos_right h1 hs)
 conv=>lhs;rw [←Int.mul_ediv_add_emod U V]
 rw [Int.add_mul,Int.mul_comm V,Int.mul_assoc]
structure s9 (β σ x:Int) (S X S1:List Int) (o i:Nat) (cr:Int):Prop where
 dg:Dg β S1
 len:S1.length=S.length
 low:S1.take o=S.take o
 rest:S1.drop (o+i)=S.drop (o+i)
 num:val β (S1.take (o+i))+σ*(β^(o+i)*cr)=val β (S.take (o+i))+σ*(β^o*(x*val β (X.take i)))
theorem s9.start(h:Dg β S):s9 β σ x S X S o 0 0:=⟨h,rfl,rfl,rfl,by simp [val]⟩
theorem s9.at_(h:s9 β σ x S X S1 o i cr):S1[o+i]? =S[o+i]? :=by
 have:=congrArg (fun l=>l[0]?) h.rest
 simpa using this
theorem s9.step {β σ x:Int} {S X S1:List Int} {o i:Nat} {cr s y d cr':Int} (h:s9 β σ x S X S1 o i cr) (hs:S1[o+i]? =some s) (hy:X[i]? =some y)
 (hd:0≤d∧d<β) (e:d+σ*(β*cr')=s+σ*(x*y+cr)):s9 β σ x S X (S1.set (o+i) d) o (i+1) cr':=by
 have hi:=bT hs
 have hS:S[o+i]? =some s:=by rw [←h.at_];exact hs
 have hd':(S1.set (o+i) d)[o+i]? =some d:=by simp [hi]
 refine ⟨h.dg.set hd,by simp [h.len],by rw [List.take_set_of_le qO,h.low],?_,?_⟩
 ·rw [←Nat.add_assoc,List.drop_set_of_lt qO]
  have:=congrArg (List.drop 1) h.rest
  simpa [List.drop_drop,Nat.add_assoc] using this
 ·rw [←Nat.add_assoc,aH hd',aH hS,aH hy,List.take_set_of_le qO,bN,bN,bN,List.length_take,List.length_take,List.length_take,
   Nat.min_eq_left qO,Nat.min_eq_left (by have:=bT hS;omega),Nat.min_eq_left (by have:=bT hy;omega)]
  have hn:=h.num
  have e1:β^(o+i)*(d+σ*(β*cr'))=β^(o+i)*(s+σ*(x*y+cr)):=by rw [e]
  have e2:β^(o+i)=β^o*β^i:=Int.pow_add _ _ _
  rw [Int.pow_succ]
  grind
theorem s9.stop(h:s9 β σ x S X S1 o i cr) (hX:X.length=i) (hi:o+i≤S.length):
 val β S1+σ*(β^(o+i)*cr)=val β S+σ*(β^o*(x*val β X)):=by
 have hn:=h.num
 rw [List.take_of_length_le (l:=X) qO] at hn
 have a:val β S1=val β (S1.take (o+i))+β^(o+i)*val β (S1.drop (o+i)):=by
  conv=>lhs;rw [←List.take_append_drop (o+i) S1]
  rw [cI,List.length_take,Nat.min_eq_left (by have:=h.len;omega)]
 have b:val β S=val β (S.take (o+i))+β^(o+i)*val β (S.drop (o+i)):=by
  conv=>lhs;rw [←List.take_append_drop (o+i) S]
  rw [cI,List.length_take,Nat.min_eq_left qO]
 rw [a,b,h.rest]
 omega
theorem sO{d:Int} (hs:S[k]? =some s):val β (S.set k d)=val β S+β^k*(d - s):=by
 have hk:=bT hs
 have hd:(S.set k d)[k]? =some d:=by simp [hk]
 have e1:=congrArg (val β) (fj hs)
 have e2:=congrArg (val β) (fj hd)
 rw [e1,e2,cI,cI,List.take_set_of_le qO,List.drop_set_of_lt qO,List.length_take,Nat.min_eq_left qO]
 simp only [val]
 grind
theorem yV(hx:0≤x∧x<4294967296) (hy:0≤y∧y<4294967296) (hs:0≤s∧s<4294967296) (hc:0≤c∧c<4294967296):
 (0≤x*y∧x*y≤18446744065119617025)∧(0≤c+(x*y+s)∧c+(x*y+s)≤18446744073709551615)∧(0≤(c+(x*y+s))%4294967296∧(c+(x*y+s))%4294967296<4294967296)∧
 (0≤(c+(x*y+s)) / 4294967296∧(c+(x*y+s)) / 4294967296<4294967296)∧
 (c+(x*y+s))%4294967296+1*(4294967296*((c+(x*y+s)) / 4294967296))=s+1*(x*y+c):=by
 have h0:0≤x*y:=Int.mul_nonneg hx.1 hy.1
 have h1:x*y≤4294967295*4294967295:=Int.mul_le_mul qO qO hy.1 qO
 omega
structure wn (β:Int) (X Y P:List Int) (i:Nat):Prop where
 dg:Dg β P
 len:P.length=X.length+Y.length
 num:val β P=val β (X.take i)*val β Y
 zero:P.drop (i+Y.length)=List.replicate (X.length - i) 0
theorem wn.start(hβ:0<β) (X Y:List Int):wn β X Y (List.replicate (X.length+Y.length) 0) 0:=
 ⟨Dg.zeros hβ _,by simp,by simp [val,gM],by simp⟩
theorem wn.step {β:Int} (hβ:0<β) {X Y P S1:List Int} {i:Nat} {x cr:Int} (h:wn β X Y P i) (hx:X[i]? =some x) (hm:s9 β 1 x P Y S1 i Y.length cr) (hc:0≤cr∧cr<β):
 S1[i+Y.length]? =some 0∧wn β X Y (S1.set (i+Y.length) cr) (i+1):=by
 have hi:=bT hx
 have hz:S1[i+Y.length]? =some 0:=by
  have:=congrArg (fun l=>l[0]?) (hm.rest.trans h.zero)
  simp only [List.getElem?_drop,Nat.add_zero,List.getElem?_replicate] at this
  rw [this,if_pos qO]
 refine ⟨hz,hm.dg.set hc,by simp [hm.len,h.len],?_,?_⟩
 ·have hs:=hm.stop rfl (by have:=h.len;omega)
  rw [sO hz,dI,hx,Option.getD_some]
  have hn:=h.num
  grind
 ·rw [List.drop_set_of_lt qO,show i+1+Y.length=(i+Y.length)+1 by omega,←List.drop_drop,hm.rest,h.zero,List.drop_replicate]
  rfl
theorem fx(β:Int) (L:List Int) (hk:k≤L.length):val β L=val β (L.take k)+β^k*val β (L.drop k):=by
 conv=>lhs;rw [←List.take_append_drop k L]
 rw [cI,List.length_take,Nat.min_eq_left hk]
theorem gi(β:Int) {L:List Int} (h:L[k]? =some x):val β (L.drop k)=x+β*val β (L.drop (k+1)):=by
 rw [np h];rfl
theorem s9.high(hβ:0<β) (h:s9 β σ x S X S1 o i cr) (hX:X.length=i) (hi:o+i≤S.length):
 val β (S1.drop o)+σ*(β^i*cr)=val β (S.drop o)+σ*(x*val β X):=by
 have e:=h.stop hX hi
 rw [fx β S1 (k:=o) (by have:=h.len;omega),fx β S (k:=o) qO,h.low,Int.pow_add] at e
 have p:=aI hβ o
 refine Int.eq_of_mul_eq_mul_left (show β^o≠0 by omega) ?_
 rw [Int.mul_add,Int.mul_add]
 grind
structure ui (β σ d V:Int) (S S2:List Int) (o m:Nat) (b:Int):Prop where
 dg:Dg β S2
 len:S2.length=S.length
 low:S2.take o=S.take o
 rest:S2.drop (o+m+1)=S.drop (o+m+1)
 b01:0≤b∧b≤1
 num:val β (S2.drop o)+σ*(β^(m+1)*b)=val β (S.drop o)+σ*(d*V)
theorem s9.took {β σ x:Int} (hβ:0<β) {S X S1:List Int} {o m:Nat} {cr s d b:Int} (h:s9 β σ x S X S1 o m cr) (hX:X.length=m) (hs:S1[o+m]? =some s) (hd:0≤d∧d<β) (hb:0≤b∧b≤1)
 (e:d+σ*(β*b)=s+σ*cr):ui β σ x (val β X) S (S1.set (o+m) d) o m b:=by
 have hl:=bT hs
 have hh:=h.high hβ hX (by have:=h.len;omega)
 refine ⟨h.dg.set hd,by simp [h.len],by rw [List.take_set_of_le qO,h.low],?_,hb,?_⟩
 ·rw [List.drop_set_of_lt qO]
  have:=congrArg (List.drop 1) h.rest
  simpa [List.drop_drop] using this
 ·have hs':(S1.drop o)[m]? =some s:=by rw [List.getElem?_drop];exact hs
  have e1:(S1.set (o+m) d).drop o=(S1.drop o).set m d:=by rw [List.drop_set,if_neg qO];congr 1;omega
  rw [e1,sO hs',Int.pow_succ]
  have e2:β^m*(d+σ*(β*b))=β^m*(s+σ*cr):=by rw [e]
  grind
theorem Dg.dropLt(hβ:0<β) (h:Dg β S) (hz:val β (S.drop (o+m+1))=0) (hl:o+m+1≤S.length):0≤val β (S.drop o)∧val β (S.drop o)<β^(m+1):=by
 refine ⟨am hβ (h.drop o),?_⟩
 rw [fx β (S.drop o) (k:=m+1) (by rw [List.length_drop];omega),List.drop_drop,←Nat.add_assoc,hz,Int.mul_zero,Int.add_zero]
 have:=bQ hβ ((h.drop o).take (m+1))
 rw [List.length_take,Nat.min_eq_left (by rw [List.length_drop];omega)] at this
 exact this
theorem qY(hβ:0<β) (h:Dg β S) (hl:o+m+1≤S.length) (hW:val β (S.drop o)<β^(m+1)):val β (S.drop (o+m+1))=0:=by
 rw [fx β (S.drop o) (k:=m+1) (by rw [List.length_drop];omega),List.drop_drop,←Nat.add_assoc] at hW
 have h1:=am hβ ((h.drop o).take (m+1))
 have h2:=am hβ (h.drop (o+m+1))
 have p:=aI hβ (m+1)
 rcases Int.lt_or_le 0 (val β (S.drop (o+m+1))) with h3|h3
 ·have:β^(m+1)*1≤β^(m+1)*val β (S.drop (o+m+1)):=Int.mul_le_mul_of_nonneg_left qO qO
  omega
 ·omega
structure E4 (β V:Int) (S S2:List Int) (o:Nat) (d:Int):Prop where
 dg:Dg β S2
 len:S2.length=S.length
 low:S2.take o=S.take o
 quo:d=val β (S.drop o) / V
 left:val β (S2.drop o)=val β (S.drop o)%V
theorem ui.down(hβ:0<β) {S2:List Int} {d:Int} (h:ui β (-1) d V S S2 o m 0) (hV:0<V) (hg:d=val β (S.drop o) / V∨d=val β (S.drop o) / V+1):E4 β V S S2 o d:=by
 have hn:=h.num
 have h0:=am hβ (h.dg.drop o)
 have e1:=Int.mul_ediv_add_emod (val β (S.drop o)) V
 have e2:=Int.emod_nonneg (val β (S.drop o)) (show V≠0 by omega)
 have e3:=Int.emod_lt_of_pos (val β (S.drop o)) hV
 have hq:d=val β (S.drop o) / V:=by
  rcases hg with h|h
  ·exact h
  ·have:d*V=V*(val β (S.drop o) / V)+V:=by rw [h,Int.add_mul,Int.one_mul,Int.mul_comm]
   simp only [Int.mul_zero,Int.add_zero] at hn
   omega
 refine ⟨h.dg,h.len,h.low,hq,?_⟩
 have:d*V=V*(val β (S.drop o) / V):=by rw [hq,Int.mul_comm]
 simp only [Int.mul_zero,Int.add_zero] at hn
 omega
theorem ui.back {β V:Int} (hβ:0<β) {S S2 S3:List Int} {o m:Nat} {d b:Int} (h:ui β (-1) d V S S2 o m 1) (h':ui β 1 1 V S2 S3 o m b) (hS:Dg β S) (hl:o+m+1≤S.length) (hV:0<V)
 (hW:val β (S.drop o)<β^(m+1)) (hg:d=val β (S.drop o) / V∨d=val β (S.drop o) / V+1):E4 β V S S3 o (d - 1):=by
 have hz:=qY hβ hS hl hW
 have b2:=h.dg.dropLt hβ (o:=o) (m:=m) (by rw [h.rest];exact hz) (by rw [h.len];exact hl)
 have b3:=h'.dg.dropLt hβ (o:=o) (m:=m) (by rw [h'.rest,h.rest];exact hz) (by rw [h'.len,h.len];exact hl)
 have hn:=h.num
 have hn':=h'.num
 have e1:=Int.mul_ediv_add_emod (val β (S.drop o)) V
 have e2:=Int.emod_nonneg (val β (S.drop o)) (show V≠0 by omega)
 have e3:=Int.emod_lt_of_pos (val β (S.drop o)) hV
 have hb:=h'.b01
 simp only [Int.mul_one,Int.one_mul] at hn hn'
 have hq:d=val β (S.drop o) / V+1:=by
  rcases hg with h|h
  ·have:d*V=V*(val β (S.drop o) / V):=by rw [h,Int.mul_comm]
   omega
  ·exact h
 have e4:d*V=V*(val β (S.drop o) / V)+V:=by rw [hq,Int.add_mul,Int.one_mul,Int.mul_comm]
 refine ⟨h'.dg,h'.len.trans h.len,h'.low.trans h.low,by omega,?_⟩
 rcases (show b=0∨b=1 by omega) with rfl|rfl
 ·simp only [Int.mul_zero,Int.add_zero] at hn'
  omega
 ·simp only [Int.mul_one] at hn'
  omega
structure gn (f s hi u q:Int):Prop where
 hf:2147483648≤f∧f<4294967296
 hs:0≤s∧s<4294967296
 hu:0≤u∧u<4294967296
 hh:0≤hi∧hi≤f*4294967296+4294967295
 hq:0≤q∧q<4294967296
 low:q*(f*4294967296+s)≤hi*4294967296+u
 up:hi*4294967296+u<(q+1)*(f*4294967296+s+1)
structure mr (f hi q d r:Int):Prop where
 sum:d*f+r=hi
 r0:0≤r
 ge:q≤d
theorem gn.start(h:gn f s hi u q):mr f hi q (hi / f) (hi%f):=by
 have hf:=h.hf
 refine ⟨?_,Int.emod_nonneg _ qO,?_⟩
 ·have:=Int.mul_ediv_add_emod hi f
  rw [Int.mul_comm];exact this
 ·refine (Int.le_ediv_iff_mul_le qO).2 ?_
  have h1:=h.low
  have h2:=h.hu
  have h3:0≤q*s:=Int.mul_nonneg h.hq.1 h.hs.1
  have h4:q*(f*4294967296+s)=q*f*4294967296+q*s:=by rw [Int.mul_add,Int.mul_assoc]
  omega
theorem gn.bound{d:Int} (h:gn f s hi u q) (hi':mr f hi q d r):0≤d∧d≤4294967297∧0≤r∧r≤18446744073709551615:=by
 have h1:=hi'.sum
 have h2:=hi'.r0
 have h3:=hi'.ge
 have h4:=h.hq
 have h5:=h.hf
 have h6:=h.hh
 have h7:0≤d*f:=Int.mul_nonneg qO qO
 refine ⟨by omega,?_,h2,by omega⟩
 rcases Int.lt_or_le 4294967297 d with h8|h8
 ·have:4294967298*f≤d*f:=Int.mul_le_mul_of_nonneg_right qO qO
  omega
 ·exact h8
theorem gn.less{d:Int} (h:gn f s hi u q) (hi':mr f hi q d r) (ht:4294967295<d∨r*4294967296+u<d*s):mr f hi q (d - 1) (r+f):=by
 have h1:=hi'.sum
 have h5:=h.hf
 refine ⟨by rw [Int.sub_mul,Int.one_mul];omega,by have:=hi'.r0;omega,?_⟩
 have h4:=h.hq
 rcases ht with ht|ht
 ·omega
 ·rcases Int.lt_or_le q d with hlt|hle
  ·omega
  ·exfalso
   have e1:d*(f*4294967296+s)≤q*(f*4294967296+s):=Int.mul_le_mul_of_nonneg_right hle (by have:=h.hs;omega)
   have e2:d*(f*4294967296+s)=d*f*4294967296+d*s:=by rw [Int.mul_add,Int.mul_assoc]
   have:=h.low
   omega
theorem gn.done{d:Int} (h:gn f s hi u q) (hi':mr f hi q d r) (ht:d*s≤r*4294967296+u):d=q∨d=q+1:=by
 have h1:=hi'.sum
 have h3:=hi'.ge
 rcases Int.lt_or_le (q+1) d with hlt|hle
 ·exfalso
  have e1:(q+2)*(f*4294967296+s)≤d*(f*4294967296+s):=Int.mul_le_mul_of_nonneg_right qO (by have:=h.hs;have:=h.hf;omega)
  have e2:d*(f*4294967296+s)=d*f*4294967296+d*s:=by rw [Int.mul_add,Int.mul_assoc]
  have e3:(q+2)*(f*4294967296+s)=(q+1)*(f*4294967296+s+1)+(f*4294967296+s) - (q+1):=by
   rw [Int.mul_add (q+1) _ 1,show q+2=(q+1)+1 by omega,Int.add_mul (q+1) 1];omega
  have:=h.up
  have:=h.hq
  have:=h.hf
  have:=h.hs
  omega
 ·omega
theorem gn.broke{d:Int} (h:gn f s hi u q) (hi':mr f hi q d r) (ht:4294967295<r):d≤4294967295∧(d=q∨d=q+1):=by
 have h1:=hi'.sum
 have h5:=h.hf
 have h6:=h.hh
 have h3:=hi'.ge
 have h4:=h.hq
 have hd:d≤4294967295:=by
  rcases Int.lt_or_le 4294967295 d with h8|h8
  ·have:4294967296*f≤d*f:=Int.mul_le_mul_of_nonneg_right qO qO
   omega
  ·exact h8
 refine ⟨hd,h.done hi' ?_⟩
 have:d*s≤4294967295*4294967295:=Int.mul_le_mul hd (by have:=h.hs;omega) h.hs.1 qO
 have:=h.hu
 omega
theorem gn.of {S X:List Int} {o p:Nat} {f s u0 u1 u2:Int} (hS:Dg 4294967296 S) (hX:Dg 4294967296 X) (hl:X.length=p+2) (ef:X[p+1]? =some f) (es:X[p]? =some s) (hf:2147483648≤f)
 (e0:S[o+p+2]? =some u0) (e1:S[o+p+1]? =some u1) (e2:S[o+p]? =some u2) (hW:val 4294967296 (S.drop o)<4294967296*val 4294967296 X):
 0<val 4294967296 X∧val 4294967296 (S.drop o)<4294967296^(p+2+1)∧gn f s (u0*4294967296+u1) u2 (val 4294967296 (S.drop o) / val 4294967296 X):=by
 have lS:=bT e0
 have df:=hX.get ef
 have ds:=hX.get es
 have d0:=hS.get e0
 have d1:=hS.get e1
 have d2:=hS.get e2
 have hXv:val 4294967296 X=val 4294967296 (X.take p)+4294967296^p*(f*4294967296+s):=by
  rw [fx 4294967296 X (k:=p) qO,gi _ es,gi _ ef,List.drop_of_length_le qO]
  simp only [val]
  congr 2
  omega
 have x0:=am (β:=4294967296) qD (hX.take p)
 have x1:=bQ (β:=4294967296) qD (hX.take p)
 rw [List.length_take,Nat.min_eq_left qO] at x1
 have p0:=aI (show (0:Int)<4294967296 by decide) p
 have hV:0<val 4294967296 X:=by
  have:4294967296^p*1≤4294967296^p*(f*4294967296+s):=Int.mul_le_mul_of_nonneg_left qO qO
  omega
 have hXlt:val 4294967296 X<4294967296^(p+2):=by rw [←hl];exact bQ qD hX
 have hW2:val 4294967296 (S.drop o)<4294967296^(p+2+1):=by rw [Int.pow_succ];omega
 have hz:=qY (β:=4294967296) qD hS (o:=o) (m:=p+2) qO hW2
 have hSv:val 4294967296 (S.drop o)=val 4294967296 ((S.drop o).take p)+4294967296^p*((u0*4294967296+u1)*4294967296+u2):=by
  rw [fx 4294967296 (S.drop o) (k:=p) (by rw [List.length_drop];omega),List.drop_drop,gi _ e2,gi _ e1]
  have:val 4294967296 (S.drop (o+p+1+1))=u0+4294967296*0:=by rw [←hz];exact gi _ e0
  rw [this]
  congr 2
  omega
 have s0:=am (β:=4294967296) qD ((hS.drop o).take p)
 have s1:=bQ (β:=4294967296) qD ((hS.drop o).take p)
 rw [List.length_take,Nat.min_eq_left (by rw [List.length_drop];omega)] at s1
 have W0:=am (β:=4294967296) qD (hS.drop o)
 have q0:0≤val 4294967296 (S.drop o) / val 4294967296 X:=Int.ediv_nonneg W0 qO
 have q1:val 4294967296 (S.drop o) / val 4294967296 X<4294967296:=Int.ediv_lt_of_lt_mul hV (by rw [Int.mul_comm] at hW;rw [Int.mul_comm];omega)
 have qlo:=Int.ediv_mul_le (val 4294967296 (S.drop o)) (show val 4294967296 X≠0 by omega)
 have qhi:=Int.lt_ediv_add_one_mul_self (val 4294967296 (S.drop o)) hV
 refine ⟨hV,hW2,⟨⟨hf,df.2⟩,ds,d2,⟨by omega,?_⟩,⟨q0,q1⟩,?_,?_⟩⟩
 ·have hh:(4294967296:Int)^p*((u0*4294967296+u1)*4294967296+u2)<4294967296^p*(4294967296*(f*4294967296+s+1)):=by
   have:(4294967296:Int)^p*(4294967296*(f*4294967296+s+1))=4294967296*(4294967296^p*(f*4294967296+s))+4294967296*4294967296^p:=by grind
   omega
  have:=Int.lt_of_mul_lt_mul_left hh qO
  omega
 ·generalize val 4294967296 (S.drop o) / val 4294967296 X=q at*
  have hh:(4294967296:Int)^p*(q*(f*4294967296+s))<4294967296^p*((u0*4294967296+u1)*4294967296+u2+1):=by
   have a1:0≤q*val 4294967296 (X.take p):=Int.mul_nonneg q0 x0
   have a2:q*val 4294967296 X=q*val 4294967296 (X.take p)+4294967296^p*(q*(f*4294967296+s)):=by rw [hXv];grind
   rw [Int.mul_add _ _ 1]
   omega
  have:=Int.lt_of_mul_lt_mul_left hh qO
  omega
 ·generalize val 4294967296 (S.drop o) / val 4294967296 X=q at*
  have hh:(4294967296:Int)^p*((u0*4294967296+u1)*4294967296+u2)<4294967296^p*((q+1)*(f*4294967296+s+1)):=by
   have a1:(q+1)*val 4294967296 (X.take p)≤(q+1)*4294967296^p:=Int.mul_le_mul_of_nonneg_left qO qO
   have a2:(q+1)*val 4294967296 X=(q+1)*val 4294967296 (X.take p)+4294967296^p*((q+1)*(f*4294967296+s)):=by rw [hXv];grind
   have a3:(4294967296:Int)^p*((q+1)*(f*4294967296+s+1))=4294967296^p*((q+1)*(f*4294967296+s))+(q+1)*4294967296^p:=by grind
   omega
  exact Int.lt_of_mul_lt_mul_left hh qO
structure po (β V:Int) (U0 U Q:List Int) (k:Nat):Prop where
 dgU:Dg β U
 lenU:U.length=U0.length
 dgQ:Dg β Q
 low:U.take k=U0.take k
 left:val β (U.drop k)<V
 num:val β U0=val β (U0.take k)+β^k*(val β (Q.drop k)*V+val β (U.drop k))
theorem po.start(h:Dg β U0) (hQ:Dg β Q) (hk:k≤U0.length) (hQl:Q.length≤k) (hl:val β (U0.drop k)<V):po β V U0 U0 Q k:=by
 refine ⟨h,rfl,hQ,rfl,hl,?_⟩
 rw [List.drop_of_length_le hQl]
 simp only [val,Int.zero_mul,Int.zero_add]
 exact fx β U0 hk
theorem po.fits(hβ:0<β) {U:List Int} (h:po β V U0 U Q (j+1)) (hj:j<U.length):val β (U.drop j)<β*V:=by
 obtain ⟨u,hu⟩:=c_ hj
 rw [gi β hu]
 have h1:=h.left
 have h2:=h.dgU.get hu
 have h3:β*val β (U.drop (j+1))≤β*(V - 1):=Int.mul_le_mul_of_nonneg_left qO qO
 rw [Int.mul_sub] at h3
 omega
theorem po.step {β V:Int} (hβ:0<β) {U0 U U' Q:List Int} {j:Nat} {d:Int} (h:po β V U0 U Q (j+1)) (hj:j<U.length) (hQ:j<Q.length) (hV:0<V) (hr:E4 β V U U' j d):po β V U0 U' (Q.set j d) j:=by
 obtain ⟨u,hu⟩:=c_ hj
 have hf:=h.fits hβ hj
 have h0:=am hβ (h.dgU.drop j)
 have hd:0≤d∧d<β:=by
  rw [hr.quo]
  exact ⟨Int.ediv_nonneg h0 qO,Int.ediv_lt_of_lt_mul hV hf⟩
 have hlow:U.take j=U0.take j:=by
  have:=congrArg (List.take j) h.low
  simpa [List.take_take,Nat.min_eq_left (show j≤j+1 by omega)] using this
 have hu0:U0[j]? =some u:=by
  have:=congrArg (fun l=>l[j]?) h.low
  simp only [List.getElem?_take] at this
  rw [if_pos qO,if_pos qO] at this
  rw [←this];exact hu
 refine ⟨hr.dg,hr.len.trans h.lenU,h.dgQ.set hd,hr.low.trans hlow,?_,?_⟩
 ·rw [hr.left];exact Int.emod_lt_of_pos _ hV
 ·have hd':(Q.set j d)[j]? =some d:=by simp [hQ]
  have hn:=h.num
  rw [aH hu0,bN,List.length_take,Nat.min_eq_left (by have:=h.lenU;omega)] at hn
  rw [gi β hd',List.drop_set_of_lt qO,hr.left]
  have e1:=Int.mul_ediv_add_emod (val β (U.drop j)) V
  rw [←hr.quo] at e1
  have e2:=gi β hu
  rw [Int.pow_succ] at hn
  grind
theorem po.done(hβ:0<β) {U:List Int} (h:po β V U0 U Q 0):val β Q=val β U0 / V∧val β U=val β U0%V:=by
 have hn:=h.num
 have hl:=h.left
 simp only [List.drop_zero,List.take_zero,Int.pow_zero,Int.one_mul,val,Int.zero_add] at hn hl
 have:=pR hn (am hβ h.dgU) hl
 exact ⟨this.1.symm,this.2.symm⟩
def cJ (a b:Int):Int:=Nat.gcd a.toNat b.toNat
theorem iP(ha:0≤a):cJ a 0=a:=by simp [cJ];omega
theorem nN(ha:0≤a) (hb:0<b):cJ b (a%b)=cJ a b:=by
 unfold cJ
 rw [Int.toNat_emod ha qO,Nat.gcd_comm,←Nat.gcd_rec,Nat.gcd_comm]
theorem jD (a b:Int):cJ a b=cJ b a:=by unfold cJ;rw [Nat.gcd_comm]
theorem k_ (a b:Int):0≤cJ a b:=Int.natCast_nonneg _
theorem zA{p t:Int} (ha:0≤a) (hb:0≤b) (hs:s=1∨s= -1) (hd:p*t - q*r=s) (hx:x=p*a+q*b) (hy:y=r*a+t*b) (x0:0≤x) (y0:0≤y):cJ x y=cJ a b:=by
 have key:∀ {a b p q x y:Int} {r t:Int},0≤a→0≤b→0≤x→0≤y→x=p*a+q*b→y=r*a+t*b→Nat.gcd a.toNat b.toNat∣Nat.gcd x.toNat y.toNat:=by
  intro a b p q x y r t ha hb x0 y0 hx hy
  have h1:((Nat.gcd a.toNat b.toNat:Nat):Int)∣a:=by
   have:=Int.ofNat_dvd.2 (Nat.gcd_dvd_left a.toNat b.toNat)
   rwa [Int.toNat_of_nonneg ha] at this
  have h2:((Nat.gcd a.toNat b.toNat:Nat):Int)∣b:=by
   have:=Int.ofNat_dvd.2 (Nat.gcd_dvd_right a.toNat b.toNat)
   rwa [Int.toNat_of_nonneg hb] at this
  refine Nat.dvd_gcd (Int.ofNat_dvd.1 ?_) (Int.ofNat_dvd.1 ?_)
  ·rw [Int.toNat_of_nonneg x0,hx]
   exact Int.dvd_add (Int.dvd_mul_of_dvd_right h1) (Int.dvd_mul_of_dvd_right h2)
  ·rw [Int.toNat_of_nonneg y0,hy]
   exact Int.dvd_add (Int.dvd_mul_of_dvd_right h1) (Int.dvd_mul_of_dvd_right h2)
 unfold cJ
 congr 1
 refine Nat.dvd_antisymm ?_ (key (p:=p) (q:=q) (r:=r) (t:=t) ha hb x0 y0 hx hy)
 have hss:s*s=1:=by rcases hs with rfl|rfl<;>rfl
 refine key (p:=s*t) (q:= -(s*q)) (r:= -(s*r)) (t:=s*p) x0 y0 ha hb ?_ ?_
 ·rw [hx,hy]
  have:a=s*s*a:=by rw [hss,Int.one_mul]
  rw [←hd] at this ⊢
  grind
 ·rw [hx,hy]
  have:b=s*s*b:=by rw [hss,Int.one_mul]
  rw [←hd] at this ⊢
  grind
structure kW (a0 b0 a b vA vB nA nB s:Int):Prop where
 hs:s=1∨s= -1
 ra:a=s*(vA*a0 - vB*b0)
 rb:b= -s*(nA*a0 - nB*b0)
 det:vA*nB - nA*vB=s
 v0:0≤vA∧0≤vB
 n0:0≤nA∧1≤nB
 le:nA≤nB
 up:vB≤nB
 ord:0≤b∧b≤a
 first:(vA=1∧vB=0∧nA=0∧nB=1∧s=1)∨vA≤vB
 cap:∀ A B K:Int,0<K→a0*K≤A→A<a0*K+K→b0*K≤B→B<b0*K+K→vB≠0→s*(vA*A - vB*B)≤B
theorem kW.start(h0:0≤b0) (h:b0≤a0):kW a0 b0 a0 b0 1 0 0 1 1:=
 ⟨.inl rfl,by omega,by omega,by decide,by decide,by decide,by decide,by decide,⟨h0,h⟩, .inl ⟨rfl,rfl,rfl,rfl,rfl⟩,fun _ _ _ _ _ _ _ _ h=>absurd rfl h⟩
theorem kW.sum(h:kW a0 b0 a b vA vB nA nB s):a*nB+b*vB=a0:=by
 have e:=h.det
 have hss:s*s=1:=by rcases h.hs with h|h<;>rw [h]<;>rfl
 have:a0=s*s*a0:=by rw [hss,Int.one_mul]
 rw [h.ra,h.rb]
 rw [←e] at this ⊢
 grind
theorem kW.le0(h:kW a0 b0 a b vA vB nA nB s):a≤a0:=by
 have hn:=h.n0
 have ho:=h.ord
 have hs:=h.sum
 have m1:a*1≤a*nB:=Int.mul_le_mul_of_nonneg_left hn.2 qO
 have m2:0≤b*vB:=Int.mul_nonneg ho.1 h.v0.2
 omega
theorem kW.sure(h:kW a0 b0 a b vA vB nA nB s) (g1:nB≤b) (g2:vB+nB≤a - b) {A B K:Int} (hK:0<K) (hA:a0*K≤A) (hA':A<a0*K+K) (hB:b0*K≤B) (hB':B<b0*K+K):
 0≤ -s*(nA*A - nB*B)∧ -s*(nA*A - nB*B)<s*(vA*A - vB*B):=by
 obtain ⟨α,rfl⟩:∃ α,A=a0*K+α:=⟨A - a0*K,by omega⟩
 obtain ⟨β,rfl⟩:∃ β,B=b0*K+β:=⟨B - b0*K,by omega⟩
 have hα:0≤α∧α<K:=qO
 have hβ:0≤β∧β<K:=qO
 have hv:=h.v0
 have hn:=h.n0
 have e1: -s*(nA*(a0*K+α) - nB*(b0*K+β))=b*K - s*(nA*α)+s*(nB*β):=by rw [h.rb];grind
 have e2:s*(vA*(a0*K+α) - vB*(b0*K+β))=a*K+s*(vA*α) - s*(vB*β):=by rw [h.ra];grind
 have m1:nB*K≤b*K:=Int.mul_le_mul_of_nonneg_right g1 qO
 have m2:(vB+nB)*K≤(a - b)*K:=Int.mul_le_mul_of_nonneg_right g2 qO
 rw [Int.add_mul,Int.sub_mul] at m2
 have n1:0≤nA*α:=Int.mul_nonneg hn.1 hα.1
 have n2:0≤nB*β:=Int.mul_nonneg qO hβ.1
 have n3:0≤vA*α:=Int.mul_nonneg hv.1 hα.1
 have n4:0≤vB*β:=Int.mul_nonneg hv.2 hβ.1
 have k1:nA*α≤nB*α:=Int.mul_le_mul_of_nonneg_right h.le hα.1
 have k2:nB*(α+1)≤nB*K:=Int.mul_le_mul_of_nonneg_left qO qO
 have k3:nB*(β+1)≤nB*K:=Int.mul_le_mul_of_nonneg_left qO qO
 have k4:vB*β≤vB*K:=Int.mul_le_mul_of_nonneg_left qO hv.2
 have k5:vB*α≤vB*K:=Int.mul_le_mul_of_nonneg_left qO hv.2
 rw [Int.mul_add] at k2 k3
 rw [e1,e2]
 rcases h.hs with hs1|hs1
 ·rw [hs1]
  omega
 ·have k6:vA*α≤vB*α:=by
   rcases h.first with ⟨_,_,_,_,h1⟩|h1
   ·omega
   ·exact Int.mul_le_mul_of_nonneg_right h1 hα.1
  rw [hs1]
  omega
theorem kW.bound(h:kW a0 b0 a b vA vB nA nB s) (g1:nB≤b) (ha:a0<18446744073709551616):nB<4294967296∧0≤vB+nB∧vB+nB<18446744073709551616∧1≤b∧vA≤4294967295:=by
 have hn:=h.n0
 have hv:=h.v0
 have hs:=h.sum
 have ho:=h.ord
 have m1:nB*nB≤a*nB:=Int.mul_le_mul_of_nonneg_right qO qO
 have m2:1*vB≤b*vB:=Int.mul_le_mul_of_nonneg_right qO hv.2
 have m3:1*nB≤a*nB:=Int.mul_le_mul_of_nonneg_right qO qO
 have hlt:nB<4294967296:=by
  rcases Int.lt_or_le nB 4294967296 with h|h
  ·exact h
  ·have:4294967296*4294967296≤nB*nB:=Int.mul_le_mul h h qO qO
   omega
 have hu:=h.up
 refine ⟨hlt,by omega,by omega,by omega,?_⟩
 rcases h.first with h1|h1<;>omega
theorem kW.step {a0 b0 a b vA vB nA nB s:Int} (h:kW a0 b0 a b vA vB nA nB s) (g1:nB≤b) (g2:vB+nB≤a - b) (ha:a0<18446744073709551616):
 kW a0 b0 b (a%b) nA nB (vA+a / b*nA) (vB+a / b*nB) (-s)∧(0≤a / b*nA∧vA+a / b*nA<18446744073709551616)∧(0≤a / b*nB∧vB+a / b*nB<18446744073709551616)∧0≤a / b∧a / b<18446744073709551616:=by
 have hn:=h.n0
 have hv:=h.v0
 have ho:=h.ord
 have hb:0<b:=qO
 have hq1:1≤a / b:=(Int.le_ediv_iff_mul_le hb).2 qO
 have hr0:=Int.emod_nonneg a (show b≠0 by omega)
 have hr1:=Int.emod_lt_of_pos a hb
 have hqr:=Int.mul_ediv_add_emod a b
 have hsum:=h.sum
 have hu:=h.up
 have hle:=h.le
 have q1:1*nB≤a / b*nB:=Int.mul_le_mul_of_nonneg_right hq1 qO
 have q2:0≤a / b*nA:=Int.mul_nonneg qO hn.1
 have q3:a / b*nA≤a / b*nB:=Int.mul_le_mul_of_nonneg_left hle qO
 have q4:a / b*1≤a / b*nB:=Int.mul_le_mul_of_nonneg_left hn.2 qO
 have hsr: -s=1∨ -s= -1:=by rcases h.hs with h|h<;>omega
 have hfi:vA+a / b*nA≤vB+a / b*nB:=by
  rcases h.first with ⟨h1,h2,h3,h4,_⟩|h1
  ·subst h1 h2 h3 h4;omega
  ·omega
 have hT:kW a0 b0 b (a%b) nA nB (vA+a / b*nA) (vB+a / b*nB) (-s):=by
  have e1:=h.ra
  have e2:=h.rb
  have e3:=h.det
  generalize hq:a / b=q at*
  have er:a%b=a - b*q:=qO
  refine ⟨hsr,by rw [e2],?_,?_,⟨hn.1,by omega⟩,⟨by omega,by omega⟩,hfi,by omega,⟨hr0,by omega⟩, .inr hle,?_⟩
  ·rw [er,e1]
   conv=>lhs;rw [e2]
   grind
  ·rw [←e3];grind
  ·intro A B K hK hA hA' hB hB' _
   have h1:=h.sure g1 g2 hK hA hA' hB hB'
   rcases (show vB=0∨vB≠0 by omega) with hz|hz
   ·rcases h.first with ⟨h3,h4,h5,h6,h7⟩|h3
    ·subst h5 h6 h7;omega
    ·have:vA=0:=qO
     rw [this,hz] at e3
     simp at e3
     rcases h.hs with h|h<;>omega
   ·have:=h.cap A B K hK hA hA' hB hB' hz
    omega
 have hs2:=hT.sum
 have m1:1*(vB+a / b*nB)≤b*(vB+a / b*nB):=Int.mul_le_mul_of_nonneg_right qO qO
 have m2:0≤a%b*nB:=Int.mul_nonneg hr0 qO
 exact ⟨hT,⟨q2,by omega⟩,⟨by omega,by omega⟩,by omega,by omega⟩
def lJ (a0 b0 uA uB vA vB:Int):Prop:=
 uB=0∨∃ s:Int,(s=1∨s= -1)∧uA*vB - vA*uB=s∧(0≤uA∧uA<4294967296)∧(0≤uB∧uB<4294967296)∧(0≤vA∧vA<4294967296)∧(0≤vB∧vB<4294967296)∧
  ∀ A B K:Int,0<K→a0*K≤A→A<a0*K+K→b0*K≤B→B<b0*K+K→0≤ -s*(vA*A - vB*B)∧ -s*(vA*A - vB*B)<s*(uA*A - uB*B)∧s*(uA*A - uB*B)≤B
theorem kW.ok{uA uB:Int} (h:kW a0 b0 a b uA uB vA vB s) (g1:vB≤b) (g2:uB+vB≤a - b) (ha:a0<18446744073709551616):lJ a0 b0 uA uB vA vB:=by
 have hb:=h.bound g1 ha
 have hv:=h.v0
 have hn:=h.n0
 have hu:=h.up
 have hl:=h.le
 rcases (show uB=0∨uB≠0 by omega) with hz|hz
 ·exact .inl hz
 ·refine .inr ⟨s,h.hs,h.det,⟨hv.1,by omega⟩,⟨hv.2,by omega⟩,⟨hn.1,by omega⟩,⟨by omega,by omega⟩,fun A B K hK hA hA' hB hB'=> ?_⟩
  have:=h.sure g1 g2 hK hA hA' hB hB'
  exact ⟨this.1,this.2,h.cap A B K hK hA hA' hB hB' hz⟩
theorem lJ.parts{uA uB:Int} (h:lJ a0 b0 uA uB vA vB) (hu:uB≠0) {A B K:Int} (hK:0<K) (hA:a0*K≤A) (hA':A<a0*K+K) (hB:b0*K≤B) (hB':B<b0*K+K) (A0:0≤A) (B0:0≤B):
 ∃ C D:Int,(uA*A - uB*B=C∨uB*B - uA*A=C)∧(vA*A - vB*B=D∨vB*B - vA*A=D)∧0≤D∧D<C∧C≤B∧cJ C D=cJ A B:=by
 rcases h with h|⟨s,hs,hd,_,_,_,_,hr⟩
 ·exact absurd h hu
 ·obtain ⟨r1,r2,r3⟩:=hr A B K hK hA hA' hB hB'
  refine ⟨s*(uA*A - uB*B), -s*(vA*A - vB*B),?_,?_,r1,r2,r3,?_⟩
  ·rcases hs with rfl|rfl<;>omega
  ·rcases hs with rfl|rfl<;>omega
  ·refine zA (p:=s*uA) (q:= -(s*uB)) (r:= -(s*vA)) (t:=s*vB) A0 B0 hs ?_ ?_ ?_ qO r1
   ·have hss:s*s=1:=by rcases hs with rfl|rfl<;>rfl
    have:s=s*s*s:=by rw [hss,Int.one_mul]
    grind
   ·grind
   ·grind
def dz (s:Bool) (M:Int):Int:=bif s then -M else M
theorem cZ (M:Int):dz false M=M:=rfl
theorem cX (M:Int):dz true M= -M:=rfl
def jN (s:Bool) (xs:List Int):Bool:=match xs.getLast? with
 |none=> !s
 |some z=>z != 0
theorem pH (s:Bool):jN s []= !s:=rfl
theorem lK{s:Bool} {z:Int} (hn:xs.length=n+1) (h:xs[n]? =some z):jN s xs=(z != 0):=by
 have:xs.getLast? =some z:=by rw [List.getLast?_eq_getElem?,hn];exact h
 unfold jN
 rw [this]
theorem tA{s:Bool} (h:jN s xs=true):Tr xs:=by
 by_cases hne:xs=[]
 ·subst hne;exact Tr.nil
 ·obtain ⟨zs,z,rfl⟩:∃ zs z,xs=zs++[z]:=⟨xs.dropLast,xs.getLast hne,(List.dropLast_concat_getLast hne).symm⟩
  have:jN s (zs++[z])=(z != 0):=lK (n:=zs.length) qE qE
  rw [this] at h
  exact mH _ (by simpa using h)
theorem F_{s:Bool} (ht:Tr xs) (h0:xs=[]→s=false):jN s xs=true:=by
 by_cases hne:xs=[]
 ·subst hne;rw [pH,h0 rfl];rfl
 ·obtain ⟨zs,z,rfl,hz,_⟩:=ht.last hne
  have:jN s (zs++[z])=(z != 0):=lK (n:=zs.length) qE qE
  rw [this]
  simpa using hz
theorem CO{s:Bool} (hx:Dg 4294967296 xs) (h:jN s xs=true) (hv:val 4294967296 xs=0):s=false:=by
 have:=Tr.zero qD hx (tA h) hv
 subst this
 rw [pH] at h
 simpa using h
theorem mL{s:Bool} (hx:Dg 4294967296 xs) (h:jN s xs=true) (hs:s=true):0<val 4294967296 xs:=by
 have h0:=am qD hx
 rcases Int.lt_or_eq_of_le h0 with h1|h1
 ·exact h1
 ·have:=CO hx h h1.symm
  rw [hs] at this
  cases this
def bp (s:Bool) (xs:List Int):Int:=bif jN s xs then dz s (val 4294967296 xs) else 0
theorem fU{s:Bool} (h:jN s xs=true):bp s xs=dz s (val 4294967296 xs):=by unfold bp;rw [h];rfl
theorem qC{s:Bool} (h:jN s xs=false):bp s xs=0:=by unfold bp;rw [h];rfl
theorem mY (s:Bool):bp s []=0:=by cases s<;>rfl
structure Whole (N:Int) (s:Bool) (xs:List Int):Prop where
 row:fZ 4294967296 (N.natAbs:Int) xs
 sg:s=decide (N<0)
theorem Whole.right{s:Bool} (h:Whole N s xs):jN s xs=true:=F_ h.row.tr fun e=>by
 have:=h.row.val
 rw [e] at this
 simp [Go.Proofs.YtpmhjieibebclaaGreatDoor.val] at this
 rw [h.sg]
 simp
 omega
theorem Whole.val{s:Bool} (h:Whole N s xs):bp s xs=N:=by
 rw [fU h.right,h.row.val,h.sg]
 by_cases hn:N<0
 ·simp [hn,dz];omega
 ·simp [hn,dz];omega
theorem Whole.uniq{s:Bool} (h:Whole N s xs) (h':Whole N t ys):s=t∧xs=ys:=⟨h.sg.trans h'.sg.symm,h.row.uniq qD h'.row⟩
theorem Whole.of{s:Bool} (hx:Dg 4294967296 xs) (h:jN s xs=true):Whole (dz s (Go.Proofs.YtpmhjieibebclaaGreatDoor.val 4294967296 xs)) s xs:=by
 have h0:=am (β:=4294967296) qD hx
 cases s with
 |false=>exact ⟨⟨hx,tA h,by rw [cZ];omega⟩,(decide_eq_false (by rw [cZ];omega)).symm⟩
 |true=>
  have:=mL hx h rfl
  exact ⟨⟨hx,tA h,by rw [cX];omega⟩,(decide_eq_true (by rw [cX];omega)).symm⟩
theorem Whole.mk'{s:Bool} {M:Int} (h:fZ 4294967296 M xs) (h0:0≤M) (hs:s=true→M≠0):Whole (dz s M) s xs:=by
 cases s with
 |false=>exact ⟨by rw [cZ];rw [show ((M.natAbs:Nat):Int)=M by omega];exact h,(decide_eq_false (by rw [cZ];omega)).symm⟩
 |true=>
  have:=hs rfl
  exact ⟨by rw [cX];rw [show (((-M).natAbs:Nat):Int)=M by omega];exact h,(decide_eq_true (by rw [cX];omega)).symm⟩
theorem Whole.zero:Whole 0 false []:=⟨⟨Dg.nil,Tr.nil,rfl⟩,rfl⟩
theorem pB (s t:Bool) (a b:Int):dz s a*dz t b=dz (s != t) (a*b):=by cases s<;>cases t<;>simp [dz,Int.neg_mul,Int.mul_neg]
theorem FH (s:Bool) (a b:Int):dz s a+dz s b=dz s (a+b):=by cases s<;>simp [dz];omega
theorem CH{s:Bool} (h:s≠t) (a b:Int):dz s a+dz t b=dz s (a - b)∧dz s a+dz t b=dz t (b - a):=by cases s<;>cases t<;>simp_all [dz]<;>omega
theorem ko {s:Bool} {M:Int} (h:0≤M):((dz s M).natAbs:Int)=M:=by cases s<;>simp [dz]<;>omega
theorem yu(h:a=q*b+r) (hr:(0≤r∧r<b)∨(b<r∧r≤0)):a.fdiv b=q∧a.fmod b=r:=by
 have key:∀ {a b q r:Int},a=q*b+r→0≤r→r<b→a / b=q:=fun {a b q r} h h0 h1=>(pR h h0 h1).1
 have hq:a.fdiv b=q:=by
  rcases hr with ⟨h0,h1⟩|⟨h0,h1⟩
  ·rw [Int.fdiv_eq_ediv_of_nonneg _ qO]
   exact key h h0 h1
  ·have e:a.fdiv b=(-a).fdiv (-b):=by rw [Int.neg_fdiv_neg]
   rw [e,Int.fdiv_eq_ediv_of_nonneg _ qO]
   exact key (r:= -r) (by rw [h,Int.mul_neg];omega) qO qO
 refine ⟨hq,?_⟩
 rw [Int.fmod_def,hq,h,Int.mul_comm b q]
 omega
theorem mD{s:Bool} (h:a=q*b+r) (h0:0≤r) (h1:r<b) (hr:r=0∨s=t):(dz s a).fdiv (dz t b)=dz (s != t) q∧(dz s a).fmod (dz t b)=dz s r:=by
 refine yu ?_ ?_
 ·rw [pB,h]
  cases s<;>cases t<;>simp [dz]<;>omega
 ·rcases hr with rfl|rfl
  ·cases s<;>cases t<;>simp [dz]<;>omega
  ·cases s<;>simp [dz]<;>omega
theorem kI{s:Bool} (h:a=q*b+r) (h0:0<r) (h1:r<b) (hr:s≠t):(dz s a).fdiv (dz t b)=dz (s != t) q - 1∧(dz s a).fmod (dz t b)=dz s r+dz t b:=by
 refine yu ?_ ?_
 ·rw [Int.sub_mul,pB,h]
  cases s<;>cases t<;>simp_all [dz]<;>omega
 ·cases s<;>cases t<;>simp_all [dz]<;>omega
theorem uS:b_ a b<0↔a<b:=by unfold b_;split<;>(try split)<;>omega
theorem oH:0<b_ a b↔b<a:=by unfold b_;split<;>(try split)<;>omega
theorem nJ:b_ a b=0↔a=b:=by unfold b_;split<;>(try split)<;>omega
theorem rg (a b:Int):b_ (-a) (-b)=b_ b a:=by
 rcases Int.lt_trichotomy a b with h|h|h
 ·rw [gV h,gV qO]
 ·rw [lM h.symm,lM qO]
 ·rw [eO h,eO qO]
theorem Ay(hx:0≤x∧x<65536) (hy:0≤y∧y<65536) (hs:0≤s∧s<65536) (hc:0≤c∧c<65536):
 (0≤x*y∧x*y≤4294836225)∧(0≤s+c+x*y∧s+c+x*y≤4294967295)∧(0≤(s+c+x*y)%65536∧(s+c+x*y)%65536<65536)∧
 (0≤(s+c+x*y) / 65536∧(s+c+x*y) / 65536<65536)∧(s+c+x*y)%65536+1*(65536*((s+c+x*y) / 65536))=s+1*(x*y+c):=by
 have h0:0≤x*y:=Int.mul_nonneg hx.1 hy.1
 have h1:x*y≤65535*65535:=Int.mul_le_mul qO qO hy.1 qO
 omega
structure mI (β:Int) (X Y P:List Int) (i:Nat):Prop where
 dg:Dg β P
 len:P.length=X.length+Y.length+1
 num:val β P=val β (X.take i)*val β Y
 zero:P.drop (i+Y.length)=List.replicate (X.length - i+1) 0
theorem mI.start(hβ:0<β) (X Y:List Int):mI β X Y (List.replicate (X.length+Y.length+1) 0) 0:=
 ⟨Dg.zeros hβ _,by simp,by simp [val,gM],by simp;omega⟩
theorem mI.next(h:mI β X Y P i) (hx:X[i]? =some x) (hm:s9 β 1 x P Y S1 i Y.length cr):S1[i+Y.length]? =some 0:=by
 have hi:=bT hx
 have:=congrArg (fun l=>l[0]?) (hm.rest.trans h.zero)
 simp only [List.getElem?_drop,Nat.add_zero,List.getElem?_replicate] at this
 rw [this,if_pos qO]
theorem mI.step {β:Int} {X Y P S1:List Int} {i:Nat} {x cr:Int} (h:mI β X Y P i) (hx:X[i]? =some x) (hm:s9 β 1 x P Y S1 i Y.length cr) (hc:0≤cr∧cr<β):
 mI β X Y (S1.set (i+Y.length) cr) (i+1):=by
 have hi:=bT hx
 have hz:=h.next hx hm
 refine ⟨hm.dg.set hc,by simp [hm.len,h.len],?_,?_⟩
 ·have hs:=hm.stop rfl (by have:=h.len;omega)
  rw [sO hz,dI,hx,Option.getD_some]
  have hn:=h.num
  grind
 ·rw [List.drop_set_of_lt qO,show i+1+Y.length=(i+Y.length)+1 by omega,←List.drop_drop,hm.rest,h.zero,List.drop_replicate]
  congr 1
  omega
theorem CD(h:S[k]? =some s):S.set k s=S:=by
 refine List.ext_getElem? fun j=> ?_
 rw [List.getElem?_set]
 split
 ·rename_i e;subst e;rw [if_pos (bT h),h]
 ·rfl
theorem mI.keep {β:Int} {X Y P S1:List Int} {i:Nat} {x:Int} (h:mI β X Y P i) (hx:X[i]? =some x) (hm:s9 β 1 x P Y S1 i Y.length 0) (hβ:0<β):mI β X Y S1 (i+1):=by
 have:=h.step hx hm ⟨Int.le_refl _,hβ⟩
 rwa [CD (h.next hx hm)] at this
theorem mI.done(h:mI β X Y P X.length):val β P=val β X*val β Y:=by
 have:=h.num
 rwa [List.take_of_length_le (Nat.le_refl _)] at this
theorem zn{n:Int} (ha:0≤a∧a<65536) (hb:0≤b∧b<65536) (hn:0≤n∧n<65536) (hy:0≤y∧y<65536) (hx:x=a - b - n*y):
 (0≤n*y∧n*y≤4294836225)∧(-4294967296≤x∧x<65536)∧
 (x<0→(0≤(65535 - x) / 65536∧(65535 - x) / 65536<65536)∧(0≤x+65536*((65535 - x) / 65536)∧x+65536*((65535 - x) / 65536)<65536)∧x+65536*((65535 - x) / 65536)+65536* -((65535 - x) / 65536)=(a - n*y)+ -b)∧
 (0≤x→x+65536* -0=(a - n*y)+ -b):=by
 have h0:0≤n*y:=Int.mul_nonneg hn.1 hy.1
 have h1:n*y≤65535*65535:=Int.mul_le_mul qO qO hy.1 qO
 omega
theorem Acc.down{F:Int} (hβ:0<β) {O:List Int} (h:Acc β F O i (-c)) (hc:0≤c) (hF:0≤F):val β O=F:=by
 have h1:=h.num
 have h2:=bQ hβ h.dg
 rw [h.len] at h2
 have h3:=aI hβ i
 rcases Int.lt_or_eq_of_le hc with hc|rfl
 ·have:β^i*1≤β^i*c:=Int.mul_le_mul_of_nonneg_left qO qO
  rw [Int.mul_neg] at h1
  omega
 ·simpa using h1
theorem uC(hβ:0<β) (h:Dg β X) (i:Nat):val β (X.take i)≤val β X:=by
 conv=>rhs;rw [←List.take_append_drop i X]
 rw [cI]
 have h1:=am hβ (h.drop i)
 have h2:=aI hβ (X.take i).length
 have:=Int.mul_nonneg (Int.le_of_lt h2) h1
 omega
theorem zp (β n:Int) (X Y:List Int) (i:Nat):val β (X.take (i+1)) - n*val β (Y.take (i+1))=(val β (X.take i) - n*val β (Y.take i))+β^i*(X[i]?.getD 0 - n*Y[i]?.getD 0):=by
 rw [dI,dI]
 grind
theorem vI{n:Int} (hβ:0<β) (hX:Dg β X) (hY:Dg β Y) (hn:0≤n) (h:n*val β Y≤val β X):0≤val β X - n*val β (Y.take X.length):=by
 have:=Int.mul_le_mul_of_nonneg_left (uC hβ hY X.length) hn
 omega
theorem wJ{n:Int} (hβ:1<β) (hX:Dg β X) (hY:Dg β Y) (tY:Tr Y) (hn:0≤n) (h:n*val β Y≤val β X):n*val β (Y.take X.length)=n*val β Y:=by
 rcases Nat.lt_or_ge X.length Y.length with hl|hl
 ·have h1:=dj hβ hX hY tY hl
  rcases Int.lt_or_eq_of_le hn with hn|rfl
  ·have h2:=am qO hY
   have:1*val β Y≤n*val β Y:=Int.mul_le_mul_of_nonneg_right qO h2
   omega
  ·simp
 ·rw [List.take_of_length_le hl]
structure i9 (U V lo hi:Int):Prop where
 lo0:0≤lo
 lt:lo<hi
 hi0:hi≤65536
 low:lo*V≤U
 high:U<hi*V
theorem i9.start(h0:0≤U) (h:U<65536*V):i9 U V 0 65536:=⟨by omega,by omega,by omega,by omega,h⟩
theorem i9.mid(h:i9 U V lo hi) (hd:1<hi - lo):lo<(lo+hi) / 2∧(lo+hi) / 2<hi:=by
 have:=h.lt
 omega
theorem i9.down(h:i9 U V lo hi) (hd:1<hi - lo) (ht:U<V*((lo+hi) / 2)):i9 U V lo ((lo+hi) / 2):=by
 have:=h.mid hd
 exact ⟨h.lo0,this.1,by have:=h.hi0;omega,h.low,by rw [Int.mul_comm];exact ht⟩
theorem i9.up(h:i9 U V lo hi) (hd:1<hi - lo) (ht:V*((lo+hi) / 2)≤U):i9 U V ((lo+hi) / 2) hi:=by
 have:=h.mid hd
 exact ⟨by have:=h.lo0;omega,this.2,h.hi0,by rw [Int.mul_comm];exact ht,h.high⟩
theorem i9.done(h:i9 U V lo hi) (hd:¬ 1<hi - lo):U / V=lo∧(0≤lo∧lo<65536)∧lo*V≤U∧U - lo*V<V:=by
 have e:hi=lo+1:=by have:=h.lt;omega
 have h1:=h.high
 rw [e,Int.add_mul,Int.one_mul] at h1
 have h2:=h.low
 have h3:=h.hi0
 exact ⟨(pR (r:=U - lo*V) qO qO qO).1,⟨h.lo0,by omega⟩,h2,by omega⟩
theorem ahead{R:Int} (hx:0≤x∧x<β) (hR:0≤R∧R<V):0≤x+β*R∧x+β*R<β*V:=by
 have h0:0≤β*R:=Int.mul_nonneg qO hR.1
 have h1:β*(R+1)≤β*V:=Int.mul_le_mul_of_nonneg_left qO qO
 rw [Int.mul_add] at h1
 omega
theorem Fg{s:Bool} (hx:Dg 4294967296 xs) (h:xs.length=n):((bp s xs).natAbs:Int)<4294967296^n:=by
 have a:=bQ (β:=4294967296) qD hx
 have b:=am (β:=4294967296) qD hx
 have c:=aI (show (0:Int)<4294967296 by decide) n
 rw [h] at a
 cases hr:jN s xs
 ·rw [qC hr];exact c
 ·rw [fU hr,ko b];exact a
theorem Whole.len{s:Bool} (h:Whole N s ys) (hk:(N.natAbs:Int)<4294967296^k):ys.length≤k:=h.row.len_le qD hk
theorem BT{M:Int} (h1:(N.natAbs:Int)<4294967296^n) (h2:(M.natAbs:Int)<4294967296^m):((N+M).natAbs:Int)<4294967296^(max n m+1):=by
 have a:=Int.lt_of_lt_of_le h1 (aP qD (show n≤max n m by omega))
 have b:=Int.lt_of_lt_of_le h2 (aP qD (show m≤max n m by omega))
 rw [Int.pow_succ]
 have:=aI (show (0:Int)<4294967296 by decide) (max n m)
 omega
theorem lu{M:Int} (h1:(N.natAbs:Int)<4294967296^n) (h2:(M.natAbs:Int)<4294967296^m):((N*M).natAbs:Int)<4294967296^(n+m):=by
 rw [Int.natAbs_mul,Int.natCast_mul,Int.pow_add]
 have p:=aI (show (0:Int)<4294967296 by decide) n
 exact Int.lt_of_le_of_lt (Int.mul_le_mul_of_nonneg_left (Int.le_of_lt h2) qO) (Int.mul_lt_mul_of_pos_right h1 (by have:=aI (show (0:Int)<4294967296 by decide) m;omega))
theorem wZ(h1:(N.natAbs:Int)<4294967296^n):((-N).natAbs:Int)<4294967296^n:=by rw [Int.natAbs_neg];exact h1
def jo (l:List (Bool×List Int)):Int:=l.foldr (fun p a=>bp p.1 p.2+a) 0
theorem vT (a b:List (Bool×List Int)):jo (a++b)=jo a+jo b:=by
 induction a with
 |nil=>simp [jo]
 |cons p a ih=>
  have e:jo (p::a++b)=bp p.1 p.2+jo (a++b):=rfl
  have e2:jo (p::a)=bp p.1 p.2+jo a:=rfl
  rw [e,e2,ih];omega
theorem sk{l:List (Bool×List Int)} {s:Bool} (h:l[i]? =some (s,xs)):jo (l.take (i+1))=jo (l.take i)+bp s xs:=by
 rw [List.take_add_one,h,vT]
 have:jo (some (s,xs)).toList=bp s xs:=by simp [jo]
 rw [this]
def vH (c:UInt8):Prop:=48≤(c.toNat:Int)∧(c.toNat:Int)≤57
def gZ (l:List UInt8):Int:=l.foldl (fun a c=>10*a+((c.toNat:Int) - 48)) 0
theorem wz (l:List UInt8) (a:Int):l.foldl (fun a c=>10*a+((c.toNat:Int) - 48)) a=a*10^l.length+gZ l:=by
 unfold gZ
 induction l generalizing a with
 |nil=>simp
 |cons c l ih=>
  simp only [List.foldl_cons,List.length_cons]
  rw [ih,ih (10*0+((c.toNat:Int) - 48)),Int.pow_succ]
  generalize List.foldl _ 0 l=d
  generalize (10:Int)^l.length=p
  generalize (c.toNat:Int) - 48=k
  grind
theorem pb (a b:List UInt8):gZ (a++b)=gZ a*10^b.length+gZ b:=by
 unfold gZ
 rw [List.foldl_append]
 exact wz b _
theorem xA (l:List UInt8) (h:∀ c∈l,vH c):0≤gZ l∧gZ l<10^l.length:=by
 induction l with
 |nil=>simp [gZ]
 |cons c l ih=>
  obtain ⟨h1,h2⟩:=ih (fun x hx=>h x (by simp [hx]))
  have hc:=h c qE
  unfold vH at hc
  have e:gZ (c::l)=((c.toNat:Int) - 48)*10^l.length+gZ l:=by
   have:=pb [c] l
   simpa [gZ] using this
  have p:=aI (show (0:Int)<10 by decide) l.length
  have m0:0≤((c.toNat:Int) - 48)*10^l.length:=Int.mul_nonneg qO qO
  have m1:((c.toNat:Int) - 48)*10^l.length≤9*10^l.length:=Int.mul_le_mul_of_nonneg_right qO qO
  rw [e,List.length_cons,Int.pow_succ]
  omega
structure BP (N q:Int) (n:Nat) (D:List Int):Prop where
 dg:Dg 1000000000 D
 len:D.length=456
 num:N=val 1000000000 (D.take n)+1000000000^n*q
 q0:0≤q
 top:q=0→n=0∨∃ d,D[n - 1]? =some d∧0<d
theorem BP.room{D:List Int} (h:BP N q n D) (hq:0<q) (hN:N<1000000000^456):n<456:=by
 rcases Nat.lt_or_ge n 456 with hn|hn
 ·exact hn
 ·have p:=aP (show (0:Int)<1000000000 by decide) hn
  have h0:=am (β:=1000000000) qD (h.dg.take n)
  have p0:=aI (show (0:Int)<1000000000 by decide) n
  have:=h.num
  have:(1000000000:Int)^n*1≤1000000000^n*q:=Int.mul_le_mul_of_nonneg_left qO qO
  omega
theorem BP.step {N q:Int} {n:Nat} {D:List Int} (h:BP N q n D) (hq:0<q) (hn:n<456):BP N (q / 1000000000) (n+1) (D.set n (q%1000000000)):=by
 have hs:(D.set n (q%1000000000))[n]? =some (q%1000000000):=List.getElem?_set_self (by rw [h.len];exact hn)
 refine ⟨h.dg.set qO,by rw [List.length_set,h.len],?_,by omega,fun h0=> .inr ⟨q%1000000000,hs,by omega⟩⟩
 rw [aH hs,bN,List.take_set_of_le (Nat.le_refl _),List.length_take,Nat.min_eq_left (by have:=h.len;omega),h.num,Int.pow_succ]
 have:=Int.mul_ediv_add_emod q 1000000000
 grind
open Go Go.ChangeShapes Go.WideShapes Go.ChangeAt Go.RowKit Go.Deep
def mA (w:World) (B:Nat) (A:Option Addr) (n c:Nat) (l:List (Bool×List Int)):Prop:=
 l.length=n∧n≤c∧c≤maxLen∧(A=none→c=0)∧
  (0<n→∃ b off,A=some ⟨b,off,none⟩∧b<B∧∀ (j:Nat) (s:Bool) (xs:List Int),l[j]? =some (s,xs)→∃ A' n' c',w.cell? ⟨b,off+j*2,none⟩=some (.bool s)∧w.cell? ⟨b,off+j*2+1,none⟩=some (.slice A' n' c')∧Sl .u32 w B A' n' c' xs)
section
variable {w w':World} {B B':Nat} {A:Option Addr} {n c:Nat} {l:List (Bool×List Int)}
theorem mA.len (h:mA w B A n c l):l.length=n:=h.1
theorem mA.le (h:mA w B A n c l):n≤c:=h.2.1
theorem mA.cap (h:mA w B A n c l):c≤maxLen:=h.2.2.1
theorem mA.keep (h:mA w B A n c l) (hk:∀ p:Addr,p.block<B→w'.cell? p=w.cell? p):mA w' B A n c l:=by
 refine ⟨h.1,h.2.1,h.2.2.1,h.2.2.2.1,fun hn=> ?_⟩
 obtain ⟨b,off,hA,hb,hc⟩:=h.2.2.2.2 hn
 refine ⟨b,off,hA,hb,fun j s xs hx=> ?_⟩
 obtain ⟨A',n',c',h1,h2,h3⟩:=hc j s xs hx
 exact ⟨A',n',c',(hk _ hb).trans h1,(hk _ hb).trans h2,h3.keep hk⟩
theorem mA.more (h:mA w B A n c l) (hB:B≤B'):mA w B' A n c l:=by
 refine ⟨h.1,h.2.1,h.2.2.1,h.2.2.2.1,fun hn=> ?_⟩
 obtain ⟨b,off,hA,hb,hc⟩:=h.2.2.2.2 hn
 refine ⟨b,off,hA,by omega,fun j s xs hx=> ?_⟩
 obtain ⟨A',n',c',h1,h2,h3⟩:=hc j s xs hx
 exact ⟨A',n',c',h1,h2,h3.more hB⟩
theorem mA.below (h:mA w B A n c l) (hb:Below B' w w') (hB:B≤B'):mA w' B A n c l:=h.keep fun _ hp=>hb.cell qO
theorem mA.alloc (h:mA w B A n c l) (hB:B≤w.heap.size) (o:Obj):mA (w.alloc o) B A n c l:=h.keep fun p hp=>World.cell?_alloc_lt w o p qO
theorem mA.setCell (h:mA w B A n c l) {p:Addr} (hp:B≤p.block) (u:Value):mA (w.setCell p u) B A n c l:=
 h.keep fun q hq=>World.cell?_setCell_other w p q u (fun e=>by subst e;omega)
theorem mA.none_:mA w B none 0 0 []:=⟨rfl,Nat.le_refl _,Nat.zero_le _,fun _=>rfl,fun h=>absurd h qO⟩
theorem mA.at_(h:mA w B A n c l) (hj:j<n):∃ b off s xs A' n' c',A=some ⟨b,off,none⟩∧b<B∧l[j]? =some (s,xs)∧w.cell? ⟨b,off+j*2,none⟩=some (.bool s)∧w.cell? ⟨b,off+j*2+1,none⟩=some (.slice A' n' c')∧Sl .u32 w B A' n' c' xs:=by
 obtain ⟨b,off,hA,hb,hc⟩:=h.2.2.2.2 qO
 have hl:j<l.length:=by have:=h.1;omega
 obtain ⟨A',n',c',h1,h2,h3⟩:=hc j l[j].1 l[j].2 (List.getElem?_eq_getElem hl)
 exact ⟨b,off,_,_,A',n',c',hA,hb,List.getElem?_eq_getElem hl,h1,h2,h3⟩
end
section
variable {H:Type} {enc:TypeId×Value→H} {P:Program}
theorem Dh {t e:TypeId} {k:IntKind} (ht:P.underlying t=some (.slice e)) (he:P.underlying e=some (.int k)) (hc:P.cellsOf e=1) {W:World} {v:Value} {y:DataW H×List MemPlace} {fuel:Nat}
 (h:DataW.trod enc P W 0 (fun _=>true) true fuel t [v]=some y):∃ A n c xs,v= .slice A n c∧Sl k W W.heap.size A n c xs∧∀ x∈xs,(Lit.int k x).wf=true:=by
 rcases open_ints ht he hc h with ⟨hcs,_⟩|⟨a,len,cap,zs,hcs,_,hl,hm,hz,_,hcell,hwf⟩
 ·exact ⟨none,0,0,[],by simpa using hcs,Sl.nil,fun x hx=>by cases hx⟩
 ·simp only [if_true] at hz
  refine ⟨some a,len,cap,zs.take len,by simpa using hcs,⟨by rw [List.length_take];omega,hl,hm,fun h=>(by cases h),fun hn=> ?_⟩,fun x hx=>hwf x (List.mem_of_mem_take hx)⟩
  obtain ⟨b,off,rfl,hc2⟩:=ints_at hcell qO
  have h0:=hc2 0 qO
  refine ⟨b,off,rfl,World.block_lt_of_cell? _ _ h0,fun j x hx=> ?_⟩
  have hj:j<zs.length:=by
   have:=(List.getElem?_eq_some_iff.1 hx).1
   rw [List.length_take] at this
   omega
  rw [hc2 j hj]
  rw [List.getElem?_take] at hx
  split at hx
  ·rw [List.getD,hx];rfl
  ·cases hx
end
end Go.Proofs.YtpmhjieibebclaaGreatDoor
