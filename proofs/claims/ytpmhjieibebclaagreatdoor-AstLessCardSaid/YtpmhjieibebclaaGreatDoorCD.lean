/- tallageref03: cut, halves, limbs, less, times, take, often, parts: what each call answers. -/
import Derived.Test.YtpmhjieibebclaaGreatDoorCB
import Derived.Test.YtpmhjieibebclaaGreatDoorCA
import Derived.StillTailTactics
import Derived.Laws.IdiomStrings
import Derived.Orders
import Derived.Tactics
import Derived.WalkKit
set_option maxHeartbeats 2000000
set_option maxRecDepth 20000
set_option linter.unusedSimpArgs false
set_option linter.unusedVariables false
namespace Go.Proofs.YtpmhjieibebclaaGreatDoor
open Go Go.RowKit
variable {w w0 w1:World} {n c B s i r m c2 j:Nat} {A A2:Option Addr} {xs ys X:List Int} {o:Oper} {P:Program} {u0 u1 v0 v1:Value} {x y:Int} {a:Act} {u:Bool}
theorem lD(hs:Sl .i64 w B A n c xs):
 Calls Tryz.prog 173 #[.slice A n c] w fun e w'=>Jb w B A c xs e∧w=w':=by
 have hm:=hs.lenMax
 have hnc:=hs.le
 go_enter Tryz.func173,Tryz.ntmps173
 go_wp2
 go_loop [0] (fun l=>∃ k:Nat,k≤n∧l= .slice A k c∧fI xs k) (fun l=>match l with| .slice _ k _=>k|_=>0)
 case atStart=>exact ⟨n,by omega,rfl, .start hs.len⟩
 case round=>
  obtain ⟨k,hk,rfl,ht⟩:=hrel
  by_cases h0:k=0
  ·subst h0
   have hz:=Lib.hid ht.zero
   go_wp2
   go_ret
   refine ⟨⟨0,rfl,?_⟩,rfl⟩
   rw [hz.out]
   have:=hs.front (m:=0) qO
   simpa using this
  ·obtain ⟨j,rfl⟩:∃ j,k=j+1:=⟨k - 1,by omega⟩
   obtain ⟨b,off,x,rfl,_,hx,hcell⟩:=hs.at_ (j:=j) qO
   by_cases hx0:x=0
   ·subst hx0
    go_wp2
    go_round
    case rel=>exact ⟨j,by omega,rfl,ht.down hx⟩
    case measure=>simp
   ·have hb:(x==0)=false:=beq_eq_false_iff_ne.2 hx0
    have hstop:=Lib.hid (ht.stop hx hx0)
    go_wp2
    go_ret
    refine ⟨⟨j+1,rfl,?_⟩,rfl⟩
    rw [hstop.out]
    exact hs.front qO
theorem f8(hs:Sl .u32 w B A n c xs) (hB:B≤w.heap.size) (hx:Dg 4294967296 xs) (hn:n≤1000000000):
 Calls Tryz.prog 153 #[.slice A n c] w (DK w (val 4294967296 xs)):=by
 go_enter Tryz.func153,Tryz.ntmps153
 go_wp2
 go_loopw [3,4] (fun ov iv wr=>∃ (i m c2:Nat) (A2:Option Addr),i≤n∧iv= .int .i64 i∧ov= .slice A2 m c2∧bH .i64 3 wr w.heap.size A2 m c2 (hv (xs.take i))∧Below w.heap.size w wr) (fun _ iv _=>n - (intOf iv).toNat)
 case atStart=>exact ⟨0,0,0,none,Nat.zero_le _,rfl,rfl,bH.nil,Below.refl _ _⟩
 case round=>
  obtain ⟨i,m,c2,A2,hi,rfl,rfl,ho,hb⟩:=hrel
  have hol:=ho.len
  rw [C7,List.length_take] at hol
  by_cases hlt:i<n
  ·obtain ⟨b,off,x,rfl,_,ex,hcell⟩:=(hs.below hb hB).at_ hlt
   have hxx:=hx.get ex
   have hin:(i:Int)<(n:Int):=qO
   have hbB:b<w.heap.size:=qO
   have hi1:0≤(i:Int):=Int.natCast_nonneg _
   go_wp2
   go_region_held3 (fun w'=>w'.cell? ⟨b,off+i,none⟩=some (.int .u32 x))
    (first|go_keep|(rw [hg.cell_far _ qN (by intro h;have:=(ho.blk_ b h.symm).1;omega)];assumption))
    ((refine v_ kJ (by rfl) _ _ (by rfl) (ho.alloc _).drew1 (by rfl) (Sl.new2 .i64 _ _ _ _).drew1 (by rfl) qO qR qN ?_;intro A3 c3 w3 h3 hg))
   rw [yd hxx,yp hxx,←xP,←aH ex] at h3
   have hb3:Below w.heap.size w w3:=((hb.alloc hb.size _).drew).grown hg qN (fun k hk=>(ho.blk_ k hk).1)
   clear hg ho hb hbB hi1
   go_wp2
   go_roundw
   case rel=>exact ⟨i+1,_,_,_,by omega,by go_num,rfl,h3,hb3⟩
   case measure=>simp [intOf]<;>omega
  ·obtain rfl:n=i:=qO
   have hN:=Lib.hid (show val 65536 (tl (hv (xs.take n)))=val 4294967296 xs by rw [bw,CV,List.take_of_length_le (by rw [hs.len];omega)])
   have hD:=FR (hx.take n)
   go_wp2_with fail
   refine (lD ho.sl).mono ?_
   rintro e w' ⟨⟨n',rfl,hs'⟩,rfl⟩
   go_wp2
   go_ret
   refine ⟨_,A2,n',c2,⟨cH hD,cd _,hN.out⟩,rfl,ho.cutR hs',hb⟩
theorem tu:∀ (l:List Int) (j:Nat),l.length=2*j→(pr l).length=j
 |[],j,h=>by simp at h;simp [pr];omega
 |[x],j,h=>by simp at h;omega
 |x::y::r,j,h=>by
  have:=tu r (j - 1) (by simp at h;omega)
  simp at h
  simp [pr,this];omega
def zx (X:List Int) (i h:Nat):List Int:=pr (X.take i)++List.replicate (h - (i+1) / 2) 0
theorem Aw (X:List Int) (h:Nat):zx X 0 h=List.replicate h 0:=by simp [zx,pr]
theorem vg:zx X X.length ((X.length+1) / 2)=pr X:=by simp [zx]
theorem xL{A R:List Int} (h:A.length=j):(A++y::R)[j]? =some y∧(A++y::R).set j x=A++x::R:=by
 subst h
 constructor
 ·simp
 ·rw [List.set_append_right _ _ (Nat.le_refl _)];simp
theorem Bf(hx:X[2*j]? =some x):(zx X (2*j) ((X.length+1) / 2))[j]? =some 0∧(zx X (2*j) ((X.length+1) / 2)).set j x=zx X (2*j+1) ((X.length+1) / 2):=by
 have hl:=bT hx
 have hl2:(X.take (2*j)).length=2*j:=by rw [List.length_take];omega
 have e:(X.length+1) / 2 - (2*j+1) / 2=((X.length+1) / 2 - (2*j+1+1) / 2)+1:=qO
 unfold zx
 rw [e,List.replicate_succ,aH hx,iL _ _ j hl2,show pr [x]=[x] from rfl,List.append_assoc]
 exact xL (tu _ j hl2)
theorem Fp(hx:X[2*j]? =some x) (hy:X[2*j+1]? =some y):
 (zx X (2*j+1) ((X.length+1) / 2))[j]? =some x∧(zx X (2*j+1) ((X.length+1) / 2)).set j (x+65536*y)=zx X (2*j+2) ((X.length+1) / 2):=by
 have hl:=bT hy
 have hl2:(X.take (2*j)).length=2*j:=by rw [List.length_take];omega
 have e:(X.length+1) / 2 - (2*j+1+1) / 2=(X.length+1) / 2 - (2*j+2+1) / 2:=qO
 unfold zx
 rw [show 2*j+2=2*j+1+1 from rfl] at e ⊢
 rw [aH hy,aH hx,List.append_assoc,iL _ _ j hl2,iL _ _ j hl2,show pr [x]=[x] from rfl,show pr ([x]++[y])=[x+65536*y] from rfl,List.append_assoc,List.append_assoc,e]
 exact xL (tu _ j hl2)
def JJ (w:World) (N:Int) (L:Nat) (e:Ending) (w':World):Prop:=
 ∃ ys A n c,Dg 4294967296 ys∧val 4294967296 ys=N∧n≤L∧e= .returned (.slice A n c)∧bH .u32 115 w' w.heap.size A n c ys∧Below w.heap.size w w'
def Hf (a b:Int):Bool:=decide (a<b)
theorem qw {a b:Int} (h:a<b):Hf a b=true:=decide_eq_true h
theorem lL {a b:Int} (h:¬ a<b):Hf a b=false:=decide_eq_false h
theorem yS(hs:Sl .i64 w B A n c xs) (ht:Sl .i64 w B A2 m c2 ys) (hx:Dg 65536 xs) (hy:Dg 65536 ys) (tx:Tr xs) (ty:Tr ys):
 Calls Tryz.prog 191 #[.slice A n c, .slice A2 m c2] w fun e w'=>e= .returned (.bool (Hf (val 65536 xs) (val 65536 ys)))∧∃ k,w'=w.drewN k:=by
 have hxl:=hs.len
 have hyl:=ht.len
 have hm1:=hs.lenMax
 have hm2:=ht.lenMax
 rcases Nat.lt_trichotomy n m with hnm|hnm|hnm
 ·have hv:=qw (dj (β:=65536) qD hx hy ty qO)
  rw [hv]
  clear hv
  go_enter Tryz.func191,Tryz.ntmps191
  go_wp2_with fail
  go_ret
  exact ⟨rfl,0,rfl⟩
 ·subst hnm
  have HL:=Lib.hid (show ∀ k,gP xs ys k→k=0→Hf (val 65536 xs) (val 65536 ys)=false from fun k h e=>by subst e;exact lL (by rw [h.eq (β:=65536)];omega))
  have HS:=Lib.hid (show ∀ j x y,gP xs ys (j+1)→xs[j]? =some x→ys[j]? =some y→(x<y→Hf (val 65536 xs) (val 65536 ys)=true)∧(y<x→Hf (val 65536 xs) (val 65536 ys)=false)∧(x=y→gP xs ys j) from fun j x y h ex ey=>by
   refine ⟨fun hlt=>qw (h.lt qD hx hy (by rw [ex,ey];exact hlt)),fun hlt=>lL ?_,fun e i hi=> ?_⟩
   ·have:=gP.lt (β:=65536) qD hy hx (fun i hi=>(h i hi).symm) (show ys[j]?.getD 0<xs[j]?.getD 0 by rw [ex,ey];exact hlt)
    omega
   ·rcases Nat.eq_or_lt_of_le hi with h'|h'
    ·subst h';rw [ex,ey,e]
    ·exact h i h')
  generalize Hf (val 65536 xs) (val 65536 ys)=res at*
  clear hx hy tx ty
  go_enter Tryz.func191,Tryz.ntmps191
  go_wp2_with fail
  go_loopw [5] (fun iv wr=>∃ k:Nat,k≤n∧iv= .int .i64 ((k:Int) - 1)∧gP xs ys k∧∃ q,wr=w.drewN q) (fun iv _=>(intOf iv+1).toNat)
  case atStart=>exact ⟨n,Nat.le_refl _,rfl,fun i hi=>by rw [List.getElem?_eq_none qO,List.getElem?_eq_none qO],0,rfl⟩
  case round=>
   obtain ⟨k,hk,rfl,hal,q,rfl⟩:=hrel
   by_cases h0:k=0
   ·subst h0
    have hr:=Lib.hid (HL.out _ hal rfl)
    go_wp2_with fail
    go_ret
    exact ⟨by rw [hr.out];rfl,q,rfl⟩
   ·obtain ⟨j,rfl⟩:∃ j,k=j+1:=⟨k - 1,by omega⟩
    obtain ⟨b1,off1,x,rfl,_,ex,hc1⟩:=hs.at_ (j:=j) qO
    obtain ⟨b2,off2,y,rfl,_,ey,hc2⟩:=ht.at_ (j:=j) qO
    have HJ:=Lib.hid (HS.out j x y hal ex ey)
    have hji:(j:Int)<(n:Int):=qO
    clear hal HS HL
    by_cases hxy:x=y
    ·subst hxy
     go_wp2
     go_quiet (fail)
     go_wp2
     go_roundw
     case rel=>exact ⟨j,by omega,by simp,by first|exact HJ.out.2.2 rfl|exact HJ.out.2.2 trivial,_,rfl⟩
     case measure=>simp [intOf]
    ·have hb:(x != y)=true:=by rw [bne_iff_ne];exact hxy
     have hres:=Lib.hid (show decide (x<y)=res by
      rcases Int.lt_trichotomy x y with h|h|h
      ·rw [HJ.out.1 h,decide_eq_true h]
      ·exact absurd h hxy
      ·rw [HJ.out.2.1 h,decide_eq_false qO])
     go_wp2
     go_quiet (fail)
     go_wp2
     go_quiet (fail)
     go_wp2
     go_ret
     exact ⟨congrArg (fun b=>Ending.returned (.bool b)) hres.out,_,by simp only [World.drewN_drewN];rfl⟩
 ·have hv:=lL (a:=val 65536 xs) (b:=val 65536 ys) (by have:=dj (β:=65536) (by decide) hy hx tx (by omega);omega)
  rw [hv]
  have hd:decide (n<m)=false:=decide_eq_false qO
  have hb:((n:Int) != (m:Int))=true:=by rw [bne_iff_ne];omega
  clear hv
  go_enter Tryz.func191,Tryz.ntmps191
  go_wp2_with fail
  go_ret
  exact ⟨rfl,0,rfl⟩
def Gb (X Y P S:List Int) (i:Nat) (x:Int) (k:Nat) (cr:Int):Prop:=
 (0≤cr∧cr<65536)∧((k≤Y.length∧s9 65536 1 x P Y S i k cr)∨(k=Y.length+1∧cr=0∧mI 65536 X Y S (i+1)))
theorem Mk.at_row{k:IntKind} {e:TypeId} {wr:World} {g:Nat} (h:Mk k e w (some ⟨g,0,none⟩) n c xs wr) (hi:i<n):∃ x,xs[i]? =some x∧wr.cell? ⟨g,i,none⟩=some (.int k x)∧wr.frozen? ⟨g,i,none⟩=false∧
 ∀ y,Mk k e w (some ⟨g,0,none⟩) n c (xs.set i y) (wr.setCell ⟨g,i,none⟩ (.int k y)):=by
 obtain ⟨g',x,hA,_,hx,hc,hf,hp⟩:=h.set hi
 injection hA with hA
 injection hA with hA
 subst hA
 exact ⟨x,hx,hc,hf,hp⟩
theorem p4(hs:Sl .i64 w B A n c xs) (ht:Sl .i64 w B A2 m c2 ys) (hB:B≤w.heap.size) (hx:Dg 65536 xs) (hy:Dg 65536 ys) (hn:n≤100000000) (hm:m≤100000000):
 Calls Tryz.prog 160 #[.slice A n c, .slice A2 m c2] w (DK w (val 65536 xs*val 65536 ys)):=by
 have hxl:=hs.len
 have hyl:=ht.len
 have hnc:=hs.le
 have hmc:=ht.le
 go_enter Tryz.func160,Tryz.ntmps160
 go_wp2_with (at_make;refine eJ kJ rfl _ _ rfl (B:=w.heap.size) (n+m+1) rfl (by first|rfl|simp) qO qO qO qR (Nat.le_refl _) ?_;intro w3 h3 hg3)
 have hmk:=Mk.made h3 hg3
 clear h3 hg3
 go_loopw [6] (fun iv wr=>∃ (i:Nat) (P:List Int),i≤n∧iv= .int .i64 i∧Mk .i64 3 w (some ⟨w.heap.size,0,none⟩) (n+m+1) (n+m+1) P wr∧mI 65536 xs ys P i) (fun iv _=>n - (intOf iv).toNat)
 case atStart=>exact ⟨0,_,Nat.zero_le _,rfl,hmk,by have:=mI.start (β:=65536) qD xs ys;rw [hxl,hyl] at this;exact this⟩
 case round=>
  obtain ⟨i,P,hi,rfl,hmr,hp⟩:=hrel
  clear hmk
  have hsz:=hmr.2.size
  by_cases hlt:i<n
  ·obtain ⟨b1,off1,x,rfl,hb1,ex,hcx⟩:=hs.at_ hlt
   have hxx:=hx.get ex
   have HP:=Lib.hid hp
   have dP:=hp.dg
   have hmr0:=Lib.hid hmr
   clear hp hmr
   go_wp2_with fail
   go_loopw [7,8] (fun cv kv wr'=>∃ (k:Nat) (cr:Int) (S:List Int),kv= .int .i64 k∧cv= .int .i64 cr∧k≤m+1∧Mk .i64 3 w (some ⟨w.heap.size,0,none⟩) (n+m+1) (n+m+1) S wr'∧Gb xs ys P S i x k cr) (fun _ kv _=>m+1 - (intOf kv).toNat)
   case atStart=>exact ⟨0,0,P,rfl,rfl,by omega,hmr0.out,by omega, .inl ⟨Nat.zero_le _, .start dP⟩⟩
   case round=>
    obtain ⟨k,cr,S,rfl,rfl,hk,hmk,hcr,hj⟩:=hrel
    clear hmr0
    have hcx':=(hmk.other hs hB)
    obtain ⟨b1',off1',x',hA,hb1',ex',hcx2⟩:=hcx'.at_ hlt
    injection hA with hA
    injection hA with q1 q2
    subst q1;subst q2
    rw [ex] at ex'
    obtain rfl:x=x':=by injection ex'
    clear hcx' ex'
    rcases hj with ⟨hkm,hmac⟩|⟨hkm,rfl,hdone⟩
    ·obtain ⟨s,es,hcs,hfs,hput⟩:=hmk.at_row (i:=i+k) qO
     have hss:=hmac.dg.get es
     by_cases hlk:k<m
     ·obtain ⟨b2,off2,y,rfl,hb2,ey,hcy⟩:=(hmk.other ht hB).at_ hlk
      have hyy:=hy.get ey
      obtain ⟨d1,d2,d3,d4,d5⟩:=Ay hxx hyy hss hcr
      have hw1:IntKind.i64.wrap (x*y)=x*y:=by rw [IntKind.wrap_i64];omega
      have hw2:IntKind.i64.wrap (s+cr+x*y)=s+cr+x*y:=by rw [IntKind.wrap_i64];omega
      have hstep:=Lib.hid (hmac.step es ey d3 d5)
      have HN:=Lib.hid (hput ((s+cr+x*y)%65536))
      have hin:(i:Int)<(n:Int):=qO
      have hkn:(k:Int)<(m:Int):=qO
      clear hput hmac hmk d5 es ey hs ht
      go_wp2_with fail
      go_quiet (fail)
      go_wp2_with fail
      go_roundw
      case rel=>exact ⟨k+1,_,_,by go_num,rfl,by omega,HN.out.drew _,d4, .inl ⟨by omega,hstep.out⟩⟩
      case measure=>simp [intOf]<;>omega
     ·obtain rfl:k=m:=qO
      have hxi:=ex
      rw [←hyl] at hmac
      by_cases hc0:cr=0
      ·subst hc0
       have HJ:=Lib.hid (HP.out.keep ex hmac qD)
       have HM:=Lib.hid hmk
       clear hput hmac hmk es ex hs ht
       go_wp2_with fail
       go_roundw
       case rel=>exact ⟨i+1,_,by omega,by go_num,HM.out,HJ.out⟩
       case measure=>simp [intOf]<;>omega
      ·have hz:=HP.out.next ex hmac
       rw [hyl,es] at hz
       obtain rfl:s=0:=by injection hz
       have hst:=HP.out.step ex hmac hcr
       rw [hyl] at hst
       have HJ:=Lib.hid hst
       have HN:=Lib.hid (hput cr)
       have hcp:0<cr:=qO
       have hw1:cr.tmod 65536=cr:=by rw [Int.tmod_eq_emod_of_nonneg qO];omega
       have hw2:cr.tdiv 65536=0:=by rw [Int.tdiv_eq_ediv_of_nonneg qO];omega
       have hw3:cr%65536=cr:=qO
       have hw4:cr / 65536=0:=qO
       clear hput hmac hmk es ex hs ht hst hz hc0
       go_wp2_with fail
       go_roundw
       case rel=>exact ⟨k+1,0,_,by go_num,rfl,by omega,HN.out,by omega, .inr ⟨by omega,rfl,HJ.out⟩⟩
       case measure=>simp [intOf]<;>omega
    ·rw [hyl] at hkm
     subst hkm
     have HJ:=Lib.hid hdone
     have HM:=Lib.hid hmk
     clear hdone hmk hs ht ex
     go_wp2_with fail
     go_roundw
     case rel=>exact ⟨i+1,_,by omega,by go_num,HM.out,HJ.out⟩
     case measure=>simp [intOf]<;>omega
  ·obtain rfl:n=i:=qO
   rw [←hxl] at hp
   have HR:=Lib.hid (show fZ 65536 (val 65536 xs*val 65536 ys) (tl P) from ⟨cH hp.dg,cd _,by rw [bw,hp.done]⟩)
   clear hp
   go_wp2_with fail
   refine (lD hmr.1.sl).mono ?_
   rintro e w' ⟨⟨n',rfl,hs'⟩,rfl⟩
   go_wp2_with fail
   go_ret
   exact ⟨_,_,n',_,HR.out,rfl,hmr.1.cutR hs',hmr.2⟩
theorem xp(hs:Sl .i64 w B A n c xs) (ht:Sl .i64 w B A2 m c2 ys) (hB:B≤w.heap.size) (hx:Dg 65536 xs) (hy:Dg 65536 ys) (tx:Tr xs) (hV:val 65536 xs<65536*val 65536 ys) (hm:m≤10000000):
 Calls Tryz.prog 174 #[.slice A n c, .slice A2 m c2] w fun e w'=>e= .returned (.int .i64 (val 65536 xs / val 65536 ys))∧Below w.heap.size w w':=by
 have h0:=am (β:=65536) qD hx
 have HS:=Lib.hid (i9.start h0 hV)
 clear hV h0
 go_enter Tryz.func174,Tryz.ntmps174
 go_wp2_with fail
 go_loopw [5,6] (fun lv hv wr=>∃ lo hi:Int,lv= .int .i64 lo∧hv= .int .i64 hi∧i9 (val 65536 xs) (val 65536 ys) lo hi∧Below w.heap.size w wr) (fun lv hv _=>(intOf hv - intOf lv).toNat)
 case atStart=>exact ⟨0,65536,rfl,rfl,HS.out,Below.refl _ _⟩
 case round=>
  obtain ⟨lo,hi,rfl,rfl,hh,hb⟩:=hrel
  have l0:=hh.lo0
  have l1:=hh.lt
  have l2:=hh.hi0
  by_cases hgt:1<hi - lo
  ·have hmid:=hh.mid hgt
   obtain ⟨mid,hmd⟩:∃ mid,mid=(lo+hi) / 2:=⟨_,rfl⟩
   have hq:(lo+hi).tdiv 2=mid:=by rw [Int.tdiv_eq_ediv_of_nonneg qO,hmd]
   have hdn:=fun h=>hh.down hgt h
   have hup:=fun h=>hh.up hgt h
   rw [←hmd] at hdn hup hmid
   have DN:=Lib.hid hdn
   have UP:=Lib.hid hup
   have hmr:0≤mid∧mid<65536:=qO
   have hdm:Dg 65536 [mid]:=Dg.cons hmr Dg.nil
   have hvm:val 65536 [mid]=mid:=by simp [val]
   have HVM:=Lib.hid hvm
   clear hmd hdn hup hh hvm HS
   go_wp2_with fail
   refine (p4 ((ht.below hb hB).alloc (Nat.le_trans hB hb.size) _ |>.more (show B≤wr.heap.size+1 by have:=hb.size;omega)) (Sl.new1 .i64 _ _ _) (by rw [ak];exact Nat.le_refl _) hy hdm qO qO).mono ?_
   rintro e w1 ⟨us,A1,n1,c1,hu,rfl,ho1,hb1⟩
   rw [HVM.out] at hu
   have hb2:Below w.heap.size w w1:=hb.trans ((((Below.refl _ _).alloc (Nat.le_refl _) _).trans (hb1.mono qA)).mono hb.size)
   have s1:=ho1.sl
   have HD:=hu.dg
   have HT:=hu.tr
   have HU:=Lib.hid hu.val
   have hlessc:=yS ((hs.below hb2 hB).more (Nat.le_trans hB hb2.size)) s1 hx HD tx HT
   rw [HU.out] at hlessc
   clear hu ho1 hb1 s1
   by_cases hlt:val 65536 xs<val 65536 ys*mid
   ·have hd:=qw hlt
    rw [hd] at hlessc
    have HL:=Lib.hid hlessc
    have H1:=Lib.hid (DN.out hlt)
    have H2:=Lib.hid hb2
    clear hlessc hd DN UP hlt hb2 hb
    go_wp2_with fail
    refine HL.out.mono ?_
    rintro e w2 ⟨rfl,q,rfl⟩
    go_wp2_with fail
    go_roundw
    case rel=>exact ⟨lo,mid,rfl,rfl,H1.out,Below.drewN' H2.out _⟩
    case measure=>simp [intOf]<;>omega
   ·have hd:=lL hlt
    rw [hd] at hlessc
    have HL:=Lib.hid hlessc
    have H1:=Lib.hid (UP.out qO)
    have H2:=Lib.hid hb2
    clear hlessc hd DN UP hlt hb2 hb
    go_wp2_with fail
    refine HL.out.mono ?_
    rintro e w2 ⟨rfl,q,rfl⟩
    go_wp2_with fail
    go_roundw
    case rel=>exact ⟨mid,hi,rfl,rfl,H1.out,Below.drewN' H2.out _⟩
    case measure=>simp [intOf]<;>omega
  ·have HF:=Lib.hid (hh.done hgt).1
   clear hh HS
   go_wp2_with fail
   go_ret
   exact ⟨by rw [HF.out];rfl,hb⟩
theorem z7{q:Int} (hs:Sl .i64 w B A n c xs) (ht:Sl .i64 w B A2 m c2 ys) (hB:B≤w.heap.size) (hx:Dg 65536 xs) (hy:Dg 65536 ys) (ty:Tr ys) (hq:0≤q∧q<65536) (hle:q*val 65536 ys≤val 65536 xs) (hn:n≤1000000000):
 Calls Tryz.prog 175 #[.slice A n c, .slice A2 m c2, .int .i64 q] w (DK w (val 65536 xs - q*val 65536 ys)):=by
 have hxl:=hs.len
 have hyl:=ht.len
 have hnc:=hs.le
 have hmc:=ht.lenMax
 have HF:=Lib.hid (vI qD hx hy hq.1 hle)
 have HW:=Lib.hid (wJ qD hx hy ty hq.1 hle)
 clear hle
 go_enter Tryz.func175,Tryz.ntmps175
 go_wp2_with fail
 go_loopw [7,8,9] (fun ov bv iv wr=>∃ (i c3:Nat) (b:Int) (A3:Option Addr) (O:List Int),iv= .int .i64 i∧bv= .int .i64 b∧ov= .slice A3 i c3∧(0≤b∧b<65536)∧i≤n∧bH .i64 3 wr w.heap.size A3 i c3 O∧Below w.heap.size w wr∧
  Acc 65536 (val 65536 (xs.take i) - q*val 65536 (ys.take i)) O i (-b)) (fun _ _ iv _=>n - (intOf iv).toNat)
 case atStart=>exact ⟨0,0,0,none,[],rfl,rfl,rfl,by omega,by omega,bH.nil,Below.refl _ _,by simpa [val] using Acc.start (β:=65536)⟩
 case round=>
  obtain ⟨i,c3,b,A3,O,rfl,rfl,rfl,hb,hi,ho,hbl,hacc⟩:=hrel
  by_cases hlt:i<n
  ·obtain ⟨b1,off1,x,rfl,_,ex,hcx⟩:=(hs.below hbl hB).at_ hlt
   have hxx:=hx.get ex
   have hyy:=pG qD hy i
   have hnext:∀ d b':Int,(0≤d∧d<65536)→d+65536* -b'=(x - q*ys[i]?.getD 0)+ -b→Acc 65536 (val 65536 (xs.take (i+1)) - q*val 65536 (ys.take (i+1))) (O++[d]) (i+1) (-b'):=by
    intro d b' hd e
    have:=hacc.step hd e
    rw [zp,ex,Option.getD_some]
    exact this
   obtain ⟨y,hyd⟩:∃ y,y=ys[i]?.getD 0:=⟨_,rfl⟩
   rw [←hyd] at hnext hyy
   obtain ⟨t0,t1,t2,t3⟩:=zn (x:=x - b - q*y) hxx hb hq hyy rfl
   have hw1:IntKind.i64.wrap (q*y)=q*y:=by rw [IntKind.wrap_i64];omega
   have HX:=Lib.hid hnext
   have HO:=Lib.hid ho
   have HB:=Lib.hid hbl
   by_cases hlk:i<m
   ·obtain ⟨b2,off2,y',rfl,_,ey,hcy⟩:=(ht.below hbl hB).at_ hlk
    rw [ey,Option.getD_some] at hyd
    subst hyd
    by_cases hneg:x - b - q*y<0
    ·obtain ⟨u1,u2,u3⟩:=t2 hneg
     have HN:=Lib.hid (HX.out _ _ u2 u3)
     have hw2:(65535 - (x - b - q*y)).tdiv 65536=(65535 - (x - b - q*y)) / 65536:=by rw [Int.tdiv_eq_ediv_of_nonneg qO]
     clear hnext hacc t2 t3 u3 hs ht ho hbl
     go_wp2_with (at_builtin;refine dN kJ rfl _ _ rfl (HO.out.alloc _) rfl (Sl.new1 .i64 _ _ _) rfl qO qR (by have:=HB.out.size;simp;omega) ?_;intro A5 c5 w5 h5 hg)
     have hb5:Below w.heap.size w w5:=(HB.out.alloc HB.out.size _).grown hg (by have:=HB.out.size;simp;omega) (fun k hk=>(HO.out.blk_ k hk).1)
     clear hg
     go_wp2_with fail
     go_roundw
     case rel=>exact ⟨i+1,c5,_,A5,_,by go_num,rfl,rfl,u1,by omega,h5,hb5,HN.out⟩
     case measure=>simp [intOf]<;>omega
    ·have h0:0≤x - b - q*y:=qO
     have HN:=Lib.hid (HX.out _ 0 qO (t3 h0))
     clear hnext hacc t2 t3 hs ht ho hbl hneg
     go_wp2_with (at_builtin;refine dN kJ rfl _ _ rfl (HO.out.alloc _) rfl (Sl.new1 .i64 _ _ _) rfl qO qR (by have:=HB.out.size;simp;omega) ?_;intro A5 c5 w5 h5 hg)
     have hb5:Below w.heap.size w w5:=(HB.out.alloc HB.out.size _).grown hg (by have:=HB.out.size;simp;omega) (fun k hk=>(HO.out.blk_ k hk).1)
     clear hg
     go_wp2_with fail
     go_roundw
     case rel=>exact ⟨i+1,c5,_,A5,_,by go_num,rfl,rfl,by omega,by omega,h5,hb5,HN.out⟩
     case measure=>simp [intOf]<;>omega
   ·have hz:y=0:=by rw [hyd,List.getElem?_eq_none qO];rfl
    subst hz
    rw [Int.mul_zero,Int.sub_zero] at t2 t3 t1
    rw [Int.mul_zero] at hnext
    by_cases hneg:x - b<0
    ·obtain ⟨u1,u2,u3⟩:=t2 hneg
     have HN:=Lib.hid (hnext _ _ u2 u3)
     have hw2:(65535 - (x - b)).tdiv 65536=(65535 - (x - b)) / 65536:=by rw [Int.tdiv_eq_ediv_of_nonneg qO]
     clear hnext hacc t2 t3 u3 hs ht ho hbl HX hyd t0 hw1
     go_wp2_with (at_builtin;refine dN kJ rfl _ _ rfl (HO.out.alloc _) rfl (Sl.new1 .i64 _ _ _) rfl qO qR (by have:=HB.out.size;simp;omega) ?_;intro A5 c5 w5 h5 hg)
     have hb5:Below w.heap.size w w5:=(HB.out.alloc HB.out.size _).grown hg (by have:=HB.out.size;simp;omega) (fun k hk=>(HO.out.blk_ k hk).1)
     clear hg
     go_wp2_with fail
     go_roundw
     case rel=>exact ⟨i+1,c5,_,A5,_,by go_num,rfl,rfl,u1,by omega,h5,hb5,HN.out⟩
     case measure=>simp [intOf]<;>omega
    ·have h0:0≤x - b:=qO
     have HN:=Lib.hid (hnext _ 0 qO (t3 h0))
     clear hnext hacc t2 t3 hs ht ho hbl hneg HX hyd t0 hw1
     go_wp2_with (at_builtin;refine dN kJ rfl _ _ rfl (HO.out.alloc _) rfl (Sl.new1 .i64 _ _ _) rfl qO qR (by have:=HB.out.size;simp;omega) ?_;intro A5 c5 w5 h5 hg)
     have hb5:Below w.heap.size w w5:=(HB.out.alloc HB.out.size _).grown hg (by have:=HB.out.size;simp;omega) (fun k hk=>(HO.out.blk_ k hk).1)
     clear hg
     go_wp2_with fail
     go_roundw
     case rel=>exact ⟨i+1,c5,_,A5,_,by go_num,rfl,rfl,by omega,by omega,h5,hb5,HN.out⟩
     case measure=>simp [intOf]<;>omega
  ·obtain rfl:n=i:=qO
   have hv:=hacc
   have h1:val 65536 O=val 65536 xs - q*val 65536 ys:=by
    rw [List.take_of_length_le (l:=xs) qO] at hacc
    have e:=HW.out
    have f:=HF.out
    rw [hxl] at e f
    rw [e] at f hacc
    exact hacc.down qD hb.1 f
   have HR:=Lib.hid (show fZ 65536 (val 65536 xs - q*val 65536 ys) (tl O) from ⟨cH hacc.dg,cd _,by rw [bw,h1]⟩)
   clear hacc hv h1 HF HW
   go_wp2_with fail
   refine (lD ho.sl).mono ?_
   rintro e w' ⟨⟨n',rfl,hs'⟩,rfl⟩
   go_wp2_with fail
   go_ret
   exact ⟨_,_,n',_,HR.out,rfl,ho.cutR hs',hbl⟩
def Iw (w:World) (U V:Int) (e:Ending) (w':World):Prop:=
 ∃ qs rs A n c A2 m c2,fZ 65536 (U / V) qs∧fZ 65536 (U%V) rs∧e= .returned (.tuple #[.slice A n c, .slice A2 m c2])∧bH .i64 3 w' w.heap.size A n c qs∧bH .i64 3 w' w.heap.size A2 m c2 rs∧Below w.heap.size w w'
theorem pT(hs:Sl .i64 w B A n c xs) (ht:Sl .i64 w B A2 m c2 ys) (hB:B≤w.heap.size) (hx:Dg 65536 xs) (hy:Dg 65536 ys) (ty:Tr ys) (hV:0<val 65536 ys) (hn:n≤10000000) (hm:m≤10000000):
 Calls Tryz.prog 154 #[.slice A n c, .slice A2 m c2] w (Iw w (val 65536 xs) (val 65536 ys)):=by
 have hxl:=hs.len
 have hyl:=ht.len
 have hnc:=hs.le
 have hmc:=ht.le
 go_enter Tryz.func154,Tryz.ntmps154
 go_wp2_with (at_make;refine eJ kJ rfl _ _ rfl (B:=w.heap.size) n rfl (by first|rfl|simp) qO qO qO qR (Nat.le_refl _) ?_;intro w3 h3 hg3)
 have hmk:=Mk.made h3 hg3
 clear h3 hg3
 go_loopw [7,8] (fun rv iv wr=>∃ (k r c3:Nat) (A3:Option Addr) (Q rs:List Int) (R:Int),k≤n∧iv= .int .i64 ((k:Int) - 1)∧rv= .slice A3 r c3∧Mk .i64 3 w (some ⟨w.heap.size,0,none⟩) n n Q wr∧bH .i64 3 wr (w.heap.size+1) A3 r c3 rs∧fZ 65536 R rs∧
  F8 65536 (val 65536 ys) xs Q k R) (fun _ iv _=>(intOf iv+1).toNat)
 case atStart=>exact ⟨n,0,0,none,_,[],0,Nat.le_refl _,rfl,rfl,hmk,bH.nil,⟨Dg.nil,Tr.nil,rfl⟩, .start hV (Dg.zeros qD _) qO qE⟩
 case round=>
  obtain ⟨k,r,c3,A3,Q,rs,R,hk,rfl,rfl,hmr,hro,hrr,hq⟩:=hrel
  clear hmk
  have hsz:=hmr.2.size
  by_cases h0:k=0
  ·subst h0
   have hnum:=hq.num
   have hrest:=hq.rest
   simp only [List.drop_zero] at hnum
   obtain ⟨e1,e2⟩:=pR (U:=val 65536 xs) (V:=val 65536 ys) (q:=val 65536 Q) (r:=R) (by rw [hnum,Int.mul_comm]) hrest.1 hrest.2
   have HQ:=Lib.hid (show fZ 65536 (val 65536 xs / val 65536 ys) (tl Q) from ⟨cH hq.dg,cd _,by rw [bw,e1]⟩)
   have HR:=Lib.hid (show fZ 65536 (val 65536 xs%val 65536 ys) rs from ⟨hrr.dg,hrr.tr,by rw [hrr.val,e2]⟩)
   clear hq hnum hrest e1 e2 hrr hs ht
   go_wp2_with fail
   refine (lD hmr.1.sl).mono ?_
   rintro e w' ⟨⟨n',rfl,hs'⟩,rfl⟩
   go_wp2_with fail
   go_ret2
   exact ⟨_,_,_,_,_,_,_,_,HQ.out,HR.out,rfl,hmr.1.cutR hs',hro.lower (Nat.le_succ _),hmr.2⟩
  ·obtain ⟨j,rfl⟩:∃ j,k=j+1:=⟨k - 1,by omega⟩
   obtain ⟨b1,off1,x,rfl,_,ex,hcx⟩:=(hmr.other hs hB).at_ (j:=j) qO
   have hxx:=hx.get ex
   have hrest:=hq.rest
   have hjn:(j:Int)<(n:Int):=qO
   have hrl:r≤m+1:=by
    have:=hrr.len_le (k:=m) qD (by have:=bQ (β:=65536) (by decide) hy;rw [hyl] at this;omega)
    have:=hro.len
    omega
   have hrol:=hro.len
   have hlow:w.heap.size+1≤wr.heap.size:=(hmr.1.blk_ _ rfl).2
   have hq0:0≤(R*65536+x) / val 65536 ys∧(R*65536+x) / val 65536 ys<65536:=by
    have:=ahead (β:=65536) (V:=val 65536 ys) hxx hrest
    refine ⟨Int.ediv_nonneg qO qO,Int.ediv_lt_of_lt_mul hV qO⟩
   have hfit:x+65536*R<65536*val 65536 ys:=(ahead hxx hrest).2
   have hval:val 65536 ([x]++rs)=x+65536*R:=by rw [List.singleton_append];simp only [val];rw [hrr.val]
   have hdg:Dg 65536 ([x]++rs):=Dg.cons hxx hrr.dg
   have hdiv:(x+65536*R) / val 65536 ys=(R*65536+x) / val 65536 ys:=by rw [show x+65536*R=R*65536+x by omega]
   have hrem:x+65536*R - (R*65536+x) / val 65536 ys*val 65536 ys=(R*65536+x)%val 65536 ys:=by
    have:=Int.mul_ediv_add_emod (R*65536+x) (val 65536 ys)
    rw [Int.mul_comm ((R*65536+x) / val 65536 ys)]
    omega
   have hle:(R*65536+x) / val 65536 ys*val 65536 ys≤x+65536*R:=by
    have:=Int.emod_nonneg (R*65536+x) (show val 65536 ys≠0 by omega)
    omega
   have hQl:Q.length=n:=hmr.1.len
   have HST:=Lib.hid (hq.step ex qO hq0)
   have HV:=Lib.hid hval
   have HD:=Lib.hid hdiv
   have HR:=Lib.hid hrem
   have HLE:=Lib.hid hle
   have HF:=Lib.hid hfit
   have HM:=Lib.hid hmr
   have HRO:=Lib.hid hro
   have HQ0:=Lib.hid hq0
   clear hq hval hdiv hrem hle hfit hmr hro hq0 hrr hs hrest ex hQl
   go_wp2_with (at_builtin;refine dN kJ rfl _ _ rfl (bH.lit .i64 3 wr hlow [x] 1 rfl qO) rfl (HRO.out.alloc _).sl rfl qO qR qA ?_;intro A5 c5 w5 h5 hg)
   have hlx:(some (⟨wr.heap.size,0,none⟩:Addr)).map (·.block)=some wr.heap.size:=rfl
   have hb5:Below wr.heap.size wr w5:=((Below.refl _ _).alloc (Nat.le_refl _) _).grown hg qA (fun k hk=>Nat.le_of_eq (show wr.heap.size=k by simpa [fh] using hk))
   refine (lD h5.sl).mono ?_
   rintro e w' ⟨⟨n6,rfl,hs6⟩,rfl⟩
   have ho6:=h5.cutR hs6
   have hl6:=hs6.len
   have hn6:n6≤r+1:=by
    have h1:=eP ([x]++rs)
    rw [hl6] at h1
    simp at h1
    omega
   have hr6:fZ 65536 (x+65536*R) (tl ([x]++rs)):=⟨cH hdg,cd _,by rw [bw,HV.out]⟩
   generalize tl ([x]++rs)=zs at hs6 ho6 hl6 hr6
   have HM5:=Lib.hid (HM.out.below hb5)
   have s6:=ho6.sl
   have ht5:=ht.below ((HM5.out).2) hB
   have hz5:=HM5.out.2.size
   have HO6:=Lib.hid ho6
   clear h5 hg hb5 hs6 HM HRO HV hdg hlx
   go_wp2_with fail
   refine (xp s6 (ht5.more (Nat.le_trans hB hz5)) (Nat.le_refl _) hr6.dg hy hr6.tr (by rw [hr6.val];exact HF.out) qO).mono ?_
   rintro e w7 ⟨rfl,hb7⟩
   rw [hr6.val,HD.out]
   have HM7:=Lib.hid (HM5.out.below hb7)
   have HO7:=Lib.hid (HO6.out.below hb7)
   obtain ⟨z,hz,hcz,hfz,hput⟩:=HM7.out.at_row (i:=j) qO
   obtain ⟨q,hqd⟩:∃ q,q=(R*65536+x) / val 65536 ys:=⟨_,rfl⟩
   rw [←hqd]
   have HM8:=Lib.hid (hput q)
   have HQD:=Lib.hid hqd
   have hg8:w7.grownBy (w7.setCell ⟨w.heap.size,j,none⟩ (.int .i64 q)) (some w.heap.size):=by
    obtain ⟨g,_,hA,_,_,_,_,_,hp⟩:=HM7.out.1.set (i:=j) qO
    injection hA with hA
    injection hA with hA
    subst hA
    exact (hp q).2
   have HO8:=Lib.hid (HO7.out.keep hg8 (by
    rcases HO7.out.form with ⟨hn,_⟩|⟨g,hg,h1,_⟩
    ·exact .inl (by rw [hn];rfl)
    ·exact .inr (by rw [hg];intro h;injection h with h;simp at h;omega)))
   have ht8:=ht.below HM8.out.2 hB
   have hc8:(w7.setCell ⟨w.heap.size,j,none⟩ (.int .i64 q)).cell? ⟨w.heap.size,j,none⟩=some (.int .i64 q):=by
    obtain ⟨z',hz',hc',_⟩:=HM8.out.at_row (i:=j) qO
    rw [List.getElem?_set_self (by have:=bT hz;omega)] at hz'
    injection hz' with hz'
    subst hz'
    exact hc'
   have hz8:=HM8.out.2.size
   have s8:=HO8.out.sl
   have HR6:=Lib.hid hr6
   clear hput hb7 hqd hz HM5 HO6 HM7 HO7 hg8 ht5 s6 hr6
   go_wp2_with fail
   refine (z7 s8 (ht8.more (Nat.le_trans hB hz8)) (Nat.le_refl _) HR6.out.dg hy ty (by rw [HQD.out];exact HQ0.out) (by rw [HR6.out.val,HQD.out];exact HLE.out) qO).mono ?_
   rintro e w9 ⟨us,A9,n9,c9,hu,rfl,ho9,hb9⟩
   rw [HR6.out.val,HQD.out,HR.out] at hu
   have HM9:=Lib.hid (HM8.out.below hb9)
   have ho9':=ho9.lower (show w.heap.size+1≤_ from (HM8.out.1.blk_ _ rfl).2)
   have HS:=Lib.hid (show F8 65536 (val 65536 ys) xs (Q.set j q) j ((R*65536+x)%val 65536 ys) by rw [HQD.out];exact HST.out)
   clear ho9 hb9 HM8 HO8 ht8 s8 HST HQD HR HD
   go_wp2_with fail
   go_roundw
   case rel=>exact ⟨j,n9,c9,A9,_,us,_,by omega,by simp,rfl,HM9.out,ho9',hu,HS.out⟩
   case measure=>simp [intOf]<;>omega
theorem kd(hs:Sl .i64 w B A n c xs) (hB:B≤w.heap.size) (hx:Dg 65536 xs) (hn:n≤1000000000):
 Calls Tryz.prog 155 #[.slice A n c] w (JJ w (val 65536 xs) n):=by
 have hl:=hs.len
 have HV:=Lib.hid (wV xs)
 go_enter Tryz.func155,Tryz.ntmps155
 go_wp2_with (at_make;refine eJ jL rfl _ _ rfl (B:=w.heap.size) ((n+1) / 2) rfl (by first|rfl|simp) qO qO qO qR (Nat.le_refl _) ?_;intro w3 h3 hg3)
 have hmk:=Mk.made h3 hg3
 clear h3 hg3
 go_loopw [4] (fun iv wr=>∃ (i:Nat) (P:List Int),i≤n∧iv= .int .i64 i∧P=zx xs i ((xs.length+1) / 2)∧Mk .u32 115 w (some ⟨w.heap.size,0,none⟩) ((n+1) / 2) ((n+1) / 2) P wr) (fun iv _=>n - (intOf iv).toNat)
 case atStart=>exact ⟨0,_,Nat.zero_le _,rfl,rfl,by rw [Aw,hl];exact hmk⟩
 case round=>
  obtain ⟨i,P,hi,rfl,hP,hmr⟩:=hrel
  clear hmk
  have hsz:=hmr.2.size
  by_cases hlt:i<n
  ·obtain ⟨j,hj⟩:∃ j,i=2*j∨i=2*j+1:=⟨i / 2,by omega⟩
   rcases hj with rfl|rfl
   ·obtain ⟨b,off,x,rfl,hbB,ex,hcell⟩:=(hmr.other hs hB).at_ hlt
    have hxx:=hx.get ex
    obtain ⟨hp0,hp1⟩:=Bf ex
    rw [←hP] at hp0 hp1
    obtain ⟨g,z,hA,hg,ez,hc0,hfr,hput⟩:=hmr.set (i:=j) qO
    injection hA with hA
    injection hA with hA
    subst hA
    have hq:((2*j:Nat):Int).tdiv 2=j:=by rw [Int.tdiv_eq_ediv_of_nonneg qO];omega
    have hm:(((2*j:Nat):Int).tmod 2==0)=true:=by rw [Int.tmod_eq_emod_of_nonneg qO];rw [beq_iff_eq];omega
    have hw0:IntKind.u32.wrap x=x:=by rw [IntKind.wrap_u32];omega
    have HN:=Lib.hid (hput x)
    have HP1:=Lib.hid hp1
    clear hput hp0 hp1 hP ez hmr
    go_wp2_with fail
    go_roundw
    case rel=>exact ⟨2*j+1,_,by omega,by go_num,HP1.out,HN.out⟩
    case measure=>simp [intOf]<;>omega
   ·obtain ⟨b,off,y,rfl,hbB,ey,hcell⟩:=(hmr.other hs hB).at_ hlt
    obtain ⟨x,ex⟩:=c_ (xs:=xs) (i:=2*j) qO
    have hxx:=hx.get ex
    have hyy:=hx.get ey
    obtain ⟨hp0,hp1⟩:=Fp ex ey
    rw [←hP] at hp0 hp1
    obtain ⟨g,z,hA,hg,ez,hc0,hfr,hput⟩:=hmr.set (i:=j) qO
    injection hA with hA
    injection hA with hA
    subst hA
    rw [hp0] at ez
    obtain rfl:x=z:=by injection ez
    have hq:((2*j+1:Nat):Int).tdiv 2=j:=by rw [Int.tdiv_eq_ediv_of_nonneg qO];omega
    have hm:(((2*j+1:Nat):Int).tmod 2==0)=false:=by rw [Int.tmod_eq_emod_of_nonneg qO];rw [beq_eq_false_iff_ne];omega
    have hw0:IntKind.u32.wrap y=y:=by rw [IntKind.wrap_u32];omega
    have hw1:IntKind.u32.wrap (65536*y)=65536*y:=by rw [IntKind.wrap_u32];omega
    have hw2:IntKind.u32.wrap (x+65536*y)=x+65536*y:=by rw [IntKind.wrap_u32];omega
    have hq1:IntKind.i64.wrap (j:Int)=j:=by rw [IntKind.wrap_i64];omega
    have hjz:(j:Int)<((n:Int)+1) / 2:=qO
    have hk1:2*(j:Int)+1<(n:Int):=qO
    have hk0:0≤2*(j:Int)+1:=qO
    have hk2:(2*(j:Int)+1).toNat=2*j+1:=qO
    have HN:=Lib.hid (hput (x+65536*y))
    have HP1:=Lib.hid hp1
    clear hput hp0 hp1 hP hmr
    go_wp2_with fail
    have hq':(2*(j:Int)+1).tdiv 2=j:=by have:=hq;simpa using this
    go_still_tail 16,qK
    change wpList _ _ _ _ _ wr.drew
    have hc0':wr.drew.cell? ⟨w.heap.size,j,none⟩=some (.int .u32 x):=hc0
    have hfr':wr.drew.frozen? ⟨w.heap.size,j,none⟩=false:=hfr
    have HN':Mk .u32 115 w (some ⟨w.heap.size,0,none⟩) ((n+1) / 2) ((n+1) / 2) (P.set j (x+65536*y)) (wr.drew.setCell ⟨w.heap.size,j,none⟩ (.int .u32 (x+65536*y))):=HN.out.drew 1
    clear hc0 hfr hcell HN
    go_wp2_with fail
    go_roundw
    case rel=>exact ⟨2*j+2,_,by omega,by go_num,HP1.out,HN'⟩
    case measure=>simp [intOf]<;>omega
  ·obtain rfl:n=i:=qO
   have hv:val 4294967296 P=val 65536 xs:=by rw [hP,←hl,vg];exact HV.out
   have hd:Dg 4294967296 P:=by rw [hP,←hl,vg];exact AR hx
   have HV2:=Lib.hid hv
   have HD:=Lib.hid hd
   clear hv hd hP HV
   go_wp2_with fail
   go_ret
   exact ⟨P,_,_,_,HD.out,HV2.out,by omega,rfl,hmr.1,hmr.2⟩
def d7 (w:World) (N:Int) (e:Ending) (w':World):Prop:=
 ∃ s ys A n c,Whole N s ys∧e= .returned (.agg #[.bool s, .slice A n c])∧bH .u32 115 w' w.heap.size A n c ys∧Below w.heap.size w w'
def GM (w:World) (B:Nat) (N:Int) (n0:Nat) (e:Ending) (w':World):Prop:=
 ∃ s xs A n c,e= .returned (.agg #[.bool s, .slice A n c])∧Sl .u32 w' B A n c xs∧Dg 4294967296 xs∧jN s xs=true∧dz s (val 4294967296 xs)=N∧n≤n0∧Below w.heap.size w w'
theorem gO (w:World) (b o:Nat) (v:Value):w.grownBy (w.setCell ⟨b,o,none⟩ v) (some b):=
 ⟨rfl,rfl,rfl,by simp [World.setCell],fun k _ hk=>Below.heap_setCell _ _ _ k (fun e=>hk (by rw [e]))⟩
section
variable {k:IntKind} {e:TypeId} {w w1:World} {B r:Nat} {A:Option Addr} {n c:Nat} {xs:List Int} {v0 v1:Value} {t:TypeId}
theorem bH.far (h:bH k e w B A n c xs) (hr:r<B):fh A=none∨fh A≠some r:=by
 rcases h.form with ⟨h,_⟩|⟨g,h,hg,_⟩
 ·exact .inl (by rw [h];rfl)
 ·exact .inr (by rw [h];intro h;simp [fh] at h;omega)
theorem bH.box (h:bH k e w B A n c xs) (hr:r<B) (o:Nat) (v:Value):bH k e (w.setCell ⟨r,o,none⟩ v) B A n c xs:=h.keep (gO w r o v) (h.far hr)
theorem dZ (hb:Below (w.alloc (.cells #[v0,v1] t)).heap.size (w.alloc (.cells #[v0,v1] t)) w1):
 w1.cell? ⟨w.heap.size,0,none⟩=some v0∧w1.cell? ⟨w.heap.size,1,none⟩=some v1∧w1.frozen? ⟨w.heap.size,0,none⟩=false∧w1.frozen? ⟨w.heap.size,1,none⟩=false∧w.heap.size<w1.heap.size∧Below w.heap.size w w1:=by
 have hlt:w.heap.size<(w.alloc (.cells #[v0,v1] t)).heap.size:=by rw [ak];exact Nat.lt_succ_self _
 refine ⟨?_,?_,?_,?_,Nat.lt_of_lt_of_le hlt hb.size,cW hb⟩
 ·rw [hb.cell (p:=⟨w.heap.size,0,none⟩) hlt];simp [World.cell?_alloc_new]
 ·rw [hb.cell (p:=⟨w.heap.size,1,none⟩) hlt];simp [World.cell?_alloc_new]
 ·rw [hb.frozen (p:=⟨w.heap.size,0,none⟩) hlt];simp [World.frozen?_alloc_new]
 ·rw [hb.frozen (p:=⟨w.heap.size,1,none⟩) hlt];simp [World.frozen?_alloc_new]
end
theorem d7.put {w w1:World} {B r:Nat} {N:Int} {s:Bool} {ys:List Int} {A:Option Addr} {n c:Nat} {u v:Value} (hW:Whole N s ys) (hr:w.heap.size≤r) (ho:bH .u32 115 w1 B A n c ys) (hB:r<B) (hb:Below w.heap.size w w1):
 d7 w N (.returned (.agg #[.bool s, .slice A n c])) ((w1.setCell ⟨r,0,none⟩ u).setCell ⟨r,1,none⟩ v):=
 ⟨s,ys,A,n,c,hW,rfl,((ho.box hB 0 u).box hB 1 v).lower qO,(hb.setCell (p:=⟨r,0,none⟩) hr u).setCell (p:=⟨r,1,none⟩) hr v⟩
theorem fP{t t2:TypeId} (hb:Below ((w.alloc (.cells #[v0,v1] t)).alloc (.cells #[u0,u1] t2)).heap.size ((w.alloc (.cells #[v0,v1] t)).alloc (.cells #[u0,u1] t2)) w1):
 (w1.cell? ⟨w.heap.size,0,none⟩=some v0∧w1.cell? ⟨w.heap.size,1,none⟩=some v1∧w1.frozen? ⟨w.heap.size,0,none⟩=false∧w1.frozen? ⟨w.heap.size,1,none⟩=false)∧
 (w1.cell? ⟨w.heap.size+1,0,none⟩=some u0∧w1.cell? ⟨w.heap.size+1,1,none⟩=some u1∧w1.frozen? ⟨w.heap.size+1,0,none⟩=false∧w1.frozen? ⟨w.heap.size+1,1,none⟩=false)∧
 w.heap.size+1<w1.heap.size∧Below w.heap.size w w1:=by
 obtain ⟨h0,h1,h2,h3,h4,h5⟩:=dZ hb
 obtain ⟨g0,g1,g2,g3,g4,g5⟩:=dZ h5
 rw [ak] at h0 h1 h2 h3 h4
 exact ⟨⟨g0,g1,g2,g3⟩,⟨h0,h1,h2,h3⟩,h4,g5⟩
theorem eX (w:World) (o o2:Obj):((w.alloc o).alloc o2).heap.size=w.heap.size+2:=by rw [ak,ak]
theorem fl (w:World) (o o2 o3:Obj):(((w.alloc o).alloc o2).alloc o3).heap.size=w.heap.size+3:=by rw [ak,ak,ak]
theorem ij{x0 x1:Value} {t t2 t3:TypeId} (hb:Below (((w.alloc (.cells #[v0,v1] t)).alloc (.cells #[u0,u1] t2)).alloc (.cells #[x0,x1] t3)).heap.size (((w.alloc (.cells #[v0,v1] t)).alloc (.cells #[u0,u1] t2)).alloc (.cells #[x0,x1] t3)) w1):
 (w1.cell? ⟨w.heap.size,0,none⟩=some v0∧w1.cell? ⟨w.heap.size,1,none⟩=some v1∧w1.frozen? ⟨w.heap.size,0,none⟩=false∧w1.frozen? ⟨w.heap.size,1,none⟩=false)∧
 (w1.cell? ⟨w.heap.size+1,0,none⟩=some u0∧w1.cell? ⟨w.heap.size+1,1,none⟩=some u1∧w1.frozen? ⟨w.heap.size+1,0,none⟩=false∧w1.frozen? ⟨w.heap.size+1,1,none⟩=false)∧
 (w1.cell? ⟨w.heap.size+2,0,none⟩=some x0∧w1.cell? ⟨w.heap.size+2,1,none⟩=some x1∧w1.frozen? ⟨w.heap.size+2,0,none⟩=false∧w1.frozen? ⟨w.heap.size+2,1,none⟩=false)∧
 w.heap.size+2<w1.heap.size∧Below w.heap.size w w1:=by
 obtain ⟨h0,h1,h2,h3,h4,h5⟩:=dZ hb
 obtain ⟨g0,g1,g2,g3⟩:=fP h5
 rw [eX] at h0 h1 h2 h3 h4
 exact ⟨g0,g1,⟨h0,h1,h2,h3⟩,h4,g3⟩
def ay (W:World) (r:Nat) (u0 u1:Value):Prop:=W.cell? ⟨r,0,none⟩=some u0∧W.cell? ⟨r,1,none⟩=some u1∧W.frozen? ⟨r,0,none⟩=false∧W.frozen? ⟨r,1,none⟩=false
theorem ay.put {w1:World} {r:Nat} {v0 v1:Value} (h:ay w1 r v0 v1) (u0 u1:Value):ay ((w1.setCell ⟨r,0,none⟩ u0).setCell ⟨r,1,none⟩ u1) r u0 u1:=by
 obtain ⟨h0,h1,h2,h3⟩:=h
 refine ⟨?_,?_,?_,?_⟩<;>go_simp
theorem ay.other{q:Nat} (h:ay w1 r v0 v1) (hne:r≠q) (o:Nat) (u:Value):ay (w1.setCell ⟨q,o,none⟩ u) r v0 v1:=by
 obtain ⟨h0,h1,h2,h3⟩:=h
 have e0:w1.heap[r]? =(w1.setCell ⟨q,o,none⟩ u).heap[r]? :=(Below.heap_setCell _ _ _ r hne).symm
 refine ⟨(World.cell?_of_block e0.symm).trans h0,(World.cell?_of_block e0.symm).trans h1,?_,?_⟩
 ·rw [←h2];unfold World.frozen?;rw [←e0]
 ·rw [←h3];unfold World.frozen?;rw [←e0]
theorem ay.below{w2:World} (h:ay w1 r v0 v1) (hb:Below B w1 w2) (hr:r<B):ay w2 r v0 v1:=by
 obtain ⟨h0,h1,h2,h3⟩:=h
 exact ⟨(hb.cell (p:=⟨r,0,none⟩) hr).trans h0,(hb.cell (p:=⟨r,1,none⟩) hr).trans h1,(hb.frozen (p:=⟨r,0,none⟩) hr).trans h2,(hb.frozen (p:=⟨r,1,none⟩) hr).trans h3⟩
theorem cL (w:World) (p:Addr) (u:Value):(w.setCell p u).heap.size=w.heap.size:=by simp [World.setCell]
def f9 (s:Bool) (A:Option Addr) (n c:Nat) (xs:List Int) (s':Bool) (A':Option Addr) (n' c':Nat) (xs':List Int):Prop:=
 (jN s xs=true∧s'=s∧A'=A∧n'=n∧c'=c∧xs'=xs)∨(jN s xs=false∧s'=false∧A'=none∧n'=0∧c'=0∧xs'=[])
theorem f9.ex (s:Bool) (A:Option Addr) (n c:Nat) (xs:List Int):∃ s' A' n' c' xs',f9 s A n c xs s' A' n' c' xs':=by
 cases h:jN s xs
 ·exact ⟨_,_,_,_,_, .inr ⟨h,rfl,rfl,rfl,rfl,rfl⟩⟩
 ·exact ⟨_,_,_,_,_, .inl ⟨h,rfl,rfl,rfl,rfl,rfl⟩⟩
theorem f9.facts{s s':Bool} {A':Option Addr} {n' c':Nat} {xs':List Int} (h:f9 s A n c xs s' A' n' c' xs') (hs:Sl .u32 w B A n c xs) (hx:Dg 4294967296 xs):
 Sl .u32 w B A' n' c' xs'∧Dg 4294967296 xs'∧jN s' xs'=true∧dz s' (val 4294967296 xs')=bp s xs∧n'≤n:=by
 rcases h with ⟨h,rfl,rfl,rfl,rfl,rfl⟩|⟨h,rfl,rfl,rfl,rfl,rfl⟩
 ·exact ⟨hs,hx,h,(fU h).symm,Nat.le_refl _⟩
 ·exact ⟨Sl.nil,Dg.nil,rfl,by rw [qC h];rfl,Nat.zero_le _⟩
theorem sN (w:World) (o o2 o3 o4:Obj):((((w.alloc o).alloc o2).alloc o3).alloc o4).heap.size=w.heap.size+4:=by rw [ak,ak,ak,ak]
theorem ur {w w1:World} {v0 v1 u0 u1 x0 x1 y0 y1:Value} {t t2 t3 t4:TypeId}
 (hb:Below ((((w.alloc (.cells #[v0,v1] t)).alloc (.cells #[u0,u1] t2)).alloc (.cells #[x0,x1] t3)).alloc (.cells #[y0,y1] t4)).heap.size ((((w.alloc (.cells #[v0,v1] t)).alloc (.cells #[u0,u1] t2)).alloc (.cells #[x0,x1] t3)).alloc (.cells #[y0,y1] t4)) w1):
 ay w1 w.heap.size v0 v1∧ay w1 (w.heap.size+1) u0 u1∧ay w1 (w.heap.size+2) x0 x1∧ay w1 (w.heap.size+3) y0 y1∧w.heap.size+3<w1.heap.size∧Below w.heap.size w w1:=by
 obtain ⟨h0,h1,h2,h3,h4,h5⟩:=dZ hb
 obtain ⟨g0,g1,g2,_,g3⟩:=ij h5
 rw [fl] at h0 h1 h2 h3 h4
 exact ⟨g0,g1,g2,⟨h0,h1,h2,h3⟩,h4,g3⟩
theorem jW{s:Bool} (hs:Sl .u32 w B A n c xs) (hB:B≤w.heap.size):
 Calls Tryz.prog 136 #[.agg #[.bool s, .slice A n c]] w fun e w'=>e= .returned (.bool (jN s xs))∧Below w.heap.size w w':=by
 have hl:=hs.len
 have hm:=hs.lenMax
 by_cases h0:n=0
 ·subst h0
  have hx:=List.eq_nil_of_length_eq_zero hl
  subst hx
  rw [pH]
  go_enter Tryz.func136,Tryz.ntmps136
  go_wp2_with fail
  go_ret
  exact ⟨rfl,(Below.refl _ _).alloc (Nat.le_refl _) _⟩
 ·obtain ⟨j,rfl⟩:∃ j,n=j+1:=⟨n - 1,by omega⟩
  obtain ⟨b,off,z,rfl,hbB,ez,hcell⟩:=hs.at_ (j:=j) qO
  rw [lK hl ez]
  have hb:(((j+1:Nat):Int)==0)=false:=beq_eq_false_iff_ne.2 qO
  have hlt:b<w.heap.size:=qO
  clear h0 ez
  go_enter Tryz.func136,Tryz.ntmps136
  go_wp2_with fail
  go_ret
  exact ⟨rfl,(Below.refl _ _).alloc (Nat.le_refl _) _⟩
theorem cR{s:Bool} (hs:Sl .u32 w B A n c xs) (hB:B≤w.heap.size) (hx:Dg 4294967296 xs) (hn:n≤500000000):
 Calls Tryz.prog 130 #[.bool s, .slice A n c] w (d7 w (dz s (val 4294967296 xs))):=by
 go_enter Tryz.func130,Tryz.ntmps130
 go_wp2_with fail
 refine (v9 (hs.alloc hB _) qA hx hn).mono ?_
 rintro e w1 ⟨ys,hr,A1,n1,c1,rfl,ho,hb⟩
 obtain ⟨hc0,hc1,hf0,hf1,hlt,hb1⟩:=dZ hb
 have HO:=Lib.hid ho
 have HB:=Lib.hid hb1
 have hl1:=ho.len
 have hv0:=am (β:=4294967296) qD hx
 have HP:w.heap.size<(w.alloc (.cells #[.bool false, .slice none 0 0] 36)).heap.size:=by rw [ak];exact Nat.lt_succ_self _
 clear ho hb hb1
 by_cases h0:n1=0
 ·subst h0
  have hy:=List.eq_nil_of_length_eq_zero hl1
  subst hy
  have hz:val 4294967296 xs=0:=hr.val.symm
  have HW:=Lib.hid (show Whole (dz s (val 4294967296 xs)) false [] by rw [hz];cases s<;>exact Whole.zero)
  clear hr hz hl1
  cases s
  all_goals
   go_wp2_with fail
   refine bodyPost_ret (v:= .agg #[.bool false, .slice A1 0 c1]) ?_ rfl (d7.put HW.out (Nat.le_refl _) HO.out HP HB.out)
   simp only [results,Tryz.results130]
   go_simp
 ·have hpos:0<n1:=qO
  have HW:=Lib.hid (show Whole (dz s (val 4294967296 xs)) s ys from Whole.mk' hr hv0 (fun _ hz=>by
   have:=Tr.zero qD hr.dg hr.tr (hr.val.trans hz)
   rw [this] at hl1
   exact h0 hl1.symm))
  clear hr hl1
  cases s
  all_goals
   go_wp2_with fail
   refine bodyPost_ret (v:= .agg #[.bool _, .slice A1 n1 c1]) ?_ rfl (d7.put HW.out (Nat.le_refl _) HO.out HP HB.out)
   simp only [results,Tryz.results130]
   go_simp
theorem tQ{s:Bool} (hr:jN s xs=false) (hs:Sl .u32 w B A n c xs) (hB:B≤w.heap.size):
 Calls Tryz.prog 152 #[.agg #[.bool s, .slice A n c]] w fun e w'=>e= .returned (.agg #[.bool false, .slice none 0 0])∧Below w.heap.size w w':=by
 have HC:=fun W (h:Sl .u32 W B A n c xs) (hB:B≤W.heap.size)=>jW (s:=s) h hB
 rw [hr] at HC
 clear hr
 go_enter Tryz.func152,Tryz.ntmps152
 go_wp2_with fail
 refine (HC _ ((hs.alloc hB _).alloc qA _) qM).mono ?_
 rintro e w1 ⟨rfl,hb⟩
 obtain ⟨⟨p0,p1,p2,p3⟩,⟨r0,r1,r2,r3⟩,hlt,hb1⟩:=fP hb
 have HB:=Lib.hid hb1
 clear hb hb1 HC hs
 go_wp2_with fail
 refine bodyPost_ret (v:= .agg #[.bool false, .slice none 0 0]) ?_ rfl ⟨rfl,(HB.out.setCell (p:=⟨w.heap.size+1,0,none⟩) (Nat.le_succ _) _).setCell (p:=⟨w.heap.size+1,1,none⟩) (Nat.le_succ _) _⟩
 simp only [results,Tryz.results152]
 go_simp
theorem sT{s:Bool} (hr:jN s xs=true) (hs:Sl .u32 w B A n c xs) (hB:B≤w.heap.size):
 Calls Tryz.prog 152 #[.agg #[.bool s, .slice A n c]] w fun e w'=>e= .returned (.agg #[.bool s, .slice A n c])∧Below w.heap.size w w':=by
 have HC:=fun W (h:Sl .u32 W B A n c xs) (hB:B≤W.heap.size)=>jW (s:=s) h hB
 rw [hr] at HC
 clear hr
 go_enter Tryz.func152,Tryz.ntmps152
 go_wp2_with fail
 refine (HC _ ((hs.alloc hB _).alloc qA _) qM).mono ?_
 rintro e w1 ⟨rfl,hb⟩
 obtain ⟨⟨p0,p1,p2,p3⟩,⟨r0,r1,r2,r3⟩,hlt,hb1⟩:=fP hb
 have HB:=Lib.hid hb1
 clear hb hb1 HC hs
 go_wp2_with fail
 refine bodyPost_ret (v:= .agg #[.bool s, .slice A n c]) ?_ rfl ⟨rfl,(HB.out.setCell (p:=⟨w.heap.size+1,0,none⟩) (Nat.le_succ _) _).setCell (p:=⟨w.heap.size+1,1,none⟩) (Nat.le_succ _) _⟩
 simp only [results,Tryz.results152]
 go_simp
theorem kz{s s':Bool} {A':Option Addr} {n' c':Nat} {xs':List Int} (h:f9 s A n c xs s' A' n' c' xs') (hs:Sl .u32 w B A n c xs) (hB:B≤w.heap.size):
 Calls Tryz.prog 152 #[.agg #[.bool s, .slice A n c]] w fun e w'=>e= .returned (.agg #[.bool s', .slice A' n' c'])∧Below w.heap.size w w':=by
 rcases h with ⟨hr,rfl,rfl,rfl,rfl,rfl⟩|⟨hr,rfl,rfl,rfl,rfl,rfl⟩
 ·exact sT hr hs hB
 ·exact tQ hr hs hB
theorem fu{s:Bool} (hs:Sl .u32 w B A n c xs) (hB:B≤w.heap.size) (hx:Dg 4294967296 xs):
 Calls Tryz.prog 152 #[.agg #[.bool s, .slice A n c]] w (GM w B (bp s xs) n):=by
 obtain ⟨s',A',n',c',xs',h⟩:=f9.ex s A n c xs
 refine (kz h hs hB).mono ?_
 rintro e w' ⟨rfl,hb⟩
 obtain ⟨f1,f2,f3,f4,f5⟩:=h.facts (hs.below hb hB) hx
 exact ⟨s',xs',A',n',c',rfl,f1,f2,f3,f4,f5,hb⟩
theorem zf (k:Int):∃ lo hi:Int,(0≤lo∧lo<4294967296)∧(0≤hi∧hi<4294967296∨4294967296≤hi)∧(k<0→k.tmod 4294967296= -lo∧k.tdiv 4294967296= -hi∧ -(lo+4294967296*hi)=k)∧(0≤k→k.tmod 4294967296=lo∧k.tdiv 4294967296=hi∧lo+4294967296*hi=k):=by
 rcases Int.lt_or_le k 0 with hneg|hpos
 ·obtain ⟨j,rfl⟩:∃ j,k= -j:=⟨-k,by omega⟩
  refine ⟨j%4294967296,j / 4294967296,by omega,by omega,fun _=>⟨by rw [Int.neg_tmod,Int.tmod_eq_emod_of_nonneg qO],by rw [Int.neg_tdiv,Int.tdiv_eq_ediv_of_nonneg qO],by omega⟩,fun h=>by omega⟩
 ·refine ⟨k%4294967296,k / 4294967296,by omega,by omega,fun h=>by omega,fun _=>⟨by rw [Int.tmod_eq_emod_of_nonneg qO],by rw [Int.tdiv_eq_ediv_of_nonneg qO],by omega⟩⟩
theorem x6{k:Int} (hk: -9223372036854775808≤k∧k≤9223372036854775807):
 Calls Tryz.prog 84 #[.int .i64 k] w (d7 w k):=by
 obtain ⟨lo,hi,l0,h0,hneg,hpos⟩:=zf k
 rcases Int.lt_or_le k 0 with hn|hn
 ·obtain ⟨e1,e2,e3⟩:=hneg hn
  have h0':0≤hi∧hi<4294967296:=qO
  have w1:IntKind.u32.wrap lo=lo:=by rw [IntKind.wrap_u32];omega
  have w2:IntKind.u32.wrap hi=hi:=by rw [IntKind.wrap_u32];omega
  have HJ:=Lib.hid (show dz true (val 4294967296 [lo,hi])=k by rw [cX];simp [val];omega)
  have HD:=Lib.hid (Jx l0 h0')
  clear hneg hpos h0 e3 hk
  rcases (show lo=0∨0<lo by omega) with rfl|hl<;>rcases (show hi=0∨0<hi by omega) with rfl|hh
  ·go_enter Tryz.func84,Tryz.ntmps84
   go_wp2_with fail
   have hlt0:w.heap.size<(w.alloc (.cells #[.bool false, .slice none 0 0] 36)).heap.size:=by rw [ak];exact Nat.lt_succ_self _
   refine (cR (rF (w.alloc (.cells #[.bool false, .slice none 0 0] 36)) (w.heap.size+1) (ak _ _) _ _ _) (by rw [eX];exact Nat.le_refl _) HD.out qO).mono ?_
   rintro e w1 ⟨sc,Z,A7,n7,c7,hW,rfl,ho,hb⟩
   rw [HJ.out] at hW
   obtain ⟨h0,h1,h2,h3,_⟩:=dZ (w:=w) (v0:= .bool false) (v1:= .slice none 0 0) (t:=36) (Below.refl _ _)
   obtain ⟨q0,q1,q2,q3⟩:=ay.below ⟨h0,h1,h2,h3⟩ (cW hb) hlt0
   have HW:=Lib.hid hW
   have HO:=Lib.hid ho
   have HL:=Lib.hid (Nat.lt_of_lt_of_le hlt0 (show _≤((w.alloc (.cells #[.bool false, .slice none 0 0] 36)).alloc (.cells #[.int .u32 0, .int .u32 0] 115)).heap.size by rw [ak (w.alloc _)];exact Nat.le_succ _))
   have HB:=Lib.hid (h_ hb)
   clear hW ho hb h0 h1 h2 h3 hlt0
   go_wp2_with fail
   refine bodyPost_ret (v:= .agg #[.bool sc, .slice A7 n7 c7]) ?_ rfl (d7.put HW.out (Nat.le_refl _) HO.out HL.out HB.out)
   simp only [results,Tryz.results84]
   go_simp
  ·go_enter Tryz.func84,Tryz.ntmps84
   go_wp2_with fail
   have hlt0:w.heap.size<(w.alloc (.cells #[.bool false, .slice none 0 0] 36)).heap.size:=by rw [ak];exact Nat.lt_succ_self _
   refine (cR (rF (w.alloc (.cells #[.bool false, .slice none 0 0] 36)) (w.heap.size+1) (ak _ _) _ _ _) (by rw [eX];exact Nat.le_refl _) HD.out qO).mono ?_
   rintro e w1 ⟨sc,Z,A7,n7,c7,hW,rfl,ho,hb⟩
   rw [HJ.out] at hW
   obtain ⟨h0,h1,h2,h3,_⟩:=dZ (w:=w) (v0:= .bool false) (v1:= .slice none 0 0) (t:=36) (Below.refl _ _)
   obtain ⟨q0,q1,q2,q3⟩:=ay.below ⟨h0,h1,h2,h3⟩ (cW hb) hlt0
   have HW:=Lib.hid hW
   have HO:=Lib.hid ho
   have HL:=Lib.hid (Nat.lt_of_lt_of_le hlt0 (show _≤((w.alloc (.cells #[.bool false, .slice none 0 0] 36)).alloc (.cells #[.int .u32 0, .int .u32 hi] 115)).heap.size by rw [ak (w.alloc _)];exact Nat.le_succ _))
   have HB:=Lib.hid (h_ hb)
   clear hW ho hb h0 h1 h2 h3 hlt0
   go_wp2_with fail
   refine bodyPost_ret (v:= .agg #[.bool sc, .slice A7 n7 c7]) ?_ rfl (d7.put HW.out (Nat.le_refl _) HO.out HL.out HB.out)
   simp only [results,Tryz.results84]
   go_simp
  ·go_enter Tryz.func84,Tryz.ntmps84
   go_wp2_with fail
   have hlt0:w.heap.size<(w.alloc (.cells #[.bool false, .slice none 0 0] 36)).heap.size:=by rw [ak];exact Nat.lt_succ_self _
   refine (cR (rF (w.alloc (.cells #[.bool false, .slice none 0 0] 36)) (w.heap.size+1) (ak _ _) _ _ _) (by rw [eX];exact Nat.le_refl _) HD.out qO).mono ?_
   rintro e w1 ⟨sc,Z,A7,n7,c7,hW,rfl,ho,hb⟩
   rw [HJ.out] at hW
   obtain ⟨h0,h1,h2,h3,_⟩:=dZ (w:=w) (v0:= .bool false) (v1:= .slice none 0 0) (t:=36) (Below.refl _ _)
   obtain ⟨q0,q1,q2,q3⟩:=ay.below ⟨h0,h1,h2,h3⟩ (cW hb) hlt0
   have HW:=Lib.hid hW
   have HO:=Lib.hid ho
   have HL:=Lib.hid (Nat.lt_of_lt_of_le hlt0 (show _≤((w.alloc (.cells #[.bool false, .slice none 0 0] 36)).alloc (.cells #[.int .u32 lo, .int .u32 0] 115)).heap.size by rw [ak (w.alloc _)];exact Nat.le_succ _))
   have HB:=Lib.hid (h_ hb)
   clear hW ho hb h0 h1 h2 h3 hlt0
   go_wp2_with fail
   refine bodyPost_ret (v:= .agg #[.bool sc, .slice A7 n7 c7]) ?_ rfl (d7.put HW.out (Nat.le_refl _) HO.out HL.out HB.out)
   simp only [results,Tryz.results84]
   go_simp
  ·go_enter Tryz.func84,Tryz.ntmps84
   go_wp2_with fail
   have hlt0:w.heap.size<(w.alloc (.cells #[.bool false, .slice none 0 0] 36)).heap.size:=by rw [ak];exact Nat.lt_succ_self _
   refine (cR (rF (w.alloc (.cells #[.bool false, .slice none 0 0] 36)) (w.heap.size+1) (ak _ _) _ _ _) (by rw [eX];exact Nat.le_refl _) HD.out qO).mono ?_
   rintro e w1 ⟨sc,Z,A7,n7,c7,hW,rfl,ho,hb⟩
   rw [HJ.out] at hW
   obtain ⟨h0,h1,h2,h3,_⟩:=dZ (w:=w) (v0:= .bool false) (v1:= .slice none 0 0) (t:=36) (Below.refl _ _)
   obtain ⟨q0,q1,q2,q3⟩:=ay.below ⟨h0,h1,h2,h3⟩ (cW hb) hlt0
   have HW:=Lib.hid hW
   have HO:=Lib.hid ho
   have HL:=Lib.hid (Nat.lt_of_lt_of_le hlt0 (show _≤((w.alloc (.cells #[.bool false, .slice none 0 0] 36)).alloc (.cells #[.int .u32 lo, .int .u32 hi] 115)).heap.size by rw [ak (w.alloc _)];exact Nat.le_succ _))
   have HB:=Lib.hid (h_ hb)
   clear hW ho hb h0 h1 h2 h3 hlt0
   go_wp2_with fail
   refine bodyPost_ret (v:= .agg #[.bool sc, .slice A7 n7 c7]) ?_ rfl (d7.put HW.out (Nat.le_refl _) HO.out HL.out HB.out)
   simp only [results,Tryz.results84]
   go_simp
 ·obtain ⟨e1,e2,e3⟩:=hpos hn
  have h0':0≤hi∧hi<4294967296:=qO
  have w1:IntKind.u32.wrap lo=lo:=by rw [IntKind.wrap_u32];omega
  have w2:IntKind.u32.wrap hi=hi:=by rw [IntKind.wrap_u32];omega
  have hd:decide (k<0)=false:=decide_eq_false qO
  have HJ:=Lib.hid (show dz false (val 4294967296 [lo,hi])=k by rw [cZ];simp [val];omega)
  have HD:=Lib.hid (Jx l0 h0')
  clear hneg hpos h0 e3 hk
  rcases (show lo=0∨0<lo by omega) with rfl|hl<;>rcases (show hi=0∨0<hi by omega) with rfl|hh
  ·go_enter Tryz.func84,Tryz.ntmps84
   go_wp2_with fail
   have hlt0:w.heap.size<(w.alloc (.cells #[.bool false, .slice none 0 0] 36)).heap.size:=by rw [ak];exact Nat.lt_succ_self _
   refine (cR (rF (w.alloc (.cells #[.bool false, .slice none 0 0] 36)) (w.heap.size+1) (ak _ _) _ _ _) (by rw [eX];exact Nat.le_refl _) HD.out qO).mono ?_
   rintro e w1 ⟨sc,Z,A7,n7,c7,hW,rfl,ho,hb⟩
   rw [HJ.out] at hW
   obtain ⟨h0,h1,h2,h3,_⟩:=dZ (w:=w) (v0:= .bool false) (v1:= .slice none 0 0) (t:=36) (Below.refl _ _)
   obtain ⟨q0,q1,q2,q3⟩:=ay.below ⟨h0,h1,h2,h3⟩ (cW hb) hlt0
   have HW:=Lib.hid hW
   have HO:=Lib.hid ho
   have HL:=Lib.hid (Nat.lt_of_lt_of_le hlt0 (show _≤((w.alloc (.cells #[.bool false, .slice none 0 0] 36)).alloc (.cells #[.int .u32 0, .int .u32 0] 115)).heap.size by rw [ak (w.alloc _)];exact Nat.le_succ _))
   have HB:=Lib.hid (h_ hb)
   clear hW ho hb h0 h1 h2 h3 hlt0
   go_wp2_with fail
   refine bodyPost_ret (v:= .agg #[.bool sc, .slice A7 n7 c7]) ?_ rfl (d7.put HW.out (Nat.le_refl _) HO.out HL.out HB.out)
   simp only [results,Tryz.results84]
   go_simp
  ·go_enter Tryz.func84,Tryz.ntmps84
   go_wp2_with fail
   have hlt0:w.heap.size<(w.alloc (.cells #[.bool false, .slice none 0 0] 36)).heap.size:=by rw [ak];exact Nat.lt_succ_self _
   refine (cR (rF (w.alloc (.cells #[.bool false, .slice none 0 0] 36)) (w.heap.size+1) (ak _ _) _ _ _) (by rw [eX];exact Nat.le_refl _) HD.out qO).mono ?_
   rintro e w1 ⟨sc,Z,A7,n7,c7,hW,rfl,ho,hb⟩
   rw [HJ.out] at hW
   obtain ⟨h0,h1,h2,h3,_⟩:=dZ (w:=w) (v0:= .bool false) (v1:= .slice none 0 0) (t:=36) (Below.refl _ _)
   obtain ⟨q0,q1,q2,q3⟩:=ay.below ⟨h0,h1,h2,h3⟩ (cW hb) hlt0
   have HW:=Lib.hid hW
   have HO:=Lib.hid ho
   have HL:=Lib.hid (Nat.lt_of_lt_of_le hlt0 (show _≤((w.alloc (.cells #[.bool false, .slice none 0 0] 36)).alloc (.cells #[.int .u32 0, .int .u32 hi] 115)).heap.size by rw [ak (w.alloc _)];exact Nat.le_succ _))
   have HB:=Lib.hid (h_ hb)
   clear hW ho hb h0 h1 h2 h3 hlt0
   go_wp2_with fail
   refine bodyPost_ret (v:= .agg #[.bool sc, .slice A7 n7 c7]) ?_ rfl (d7.put HW.out (Nat.le_refl _) HO.out HL.out HB.out)
   simp only [results,Tryz.results84]
   go_simp
  ·go_enter Tryz.func84,Tryz.ntmps84
   go_wp2_with fail
   have hlt0:w.heap.size<(w.alloc (.cells #[.bool false, .slice none 0 0] 36)).heap.size:=by rw [ak];exact Nat.lt_succ_self _
   refine (cR (rF (w.alloc (.cells #[.bool false, .slice none 0 0] 36)) (w.heap.size+1) (ak _ _) _ _ _) (by rw [eX];exact Nat.le_refl _) HD.out qO).mono ?_
   rintro e w1 ⟨sc,Z,A7,n7,c7,hW,rfl,ho,hb⟩
   rw [HJ.out] at hW
   obtain ⟨h0,h1,h2,h3,_⟩:=dZ (w:=w) (v0:= .bool false) (v1:= .slice none 0 0) (t:=36) (Below.refl _ _)
   obtain ⟨q0,q1,q2,q3⟩:=ay.below ⟨h0,h1,h2,h3⟩ (cW hb) hlt0
   have HW:=Lib.hid hW
   have HO:=Lib.hid ho
   have HL:=Lib.hid (Nat.lt_of_lt_of_le hlt0 (show _≤((w.alloc (.cells #[.bool false, .slice none 0 0] 36)).alloc (.cells #[.int .u32 lo, .int .u32 0] 115)).heap.size by rw [ak (w.alloc _)];exact Nat.le_succ _))
   have HB:=Lib.hid (h_ hb)
   clear hW ho hb h0 h1 h2 h3 hlt0
   go_wp2_with fail
   refine bodyPost_ret (v:= .agg #[.bool sc, .slice A7 n7 c7]) ?_ rfl (d7.put HW.out (Nat.le_refl _) HO.out HL.out HB.out)
   simp only [results,Tryz.results84]
   go_simp
  ·go_enter Tryz.func84,Tryz.ntmps84
   go_wp2_with fail
   have hlt0:w.heap.size<(w.alloc (.cells #[.bool false, .slice none 0 0] 36)).heap.size:=by rw [ak];exact Nat.lt_succ_self _
   refine (cR (rF (w.alloc (.cells #[.bool false, .slice none 0 0] 36)) (w.heap.size+1) (ak _ _) _ _ _) (by rw [eX];exact Nat.le_refl _) HD.out qO).mono ?_
   rintro e w1 ⟨sc,Z,A7,n7,c7,hW,rfl,ho,hb⟩
   rw [HJ.out] at hW
   obtain ⟨h0,h1,h2,h3,_⟩:=dZ (w:=w) (v0:= .bool false) (v1:= .slice none 0 0) (t:=36) (Below.refl _ _)
   obtain ⟨q0,q1,q2,q3⟩:=ay.below ⟨h0,h1,h2,h3⟩ (cW hb) hlt0
   have HW:=Lib.hid hW
   have HO:=Lib.hid ho
   have HL:=Lib.hid (Nat.lt_of_lt_of_le hlt0 (show _≤((w.alloc (.cells #[.bool false, .slice none 0 0] 36)).alloc (.cells #[.int .u32 lo, .int .u32 hi] 115)).heap.size by rw [ak (w.alloc _)];exact Nat.le_succ _))
   have HB:=Lib.hid (h_ hb)
   clear hW ho hb h0 h1 h2 h3 hlt0
   go_wp2_with fail
   refine bodyPost_ret (v:= .agg #[.bool sc, .slice A7 n7 c7]) ?_ rfl (d7.put HW.out (Nat.le_refl _) HO.out HL.out HB.out)
   simp only [results,Tryz.results84]
   go_simp
theorem rO {N M X Y:Int} {s t:Bool} (hN:dz s X=N) (hM:dz t Y=M) (h0:0≤X) (h1:0≤Y) (hs:s=true→0<X) (ht:t=true→0<Y):
 (s=true→t=false→b_ N M= -1)∧(s=false→t=true→b_ N M=1)∧(s=true→t=true→b_ N M=b_ Y X)∧(s=false→t=false→b_ N M=b_ X Y):=by
 subst hN;subst hM
 refine ⟨fun a b=> ?_,fun a b=> ?_,fun a b=> ?_,fun a b=> ?_⟩
 ·subst a;subst b;exact eO (by have:=hs rfl;rw [cX,cZ];omega)
 ·subst a;subst b;exact gV (by have:=ht rfl;rw [cX,cZ];omega)
 ·subst a;subst b;rw [cX,cX];exact rg _ _
 ·subst a;subst b;rfl
theorem vC{s t:Bool} (hs:Sl .u32 w B A n c xs) (ht:Sl .u32 w B A2 m c2 ys) (hB:B≤w.heap.size) (hx:Dg 4294967296 xs) (hy:Dg 4294967296 ys) (hn:n≤400000000) (hm:m≤400000000):
 Calls Tryz.prog 151 #[.agg #[.bool s, .slice A n c], .agg #[.bool t, .slice A2 m c2]] w (Cw w (bp s xs) (bp t ys)):=by
 have HX:=Lib.hid hx
 have HY:=Lib.hid hy
 generalize hN:bp s xs=N
 generalize hM:bp t ys=M
 have HN:=Lib.hid hN
 have HM:=Lib.hid hM
 clear hN hM hx hy
 go_enter Tryz.func151,Tryz.ntmps151
 go_wp2_with fail
 refine (fu ((hs.alloc hB _).alloc qA _) qM HX.out).mono ?_
 rintro e w1 ⟨sa,X,A3,n3,c3,rfl,sX,dX,rX,vX,lX,hb⟩
 obtain ⟨bX,bY,hlt,hb1⟩:=fP hb
 rw [HN.out] at vX
 have bX2:=ay.put bX (.bool sa) (.slice A3 n3 c3)
 have bY2:=(ay.other bY (q:=w.heap.size) qO 0 (.bool sa)).other (q:=w.heap.size) qO 1 (.slice A3 n3 c3)
 have sX2:=(sX.setCell (p:=⟨w.heap.size,0,none⟩) hB (.bool sa)).setCell (p:=⟨w.heap.size,1,none⟩) hB (.slice A3 n3 c3)
 have sY2:=((ht.below hb1 hB).setCell (p:=⟨w.heap.size,0,none⟩) hB (.bool sa)).setCell (p:=⟨w.heap.size,1,none⟩) hB (.slice A3 n3 c3)
 have hb2:=(hb1.setCell (p:=⟨w.heap.size,0,none⟩) (Nat.le_refl _) (.bool sa)).setCell (p:=⟨w.heap.size,1,none⟩) (Nat.le_refl _) (.slice A3 n3 c3)
 have hlt2:w.heap.size+1<((w1.setCell ⟨w.heap.size,0,none⟩ (.bool sa)).setCell ⟨w.heap.size,1,none⟩ (.slice A3 n3 c3)).heap.size:=by rw [cL,cL];exact hlt
 obtain ⟨p0,p1,p2,p3⟩:=bX
 obtain ⟨r0,r1,r2,r3⟩:=bY
 clear hb hb1 hs ht sX
 go_wp2_with fail
 generalize (w1.setCell ⟨w.heap.size,0,none⟩ (.bool sa)).setCell ⟨w.heap.size,1,none⟩ (.slice A3 n3 c3)=W at bX2 bY2 sX2 sY2 hb2 hlt2 ⊢
 clear p0 p1 p2 p3 r0 r1 r2 r3 hlt
 refine (fu sY2 (Nat.le_trans hB hb2.size) HY.out).mono ?_
 rintro e w2 ⟨sb,Y,A4,n4,c4,rfl,sY,dY,rY,vY,lY,hb⟩
 rw [HM.out] at vY
 obtain ⟨p0,p1,p2,p3⟩:=bX2.below hb qO
 obtain ⟨r0,r1,r2,r3⟩:=bY2.below hb hlt2
 have sX3:=((sX2.below hb (Nat.le_trans hB hb2.size)).setCell (p:=⟨w.heap.size+1,0,none⟩) (show B≤w.heap.size+1 by omega) (.bool sb)).setCell (p:=⟨w.heap.size+1,1,none⟩) (show B≤w.heap.size+1 by omega) (.slice A4 n4 c4)
 have sY3:=(sY.setCell (p:=⟨w.heap.size+1,0,none⟩) (show B≤w.heap.size+1 by omega) (.bool sb)).setCell (p:=⟨w.heap.size+1,1,none⟩) (show B≤w.heap.size+1 by omega) (.slice A4 n4 c4)
 have hb3:=((hb2.trans (hb.mono hb2.size)).setCell (p:=⟨w.heap.size+1,0,none⟩) (Nat.le_succ _) (.bool sb)).setCell (p:=⟨w.heap.size+1,1,none⟩) (Nat.le_succ _) (.slice A4 n4 c4)
 obtain ⟨k1,k2,k3,k4⟩:=rO vX vY (am qD dX) (am qD dY) (fun h=>mL dX rX h) (fun h=>mL dY rY h)
 have K1:=Lib.hid k1
 have K2:=Lib.hid k2
 have K3:=Lib.hid k3
 have K4:=Lib.hid k4
 have S3:=Lib.hid (And.intro sX3 sY3)
 have D3:=Lib.hid (And.intro dX dY)
 have B3:=Lib.hid hb3
 have hsz:=hb3.size
 clear bX2 bY2 sX2 sY2 hb2 hb k1 k2 k3 k4 vX vY rX rY sX3 sY3 sY hb3 dX dY
 rcases sa with _|_<;>rcases sb with _|_
 ·have EK:=Lib.hid (K4.out rfl rfl)
  clear K1 K2 K3 K4
  go_wp2_with fail
  refine (j9 S3.out.1 S3.out.2 (Nat.le_trans hB hsz) D3.out.1 D3.out.2 qO qO).mono ?_
  rintro e w4 ⟨rfl,hb4⟩
  rw [←EK.out]
  have B4:=Lib.hid (B3.out.trans (hb4.mono B3.out.size))
  clear hb4
  go_wp2_with fail
  go_ret
  exact ⟨rfl,B4.out⟩
 ·have EK:=Lib.hid (K2.out rfl rfl)
  clear K1 K2 K3 K4
  go_wp2_with fail
  go_ret
  exact ⟨by rw [EK.out];rfl,B3.out⟩
 ·have EK:=Lib.hid (K1.out rfl rfl)
  clear K1 K2 K3 K4
  go_wp2_with fail
  go_ret
  exact ⟨by rw [EK.out];rfl,B3.out⟩
 ·have EK:=Lib.hid (K3.out rfl rfl)
  clear K1 K2 K3 K4
  go_wp2_with fail
  refine (j9 S3.out.2 S3.out.1 (Nat.le_trans hB hsz) D3.out.2 D3.out.1 qO qO).mono ?_
  rintro e w4 ⟨rfl,hb4⟩
  rw [←EK.out]
  have B4:=Lib.hid (B3.out.trans (hb4.mono B3.out.size))
  clear hb4
  go_wp2_with fail
  go_ret
  exact ⟨rfl,B4.out⟩
structure aM where
 holds:World→Value→Prop
 stable:∀ {w w':World} {v:Value},holds w v→Below w.heap.size w w'→holds w' v
def aM.any:aM:=⟨fun _ _=>True,fun h _=>h⟩
def aM.is (c:Value):aM:=⟨fun _ v=>v=c,fun h _=>h⟩
def aN:List (Nat×aM)→Nat→aM
 |[],_=> .any
 |(t,x)::l,s=>bif Nat.beq t s then x else aN l s
def bJ (E:List (Nat×aM)) (w:World) (ρ:Operand→Value):List Operand→Prop
 |[]=>True
 | .tmp s::l=>(aN E s).holds w (ρ (.tmp s))∧bJ E w ρ l
 | .const _::l=>bJ E w ρ l
 | .global _::l=>bJ E w ρ l
 | .func _::l=>bJ E w ρ l
theorem bJ.of {E:List (Nat×aM)} {w:World} {ρ:Operand→Value}:∀ {l:List Operand},(∀ s, .tmp s∈l→(aN E s).holds w (ρ (.tmp s)))→bJ E w ρ l
 |[],_=>trivial
 | .tmp s::l,h=>⟨h s qE,bJ.of (l:=l) fun t ht=>h t (List.mem_cons_of_mem _ ht)⟩
 | .const _::l,h=>bJ.of (l:=l) fun t ht=>h t (List.mem_cons_of_mem _ ht)
 | .global _::l,h=>bJ.of (l:=l) fun t ht=>h t (List.mem_cons_of_mem _ ht)
 | .func _::l,h=>bJ.of (l:=l) fun t ht=>h t (List.mem_cons_of_mem _ ht)
theorem bJ.at_ {E:List (Nat×aM)} {w:World} {ρ:Operand→Value}:∀ {l:List Operand} {s:Nat},bJ E w ρ l→ .tmp s∈l→(aN E s).holds w (ρ (.tmp s))
 |[],_,_,h=>by cases h
 |x::l,s,hs,hm=>by
  rcases List.mem_cons.1 hm with rfl|hm
  ·exact hs.1
  ·refine bJ.at_ (w:=w) (l:=l) ?_ hm
   cases x with
   |tmp s=>exact hs.2
   |const c=>exact hs
   |global g=>exact hs
   |func f=>exact hs
def Yields (P:Program) (o:Oper) (ρ:Operand→Value) (w:World) (K:Value→World→Prop):Prop:=
 match (execOp ρ o).run P w with
 | .ok (.value v) w'=>K v w'
 | .ok (.enter f args) w'=>Calls P f args w' fun e w''=>∃ v,e= .returned v∧K v w''
 |_=>False
theorem Yields.wp{K:Value→World→Prop} {Q:Exit→Act→World→Prop} (h:Yields P o a.eval w K):o.wp P a w (fun a' w'=>∃ v,a'=a.put o.dst v∧K v w') Q:=by
 unfold Yields at h
 unfold Oper.wp
 generalize (execOp a.eval o).run P w=r at*
 split at h
 ·exact ⟨_,rfl,h⟩
 ·refine Calls.mono h ?_
  rintro e w'' ⟨v,rfl,hk⟩
  exact ⟨v,rfl,hk⟩
 ·exact h.elim
def aK (o:Oper):Nat:=o.dst.getD 0
def cC (P:Program) (E:List (Nat×aM)) (w0:World) (o:Oper):Prop:=
 ∀ (ρ:Operand→Value) (w:World),(∀ c,ρ (.const c)=c)→(∀ f,ρ (.func f)= .func (.func f) #[] #[])→Below w0.heap.size w0 w→bJ E w ρ o.op.operands.toList→
  Yields P o ρ w fun v w'=>(aN E (aK o)).holds w' v∧Below w.heap.size w w'
def bI (P:Program) (E:List (Nat×aM)) (w0:World):List Oper→Prop
 |[]=>True
 |o::l=>cC P E w0 o∧bI P E w0 l
theorem bI.mem{E:List (Nat×aM)} :∀ {l:List Oper},bI P E w0 l→∀ o∈l,cC P E w0 o
 |[],_,_,h=>by cases h
 |_::_,h,o,ho=>by
  rcases List.mem_cons.1 ho with rfl|ho
  ·exact h.1
  ·exact h.2.mem o ho
def eD (E:List (Nat×aM)):List (Nat×Bool)→Prop
 |[]=>True
 |(d,b)::l=>(∀ w v,(aN E d).holds w v→v= .bool b)∧eD E l
theorem bI.cons {P:Program} {E:List (Nat×aM)} {w0:World} {o:Oper} {l:List Oper} (h:cC P E w0 o) (t:bI P E w0 l):bI P E w0 (o::l):=⟨h,t⟩
theorem bI.nil{E:List (Nat×aM)} :bI P E w0 []:=trivial
theorem jO{E:List (Nat×aM)} {d:Nat} {ty:TypeId} {pos:String} {af:Array Edge} {g:Option (Nat×Bool)} (h:∀ w v,(aN E s).holds w v→(aN E d).holds w v):
 cC P E w0 ⟨some d, .move (.tmp s),ty,pos,af,g⟩:=fun ρ w _ _ _ hs=>by
 show (aN E d).holds w (ρ (.tmp s))∧_
 exact ⟨h _ _ hs.1,Below.refl _ _⟩
theorem sF{E:List (Nat×aM)} {d:Nat} {ty:TypeId} {pos:String} {af:Array Edge} {g:Option (Nat×Bool)} (h:∀ w v,(aN E s).holds w v→(aN E d).holds w v):
 cC P E w0 ⟨some d, .assign (.tmp s),ty,pos,af,g⟩:=fun ρ w _ _ _ hs=>by
 show (aN E d).holds w (ρ (.tmp s))∧_
 exact ⟨h _ _ hs.1,Below.refl _ _⟩
theorem eD.mem {E:List (Nat×aM)}:∀ {l:List (Nat×Bool)},eD E l→∀ p∈l,∀ w v,(aN E p.1).holds w v→v= .bool p.2
 |[],_,_,h=>by cases h
 |_::_,h,p,hp=>by
  rcases List.mem_cons.1 hp with rfl|hp
  ·exact h.1
  ·exact h.2.mem p hp
def gI (E:List (Nat×aM)) (w:World) (a:Act):List Nat→Prop
 |[]=>True
 |s::l=>(aN E s).holds w (a.tmps.getD s undef)∧gI E w a l
theorem gI.mem{E:List (Nat×aM)} :∀ {l:List Nat},gI E w a l→∀ s∈l,(aN E s).holds w (a.tmps.getD s undef)
 |[],_,_,h=>by cases h
 |_::_,h,p,hp=>by
  rcases List.mem_cons.1 hp with rfl|hp
  ·exact h.1
  ·exact h.2.mem p hp
def cn:List Nat→Bool
 |[]=>true
 |a::l=> !l.elem a&&cn l
def eZ (ops:Array Oper) (start:List Nat) (gs:List (Nat×Bool)) (n i:Nat) (o:Oper):Bool:=
 (match o.dst with|some d=>Nat.blt d n&& !start.elem d|none=>false)&&
 (o.op.operands.toList.all fun| .tmp s=>start.elem s || o.after.toList.any (fun e=>Region.binds .any e&&((ops[e.on]?).bind (·.dst)==some s))|_=>true)&&
 (match o.guard with|none=>true|some (g,want)=>(match (ops[g]?).bind (·.dst) with|some d=>gs.elem (d,want)|none=>false)&&o.after.toList.any (fun e=>Region.binds .any e&&Nat.beq e.on g))&&
 (o.after.toList.all fun e=> !Region.binds .any e || Nat.blt e.on i)
def mX (ops:Array Oper) (start:List Nat) (gs:List (Nat×Bool)) (n:Nat):Bool:=
 ((List.range ops.size).all fun i=>match ops[i]? with|some o=>eZ ops start gs n i o|none=>false)&&cn (ops.toList.map aK)
def bF (a:Act) (v:Nat→Value):List Nat→Act
 |[]=>a
 |d::l=>bF (a.put (some d) (v d)) v l
theorem fX (v:Nat→Value):∀ (l:List Nat) (a:Act),(bF a v l).tmps.size=a.tmps.size
 |[],_=>rfl
 |d::l,a=>by rw [bF,fX v l];simp [Act.put]
theorem eY (v:Nat→Value):∀ (l:List Nat) (a:Act),(bF a v l).defers=a.defers
 |[],_=>rfl
 |d::l,a=>by rw [bF,eY v l];rfl
theorem bC (a:Act) (d s:Nat) (v:Value) (hd:d<a.tmps.size):(a.put (some d) v).tmps.getD s undef=if s=d then v else a.tmps.getD s undef:=by
 simp only [Act.put,Array.getD_eq_getD_getElem?]
 by_cases h:s=d
 ·subst h
  rw [if_pos rfl,Array.getElem?_setIfInBounds_self_of_lt hd];rfl
 ·rw [if_neg h,Array.getElem?_setIfInBounds_ne (Ne.symm h)]
theorem gF (v:Nat→Value):∀ (l:List Nat) (a:Act) (s:Nat),(∀ d∈l,d<a.tmps.size)→(s∈l∨a.tmps.getD s undef=v s)→(bF a v l).tmps.getD s undef=v s
 |[],a,s,_,h=>by
  rcases h with h|h
  ·cases h
  ·exact h
 |d::l,a,s,hd,h=>by
  rw [bF]
  have hd0:=hd d qE
  refine gF v l _ s (fun e he=>by simp [Act.put];exact hd e (List.mem_cons_of_mem _ he)) ?_
  rw [bC _ _ _ _ hd0]
  by_cases hs:s=d
  ·subst hs;exact .inr (if_pos rfl)
  ·rw [if_neg hs]
   rcases h with h|h
   ·rcases List.mem_cons.1 h with h|h
    ·exact absurd h hs
    ·exact .inl h
   ·exact .inr h
theorem gz (v:Nat→Value):∀ (l:List Nat) (a:Act) (s:Nat),(∀ d∈l,d<a.tmps.size)→s ∉ l→(bF a v l).tmps.getD s undef=a.tmps.getD s undef
 |[],_,_,_,_=>rfl
 |d::l,a,s,hd,h=>by
  have hd0:=hd d qE
  rw [bF,gz v l _ s (fun e he=>by simp [Act.put];exact hd e (List.mem_cons_of_mem _ he)) (fun hm=>h (List.mem_cons_of_mem _ hm)),bC _ _ _ _ hd0,if_neg]
  rintro rfl
  exact h qE
theorem pD{b:Act} (hs:a.tmps.size=b.tmps.size) (hd:a.defers=b.defers) (h:∀ s,a.tmps.getD s undef=b.tmps.getD s undef):a=b:=by
 obtain ⟨ta,da⟩:=a
 obtain ⟨tb,db⟩:=b
 simp only at hs hd h
 subst hd
 have:ta=tb:=by
  apply Array.ext hs
  intro i h1 h2
  have:=h i
  simpa [Array.getD_eq_getD_getElem?,h1,h2] using this
 rw [this]
def fJ:List Bool→Nat
 |[]=>0
 |true::l=>fJ l
 |false::l=>fJ l+1
theorem gH:∀ (l:List Bool) (i:Nat),l[i]? =some false→fJ (l.set i true)+1=fJ l
 |[],_,h=>by simp at h
 |b::l,0,h=>by
  simp at h
  subst h
  simp [fJ]
 |b::l,i+1,h=>by
  have:=gH l i (by simpa using h)
  cases b<;>simp [fJ]<;>omega
theorem gJ:∀ (l:List Bool) (i:Nat),l[i]? =some false→0<fJ l
 |[],_,h=>by simp at h
 |b::l,0,h=>by
  simp at h
  subst h
  simp [fJ]
 |b::l,i+1,h=>by
  have:=gJ l i (by simpa using h)
  cases b<;>simp [fJ]
  exact this
section
variable {P:Program} {ops:Array Oper} {Q:Exit→Act→World→Prop} {E:List (Nat×aM)} {w0:World} {a0:Act} {start:List Nat} {gs:List (Nat×Bool)} {n:Nat}
theorem mF(h:mX ops start gs n=true) (ho:ops[i]? =some o):eZ ops start gs n i o=true:=by
 unfold mX at h
 simp only [Bool.and_eq_true,List.all_eq_true] at h
 have:=h.1 i (by simpa using (Array.getElem?_eq_some_iff.1 ho).1)
 rw [ho] at this
 exact this
theorem gc:∀ {l:List Nat},cn l=true→∀ (i j:Nat) (x:Nat),l[i]? =some x→l[j]? =some x→i=j
 |[],_,i,_,_,hi,_=>by simp at hi
 |a::l,h,i,j,x,hi,hj=>by
  simp only [cn,Bool.and_eq_true,Bool.not_eq_true',List.elem_eq_mem,decide_eq_false_iff_not] at h
  rcases i with _|i<;>rcases j with _|j
  ·rfl
  ·simp at hi hj
   subst hi
   exact absurd (List.mem_of_getElem? hj) h.1
  ·simp at hi hj
   subst hj
   exact absurd (List.mem_of_getElem? hi) h.1
  ·rw [gc h.2 i j x (by simpa using hi) (by simpa using hj)]
structure I7 (ops:Array Oper) (E:List (Nat×aM)) (w0:World) (a0:Act) (start:List Nat) (n:Nat) (listed:Array Bool) (a:Act) (w:World):Prop where
 size:a.tmps.size=n
 defers:a.defers=a0.defers
 below:Below w0.heap.size w0 w
 rest:∀ s,s ∉ ops.toList.map aK→a.tmps.getD s undef=a0.tmps.getD s undef
 start:∀ s∈start,(aN E s).holds w (a.tmps.getD s undef)
 done:∀ (i:Nat) (o:Oper),ops[i]? =some o→listed.getD i false=true→(aN E (aK o)).holds w (a.tmps.getD (aK o) undef)
 len:listed.size=ops.size
theorem vi (hck:mX ops start gs n=true) (hgs:eD E gs) (hok:bI P E w0 ops.toList) (hn:a0.tmps.size=n)
 (hfin:∀ v w',(∀ o∈ops.toList,(aN E (aK o)).holds w' (v (aK o)))→Below w0.heap.size w0 w'→Q .normal (bF a0 v (ops.toList.map aK)) w'):
 ∀ (fuel:Nat) (listed:Array Bool) (a:Act) (w:World),I7 ops E w0 a0 start n listed a w→fJ listed.toList≤fuel→wpAny P .any ops Q fuel listed a w:=by
 have hd:∀ (i:Nat) (o:Oper),ops[i]? =some o→∃ d,o.dst=some d∧d<n∧d ∉ start∧aK o=d:=by
  intro i o ho
  have:=mF hck ho
  unfold eZ at this
  simp only [Bool.and_eq_true] at this
  obtain ⟨⟨⟨h1,_⟩,_⟩,_⟩:=this
  cases hdo:o.dst with
  |none=>rw [hdo] at h1;simp at h1
  |some d=>
   rw [hdo] at h1
   simp only [Bool.and_eq_true,Bool.not_eq_true',List.elem_eq_mem,decide_eq_false_iff_not] at h1
   exact ⟨d,rfl,by rw [←Nat.blt_eq];exact h1.1,h1.2,by unfold aK;rw [hdo];rfl⟩
 have hdist:∀ (i j:Nat) (o o':Oper),ops[i]? =some o→ops[j]? =some o'→aK o=aK o'→i=j:=by
  intro i j o o' ho ho' he
  have h:=hck
  unfold mX at h
  simp only [Bool.and_eq_true] at h
  refine gc h.2 i j (aK o) ?_ ?_
  ·rw [List.getElem?_map,Array.getElem?_toList,ho];rfl
  ·rw [List.getElem?_map,Array.getElem?_toList,ho',he];rfl
 have hdone:∀ (listed:Array Bool) (a:Act) (w:World),I7 ops E w0 a0 start n listed a w→Region.ready .any ops listed=[]→Q .normal a w:=by
  intro listed a w hI hr
  have hall:∀ i,i<ops.size→listed.getD i false=true:=by
   intro i
   induction i using Nat.strongRecOn with
   |_ i ih=>
    intro hi
    by_cases hl:listed.getD i true=true
    ·have hi':i<listed.size:=by rw [hI.len];exact hi
     simpa [Array.getD_eq_getD_getElem?,hi'] using hl
    ·exfalso
     obtain ⟨o,ho⟩:∃ o,ops[i]? =some o:=⟨_,Array.getElem?_eq_getElem hi⟩
     have hchk:=mF hck ho
     unfold eZ at hchk
     simp only [Bool.and_eq_true,List.all_eq_true] at hchk
     have hm:i∈Region.ready .any ops listed:=by
      unfold Region.ready
      simp only [List.mem_filter,List.mem_range,hi,true_and,Bool.and_eq_true,Bool.not_eq_true',ho,Option.map_some,Option.getD_some]
      refine ⟨by simpa using hl,?_⟩
      rw [←Array.all_toList]
      simp only [List.all_eq_true]
      intro e he
      have:=hchk.2 e he
      simp only [Bool.or_eq_true] at this ⊢
      rcases this with h|h
      ·exact .inl h
      ·have hlt:e.on<i:=by rw [←Nat.blt_eq];exact h
       exact .inr (ih e.on hlt qO)
     rw [hr] at hm
     cases hm
  have hds:∀ d∈ops.toList.map aK,d<a0.tmps.size:=by
   intro d hdm
   obtain ⟨o,ho,rfl⟩:=List.mem_map.1 hdm
   obtain ⟨i,hi⟩:=List.mem_iff_getElem?.1 ho
   rw [Array.getElem?_toList] at hi
   obtain ⟨d,_,h2,_,h4⟩:=hd i o hi
   rw [h4,hn];exact h2
  have he:a=bF a0 (fun s=>a.tmps.getD s undef) (ops.toList.map aK):=by
   refine pD (by rw [fX,hI.size,hn]) (by rw [eY,hI.defers]) fun s=> ?_
   by_cases hs:s∈ops.toList.map aK
   ·rw [gF _ _ _ _ hds (.inl hs)]
   ·rw [gz _ _ _ _ hds hs,hI.rest s hs]
  rw [he]
  refine hfin _ _ (fun o ho=> ?_) hI.below
  obtain ⟨i,hi⟩:=List.mem_iff_getElem?.1 ho
  rw [Array.getElem?_toList] at hi
  exact hI.done i o hi (hall i (Array.getElem?_eq_some_iff.1 hi).1)
 intro fuel
 induction fuel with
 |zero=>
  intro listed a w hI hf
  have hr:Region.ready .any ops listed=[]:=by
   unfold Region.ready
   rw [List.filter_eq_nil_iff]
   intro i hi
   simp only [List.mem_range] at hi
   intro hc
   simp only [Bool.and_eq_true,Bool.not_eq_true'] at hc
   have hi':i<listed.size:=by rw [hI.len];exact hi
   have:listed.toList[i]? =some false:=by
    have h1:=hc.1
    rw [Array.getElem?_toList]
    simpa [Array.getD_eq_getD_getElem?,hi'] using h1
   have:=gJ _ _ this
   omega
  exact ⟨hr,hdone listed a w hI hr⟩
 |succ fuel ih=>
  intro listed a w hI hf
  refine ⟨hdone listed a w hI,fun i hi=> ?_⟩
  unfold Region.ready at hi
  simp only [List.mem_filter,List.mem_range,Bool.and_eq_true,Bool.not_eq_true'] at hi
  obtain ⟨hlt,hl,haf⟩:=hi
  have hi':i<listed.size:=by rw [hI.len];exact hlt
  obtain ⟨o,ho⟩:∃ o,ops[i]? =some o:=⟨_,Array.getElem?_eq_getElem hlt⟩
  rw [ho] at haf
  simp only [Option.map_some,Option.getD_some] at haf
  rw [←Array.all_toList] at haf
  simp only [List.all_eq_true,Bool.or_eq_true,Bool.not_eq_true'] at haf
  have hchk:=mF hck ho
  unfold eZ at hchk
  simp only [Bool.and_eq_true] at hchk
  obtain ⟨⟨⟨hc1,hc2⟩,hc3⟩,hc4⟩:=hchk
  have hwait:∀ e∈o.after.toList,Region.binds .any e=true→∀ oe,ops[e.on]? =some oe→(aN E (aK oe)).holds w (a.tmps.getD (aK oe) undef):=by
   intro e he hb oe hoe
   rcases haf e he with h|h
   ·rw [hb] at h;cases h
   ·exact hI.done _ _ hoe h
  have hw:Region.wanted o (yielded ops a.tmps)=true:=by
   unfold Region.wanted
   cases hg:o.guard with
   |none=>rfl
   |some p=>
    obtain ⟨g,want⟩:=p
    rw [hg] at hc3
    simp only [Bool.and_eq_true,List.any_eq_true] at hc3
    obtain ⟨h1,e,he,hb,heg⟩:=hc3
    have heg':e.on=g:=Nat.eq_of_beq_eq_true heg
    cases hog:ops[g]? with
    |none=>rw [hog] at h1;simp at h1
    |some og=>
     rw [hog] at h1
     obtain ⟨d,hd1,hd2,_,hd4⟩:=hd g og hog
     simp only [Option.bind_some,hd1,List.elem_eq_mem,decide_eq_true_eq] at h1
     have hv:=hwait e he hb og (by rw [heg'];exact hog)
     rw [hd4] at hv
     have hval:=hgs.mem _ h1 _ _ hv
     have hsz:d<a.tmps.size:=by rw [hI.size];exact hd2
     have hget:a.tmps[d]? =some (.bool want):=by
      rw [Array.getD_eq_getD_getElem?,Array.getElem?_eq_getElem hsz] at hval
      rw [Array.getElem?_eq_getElem hsz]
      simpa using hval
     simp [yielded,hog,hd1,hget]
  unfold wpOp
  simp only [ho]
  rw [if_pos hw]
  left
  obtain ⟨d,hd1,hd2,hd3,hd4⟩:=hd i o ho
  have hslots:bJ E w a.eval o.op.operands.toList:=by
   refine bJ.of fun s hs=> ?_
   have:=List.all_eq_true.1 hc2 _ hs
   simp only [Bool.or_eq_true,List.any_eq_true,Bool.and_eq_true] at this
   rcases this with h|⟨e,he,hb,heq⟩
   ·exact hI.start s (by simpa using h)
   ·have heq':(ops[e.on]?).bind (·.dst)=some s:=by simpa using heq
    cases hoe:ops[e.on]? with
    |none=>rw [hoe] at heq';cases heq'
    |some oe=>
     rw [hoe] at heq'
     have h1:=hwait e he hb oe hoe
     obtain ⟨d',hd1',_,_,hd4'⟩:=hd _ oe hoe
     have:d'=s:=by
      have h2:oe.dst=some s:=heq'
      rw [hd1'] at h2
      injection h2
     subst this
     rw [hd4'] at h1
     exact h1
  have hy:=(hok.mem o (by rw [Array.mem_toList_iff];exact Array.mem_of_getElem? ho)) a.eval w (fun _=>rfl) (fun _=>rfl) hI.below hslots
  refine Oper.wp_mono (fun a' w' h=> ?_) hy.wp
  obtain ⟨v,rfl,hT,hB⟩:=h
  have hsz:d<a.tmps.size:=by rw [hI.size];exact hd2
  rw [hd1]
  refine ih _ _ _ ⟨?_,?_,?_,?_,?_,?_,?_⟩ ?_
  ·simp [Act.put,hI.size]
  ·exact hI.defers
  ·exact hI.below.trans (hB.mono hI.below.size)
  ·intro s hs
   rw [bC _ _ _ _ hsz,if_neg,hI.rest s hs]
   rintro rfl
   refine hs (List.mem_map.2 ⟨o,?_,hd4⟩)
   rw [Array.mem_toList_iff];exact Array.mem_of_getElem? ho
  ·intro s hs
   rw [bC _ _ _ _ hsz,if_neg]
   ·exact (aN E s).stable (hI.start s hs) hB
   ·rintro rfl
    exact hd3 hs
  ·intro j oj hj hlj
   by_cases hji:j=i
   ·subst hji
    rw [ho] at hj
    injection hj with hj
    subst hj
    rw [hd4,bC _ _ _ _ hsz,if_pos rfl]
    rw [hd4] at hT
    exact hT
   ·have hne:aK oj≠d:=fun h=>hji (hdist j i oj o hj ho (by rw [h,hd4]))
    rw [bC _ _ _ _ hsz,if_neg hne]
    refine (aN E _).stable (hI.done j oj hj ?_) hB
    rw [Array.getD_eq_getD_getElem?,Array.getElem?_setIfInBounds_ne (Ne.symm hji)] at hlj
    rw [Array.getD_eq_getD_getElem?]
    exact hlj
  ·simp [hI.len]
  ·have h1:listed.toList[i]? =some false:=by
    rw [Array.getElem?_toList]
    simpa [Array.getD_eq_getD_getElem?,hi'] using hl
   have:=gH _ _ h1
   rw [Array.toList_setIfInBounds]
   omega
def fe (E:List (Nat×aM)) (w:World) (v:Nat→Value):List Oper→Prop
 |[]=>True
 |o::l=>(aN E (aK o)).holds w (v (aK o))∧fe E w v l
theorem fe.of {w:World} {v:Nat→Value}:∀ {l:List Oper},(∀ o∈l,(aN E (aK o)).holds w (v (aK o)))→fe E w v l
 |[],_=>trivial
 |o::l,h=>⟨h o qE,fe.of (l:=l) fun t ht=>h t (List.mem_cons_of_mem _ ht)⟩
theorem jG (k:Nat):fJ (List.replicate k false)≤k:=by
 induction k with
 |zero=>simp [fJ]
 |succ k ih=>simp only [List.replicate_succ,fJ];omega
theorem kG {id:Nat} {l:List Oper} {w:World} (E:List (Nat×aM)) (start:List Nat) (gs:List (Nat×Bool)) (n:Nat) (hm:P.follows .mixedOrders=true) (hck:mX l.toArray start gs n=true) (hn:a0.tmps.size=n) (hgs:eD E gs)
 (hst:gI E w a0 start) (hok:bI P E w l)
 (hfin:∀ v w',fe E w' v l→Below w.heap.size w w'→Q .normal (bF a0 v (l.map aK)) w'):
 (Code.region id l.toArray true).wp P Q a0 w:=by
 refine wp_region_any hm ?_
 have hb:Below w.heap.size w w.drew:=(Below.refl _ _).drew
 refine vi (w0:=w) hck hgs (by simpa using hok) hn (fun v w' h hb=>by simpa using hfin v w' (fe.of (by simpa using h)) hb) _ _ _ _ ⟨hn,rfl,hb,fun _ _=>rfl,fun s hs=>(aN E s).stable (hst.mem s hs) hb,?_,by simp⟩ ?_
 ·intro i o ho hl
  exfalso
  rw [Array.getD_eq_getD_getElem?] at hl
  cases h:(Array.replicate l.toArray.size false)[i]? with
  |none=>rw [h] at hl;cases hl
  |some b=>
   have:=Array.mem_of_getElem? h
   simp at this
   rw [h,this.2] at hl
   cases hl
 ·simpa using jG l.toArray.size
end
def x8 (ops:Array Oper) (start:List Nat) (gs:List (Nat×Bool)) (n m:Nat) (t:Oper):Bool:=
 Nat.beq ops.size (m+1)&&((List.range m).all fun i=>match ops[i]? with|some o=>eZ ops start gs n i o&&t.after.toList.any (fun e=>Region.binds .any e&&Nat.beq e.on i)|none=>false)&&cn ((ops.toList.take m).map aK)&&
 (match t.guard with|none=>true|some _=>false)&&(t.after.toList.all fun e=> !Region.binds .any e || Nat.blt e.on m)
section
variable {P:Program} {ops:Array Oper} {Q:Exit→Act→World→Prop} {E:List (Nat×aM)} {w0:World} {a0:Act} {start:List Nat} {gs:List (Nat×Bool)} {n m:Nat} {t:Oper}
structure IM (ops:Array Oper) (E:List (Nat×aM)) (w0:World) (a0:Act) (start:List Nat) (n m:Nat) (listed:Array Bool) (a:Act) (w:World):Prop where
 size:a.tmps.size=n
 defers:a.defers=a0.defers
 below:Below w0.heap.size w0 w
 rest:∀ s,s ∉ (ops.toList.take m).map aK→a.tmps.getD s undef=a0.tmps.getD s undef
 start:∀ s∈start,(aN E s).holds w (a.tmps.getD s undef)
 done:∀ (i:Nat) (o:Oper),i<m→ops[i]? =some o→listed.getD i false=true→(aN E (aK o)).holds w (a.tmps.getD (aK o) undef)
 len:listed.size=ops.size
 last:listed.getD m true=false
theorem od:o∈ops.toList.take m↔∃ i,i<m∧ops[i]? =some o:=by
 rw [List.mem_iff_getElem?]
 constructor
 ·rintro ⟨i,hi⟩
  rw [List.getElem?_take] at hi
  split at hi
  ·rename_i h;exact ⟨i,h,by rw [←Array.getElem?_toList];exact hi⟩
  ·cases hi
 ·rintro ⟨i,h,hi⟩
  exact ⟨i,by rw [List.getElem?_take,if_pos h,Array.getElem?_toList];exact hi⟩
theorem wI (hck:x8 ops start gs n m t=true) (ht:ops[m]? =some t) (hgs:eD E gs) (hok:bI P E w0 (ops.toList.take m)) (hn:a0.tmps.size=n)
 (hfin:∀ v w',(∀ o∈ops.toList.take m,(aN E (aK o)).holds w' (v (aK o)))→Below w0.heap.size w0 w'→wpList P ops Q [t] (bF a0 v ((ops.toList.take m).map aK)) w'):
 ∀ (fuel:Nat) (listed:Array Bool) (a:Act) (w:World),IM ops E w0 a0 start n m listed a w→fJ listed.toList≤fuel→wpAny P .any ops Q fuel listed a w:=by
 unfold x8 at hck
 simp only [Bool.and_eq_true,List.all_eq_true] at hck
 obtain ⟨⟨⟨⟨hsz0,hfr⟩,hdis⟩,htg⟩,htaf⟩:=hck
 have hsize:ops.size=m+1:=Nat.eq_of_beq_eq_true hsz0
 have hop:∀ (i:Nat) (o:Oper),i<m→ops[i]? =some o→eZ ops start gs n i o=true∧t.after.toList.any (fun e=>Region.binds .any e&&Nat.beq e.on i)=true:=by
  intro i o hi ho
  have:=hfr i (by simpa using hi)
  rw [ho] at this
  simpa only [Bool.and_eq_true] using this
 have hd:∀ (i:Nat) (o:Oper),i<m→ops[i]? =some o→∃ d,o.dst=some d∧d<n∧d ∉ start∧aK o=d:=by
  intro i o hi ho
  have:=(hop i o hi ho).1
  unfold eZ at this
  simp only [Bool.and_eq_true] at this
  obtain ⟨⟨⟨h1,_⟩,_⟩,_⟩:=this
  cases hdo:o.dst with
  |none=>rw [hdo] at h1;simp at h1
  |some d=>
   rw [hdo] at h1
   simp only [Bool.and_eq_true,Bool.not_eq_true',List.elem_eq_mem,decide_eq_false_iff_not] at h1
   exact ⟨d,rfl,by rw [←Nat.blt_eq];exact h1.1,h1.2,by unfold aK;rw [hdo];rfl⟩
 have hdist:∀ (i j:Nat) (o o':Oper),i<m→j<m→ops[i]? =some o→ops[j]? =some o'→aK o=aK o'→i=j:=by
  intro i j o o' hi hj ho ho' he
  refine gc hdis i j (aK o) ?_ ?_
  ·rw [List.getElem?_map,List.getElem?_take,if_pos hi,Array.getElem?_toList,ho];rfl
  ·rw [List.getElem?_map,List.getElem?_take,if_pos hj,Array.getElem?_toList,ho',he];rfl
 have hnot:∀ (listed:Array Bool) (a:Act) (w:World),IM ops E w0 a0 start n m listed a w→Region.ready .any ops listed≠[]:=by
  intro listed a w hI hr
  have hall:∀ i,i<m→listed.getD i false=true:=by
   intro i
   induction i using Nat.strongRecOn with
   |_ i ih=>
    intro hi
    by_cases hl:listed.getD i true=true
    ·have hi':i<listed.size:=by rw [hI.len];omega
     simpa [Array.getD_eq_getD_getElem?,hi'] using hl
    ·exfalso
     obtain ⟨o,ho⟩:∃ o,ops[i]? =some o:=⟨_,Array.getElem?_eq_getElem qO⟩
     have hchk:=(hop i o hi ho).1
     unfold eZ at hchk
     simp only [Bool.and_eq_true,List.all_eq_true] at hchk
     have hm:i∈Region.ready .any ops listed:=by
      unfold Region.ready
      simp only [List.mem_filter,List.mem_range,show i<ops.size by omega,true_and,Bool.and_eq_true,Bool.not_eq_true',ho,Option.map_some,Option.getD_some]
      refine ⟨by simpa using hl,?_⟩
      rw [←Array.all_toList]
      simp only [List.all_eq_true]
      intro e he
      have:=hchk.2 e he
      simp only [Bool.or_eq_true] at this ⊢
      rcases this with h|h
      ·exact .inl h
      ·have hlt:e.on<i:=by rw [←Nat.blt_eq];exact h
       exact .inr (ih e.on hlt qO)
     rw [hr] at hm
     cases hm
  have hm:m∈Region.ready .any ops listed:=by
   unfold Region.ready
   simp only [List.mem_filter,List.mem_range,show m<ops.size by omega,true_and,Bool.and_eq_true,Bool.not_eq_true',ht,Option.map_some,Option.getD_some]
   refine ⟨hI.last,?_⟩
   rw [←Array.all_toList]
   simp only [List.all_eq_true]
   intro e he
   have:=htaf e he
   simp only [Bool.or_eq_true] at this ⊢
   rcases this with h|h
   ·exact .inl h
   ·have hlt:e.on<m:=by rw [←Nat.blt_eq];exact h
    exact .inr (hall e.on hlt)
  rw [hr] at hm
  cases hm
 intro fuel
 induction fuel with
 |zero=>
  intro listed a w hI hf
  exfalso
  have:listed.toList[m]? =some false:=by
   have h1:=hI.last
   have hi':m<listed.size:=by rw [hI.len];omega
   rw [Array.getElem?_toList]
   simpa [Array.getD_eq_getD_getElem?,hi'] using h1
  have:=gJ _ _ this
  omega
 |succ fuel ih=>
  intro listed a w hI hf
  refine ⟨fun hr=>absurd hr (hnot listed a w hI),fun i hi=> ?_⟩
  unfold Region.ready at hi
  simp only [List.mem_filter,List.mem_range,Bool.and_eq_true,Bool.not_eq_true'] at hi
  obtain ⟨hlt,hl,haf⟩:=hi
  have hi':i<listed.size:=by rw [hI.len];exact hlt
  obtain ⟨o,ho⟩:∃ o,ops[i]? =some o:=⟨_,Array.getElem?_eq_getElem hlt⟩
  rw [ho] at haf
  simp only [Option.map_some,Option.getD_some] at haf
  rw [←Array.all_toList] at haf
  simp only [List.all_eq_true,Bool.or_eq_true,Bool.not_eq_true'] at haf
  by_cases him:i=m
  ·subst him
   rw [ht] at ho
   injection ho with ho
   subst ho
   have hall:∀ j,j<i→listed.getD j false=true:=by
    intro j hj
    obtain ⟨oj,hoj⟩:∃ oj,ops[j]? =some oj:=⟨_,Array.getElem?_eq_getElem qO⟩
    have h1:=(hop j oj hj hoj).2
    simp only [List.any_eq_true,Bool.and_eq_true] at h1
    obtain ⟨e,he,hb,hej⟩:=h1
    have hej':e.on=j:=Nat.eq_of_beq_eq_true hej
    rcases haf e he with h|h
    ·rw [hb] at h;cases h
    ·rw [←hej'];exact h
   have hds:∀ d∈(ops.toList.take i).map aK,d<a0.tmps.size:=by
    intro d hdm
    obtain ⟨o,ho,rfl⟩:=List.mem_map.1 hdm
    obtain ⟨j,hj,hoj⟩:=od.1 ho
    obtain ⟨d,_,h2,_,h4⟩:=hd j o hj hoj
    rw [h4,hn];exact h2
   have he:a=bF a0 (fun s=>a.tmps.getD s undef) ((ops.toList.take i).map aK):=by
    refine pD (by rw [fX,hI.size,hn]) (by rw [eY,hI.defers]) fun s=> ?_
    by_cases hs:s∈(ops.toList.take i).map aK
    ·rw [gF _ _ _ _ hds (.inl hs)]
    ·rw [gz _ _ _ _ hds hs,hI.rest s hs]
   have hlast:=hfin (fun s=>a.tmps.getD s undef) w (fun o ho=>by
    obtain ⟨j,hj,hoj⟩:=od.1 ho
    exact hI.done j o hj hoj (hall j hj)) hI.below
   rw [←he] at hlast
   have hend:∀ (a':Act) (w':World),Q .normal a' w'→wpAny P .any ops Q fuel (listed.setIfInBounds i true) a' w':=by
    intro a' w' hq
    have hr:Region.ready .any ops (listed.setIfInBounds i true)=[]:=by
     unfold Region.ready
     rw [List.filter_eq_nil_iff]
     intro j hj
     simp only [List.mem_range] at hj
     intro hc
     simp only [Bool.and_eq_true,Bool.not_eq_true'] at hc
     have hj':j<listed.size:=by rw [hI.len];exact hj
     by_cases hji:j=i
     ·subst hji
      have:=hc.1
      simp [Array.getD_eq_getD_getElem?,hj'] at this
     ·have h1:=hall j qO
      have h2:=hc.1
      rw [Array.getD_eq_getD_getElem?,Array.getElem?_setIfInBounds_ne (Ne.symm hji)] at h2
      rw [Array.getD_eq_getD_getElem?] at h1
      rw [Array.getElem?_eq_getElem hj'] at h1 h2
      simp at h1 h2
      rw [h1] at h2
      cases h2
    cases fuel with
    |zero=>exact ⟨hr,hq⟩
    |succ f=>exact ⟨fun _=>hq,fun j hj=>by rw [hr] at hj;cases hj⟩
   unfold wpOp
   simp only [ht]
   unfold wpList at hlast
   split at hlast
   ·rw [if_pos ‹_›]
    rcases hlast with h|h
    ·exact .inl (Oper.wp_mono (fun a' w' h'=>hend a' w' h') h)
    ·exact .inr h
   ·rw [if_neg ‹_›]
    exact hend _ _ hlast
  ·have hilt:i<m:=qO
   have hchk:=(hop i o hilt ho).1
   unfold eZ at hchk
   simp only [Bool.and_eq_true] at hchk
   obtain ⟨⟨⟨hc1,hc2⟩,hc3⟩,hc4⟩:=hchk
   have hon:∀ e∈o.after.toList,Region.binds .any e=true→e.on<m:=by
    intro e he hb
    have:=List.all_eq_true.1 hc4 e he
    simp only [Bool.or_eq_true,Bool.not_eq_true'] at this
    rcases this with h|h
    ·rw [hb] at h;cases h
    ·have:e.on<i:=by rw [←Nat.blt_eq];exact h
     omega
   have hwait:∀ e∈o.after.toList,Region.binds .any e=true→∀ oe,ops[e.on]? =some oe→(aN E (aK oe)).holds w (a.tmps.getD (aK oe) undef):=by
    intro e he hb oe hoe
    rcases haf e he with h|h
    ·rw [hb] at h;cases h
    ·exact hI.done _ _ (hon e he hb) hoe h
   have hw:Region.wanted o (yielded ops a.tmps)=true:=by
    unfold Region.wanted
    cases hg:o.guard with
    |none=>rfl
    |some p=>
     obtain ⟨g,want⟩:=p
     rw [hg] at hc3
     simp only [Bool.and_eq_true,List.any_eq_true] at hc3
     obtain ⟨h1,e,he,hb,heg⟩:=hc3
     have heg':e.on=g:=Nat.eq_of_beq_eq_true heg
     cases hog:ops[g]? with
     |none=>rw [hog] at h1;simp at h1
     |some og=>
      rw [hog] at h1
      obtain ⟨d,hd1,hd2,_,hd4⟩:=hd g og (by rw [←heg'];exact hon e he hb) hog
      simp only [Option.bind_some,hd1,List.elem_eq_mem,decide_eq_true_eq] at h1
      have hv:=hwait e he hb og (by rw [heg'];exact hog)
      rw [hd4] at hv
      have hval:=hgs.mem _ h1 _ _ hv
      have hsz:d<a.tmps.size:=by rw [hI.size];exact hd2
      have hget:a.tmps[d]? =some (.bool want):=by
       rw [Array.getD_eq_getD_getElem?,Array.getElem?_eq_getElem hsz] at hval
       rw [Array.getElem?_eq_getElem hsz]
       simpa using hval
      simp [yielded,hog,hd1,hget]
   unfold wpOp
   simp only [ho]
   rw [if_pos hw]
   left
   obtain ⟨d,hd1,hd2,hd3,hd4⟩:=hd i o hilt ho
   have hslots:bJ E w a.eval o.op.operands.toList:=by
    refine bJ.of fun s hs=> ?_
    have:=List.all_eq_true.1 hc2 _ hs
    simp only [Bool.or_eq_true,List.any_eq_true,Bool.and_eq_true] at this
    rcases this with h|⟨e,he,hb,heq⟩
    ·exact hI.start s (by simpa using h)
    ·have heq':(ops[e.on]?).bind (·.dst)=some s:=by simpa using heq
     cases hoe:ops[e.on]? with
     |none=>rw [hoe] at heq';cases heq'
     |some oe=>
      rw [hoe] at heq'
      have h1:=hwait e he hb oe hoe
      obtain ⟨d',hd1',_,_,hd4'⟩:=hd _ oe (hon e he hb) hoe
      have:d'=s:=by
       have h2:oe.dst=some s:=heq'
       rw [hd1'] at h2
       injection h2
      subst this
      rw [hd4'] at h1
      exact h1
   have hof:o∈ops.toList.take m:=od.2 ⟨i,hilt,ho⟩
   have hy:=(hok.mem o hof) a.eval w (fun _=>rfl) (fun _=>rfl) hI.below hslots
   refine Oper.wp_mono (fun a' w' h=> ?_) hy.wp
   obtain ⟨v,rfl,hT,hB⟩:=h
   have hsz:d<a.tmps.size:=by rw [hI.size];exact hd2
   rw [hd1]
   refine ih _ _ _ ⟨?_,?_,?_,?_,?_,?_,?_,?_⟩ ?_
   ·simp [Act.put,hI.size]
   ·exact hI.defers
   ·exact hI.below.trans (hB.mono hI.below.size)
   ·intro s hs
    rw [bC _ _ _ _ hsz,if_neg,hI.rest s hs]
    rintro rfl
    exact hs (List.mem_map.2 ⟨o,hof,hd4⟩)
   ·intro s hs
    rw [bC _ _ _ _ hsz,if_neg]
    ·exact (aN E s).stable (hI.start s hs) hB
    ·rintro rfl
     exact hd3 hs
   ·intro j oj hjm hj hlj
    by_cases hji:j=i
    ·subst hji
     rw [ho] at hj
     injection hj with hj
     subst hj
     rw [hd4,bC _ _ _ _ hsz,if_pos rfl]
     rw [hd4] at hT
     exact hT
    ·have hne:aK oj≠d:=fun h=>hji (hdist j i oj o hjm hilt hj ho (by rw [h,hd4]))
     rw [bC _ _ _ _ hsz,if_neg hne]
     refine (aN E _).stable (hI.done j oj hjm hj ?_) hB
     rw [Array.getD_eq_getD_getElem?,Array.getElem?_setIfInBounds_ne (Ne.symm hji)] at hlj
     rw [Array.getD_eq_getD_getElem?]
     exact hlj
   ·simp [hI.len]
   ·have:=hI.last
    rw [Array.getD_eq_getD_getElem?,Array.getElem?_setIfInBounds_ne him]
    rw [Array.getD_eq_getD_getElem?] at this
    exact this
   ·have h1:listed.toList[i]? =some false:=by
     rw [Array.getElem?_toList]
     simpa [Array.getD_eq_getD_getElem?,hi'] using hl
    have:=gH _ _ h1
    rw [Array.toList_setIfInBounds]
    omega
theorem dq {id:Nat} {l:List Oper} {w:World} (E:List (Nat×aM)) (start:List Nat) (gs:List (Nat×Bool)) (n m:Nat) (hm:P.follows .mixedOrders=true) (ht:l[m]? =some t) (hck:x8 l.toArray start gs n m t=true) (hn:a0.tmps.size=n) (hgs:eD E gs)
 (hst:gI E w a0 start) (hok:bI P E w (l.take m))
 (hfin:∀ v w',fe E w' v (l.take m)→Below w.heap.size w w'→wpList P l.toArray Q [t] (bF a0 v ((l.take m).map aK)) w'):
 (Code.region id l.toArray true).wp P Q a0 w:=by
 refine wp_region_any hm ?_
 have hb:Below w.heap.size w w.drew:=(Below.refl _ _).drew
 have hsz:l.toArray.size=m+1:=by
  have h:=hck
  unfold x8 at h
  simp only [Bool.and_eq_true] at h
  exact Nat.eq_of_beq_eq_true h.1.1.1.1
 refine wI (w0:=w) hck (by simpa using ht) hgs (by simpa using hok) hn (fun v w' h hb=>by simpa using hfin v w' (fe.of (by simpa using h)) hb) _ _ _ _ ⟨hn,rfl,hb,fun _ _=>rfl,fun s hs=>(aN E s).stable (hst.mem s hs) hb,?_,by simp,?_⟩ ?_
 ·intro i o _ ho hl
  exfalso
  rw [Array.getD_eq_getD_getElem?] at hl
  cases h:(Array.replicate l.toArray.size false)[i]? with
  |none=>rw [h] at hl;cases hl
  |some b=>
   have:=Array.mem_of_getElem? h
   simp at this
   rw [h,this.2] at hl
   cases hl
 ·rw [Array.getD_eq_getD_getElem?,Array.getElem?_replicate,if_pos qO]
  rfl
 ·simpa using jG l.toArray.size
end
def i_ (ops:Array Oper) (gs:List (Nat×Bool)) (o:Oper):Bool:=match o.guard with
 |none=>true
 |some (g,want)=>match (ops[g]?).bind (·.dst) with|some d=>gs.elem (d,want)|none=>false
def bf (P:Program) (ops:Array Oper) (gs:List (Nat×Bool)) (E:List (Nat×aM)) (w0:World):List Oper→Prop
 |[]=>True
 |o::l=>(i_ ops gs o=true→cC P E w0 o)∧bf P ops gs E w0 l
section
variable {P:Program} {ops:Array Oper} {gs:List (Nat×Bool)} {E:List (Nat×aM)} {w0:World}
theorem bf.nil:bf P ops gs E w0 []:=trivial
theorem bf.run{l:List Oper} (h:cC P E w0 o) (t:bf P ops gs E w0 l):bf P ops gs E w0 (o::l):=⟨fun _=>h,t⟩
theorem bf.skip{l:List Oper} (h:i_ ops gs o=false) (t:bf P ops gs E w0 l):bf P ops gs E w0 (o::l):=⟨(fun h'=>by rw [h] at h';cases h'),t⟩
theorem bf.mem:∀ {l:List Oper},bf P ops gs E w0 l→∀ o∈l,i_ ops gs o=true→cC P E w0 o
 |[],_,_,h=>by cases h
 |_::_,h,o,ho=>by
  rcases List.mem_cons.1 ho with rfl|ho
  ·exact h.1
  ·exact bf.mem h.2 o ho
end
def jF (E:List (Nat×aM)):List Nat→Prop
 |[]=>True
 |d::l=>aN E d=aM.is undef∧jF E l
theorem jF.mem {E:List (Nat×aM)}:∀ {l:List Nat},jF E l→∀ d∈l,aN E d=aM.is undef
 |[],_,_,h=>by cases h
 |_::_,h,d,hd=>by
  rcases List.mem_cons.1 hd with rfl|hd
  ·exact h.1
  ·exact h.2.mem d hd
def fm (ops:Array Oper) (keys start:List Nat) (gs:List (Nat×Bool)) (us:List Nat) (n i:Nat) (o:Oper):Bool:=
 (match o.dst with|some d=>Nat.blt d n&& !start.elem d|none=>false)&&
 (o.op.operands.toList.all fun| .tmp s=> !keys.elem s || start.elem s || o.after.toList.any (fun e=>Region.binds .any e&&((ops[e.on]?).bind (·.dst)==some s))|_=>true)&&
 (match o.guard with|none=>true|some (g,want)=>(match (ops[g]?).bind (·.dst) with|some d=>gs.elem (d,want) || ((gs.elem (d, !want) || us.elem d)&&(!keys.elem (aK o) || us.elem (aK o)))|none=>false)&&o.after.toList.any (fun e=>Region.binds .any e&&Nat.beq e.on g))&&
 (o.after.toList.all fun e=> !Region.binds .any e || Nat.blt e.on i)
def jg (ops:Array Oper) (j i:Nat):Bool:=match ops[j]? with|some o=>o.after.toList.any (fun e=>Region.binds .any e&&Nat.beq e.on i)|none=>false
def io (ops:Array Oper) (keys start:List Nat) (gs:List (Nat×Bool)) (us:List Nat) (n m:Nat):Bool:=
 ((List.range m).all fun i=>match ops[i]? with|some o=>fm ops keys start gs us n i o&&(List.range (m+1)).any (fun j=>Nat.blt i j&&jg ops j i)|none=>false)&&cn ((ops.toList.take m).map aK)&&
 ((List.range ops.size).all fun j=>Nat.blt j m || ((match ops[j]? with|some o=>(match o.guard with|none=>true|some _=>true)&&(o.after.toList.all fun e=> !Region.binds .any e || Nat.blt e.on j)|none=>false)&&(Nat.beq j m || jg ops j (j - 1))))&&
 Nat.ble m ops.size&&(Nat.blt m ops.size || Nat.beq m ops.size)
def IZ (ops:Array Oper) (keys start:List Nat) (gs:List (Nat×Bool)) (n i:Nat) (o:Oper):Bool:=fm ops keys start gs [] n i o
def Ho (ops:Array Oper) (keys start:List Nat) (gs:List (Nat×Bool)) (n m:Nat):Bool:=io ops keys start gs [] n m
def bt (P:Program):List Oper→Prop
 |[]=>True
 |o::l=>(∀ T,o.op= .alloc T→∀ (ρ:Operand→Value) (w:World),∃ w',(execOp ρ o).run P w= .ok (.value (.pointer (some ⟨w.heap.size,0,none⟩))) w'∧w.heap.size<w'.heap.size)∧bt P l
theorem bt.nil:bt P []:=trivial
theorem bt.cons {P:Program} {o:Oper} {l:List Oper} (h:∀ T,o.op= .alloc T→∀ (ρ:Operand→Value) (w:World),∃ w',(execOp ρ o).run P w= .ok (.value (.pointer (some ⟨w.heap.size,0,none⟩))) w'∧w.heap.size<w'.heap.size) (t:bt P l):bt P (o::l):=⟨h,t⟩
theorem bt.mem {P:Program}:∀ {l:List Oper},bt P l→∀ o∈l,∀ T,o.op= .alloc T→∀ (ρ:Operand→Value) (w:World),∃ w',(execOp ρ o).run P w= .ok (.value (.pointer (some ⟨w.heap.size,0,none⟩))) w'∧w.heap.size<w'.heap.size
 |[],_,_,h=>by cases h
 |_::_,h,o,ho=>by
  rcases List.mem_cons.1 ho with rfl|ho
  ·exact h.1
  ·exact bt.mem h.2 o ho
theorem Yields.alloc {P:Program} {o:Oper} {ρ:Operand→Value} {w w1:World} {K:Value→World→Prop} (h:Yields P o ρ w K) (hr:(execOp ρ o).run P w= .ok (.value (.pointer (some ⟨w.heap.size,0,none⟩))) w1) (hz:w.heap.size<w1.heap.size):
 Yields P o ρ w fun v w'=>K v w'∧v= .pointer (some ⟨w.heap.size,0,none⟩)∧w.heap.size<w'.heap.size:=by
 unfold Yields at*
 rw [hr] at h ⊢
 exact ⟨h,rfl,hz⟩
theorem ms:∀ {E:List (Nat×aM)} {s:Nat},(E.map Prod.fst).elem s=false→aN E s=aM.any
 |[],_,_=>rfl
 |(t,x)::l,s,h=>by
  simp only [List.map_cons,List.elem_eq_mem,decide_eq_false_iff_not,List.mem_cons,not_or] at h
  have hne:Nat.beq t s=false:=by
    cases hb:Nat.beq t s with
    |false=>rfl
    |true=>exact absurd (Nat.eq_of_beq_eq_true hb).symm h.1
  show (bif Nat.beq t s then x else aN l s)=_
  rw [hne]
  exact ms (by simpa using h.2)
section
variable {P:Program} {ops:Array Oper} {Q:Exit→Act→World→Prop} {E:List (Nat×aM)} {w0:World} {a0:Act} {start:List Nat} {gs:List (Nat×Bool)} {us:List Nat} {n m:Nat}
theorem fY(h:jg ops j i=true):∃ o,ops[j]? =some o∧∃ e∈o.after.toList,Region.binds .any e=true∧e.on=i:=by
 unfold jg at h
 split at h
 ·rename_i o ho
  simp only [List.any_eq_true,Bool.and_eq_true] at h
  obtain ⟨e,he,hb,hi⟩:=h
  exact ⟨o,ho,e,he,hb,Nat.eq_of_beq_eq_true hi⟩
 ·cases h
theorem iV{listed:Array Bool} (hl:listed.size=ops.size) (hi:i∈Region.ready .any ops listed):i<ops.size∧listed.getD i true=false∧∀ o,ops[i]? =some o→∀ e∈o.after.toList,Region.binds .any e=true→listed.getD e.on false=true:=by
 unfold Region.ready at hi
 simp only [List.mem_filter,List.mem_range,Bool.and_eq_true,Bool.not_eq_true'] at hi
 obtain ⟨hlt,hl',haf⟩:=hi
 refine ⟨hlt,hl',fun o ho e he hb=> ?_⟩
 rw [ho] at haf
 simp only [Option.map_some,Option.getD_some] at haf
 rw [←Array.all_toList] at haf
 simp only [List.all_eq_true,Bool.or_eq_true,Bool.not_eq_true'] at haf
 rcases haf e he with h|h
 ·rw [hb] at h;cases h
 ·exact h
theorem qB{listed:Array Bool} (ho:ops[i]? =some o) (hl:listed.getD i true=false) (h:∀ e∈o.after.toList,Region.binds .any e=true→listed.getD e.on false=true):i∈Region.ready .any ops listed:=by
 unfold Region.ready
 simp only [List.mem_filter,List.mem_range,(Array.getElem?_eq_some_iff.1 ho).1,true_and,Bool.and_eq_true,Bool.not_eq_true',ho,Option.map_some,Option.getD_some]
 refine ⟨hl,?_⟩
 rw [←Array.all_toList]
 simp only [List.all_eq_true]
 intro e he
 cases hb:Region.binds .any e with
 |false=>rfl
 |true=>exact h e he hb
theorem pC{listed:Array Bool} (hi:i<listed.size) (h:listed.getD i true=true):listed.getD i false=true:=by simpa [Array.getD_eq_getD_getElem?,hi] using h
theorem nG{listed:Array Bool} (h:listed.getD i true=false):listed.getD i false=false:=by
 rcases Nat.lt_or_ge i listed.size with h'|h'
 ·simpa [Array.getD_eq_getD_getElem?,h'] using h
 ·simp [Array.getD_eq_getD_getElem?,Array.getElem?_eq_none h']
theorem cT{listed:Array Bool} {b:Bool} (h:j≠i):(listed.setIfInBounds i true).getD j b=listed.getD j b:=by
 rw [Array.getD_eq_getD_getElem?,Array.getElem?_setIfInBounds_ne (Ne.symm h),←Array.getD_eq_getD_getElem?]
theorem tO{listed:Array Bool} (h:i<listed.size):(listed.setIfInBounds i true).getD i false=true:=by
 rw [Array.getD_eq_getD_getElem?,Array.getElem?_setIfInBounds_self_of_lt h];rfl
theorem ik{listed:Array Bool} (hi:i<listed.size) (h:listed.getD i true=false):listed.toList[i]? =some false:=by
 rw [Array.getElem?_toList]
 simpa [Array.getD_eq_getD_getElem?,hi] using h
theorem oI (hch:∀ j,m≤j→j<ops.size→∃ o,ops[j]? =some o∧(∀ e∈o.after.toList,Region.binds .any e=true→e.on<j)∧(j=m∨jg ops j (j - 1)=true)):
 ∀ (fuel k:Nat) (listed:Array Bool) (a:Act) (w:World),m≤k→k≤ops.size→listed.size=ops.size→(∀ i,i<k→listed.getD i false=true)→(∀ i,k≤i→i<ops.size→listed.getD i true=false)→fJ listed.toList≤fuel→
  wpList P ops Q (ops.toList.drop k) a w→wpAny P .any ops Q fuel listed a w:=by
 intro fuel
 induction fuel with
 |zero=>
  intro k listed a w hmk hk hl h1 h2 hf hw
  rcases Nat.lt_or_ge k ops.size with hlt|hge
  ·have:=gJ _ _ (ik qO (h2 k (Nat.le_refl _) hlt))
   omega
  ·have hk':k=ops.size:=qO
   have hr:Region.ready .any ops listed=[]:=by
    refine List.eq_nil_iff_forall_not_mem.2 fun i hi=> ?_
    obtain ⟨hi1,hi2,_⟩:=iV hl hi
    have:=h1 i qO
    rw [nG hi2] at this
    cases this
   rw [hk',List.drop_of_length_le qE] at hw
   exact ⟨hr,hw⟩
 |succ fuel ih=>
  intro k listed a w hmk hk hl h1 h2 hf hw
  have hfar:∀ i,i∈Region.ready .any ops listed→i=k:=by
   intro i hi
   obtain ⟨hi1,hi2,hi3⟩:=iV hl hi
   rcases Nat.lt_trichotomy i k with h|h|h
   ·have:=h1 i h
    rw [nG hi2] at this
    cases this
   ·exact h
   ·obtain ⟨o,ho,_,hor⟩:=hch i qO hi1
    rcases hor with h'|h'
    ·omega
    ·obtain ⟨o',ho',e,he,hb,hon⟩:=fY h'
     have:=hi3 o' ho' e he hb
     rw [hon,nG (h2 (i - 1) qO qO)] at this
     cases this
  rcases Nat.lt_or_ge k ops.size with hlt|hge
  ·obtain ⟨o,ho,haf,_⟩:=hch k hmk hlt
   have hin:=qB ho (h2 k (Nat.le_refl _) hlt) (fun e he hb=>h1 _ (haf e he hb))
   refine ⟨(fun hr=>by rw [hr] at hin;cases hin),fun i hi=> ?_⟩
   obtain rfl:=hfar i hi
   have hd:ops.toList.drop i=o::ops.toList.drop (i+1):=by
    rw [List.drop_eq_getElem_cons (by simpa using hlt)]
    congr 1
    have:ops.toList[i]? =some o:=by rw [Array.getElem?_toList];exact ho
    rw [List.getElem?_eq_getElem (by simpa using hlt)] at this
    injection this
   rw [hd] at hw
   have hnext:∀ a' w',wpList P ops Q (ops.toList.drop (i+1)) a' w'→wpAny P .any ops Q fuel (listed.setIfInBounds i true) a' w':=by
    intro a' w' h'
    refine ih (i+1) _ a' w' qO qO (by simp [hl]) (fun j hj=> ?_) (fun j hj hj'=> ?_) ?_ h'
    ·by_cases hji:j=i
     ·subst hji;exact tO qO
     ·rw [cT hji];exact h1 j qO
    ·rw [cT qO];exact h2 j qO hj'
    ·have:=gH _ _ (ik qO (h2 i (Nat.le_refl _) hlt))
     rw [Array.toList_setIfInBounds]
     omega
   unfold wpOp
   simp only [ho]
   unfold wpList at hw
   split at hw
   ·rw [if_pos ‹_›]
    rcases hw with h|h
    ·exact .inl (Oper.wp_mono hnext h)
    ·exact .inr h
   ·rw [if_neg ‹_›]
    exact hnext _ _ hw
  ·have hk':k=ops.size:=qO
   rw [hk',List.drop_of_length_le qE] at hw
   refine ⟨fun _=>hw,fun i hi=> ?_⟩
   have:=hfar i hi
   have:=(iV hl hi).1
   omega
structure IW (ops:Array Oper) (E:List (Nat×aM)) (w0:World) (a0:Act) (start:List Nat) (n m:Nat) (listed:Array Bool) (a:Act) (w:World):Prop where
 size:a.tmps.size=n
 defers:a.defers=a0.defers
 below:Below w0.heap.size w0 w
 rest:∀ s,s ∉ (ops.toList.take m).map aK→a.tmps.getD s undef=a0.tmps.getD s undef
 start:∀ s∈start,(aN E s).holds w (a.tmps.getD s undef)
 done:∀ (i:Nat) (o:Oper),i<m→ops[i]? =some o→listed.getD i false=true→(aN E (aK o)).holds w (a.tmps.getD (aK o) undef)
 len:listed.size=ops.size
 last:∀ i,m≤i→i<ops.size→listed.getD i true=false
 closed:∀ (i:Nat) (o:Oper),i<m→ops[i]? =some o→listed.getD i false=true→∀ e∈o.after.toList,Region.binds .any e=true→listed.getD e.on false=true
 fresh:∀ (i:Nat) (o:Oper) (T:TypeId),i<m→ops[i]? =some o→o.op= .alloc T→o.guard=none→listed.getD i false=true→∃ r,a.tmps.getD (aK o) undef= .pointer (some ⟨r,0,none⟩)∧r<w.heap.size
 apart:∀ (i j:Nat) (o o':Oper) (T T':TypeId),i<m→j<m→i≠j→ops[i]? =some o→ops[j]? =some o'→o.op= .alloc T→o'.op= .alloc T'→o.guard=none→o'.guard=none→listed.getD i false=true→listed.getD j false=true→a.tmps.getD (aK o) undef≠a.tmps.getD (aK o') undef
def ql (l:List Oper) (v:Nat→Value):Prop:=∀ (i j:Nat) (o o':Oper) (T T':TypeId),i≠j→l[i]? =some o→l[j]? =some o'→o.op= .alloc T→o'.op= .alloc T'→o.guard=none→o'.guard=none→v (aK o)≠v (aK o')
theorem fV:o∈ops.toList.take m↔∃ i,i<m∧ops[i]? =some o:=by
 rw [List.mem_iff_getElem?]
 constructor
 ·rintro ⟨i,hi⟩
  rw [List.getElem?_take] at hi
  split at hi
  ·rename_i h;exact ⟨i,h,by rw [←Array.getElem?_toList];exact hi⟩
  ·cases hi
 ·rintro ⟨i,h,hi⟩
  exact ⟨i,by rw [List.getElem?_take,if_pos h,Array.getElem?_toList];exact hi⟩
theorem ub (hck:io ops (E.map Prod.fst) start gs us n m=true) (hus:jF E us) (hgs:eD E gs) (hok:bf P ops gs E w0 (ops.toList.take m)) (hal:bt P (ops.toList.take m)) (hn:a0.tmps.size=n)
 (hfin:∀ v w',(∀ o∈ops.toList.take m,(aN E (aK o)).holds w' (v (aK o)))→ql (ops.toList.take m) v→Below w0.heap.size w0 w'→wpList P ops Q (ops.toList.drop m) (bF a0 v ((ops.toList.take m).map aK)) w'):
 ∀ (fuel:Nat) (listed:Array Bool) (a:Act) (w:World),IW ops E w0 a0 start n m listed a w→fJ listed.toList≤fuel→wpAny P .any ops Q fuel listed a w:=by
 unfold io at hck
 simp only [Bool.and_eq_true,List.all_eq_true] at hck
 obtain ⟨⟨⟨⟨hfr,hdis⟩,htl⟩,hmle⟩,_⟩:=hck
 have hms:m≤ops.size:=Nat.le_of_ble_eq_true hmle
 have hop:∀ (i:Nat) (o:Oper),i<m→ops[i]? =some o→fm ops (E.map Prod.fst) start gs us n i o=true∧∃ j,i<j∧j≤m∧jg ops j i=true:=by
  intro i o hi ho
  have:=hfr i (by simpa using hi)
  rw [ho] at this
  simp only [Bool.and_eq_true,List.any_eq_true,List.mem_range] at this
  obtain ⟨h1,j,hj,h2,h3⟩:=this
  exact ⟨h1,j,by rw [←Nat.blt_eq];exact h2,by omega,h3⟩
 have hch:∀ j,m≤j→j<ops.size→∃ o,ops[j]? =some o∧(∀ e∈o.after.toList,Region.binds .any e=true→e.on<j)∧(j=m∨jg ops j (j - 1)=true):=by
  intro j hj hjs
  have:=htl j (by simpa using hjs)
  obtain ⟨o,ho⟩:∃ o,ops[j]? =some o:=⟨_,Array.getElem?_eq_getElem hjs⟩
  rw [ho] at this
  simp only [Bool.or_eq_true,Bool.and_eq_true,List.all_eq_true,Bool.not_eq_true'] at this
  rcases this with h|⟨⟨_,h1⟩,h2⟩
  ·have:j<m:=by rw [←Nat.blt_eq];exact h
   omega
  ·refine ⟨o,ho,fun e he hb=> ?_,?_⟩
   ·rcases h1 e he with h|h
    ·rw [hb] at h;cases h
    ·rw [←Nat.blt_eq];exact h
   ·rcases h2 with h|h
    ·exact .inl (Nat.eq_of_beq_eq_true h)
    ·exact .inr h
 have hd:∀ (i:Nat) (o:Oper),i<m→ops[i]? =some o→∃ d,o.dst=some d∧d<n∧d ∉ start∧aK o=d:=by
  intro i o hi ho
  have:=(hop i o hi ho).1
  unfold fm at this
  simp only [Bool.and_eq_true] at this
  obtain ⟨⟨⟨h1,_⟩,_⟩,_⟩:=this
  cases hdo:o.dst with
  |none=>rw [hdo] at h1;simp at h1
  |some d=>
   rw [hdo] at h1
   simp only [Bool.and_eq_true,Bool.not_eq_true',List.elem_eq_mem,decide_eq_false_iff_not] at h1
   exact ⟨d,rfl,by rw [←Nat.blt_eq];exact h1.1,h1.2,by unfold aK;rw [hdo];rfl⟩
 have hdist:∀ (i j:Nat) (o o':Oper),i<m→j<m→ops[i]? =some o→ops[j]? =some o'→aK o=aK o'→i=j:=by
  intro i j o o' hi hj ho ho' he
  refine gc hdis i j (aK o) ?_ ?_
  ·rw [List.getElem?_map,List.getElem?_take,if_pos hi,Array.getElem?_toList,ho];rfl
  ·rw [List.getElem?_map,List.getElem?_take,if_pos hj,Array.getElem?_toList,ho',he];rfl
 have hon:∀ (i:Nat) (o:Oper),i<m→ops[i]? =some o→∀ e∈o.after.toList,Region.binds .any e=true→e.on<i:=by
  intro i o hi ho e he hb
  have:=(hop i o hi ho).1
  unfold fm at this
  simp only [Bool.and_eq_true,List.all_eq_true] at this
  have:=this.2 e he
  simp only [Bool.or_eq_true,Bool.not_eq_true'] at this
  rcases this with h|h
  ·rw [hb] at h;cases h
  ·rw [←Nat.blt_eq];exact h
 have hend:∀ (fuel:Nat) (listed:Array Bool) (a:Act) (w:World),IW ops E w0 a0 start n m listed a w→(∀ i,i<m→listed.getD i false=true)→fJ listed.toList≤fuel→wpAny P .any ops Q fuel listed a w:=by
  intro fuel listed a w hI hall hf
  have hds:∀ d∈(ops.toList.take m).map aK,d<a0.tmps.size:=by
   intro d hdm
   obtain ⟨o,ho,rfl⟩:=List.mem_map.1 hdm
   obtain ⟨j,hj,hoj⟩:=fV.1 ho
   obtain ⟨d,_,h2,_,h4⟩:=hd j o hj hoj
   rw [h4,hn];exact h2
  have he:a=bF a0 (fun s=>a.tmps.getD s undef) ((ops.toList.take m).map aK):=by
   refine pD (by rw [fX,hI.size,hn]) (by rw [eY,hI.defers]) fun s=> ?_
   by_cases hs:s∈(ops.toList.take m).map aK
   ·rw [gF _ _ _ _ hds (.inl hs)]
   ·rw [gz _ _ _ _ hds hs,hI.rest s hs]
  have hlast:=hfin (fun s=>a.tmps.getD s undef) w (fun o ho=>by
   obtain ⟨j,hj,hoj⟩:=fV.1 ho
   exact hI.done j o hj hoj (hall j hj)) (fun i j o o' T T' hne hi hj hT hT' hg hg'=>by
    have hi':i<m∧ops[i]? =some o:=by
     rw [List.getElem?_take] at hi
     split at hi
     ·exact ⟨by assumption,by rw [←Array.getElem?_toList];exact hi⟩
     ·cases hi
    have hj':j<m∧ops[j]? =some o':=by
     rw [List.getElem?_take] at hj
     split at hj
     ·exact ⟨by assumption,by rw [←Array.getElem?_toList];exact hj⟩
     ·cases hj
    exact hI.apart i j o o' T T' hi'.1 hj'.1 hne hi'.2 hj'.2 hT hT' hg hg' (hall i hi'.1) (hall j hj'.1)) hI.below
  rw [←he] at hlast
  exact oI hch fuel m listed a w (Nat.le_refl _) hms hI.len hall hI.last hf hlast
 intro fuel
 induction fuel with
 |zero=>
  intro listed a w hI hf
  by_cases hall:∀ i,i<m→listed.getD i false=true
  ·exact hend 0 listed a w hI hall hf
  ·exfalso
   refine hall fun i hi=> ?_
   have hls:i<listed.size:=by rw [hI.len];omega
   cases h:listed.getD i true with
   |true=>exact pC hls h
   |false=>
    have:=gJ _ _ (ik hls h)
    omega
 |succ fuel ih=>
  intro listed a w hI hf
  by_cases hall:∀ i,i<m→listed.getD i false=true
  ·exact hend (fuel+1) listed a w hI hall hf
  ·refine ⟨fun hr=> ?_,fun i hi=> ?_⟩
   ·exfalso
    refine hall fun i=> ?_
    induction i using Nat.strongRecOn with
    |_ i ihh=>
     intro hi
     have hls:i<listed.size:=by rw [hI.len];omega
     cases h:listed.getD i true with
     |true=>exact pC hls h
     |false=>
      exfalso
      obtain ⟨o,ho⟩:∃ o,ops[i]? =some o:=⟨_,Array.getElem?_eq_getElem qO⟩
      have:=qB ho h (fun e he hb=>ihh e.on (hon i o hi ho e he hb) (by have:=hon i o hi ho e he hb;omega))
      rw [hr] at this
      cases this
   ·obtain ⟨hlt,hl,haf⟩:=iV hI.len hi
    have hi':i<listed.size:=by rw [hI.len];exact hlt
    obtain ⟨o,ho⟩:∃ o,ops[i]? =some o:=⟨_,Array.getElem?_eq_getElem hlt⟩
    have hilt:i<m:=by
     rcases Nat.lt_or_ge i m with h|h
     ·exact h
     ·exfalso
      rcases Nat.lt_or_eq_of_le h with h|h
      ·obtain ⟨o',ho',_,hor⟩:=hch i qO hlt
       rcases hor with h'|h'
       ·omega
       ·obtain ⟨o2,ho2,e,he,hb,heon⟩:=fY h'
        have:=haf o2 ho2 e he hb
        rw [heon,nG (hI.last (i - 1) qO qO)] at this
        cases this
      ·subst h
       refine hall ?_
       have key:∀ d i,i<m→m - i≤d→listed.getD i false=true:=by
        intro d
        induction d with
        |zero=>intro i hi hd;omega
        |succ d ihd=>
         intro i hi hd
         obtain ⟨oi,hoi⟩:∃ oi,ops[i]? =some oi:=⟨_,Array.getElem?_eq_getElem qO⟩
         obtain ⟨_,j,hij,hjm,hw⟩:=hop i oi hi hoi
         obtain ⟨oj,hoj,e,he,hb,heon⟩:=fY hw
         rw [←heon]
         rcases Nat.lt_or_eq_of_le hjm with h|h
         ·exact hI.closed j oj h hoj (ihd j h qO) e he hb
         ·subst h
          exact haf oj hoj e he hb
       exact fun i hi=>key (m - i) i hi (Nat.le_refl _)
    have hchk:=(hop i o hilt ho).1
    unfold fm at hchk
    simp only [Bool.and_eq_true] at hchk
    obtain ⟨⟨⟨hc1,hc2⟩,hc3⟩,hc4⟩:=hchk
    have hwait:∀ e∈o.after.toList,Region.binds .any e=true→∀ oe,ops[e.on]? =some oe→(aN E (aK oe)).holds w (a.tmps.getD (aK oe) undef):=by
     intro e he hb oe hoe
     exact hI.done _ _ (by have:=hon i o hilt ho e he hb;omega) hoe (haf o ho e he hb)
    obtain ⟨d,hd1,hd2,hd3,hd4⟩:=hd i o hilt ho
    have hsz:d<a.tmps.size:=by rw [hI.size];exact hd2
    have hof:o∈ops.toList.take m:=fV.2 ⟨i,hilt,ho⟩
    have hnext:∀ (v:Value) (w':World),(aN E d).holds w' v→Below w.heap.size w w'→(∀ T,o.op= .alloc T→o.guard=none→v= .pointer (some ⟨w.heap.size,0,none⟩)∧w.heap.size<w'.heap.size)→wpAny P .any ops Q fuel (listed.setIfInBounds i true) (a.put (some d) v) w':=by
     intro v w' hT hB hA
     have hold:∀ (j:Nat) (oj:Oper),j<m→j≠i→ops[j]? =some oj→(a.put (some d) v).tmps.getD (aK oj) undef=a.tmps.getD (aK oj) undef:=by
      intro j oj hjm hji hj
      have hne:aK oj≠d:=fun h=>hji (hdist j i oj o hjm hilt hj ho (by rw [h,hd4]))
      rw [bC _ _ _ _ hsz,if_neg hne]
     have hself:(a.put (some d) v).tmps.getD (aK o) undef=v:=by rw [hd4,bC _ _ _ _ hsz,if_pos rfl]
     refine ih _ _ _ ⟨?_,?_,?_,?_,?_,?_,?_,?_,?_,?_,?_⟩ ?_
     ·simp [Act.put,hI.size]
     ·exact hI.defers
     ·exact hI.below.trans (hB.mono hI.below.size)
     ·intro s hs
      rw [bC _ _ _ _ hsz,if_neg,hI.rest s hs]
      rintro rfl
      exact hs (List.mem_map.2 ⟨o,hof,hd4⟩)
     ·intro s hs
      rw [bC _ _ _ _ hsz,if_neg]
      ·exact (aN E s).stable (hI.start s hs) hB
      ·rintro rfl
       exact hd3 hs
     ·intro j oj hjm hj hlj
      by_cases hji:j=i
      ·subst hji
       rw [ho] at hj
       injection hj with hj
       subst hj
       rw [hd4,bC _ _ _ _ hsz,if_pos rfl]
       exact hT
      ·have hne:aK oj≠d:=fun h=>hji (hdist j i oj o hjm hilt hj ho (by rw [h,hd4]))
       rw [bC _ _ _ _ hsz,if_neg hne]
       refine (aN E _).stable (hI.done j oj hjm hj ?_) hB
       rw [cT hji] at hlj
       exact hlj
     ·simp [hI.len]
     ·intro j hj hjs
      rw [cT qO]
      exact hI.last j hj hjs
     ·intro j oj hjm hj hlj e he hb
      by_cases hji:j=i
      ·subst hji
       rw [ho] at hj
       injection hj with hj
       subst hj
       have h1:=hon j o hjm ho e he hb
       rw [cT qO]
       exact haf o ho e he hb
      ·rw [cT hji] at hlj
       have h1:=hI.closed j oj hjm hj hlj e he hb
       by_cases hei:e.on=i
       ·rw [hei];exact tO hi'
       ·rw [cT hei];exact h1
     ·intro j oj T hjm hj hop hgd hlj
      by_cases hji:j=i
      ·subst hji
       rw [ho] at hj
       injection hj with hj
       subst hj
       obtain ⟨e1,e2⟩:=hA T hop hgd
       exact ⟨_,hself.trans e1,e2⟩
      ·rw [cT hji] at hlj
       obtain ⟨r,e1,e2⟩:=hI.fresh j oj T hjm hj hop hgd hlj
       exact ⟨r,(hold j oj hjm hji hj).trans e1,Nat.lt_of_lt_of_le e2 hB.size⟩
     ·intro j k oj ok T T' hjm hkm hjk hj hk hop hop' hgd hgd' hlj hlk
      by_cases hji:j=i
      ·subst hji
       rw [ho] at hj
       injection hj with hj
       subst hj
       have hkj:k≠j:=fun h=>hjk h.symm
       rw [cT hkj] at hlk
       obtain ⟨r,e1,e2⟩:=hI.fresh k ok T' hkm hk hop' hgd' hlk
       rw [hself,hold k ok hkm hkj hk,e1,(hA T hop hgd).1]
       intro h
       injection h with h
       injection h with h
       injection h with h
       omega
      ·by_cases hki:k=i
       ·subst hki
        rw [ho] at hk
        injection hk with hk
        subst hk
        rw [cT hji] at hlj
        obtain ⟨r,e1,e2⟩:=hI.fresh j oj T hjm hj hop hgd hlj
        rw [hself,hold j oj hjm hji hj,e1,(hA T' hop' hgd').1]
        intro h
        injection h with h
        injection h with h
        injection h with h
        omega
       ·rw [cT hji] at hlj
        rw [cT hki] at hlk
        rw [hold j oj hjm hji hj,hold k ok hkm hki hk]
        exact hI.apart j k oj ok T T' hjm hkm hjk hj hk hop hop' hgd hgd' hlj hlk
     ·have:=gH _ _ (ik hi' hl)
      rw [Array.toList_setIfInBounds]
      omega
    have hgv:∀ g want,o.guard=some (g,want)→(∃ og dg,ops[g]? =some og∧og.dst=some dg∧a.tmps[dg]? =some (.bool want)∧gs.elem (dg,want)=true)∨(Region.wanted o (yielded ops a.tmps)=false∧∀ W,(aN E (aK o)).holds W undef):=by
     intro g want hg
     rw [hg] at hc3
     simp only [Bool.and_eq_true,List.any_eq_true] at hc3
     obtain ⟨h1,e,he,hb,heg⟩:=hc3
     have heg':e.on=g:=Nat.eq_of_beq_eq_true heg
     have hgi:=hon i o hilt ho e he hb
     cases hog:ops[g]? with
     |none=>rw [hog] at h1;simp at h1
     |some og=>
      rw [hog] at h1
      obtain ⟨dg,hdg1,hdg2,_,hdg4⟩:=hd g og qO hog
      rw [Option.bind_some,hdg1] at h1
      simp only [Bool.or_eq_true,Bool.and_eq_true,Bool.not_eq_true'] at h1
      have hv:=hwait e he hb og (by rw [heg'];exact hog)
      rw [hdg4] at hv
      have hsg:dg<a.tmps.size:=by rw [hI.size];exact hdg2
      have hval:∀ b,gs.elem (dg,b)=true→a.tmps[dg]? =some (.bool b):=by
       intro b hb'
       have:=hgs.mem (dg,b) (by simpa using hb') _ _ hv
       rw [Array.getD_eq_getD_getElem?,Array.getElem?_eq_getElem hsg] at this
       rw [Array.getElem?_eq_getElem hsg]
       simpa using this
      rcases h1 with h1|⟨h1,h2⟩
      ·exact .inl ⟨og,dg,rfl,hdg1,hval _ h1,h1⟩
      ·refine .inr ⟨?_,fun W=> ?_⟩
       ·rcases h1 with h1|h1
        ·have hget:=hval _ h1
         unfold Region.wanted;rw [hg];simp [yielded,hog,hdg1,hget]
        ·have hu:=hus.mem dg (by simpa using h1)
         rw [hu] at hv
         have hget:a.tmps[dg]? =some undef:=by
          have hv':a.tmps.getD dg undef=undef:=hv
          rw [Array.getD_eq_getD_getElem?,Array.getElem?_eq_getElem hsg] at hv'
          rw [Array.getElem?_eq_getElem hsg]
          simpa using hv'
         unfold Region.wanted;rw [hg];simp [yielded,hog,hdg1,hget,undef]
       ·rcases h2 with h2|h2
        ·rw [ms h2];trivial
        ·rw [hus.mem _ (by simpa using h2)];rfl
    have hrun:i_ ops gs o=true→Region.wanted o (yielded ops a.tmps)=true→wpOp P ops Q i (wpAny P .any ops Q fuel (listed.setIfInBounds i true)) a w:=by
     intro hr hw
     unfold wpOp
     simp only [ho]
     rw [if_pos hw]
     left
     have hslots:bJ E w a.eval o.op.operands.toList:=by
      refine bJ.of fun s hs=> ?_
      have:=List.all_eq_true.1 hc2 _ hs
      simp only [Bool.or_eq_true,List.any_eq_true,Bool.and_eq_true,Bool.not_eq_true'] at this
      rcases this with (h|h)|⟨e,he,hb,heq⟩
      ·rw [ms h];trivial
      ·exact hI.start s (by simpa using h)
      ·have heq':(ops[e.on]?).bind (·.dst)=some s:=by simpa using heq
       cases hoe:ops[e.on]? with
       |none=>rw [hoe] at heq';cases heq'
       |some oe=>
        rw [hoe] at heq'
        have h1:=hwait e he hb oe hoe
        obtain ⟨d',hd1',_,_,hd4'⟩:=hd _ oe (by have:=hon i o hilt ho e he hb;omega) hoe
        have:d'=s:=by
         have h2:oe.dst=some s:=heq'
         rw [hd1'] at h2
         injection h2
        subst this
        rw [hd4'] at h1
        exact h1
     have hy:=(hok.mem o hof hr) a.eval w (fun _=>rfl) (fun _=>rfl) hI.below hslots
     have hy2:Yields P o a.eval w fun v w'=>((aN E (aK o)).holds w' v∧Below w.heap.size w w')∧∀ T,o.op= .alloc T→v= .pointer (some ⟨w.heap.size,0,none⟩)∧w.heap.size<w'.heap.size:=by
      by_cases hex:∃ T,o.op= .alloc T
      ·obtain ⟨T,hT⟩:=hex
       obtain ⟨w1,hr1,hz1⟩:=hal.mem o hof T hT a.eval w
       have h:=hy.alloc hr1 hz1
       unfold Yields at h ⊢
       rw [hr1] at h ⊢
       exact ⟨h.1,fun _ _=>h.2⟩
      ·have hno:∀ T,o.op= .alloc T→False:=fun T h=>hex ⟨T,h⟩
       unfold Yields at hy ⊢
       generalize (execOp a.eval o).run P w=rr at hy ⊢
       split at hy
       ·exact ⟨hy,fun T h=>(hno T h).elim⟩
       ·refine Calls.mono hy ?_
        rintro e w'' ⟨v,rfl,hk⟩
        exact ⟨v,rfl,hk,fun T h=>(hno T h).elim⟩
       ·exact hy.elim
     refine Oper.wp_mono (fun a' w' h=> ?_) hy2.wp
     obtain ⟨v,rfl,⟨hT,hB⟩,hA⟩:=h
     rw [hd1]
     rw [hd4] at hT
     exact hnext v w' hT hB (fun T h _=>hA T h)
    cases hg:o.guard with
    |none=>exact hrun (by unfold i_;rw [hg]) (by unfold Region.wanted;rw [hg])
    |some p=>
     obtain ⟨g,want⟩:=p
     rcases hgv g want hg with ⟨og,dg,hog,hdg,hget,hgs1⟩|⟨hw,hkey⟩
     ·refine hrun ?_ ?_
      ·unfold i_;rw [hg];simp only [hog,Option.bind_some,hdg,hgs1]
      ·unfold Region.wanted;rw [hg];simp [yielded,hog,hdg,hget]
     ·unfold wpOp
      simp only [ho]
      rw [if_neg (by rw [hw];exact Bool.false_ne_true),hd1]
      rw [hd4] at hkey
      exact hnext undef w (hkey w) (Below.refl _ _) (fun T _ hgn=>by rw [hg] at hgn;cases hgn)
theorem nV {id:Nat} {l:List Oper} {w:World} (E:List (Nat×aM)) (start:List Nat) (gs:List (Nat×Bool)) (us:List Nat) (n m:Nat) (hm:P.follows .mixedOrders=true) (hck:io l.toArray (E.map Prod.fst) start gs us n m=true) (hus:jF E us) (hn:a0.tmps.size=n) (hgs:eD E gs)
 (hst:gI E w a0 start) (hok:bf P l.toArray gs E w (l.take m)) (hal:bt P (l.take m))
 (hfin:∀ v w',fe E w' v (l.take m)→ql (l.take m) v→Below w.heap.size w w'→wpList P l.toArray Q (l.drop m) (bF a0 v ((l.take m).map aK)) w'):
 (Code.region id l.toArray true).wp P Q a0 w:=by
 refine wp_region_any hm ?_
 have hb:Below w.heap.size w w.drew:=(Below.refl _ _).drew
 have hno:∀ i,(Array.replicate l.toArray.size false).getD i false=true→False:=by
  intro i hl
  rw [Array.getD_eq_getD_getElem?] at hl
  cases h:(Array.replicate l.toArray.size false)[i]? with
  |none=>rw [h] at hl;cases hl
  |some b=>
   have:=Array.mem_of_getElem? h
   simp at this
   rw [h,this.2] at hl
   cases hl
 refine ub (w0:=w) hck hus hgs (by simpa using hok) (by simpa using hal) hn (fun v w' h ha hb=>by simpa using hfin v w' (fe.of (by simpa using h)) (by simpa using ha) hb) _ _ _ _ ⟨hn,rfl,hb,fun _ _=>rfl,fun s hs=>(aN E s).stable (hst.mem s hs) hb,fun i o _ _ hl=>(hno i hl).elim,by simp,?_,fun i o _ _ hl=>(hno i hl).elim,fun i _ _ _ _ _ _ hl=>(hno i hl).elim,fun i _ _ _ _ _ _ _ _ _ _ _ _ _ _ hl=>(hno i hl).elim⟩ ?_
 ·intro i _ hi
  rw [Array.getD_eq_getD_getElem?,Array.getElem?_replicate,if_pos hi]
  rfl
 ·simpa using jG l.toArray.size
theorem cF {id:Nat} {l:List Oper} {w:World} (E:List (Nat×aM)) (start:List Nat) (gs:List (Nat×Bool)) (n m:Nat) (hm:P.follows .mixedOrders=true) (hck:Ho l.toArray (E.map Prod.fst) start gs n m=true) (hn:a0.tmps.size=n) (hgs:eD E gs)
 (hst:gI E w a0 start) (hok:bf P l.toArray gs E w (l.take m)) (hal:bt P (l.take m))
 (hfin:∀ v w',fe E w' v (l.take m)→ql (l.take m) v→Below w.heap.size w w'→wpList P l.toArray Q (l.drop m) (bF a0 v ((l.take m).map aK)) w'):
 (Code.region id l.toArray true).wp P Q a0 w:=
 nV E start gs [] n m hm hck trivial hn hgs hst hok hal hfin
end
section
variable {P:Program} {ops:Array Oper} {Q:Exit→Act→World→Prop} {E:List (Nat×aM)} {w0:World} {a0:Act} {start:List Nat} {gs:List (Nat×Bool)} {us:List Nat} {n m:Nat}
end
def fW (E:List (Nat×aM)):Operand→Value→Prop
 | .tmp s,v=>∀ w u,(aN E s).holds w u→u=v
 | .const c,v=>c=v
 |_,_=>False
theorem fW.at_{E:List (Nat×aM)} {ρ:Operand→Value} (hc:∀ c,ρ (.const c)=c) {l:List Operand} {o:Operand} {v:Value} (hs:bJ E w ρ l) (hm:o∈l) (ho:fW E o v):ρ o=v:=by
 cases o with
 |tmp s=>exact ho _ _ (hs.at_ hm)
 |const c=>rw [hc];exact ho
 |global g=>exact ho.elim
 |func f=>exact ho.elim
def oT (E:List (Nat×aM)):Operand→(World→Value→Prop)→Prop
 | .tmp s,T=>∀ w u,(aN E s).holds w u→T w u
 | .const c,T=>∀ w,T w c
 |_,_=>False
theorem oT.at_{E:List (Nat×aM)} {ρ:Operand→Value} (hc:∀ c,ρ (.const c)=c) {l:List Operand} {o:Operand} {T:World→Value→Prop} (hs:bJ E w ρ l) (hm:o∈l) (ho:oT E o T):T w (ρ o):=by
 cases o with
 |tmp s=>exact ho _ _ (hs.at_ hm)
 |const c=>rw [hc];exact ho w
 |global g=>exact ho.elim
 |func f=>exact ho.elim
theorem fe.slot {E:List (Nat×aM)} {w:World} {v:Nat→Value} {d:Nat}:∀ {l:List Oper},fe E w v l→d∈l.map aK→(aN E d).holds w (v d)
 |[],_,h=>by cases h
 |o::l,h,hm=>by
  rcases List.mem_cons.1 hm with e|hm
  ·rw [e];exact h.1
  ·exact fe.slot h.2 hm
def aJ (P:Program) (f:Nat):Prop:=∀ (args:Array Value) (w:World),(callFunc f args).run P w= .ok (.enter f args) w
section
variable {P:Program} {E:List (Nat×aM)} {w0:World} {d f:Nat} {ty:TypeId} {pos:String} {af:Array Edge} {gd:Option (Nat×Bool)} {o0 o1 o2 o3:Operand} {ats:Array TypeId} {T0 T1 T2 T3:World→Value→Prop}
theorem bA (hcf:aJ P f) (h0:oT E o0 T0) (hcall:∀ w v0,Below w0.heap.size w0 w→T0 w v0→Calls P f #[v0] w fun e w'=>(∃ v,e= .returned v∧(aN E d).holds w' v)∧Below w.heap.size w w'):
 cC P E w0 ⟨some d, .call { callee:= .value (.func f),args:= #[o0],argTypes:=ats },ty,pos,af,gd⟩:=by
 intro ρ w hc hf hb hs
 have e0:=oT.at_ hc hs (o:=o0) qJ h0
 have hr:(execOp ρ ⟨some d, .call { callee:= .value (.func f),args:= #[o0],argTypes:=ats },ty,pos,af,gd⟩).run P w= .ok (.enter f #[ρ o0]) w:=by
  have hff:=hf f
  clear h0 hs hcall hb e0
  go_simp
  exact hcf _ _
 unfold Yields
 rw [hr]
 refine (hcall w _ hb e0).mono ?_
 rintro e w' ⟨⟨v,rfl,hT⟩,hB⟩
 exact ⟨v,rfl,hT,hB⟩
theorem bZ (hcf:aJ P f) (h0:oT E o0 T0) (h1:oT E o1 T1) (hcall:∀ w v0 v1,Below w0.heap.size w0 w→T0 w v0→T1 w v1→Calls P f #[v0,v1] w fun e w'=>(∃ v,e= .returned v∧(aN E d).holds w' v)∧Below w.heap.size w w'):
 cC P E w0 ⟨some d, .call { callee:= .value (.func f),args:= #[o0,o1],argTypes:=ats },ty,pos,af,gd⟩:=by
 intro ρ w hc hf hb hs
 have e0:=oT.at_ hc hs (o:=o0) qJ h0
 have e1:=oT.at_ hc hs (o:=o1) qJ h1
 have hr:(execOp ρ ⟨some d, .call { callee:= .value (.func f),args:= #[o0,o1],argTypes:=ats },ty,pos,af,gd⟩).run P w= .ok (.enter f #[ρ o0,ρ o1]) w:=by
  have hff:=hf f
  clear h0 h1 hs hcall hb e0 e1
  go_simp
  exact hcf _ _
 unfold Yields
 rw [hr]
 refine (hcall w _ _ hb e0 e1).mono ?_
 rintro e w' ⟨⟨v,rfl,hT⟩,hB⟩
 exact ⟨v,rfl,hT,hB⟩
end
def aM.newI (B:Nat) (N:Int):aM:=⟨fun w v=>∃ s ys A n c,v= .agg #[.bool s, .slice A n c]∧Whole N s ys∧bH .u32 115 w B A n c ys,fun ⟨s,ys,A,n,c,e,h,ho⟩ hb=>⟨s,ys,A,n,c,e,h,ho.below hb⟩⟩
def aM.nat (N:Int) (L:Nat):aM:=⟨fun w v=>∃ A n c xs,v= .slice A n c∧Sl .u32 w w.heap.size A n c xs∧Dg 4294967296 xs∧val 4294967296 xs=N∧n≤L,fun ⟨A,n,c,xs,e,h,d,hv,hl⟩ hb=>⟨A,n,c,xs,e,(h.below hb (Nat.le_refl _)).more hb.size,d,hv,hl⟩⟩
def aM.half (N:Int) (L:Nat):aM:=⟨fun w v=>∃ A n c xs,v= .slice A n c∧Sl .i64 w w.heap.size A n c xs∧fZ 65536 N xs∧n≤L,fun ⟨A,n,c,xs,e,h,r,hl⟩ hb=>⟨A,n,c,xs,e,(h.below hb (Nat.le_refl _)).more hb.size,r,hl⟩⟩
section
variable {E:List (Nat×aM)} {w0:World} {d:Nat} {ty:TypeId} {pos:String} {af:Array Edge} {gd:Option (Nat×Bool)}
theorem iB(hp:fW E (.tmp s) (.pointer (some ⟨r,0,none⟩))) (h0:∀ W,Below w0.heap.size w0 W→W.cell? ⟨r,0,none⟩=some u0) (h1:∀ W,Below w0.heap.size w0 W→W.cell? ⟨r,1,none⟩=some u1) (hd:∀ w,(aN E d).holds w (.agg #[u0,u1])):
 cC Tryz.prog E w0 ⟨some d, .load 36 (.tmp s),ty,pos,af,gd⟩:=by
 intro ρ w hc hf hb hs
 have e:=hp _ _ hs.1
 have c0:=h0 w hb
 have c1:=h1 w hb
 clear hp hs h0 h1
 unfold Yields
 go_simp
 exact ⟨hd _,Below.refl _ _⟩
theorem xk(hp:fW E (.tmp s) (.agg #[u0,u1])) (hd:∀ w,(aN E d).holds w u0):cC Tryz.prog E w0 ⟨some d, .field 36 (.tmp s) 0,ty,pos,af,gd⟩:=by
 intro ρ w hc hf hb hs
 have e:=hp _ _ hs.1
 clear hp hs
 unfold Yields
 go_simp
 exact ⟨hd _,Below.refl _ _⟩
theorem pV(hp:fW E (.tmp s) (.agg #[u0,u1])) (hd:∀ w,(aN E d).holds w u1):cC Tryz.prog E w0 ⟨some d, .field 36 (.tmp s) 1,ty,pos,af,gd⟩:=by
 intro ρ w hc hf hb hs
 have e:=hp _ _ hs.1
 clear hp hs
 unfold Yields
 go_simp
 exact ⟨hd _,Below.refl _ _⟩
theorem oy(hp:fW E (.tmp s) (.pointer (some ⟨r,0,none⟩))) (hd:∀ w,(aN E d).holds w (.pointer (some ⟨r,0,none⟩))):cC Tryz.prog E w0 ⟨some d, .fieldAddr 36 (.tmp s) 0,ty,pos,af,gd⟩:=by
 intro ρ w hc hf hb hs
 have e:=hp _ _ hs.1
 clear hp hs
 unfold Yields
 go_simp
 exact ⟨hd _,Below.refl _ _⟩
theorem ob(hp:fW E (.tmp s) (.pointer (some ⟨r,0,none⟩))) (hd:∀ w,(aN E d).holds w (.pointer (some ⟨r,1,none⟩))):cC Tryz.prog E w0 ⟨some d, .fieldAddr 36 (.tmp s) 1,ty,pos,af,gd⟩:=by
 intro ρ w hc hf hb hs
 have e:=hp _ _ hs.1
 clear hp hs
 unfold Yields
 go_simp
 exact ⟨hd _,Below.refl _ _⟩
theorem g_{o:Nat} (hp:fW E (.tmp s) (.pointer (some ⟨r,o,none⟩))) (h0:∀ W,Below w0.heap.size w0 W→W.cell? ⟨r,o,none⟩=some (.bool u)) (hd:∀ w,(aN E d).holds w (.bool u)):cC Tryz.prog E w0 ⟨some d, .load 4 (.tmp s),ty,pos,af,gd⟩:=by
 intro ρ w hc hf hb hs
 have e:=hp _ _ hs.1
 have c0:=h0 w hb
 clear hp hs h0
 unfold Yields
 go_simp
 exact ⟨hd _,Below.refl _ _⟩
theorem g9{o:Nat} (hp:fW E (.tmp s) (.pointer (some ⟨r,o,none⟩))) (h0:∀ W,Below w0.heap.size w0 W→W.cell? ⟨r,o,none⟩=some (.slice A n c)) (hd:∀ w,(aN E d).holds w (.slice A n c)):cC Tryz.prog E w0 ⟨some d, .load 23 (.tmp s),ty,pos,af,gd⟩:=by
 intro ρ w hc hf hb hs
 have e:=hp _ _ hs.1
 have c0:=h0 w hb
 clear hp hs h0
 unfold Yields
 go_simp
 exact ⟨hd _,Below.refl _ _⟩
theorem DP(hp:fW E (.tmp s) (.bool u)) (hd:∀ w,(aN E d).holds w (.bool (!u))):cC Tryz.prog E w0 ⟨some d, .unOp .not 4 (.tmp s),ty,pos,af,gd⟩:=by
 intro ρ w hc hf hb hs
 have e:=hp _ _ hs.1
 clear hp hs
 unfold Yields
 go_simp
 exact ⟨hd _,Below.refl _ _⟩
theorem xK{t:Nat} {v:Bool} (hp:fW E (.tmp s) (.bool u)) (hq:fW E (.tmp t) (.bool v)) (hd:∀ w,(aN E d).holds w (.bool (u != v))):cC Tryz.prog E w0 ⟨some d, .binOp .neq 4 (.tmp s) (.tmp t) 4,ty,pos,af,gd⟩:=by
 intro ρ w hc hf hb hs
 have e:=hp _ _ hs.1
 have e2:=hq _ _ hs.2.1
 clear hp hq hs
 unfold Yields
 go_simp
 exact ⟨hd _,Below.refl _ _⟩
end
theorem aG{o:Nat} {u:Value} (h:w0.cell? ⟨r,o,none⟩=some u) (hr:r<w0.heap.size):∀ W,Below w0.heap.size w0 W→W.cell? ⟨r,o,none⟩=some u:=fun W hb=>(hb.cell (p:=⟨r,o,none⟩) hr).trans h
theorem js:aJ Tryz.prog 152:=fun _ _=>by kernel_rfl
theorem eE:aJ Tryz.prog 153:=fun _ _=>by kernel_rfl
theorem ro:aJ Tryz.prog 160:=fun _ _=>by kernel_rfl
theorem jm:aJ Tryz.prog 155:=fun _ _=>by kernel_rfl
theorem gj:aJ Tryz.prog 130:=fun _ _=>by kernel_rfl
def aM.nbox3 (B:Nat):aM:=⟨fun w v=>∃ r,v= .pointer (some ⟨r,0,none⟩)∧B≤r∧r<w.heap.size∧w.heap[r]? =some (.cells #[.bool false, .slice none 0 0] 36 (0,0)),fun ⟨r,e,h1,h2,h3⟩ hb=>⟨r,e,h1,Nat.lt_of_lt_of_le h2 hb.size,(hb.block r h2).trans h3⟩⟩
def aM.parts (U V:Int) (L M:Nat):aM:=⟨fun w v=>∃ qs rs A n c A2 m c2,v= .tuple #[.slice A n c, .slice A2 m c2]∧fZ 65536 (U / V) qs∧fZ 65536 (U%V) rs∧Sl .i64 w w.heap.size A n c qs∧Sl .i64 w w.heap.size A2 m c2 rs∧n≤L∧m≤M,
 fun ⟨qs,rs,A,n,c,A2,m,c2,e,h1,h2,h3,h4,h5,h6⟩ hb=>⟨qs,rs,A,n,c,A2,m,c2,e,h1,h2,(h3.below hb (Nat.le_refl _)).more hb.size,(h4.below hb (Nat.le_refl _)).more hb.size,h5,h6⟩⟩
section
variable {E:List (Nat×aM)} {w0:World} {d:Nat} {ty:TypeId} {pos:String} {af:Array Edge} {gd:Option (Nat×Bool)}
theorem ti{o0 o1:Operand} (h0:fW E o0 (.int .i64 x)) (h1:fW E o1 (.int .i64 y)) (hd:∀ w,(aN E d).holds w (.bool (x != y))):cC Tryz.prog E w0 ⟨some d, .binOp .neq 3 o0 o1 3,ty,pos,af,gd⟩:=by
 intro ρ w hc hf hb hs
 have e0:=fW.at_ hc hs (o:=o0) qI h0
 have e1:=fW.at_ hc hs (o:=o1) qI h1
 clear h0 h1 hs hc hf hb
 unfold Yields
 go_simp
 exact ⟨hd _,Below.refl _ _⟩
theorem yX (hd:∀ w v,(aM.nbox3 w0.heap.size).holds w v→(aN E d).holds w v):cC Tryz.prog E w0 ⟨some d, .alloc 36,ty,pos,af,gd⟩:=by
 intro ρ w hc hf hb hs
 have hh:(w.alloc (.cells #[.bool false, .slice none 0 0] 36)).heap[w.heap.size]? =some (.cells #[.bool false, .slice none 0 0] 36 (0,0)):=heap_alloc_new _ _
 have hsz:=hb.size
 clear hs hc hf
 unfold Yields
 go_simp
 exact ⟨hd _ _ ⟨_,rfl,hsz,by rw [ak];exact Nat.lt_succ_self _,hh⟩,(Below.refl _ _).alloc (Nat.le_refl _) _⟩
theorem xe (ρ:Operand→Value) (w:World):∃ w',(execOp ρ ⟨some d, .alloc 36,ty,pos,af,gd⟩).run Tryz.prog w= .ok (.value (.pointer (some ⟨w.heap.size,0,none⟩))) w'∧w.heap.size<w'.heap.size:=by
 refine ⟨w.alloc (.cells #[.bool false, .slice none 0 0] 36),?_,by rw [ak];exact Nat.lt_succ_self _⟩
 go_simp
theorem qf(h:∀ w v,(aN E s).holds w v→∃ us u,v= .tuple us∧us[i]? =some u∧(aN E d).holds w u):cC Tryz.prog E w0 ⟨some d, .extract (.tmp s) i,ty,pos,af,gd⟩:=by
 intro ρ w hc hf hb hs
 obtain ⟨us,u,e0,e1,e2⟩:=h _ _ hs.1
 clear h hs hc hf hb
 unfold Yields
 go_simp
 exact ⟨e2,Below.refl _ _⟩
end
end Go.Proofs.YtpmhjieibebclaaGreatDoor
