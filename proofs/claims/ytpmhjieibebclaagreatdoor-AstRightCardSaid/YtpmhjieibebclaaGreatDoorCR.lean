/- tallageref08: names, money, shares; AstWords. -/
import Derived.Test.YtpmhjieibebclaaGreatDoorCQ
import Derived.Test.YtpmhjieibebclaaGreatDoorCL
set_option maxHeartbeats 4000000
set_option maxRecDepth 20000
set_option synthInstance.maxHeartbeats 400000
set_option synthInstance.maxSize 4000
set_option linter.unusedSimpArgs false
set_option linter.unusedVariables false
namespace Go.Proofs.YtpmhjieibebclaaGreatDoor
open Go Go.RowKit
variable {x:aR} {L:Nat}
theorem gD {l:List UInt8} {c:UInt8} (h:l[0]? =some c) (hc:ga c=false):bg l=false:=by
 cases l with
 |nil=>cases h
 |cons a l=>
  have e:a=c:=by simpa using h
  subst e
  unfold bg
  simp only [hc,Bool.false_and]
theorem ni {l:List UInt8} {c:UInt8} {i:Nat} (h:l[i]? =some c) (hc:mJ c=false):bg l=false:=by
 unfold bg
 rw [show l.all mJ=false from by
  rw [Bool.eq_false_iff]
  intro ha
  have:=List.all_eq_true.1 ha c (List.mem_of_getElem? h)
  rw [this] at hc;cases hc]
 simp only [Bool.and_false,Bool.false_and]
theorem Bx {l:List UInt8} (ha:l.all mJ=true) (h0:0<l.length→∃ c,l[0]? =some c∧ga c=true):(decide ((0:Int)<(l.length:Int))=false∧bg l=false)∨(decide ((0:Int)<(l.length:Int))=true∧bg l=decide ((l.length:Int)≤32)):=by
 cases l with
 |nil=>exact .inl ⟨rfl,rfl⟩
 |cons a l=>
  obtain ⟨c,e,hl⟩:=h0 (Nat.succ_pos _)
  have e:a=c:=by simpa using e
  subst e
  refine .inr ⟨decide_eq_true (by rw [List.length_cons];omega),?_⟩
  unfold bg
  dsimp only
  rw [ha,hl,Bool.eq_iff_iff]
  simp only [Bool.true_and,decide_eq_true_eq]
  omega
theorem ld {l:List UInt8} {c:UInt8} {i:Nat} (h:l[i]? =some c) (hc:mJ c=true) (ha:(l.take i).all mJ=true):(l.take (i+1)).all mJ=true:=by
 rw [fQ h,List.all_append,ha]
 simp [hc]
theorem cY {p:Prop} (h:p:=by first|exact yG hix|exact tM|exact l8 (by assumption)|exact dt|exact dE|exact du|exact bm|exact fi|exact eI|exact eH|exact lm|exact lk|exact bO (b:=true) (u:=false) rfl|exact bO (b:=false) (u:=true) rfl|exact bO rfl|exact jT (by first|assumption|rfl)|exact nq (by first|assumption|rfl)|exact iE (by first|assumption|rfl)|exact mN (by first|assumption|rfl)|exact lZ (by first|assumption|rfl)|exact l7 (by first|assumption|rfl)|exact iA|exact dA|exact d8.nil|exact bG.nil|exact bE.nil|exact FU (by assumption)|exact Bp (by omega) (by assumption)|exact Fi (by omega) (by assumption)|exact sj (by omega) (by assumption)|exact xR (by omega)|exact sc hE k0|exact Bz (by omega)|exact Gq (by omega)|exact BB (by omega)|exact th (by omega)|exact ut (by decide)|exact Cv.rfl'):p:=h
theorem dB {l:List UInt8} (hb:l.length≤1000000):bW Tryz.prog S1 26 [0] [.is (Tx l)] (fun _=> .is (.bool (bg l))):=by
 refine cr Tryz.func26 Tryz.ntmps26 fun X w0 hE=> ?_
 repeat' first|kernel_rfl|apply Bt.mk|refine nx ?_|refine aE rfl cY ?_|refine aD rfl ?_|refine aF rfl ?_|apply ae|refine aQ rfl ?_|exact cY|intro _
 refine aY fun a w h=> ?_
 refine aO (fun k a u=>∃ i:Nat,i+k=l.length∧(l.take i).all mJ=true∧(0<i→∃ c,l[0]? =some c∧ga c=true)∧TS w0 X [] [(3, .is (.int .i64 (i:Int))),(0, .is (Tx l))] 60 a u) l.length ⟨0,by omega,rfl,(fun h=>by omega),h.keep [3,0]⟩ ?_
 clear h
 rintro k a u ⟨i,hi,ha,h0,h⟩
 by_cases hlt:i<l.length
 ·obtain ⟨c,hx⟩:∃ c,l[i]? =some c:=⟨_,List.getElem?_eq_getElem hlt⟩
  have hix:0≤(i:Int)∧l[(i:Int).toNat]? =some c:=⟨by omega,hx⟩
  have hc:decide ((i:Int)<(l.length:Int))=true:=decide_eq_true qO
  have hw:IntKind.i64.wrap ((i:Int)+1)=((i+1:Nat):Int):=aA qO qO
  have hcr:c.toNat<256:=UInt8.toNat_lt c
  have hcs:(97≤c.toNat∧c.toNat≤122)∨(65≤c.toNat∧c.toNat≤90)∨(0≤c.toNat∧c.toNat≤47∧c.toNat≠45)∨(45≤c.toNat∧c.toNat≤45)∨(48≤c.toNat∧c.toNat≤57)∨(58≤c.toNat∧c.toNat≤64)∨(91≤c.toNat∧c.toNat≤96∧c.toNat≠95)∨(95≤c.toNat∧c.toNat≤95)∨(123≤c.toNat∧c.toNat≤255):=qO
  rcases hcs with hr|hr|hr|hr|hr|hr|hr|hr|hr
  ·have e97:decide ((97:Int)≤(c.toNat:Int))=true:=decide_eq_true qO
   have e122:decide ((c.toNat:Int)≤122)=true:=decide_eq_true qO
   have e65:decide ((65:Int)≤(c.toNat:Int))=true:=decide_eq_true qO
   have e90:decide ((c.toNat:Int)≤90)=false:=decide_eq_false qO
   have e48:decide ((48:Int)≤(c.toNat:Int))=true:=decide_eq_true qO
   have e57:decide ((c.toNat:Int)≤57)=false:=decide_eq_false qO
   have n95:((c.toNat:Int) != 95)=true:=bne_iff_ne.2 qO
   have n45:((c.toNat:Int) != 45)=true:=bne_iff_ne.2 qO
   have hl:ga c=true:=by
    unfold ga
    simp only [Bool.or_eq_true,Bool.and_eq_true,decide_eq_true_eq];omega
   have hn:mJ c=true:=by
    unfold mJ
    rw [hl]
    rfl
   have h0':0<i+1→∃ c,l[0]? =some c∧ga c=true:=fun _=>by
    rcases Nat.eq_zero_or_pos i with e|e
    ·subst e;exact ⟨c,hx,hl⟩
    ·exact h0 e
   refine aB h ?_
   clear h
   repeat' first|kernel_rfl|exact a8 fun _ _ h=>⟨k - 1,by omega,i+1,by omega,ld hx hn ha,h0',h.keep [3,0]⟩|apply Bt.mk|refine nx ?_|refine aE rfl cY ?_|refine aD rfl ?_|refine aF rfl ?_|apply ae|refine aQ rfl ?_|exact cY|intro _
  ·have e97:decide ((97:Int)≤(c.toNat:Int))=false:=decide_eq_false qO
   have e122:decide ((c.toNat:Int)≤122)=true:=decide_eq_true qO
   have e65:decide ((65:Int)≤(c.toNat:Int))=true:=decide_eq_true qO
   have e90:decide ((c.toNat:Int)≤90)=true:=decide_eq_true qO
   have e48:decide ((48:Int)≤(c.toNat:Int))=true:=decide_eq_true qO
   have e57:decide ((c.toNat:Int)≤57)=false:=decide_eq_false qO
   have n95:((c.toNat:Int) != 95)=true:=bne_iff_ne.2 qO
   have n45:((c.toNat:Int) != 45)=true:=bne_iff_ne.2 qO
   have hl:ga c=true:=by
    unfold ga
    simp only [Bool.or_eq_true,Bool.and_eq_true,decide_eq_true_eq];omega
   have hn:mJ c=true:=by
    unfold mJ
    rw [hl]
    rfl
   have h0':0<i+1→∃ c,l[0]? =some c∧ga c=true:=fun _=>by
    rcases Nat.eq_zero_or_pos i with e|e
    ·subst e;exact ⟨c,hx,hl⟩
    ·exact h0 e
   refine aB h ?_
   clear h
   repeat' first|kernel_rfl|exact a8 fun _ _ h=>⟨k - 1,by omega,i+1,by omega,ld hx hn ha,h0',h.keep [3,0]⟩|apply Bt.mk|refine nx ?_|refine aE rfl cY ?_|refine aD rfl ?_|refine aF rfl ?_|apply ae|refine aQ rfl ?_|exact cY|intro _
  ·have e97:decide ((97:Int)≤(c.toNat:Int))=false:=decide_eq_false qO
   have e122:decide ((c.toNat:Int)≤122)=true:=decide_eq_true qO
   have e65:decide ((65:Int)≤(c.toNat:Int))=false:=decide_eq_false qO
   have e90:decide ((c.toNat:Int)≤90)=true:=decide_eq_true qO
   have e48:decide ((48:Int)≤(c.toNat:Int))=false:=decide_eq_false qO
   have e57:decide ((c.toNat:Int)≤57)=true:=decide_eq_true qO
   have n95:((c.toNat:Int) != 95)=true:=bne_iff_ne.2 qO
   have n45:((c.toNat:Int) != 45)=true:=bne_iff_ne.2 qO
   have hl:ga c=false:=by
    unfold ga
    rw [Bool.eq_false_iff];simp only [ne_eq,Bool.or_eq_true,Bool.and_eq_true,decide_eq_true_eq];omega
   have hn:mJ c=false:=by
    unfold mJ
    rw [hl]
    rw [Bool.eq_false_iff];simp only [ne_eq,Bool.or_eq_true,Bool.and_eq_true,decide_eq_true_eq,beq_iff_eq,Bool.false_or];omega
   cases hz:((i:Int)==0)
   ·rw [ni hx hn]
    refine aB h ?_
    clear h
    repeat' first|kernel_rfl|apply Bt.mk|refine nx ?_|refine aE rfl cY ?_|refine aD rfl ?_|refine aF rfl ?_|apply ae|refine aQ rfl ?_|exact cY|intro _
   ·have hi0:i=0:=by have:=eq_of_beq hz;omega
    rw [gD (by rw [←hi0];exact hx) hl]
    refine aB h ?_
    clear h
    repeat' first|kernel_rfl|apply Bt.mk|refine nx ?_|refine aE rfl cY ?_|refine aD rfl ?_|refine aF rfl ?_|apply ae|refine aQ rfl ?_|exact cY|intro _
  ·have e97:decide ((97:Int)≤(c.toNat:Int))=false:=decide_eq_false qO
   have e122:decide ((c.toNat:Int)≤122)=true:=decide_eq_true qO
   have e65:decide ((65:Int)≤(c.toNat:Int))=false:=decide_eq_false qO
   have e90:decide ((c.toNat:Int)≤90)=true:=decide_eq_true qO
   have e48:decide ((48:Int)≤(c.toNat:Int))=false:=decide_eq_false qO
   have e57:decide ((c.toNat:Int)≤57)=true:=decide_eq_true qO
   have n95:((c.toNat:Int) != 95)=true:=bne_iff_ne.2 qO
   have n45:((c.toNat:Int) != 45)=false:=by rw [show (c.toNat:Int)=45 by omega];rfl
   have hl:ga c=false:=by
    unfold ga
    rw [Bool.eq_false_iff];simp only [ne_eq,Bool.or_eq_true,Bool.and_eq_true,decide_eq_true_eq];omega
   have hn:mJ c=true:=by
    unfold mJ
    rw [hl]
    simp only [Bool.true_or,Bool.or_eq_true,decide_eq_true_eq,Bool.and_eq_true,beq_iff_eq,Bool.false_or];omega
   cases hz:((i:Int)==0)
   ·have hi1:(i:Int)≠0:=fun e=>by rw [e] at hz;cases hz
    have h0':0<i+1→∃ c,l[0]? =some c∧ga c=true:=fun _=>h0 qO
    refine aB h ?_
    clear h
    repeat' first|kernel_rfl|exact a8 fun _ _ h=>⟨k - 1,by omega,i+1,by omega,ld hx hn ha,h0',h.keep [3,0]⟩|apply Bt.mk|refine nx ?_|refine aE rfl cY ?_|refine aD rfl ?_|refine aF rfl ?_|apply ae|refine aQ rfl ?_|exact cY|intro _
   ·have hi0:i=0:=by have:=eq_of_beq hz;omega
    rw [gD (by rw [←hi0];exact hx) hl]
    refine aB h ?_
    clear h
    repeat' first|kernel_rfl|apply Bt.mk|refine nx ?_|refine aE rfl cY ?_|refine aD rfl ?_|refine aF rfl ?_|apply ae|refine aQ rfl ?_|exact cY|intro _
  ·have e97:decide ((97:Int)≤(c.toNat:Int))=false:=decide_eq_false qO
   have e122:decide ((c.toNat:Int)≤122)=true:=decide_eq_true qO
   have e65:decide ((65:Int)≤(c.toNat:Int))=false:=decide_eq_false qO
   have e90:decide ((c.toNat:Int)≤90)=true:=decide_eq_true qO
   have e48:decide ((48:Int)≤(c.toNat:Int))=true:=decide_eq_true qO
   have e57:decide ((c.toNat:Int)≤57)=true:=decide_eq_true qO
   have n95:((c.toNat:Int) != 95)=true:=bne_iff_ne.2 qO
   have n45:((c.toNat:Int) != 45)=true:=bne_iff_ne.2 qO
   have hl:ga c=false:=by
    unfold ga
    rw [Bool.eq_false_iff];simp only [ne_eq,Bool.or_eq_true,Bool.and_eq_true,decide_eq_true_eq];omega
   have hn:mJ c=true:=by
    unfold mJ
    rw [hl]
    simp only [Bool.true_or,Bool.or_eq_true,decide_eq_true_eq,Bool.and_eq_true,beq_iff_eq,Bool.false_or];omega
   cases hz:((i:Int)==0)
   ·have hi1:(i:Int)≠0:=fun e=>by rw [e] at hz;cases hz
    have h0':0<i+1→∃ c,l[0]? =some c∧ga c=true:=fun _=>h0 qO
    refine aB h ?_
    clear h
    repeat' first|kernel_rfl|exact a8 fun _ _ h=>⟨k - 1,by omega,i+1,by omega,ld hx hn ha,h0',h.keep [3,0]⟩|apply Bt.mk|refine nx ?_|refine aE rfl cY ?_|refine aD rfl ?_|refine aF rfl ?_|apply ae|refine aQ rfl ?_|exact cY|intro _
   ·have hi0:i=0:=by have:=eq_of_beq hz;omega
    rw [gD (by rw [←hi0];exact hx) hl]
    refine aB h ?_
    clear h
    repeat' first|kernel_rfl|apply Bt.mk|refine nx ?_|refine aE rfl cY ?_|refine aD rfl ?_|refine aF rfl ?_|apply ae|refine aQ rfl ?_|exact cY|intro _
  ·have e97:decide ((97:Int)≤(c.toNat:Int))=false:=decide_eq_false qO
   have e122:decide ((c.toNat:Int)≤122)=true:=decide_eq_true qO
   have e65:decide ((65:Int)≤(c.toNat:Int))=false:=decide_eq_false qO
   have e90:decide ((c.toNat:Int)≤90)=true:=decide_eq_true qO
   have e48:decide ((48:Int)≤(c.toNat:Int))=true:=decide_eq_true qO
   have e57:decide ((c.toNat:Int)≤57)=false:=decide_eq_false qO
   have n95:((c.toNat:Int) != 95)=true:=bne_iff_ne.2 qO
   have n45:((c.toNat:Int) != 45)=true:=bne_iff_ne.2 qO
   have hl:ga c=false:=by
    unfold ga
    rw [Bool.eq_false_iff];simp only [ne_eq,Bool.or_eq_true,Bool.and_eq_true,decide_eq_true_eq];omega
   have hn:mJ c=false:=by
    unfold mJ
    rw [hl]
    rw [Bool.eq_false_iff];simp only [ne_eq,Bool.or_eq_true,Bool.and_eq_true,decide_eq_true_eq,beq_iff_eq,Bool.false_or];omega
   cases hz:((i:Int)==0)
   ·rw [ni hx hn]
    refine aB h ?_
    clear h
    repeat' first|kernel_rfl|apply Bt.mk|refine nx ?_|refine aE rfl cY ?_|refine aD rfl ?_|refine aF rfl ?_|apply ae|refine aQ rfl ?_|exact cY|intro _
   ·have hi0:i=0:=by have:=eq_of_beq hz;omega
    rw [gD (by rw [←hi0];exact hx) hl]
    refine aB h ?_
    clear h
    repeat' first|kernel_rfl|apply Bt.mk|refine nx ?_|refine aE rfl cY ?_|refine aD rfl ?_|refine aF rfl ?_|apply ae|refine aQ rfl ?_|exact cY|intro _
  ·have e97:decide ((97:Int)≤(c.toNat:Int))=false:=decide_eq_false qO
   have e122:decide ((c.toNat:Int)≤122)=true:=decide_eq_true qO
   have e65:decide ((65:Int)≤(c.toNat:Int))=true:=decide_eq_true qO
   have e90:decide ((c.toNat:Int)≤90)=false:=decide_eq_false qO
   have e48:decide ((48:Int)≤(c.toNat:Int))=true:=decide_eq_true qO
   have e57:decide ((c.toNat:Int)≤57)=false:=decide_eq_false qO
   have n95:((c.toNat:Int) != 95)=true:=bne_iff_ne.2 qO
   have n45:((c.toNat:Int) != 45)=true:=bne_iff_ne.2 qO
   have hl:ga c=false:=by
    unfold ga
    rw [Bool.eq_false_iff];simp only [ne_eq,Bool.or_eq_true,Bool.and_eq_true,decide_eq_true_eq];omega
   have hn:mJ c=false:=by
    unfold mJ
    rw [hl]
    rw [Bool.eq_false_iff];simp only [ne_eq,Bool.or_eq_true,Bool.and_eq_true,decide_eq_true_eq,beq_iff_eq,Bool.false_or];omega
   cases hz:((i:Int)==0)
   ·rw [ni hx hn]
    refine aB h ?_
    clear h
    repeat' first|kernel_rfl|apply Bt.mk|refine nx ?_|refine aE rfl cY ?_|refine aD rfl ?_|refine aF rfl ?_|apply ae|refine aQ rfl ?_|exact cY|intro _
   ·have hi0:i=0:=by have:=eq_of_beq hz;omega
    rw [gD (by rw [←hi0];exact hx) hl]
    refine aB h ?_
    clear h
    repeat' first|kernel_rfl|apply Bt.mk|refine nx ?_|refine aE rfl cY ?_|refine aD rfl ?_|refine aF rfl ?_|apply ae|refine aQ rfl ?_|exact cY|intro _
  ·have e97:decide ((97:Int)≤(c.toNat:Int))=false:=decide_eq_false qO
   have e122:decide ((c.toNat:Int)≤122)=true:=decide_eq_true qO
   have e65:decide ((65:Int)≤(c.toNat:Int))=true:=decide_eq_true qO
   have e90:decide ((c.toNat:Int)≤90)=false:=decide_eq_false qO
   have e48:decide ((48:Int)≤(c.toNat:Int))=true:=decide_eq_true qO
   have e57:decide ((c.toNat:Int)≤57)=false:=decide_eq_false qO
   have n95:((c.toNat:Int) != 95)=false:=by rw [show (c.toNat:Int)=95 by omega];rfl
   have n45:((c.toNat:Int) != 45)=true:=bne_iff_ne.2 qO
   have hl:ga c=false:=by
    unfold ga
    rw [Bool.eq_false_iff];simp only [ne_eq,Bool.or_eq_true,Bool.and_eq_true,decide_eq_true_eq];omega
   have hn:mJ c=true:=by
    unfold mJ
    rw [hl]
    simp only [Bool.true_or,Bool.or_eq_true,decide_eq_true_eq,Bool.and_eq_true,beq_iff_eq,Bool.false_or];omega
   cases hz:((i:Int)==0)
   ·have hi1:(i:Int)≠0:=fun e=>by rw [e] at hz;cases hz
    have h0':0<i+1→∃ c,l[0]? =some c∧ga c=true:=fun _=>h0 qO
    refine aB h ?_
    clear h
    repeat' first|kernel_rfl|exact a8 fun _ _ h=>⟨k - 1,by omega,i+1,by omega,ld hx hn ha,h0',h.keep [3,0]⟩|apply Bt.mk|refine nx ?_|refine aE rfl cY ?_|refine aD rfl ?_|refine aF rfl ?_|apply ae|refine aQ rfl ?_|exact cY|intro _
   ·have hi0:i=0:=by have:=eq_of_beq hz;omega
    rw [gD (by rw [←hi0];exact hx) hl]
    refine aB h ?_
    clear h
    repeat' first|kernel_rfl|apply Bt.mk|refine nx ?_|refine aE rfl cY ?_|refine aD rfl ?_|refine aF rfl ?_|apply ae|refine aQ rfl ?_|exact cY|intro _
  ·have e97:decide ((97:Int)≤(c.toNat:Int))=true:=decide_eq_true qO
   have e122:decide ((c.toNat:Int)≤122)=false:=decide_eq_false qO
   have e65:decide ((65:Int)≤(c.toNat:Int))=true:=decide_eq_true qO
   have e90:decide ((c.toNat:Int)≤90)=false:=decide_eq_false qO
   have e48:decide ((48:Int)≤(c.toNat:Int))=true:=decide_eq_true qO
   have e57:decide ((c.toNat:Int)≤57)=false:=decide_eq_false qO
   have n95:((c.toNat:Int) != 95)=true:=bne_iff_ne.2 qO
   have n45:((c.toNat:Int) != 45)=true:=bne_iff_ne.2 qO
   have hl:ga c=false:=by
    unfold ga
    rw [Bool.eq_false_iff];simp only [ne_eq,Bool.or_eq_true,Bool.and_eq_true,decide_eq_true_eq];omega
   have hn:mJ c=false:=by
    unfold mJ
    rw [hl]
    rw [Bool.eq_false_iff];simp only [ne_eq,Bool.or_eq_true,Bool.and_eq_true,decide_eq_true_eq,beq_iff_eq,Bool.false_or];omega
   cases hz:((i:Int)==0)
   ·rw [ni hx hn]
    refine aB h ?_
    clear h
    repeat' first|kernel_rfl|apply Bt.mk|refine nx ?_|refine aE rfl cY ?_|refine aD rfl ?_|refine aF rfl ?_|apply ae|refine aQ rfl ?_|exact cY|intro _
   ·have hi0:i=0:=by have:=eq_of_beq hz;omega
    rw [gD (by rw [←hi0];exact hx) hl]
    refine aB h ?_
    clear h
    repeat' first|kernel_rfl|apply Bt.mk|refine nx ?_|refine aE rfl cY ?_|refine aD rfl ?_|refine aF rfl ?_|apply ae|refine aQ rfl ?_|exact cY|intro _
 ·have hil:i=l.length:=qO
  have hc:decide ((i:Int)<(l.length:Int))=false:=decide_eq_false qO
  rw [hil,List.take_length] at ha
  have en:=Bx ha (fun h=>h0 qO)
  rcases en with ⟨hp,en⟩|⟨hp,en⟩
  ·rw [en]
   refine aB h ?_
   clear h
   repeat' first|kernel_rfl|apply Bt.mk|refine nx ?_|refine aE rfl cY ?_|refine aD rfl ?_|refine aF rfl ?_|apply ae|refine aQ rfl ?_|exact cY|intro _
  ·rw [en]
   refine aB h ?_
   clear h
   repeat' first|kernel_rfl|apply Bt.mk|refine nx ?_|refine aE rfl cY ?_|refine aD rfl ?_|refine aF rfl ?_|apply ae|refine aQ rfl ?_|exact cY|intro _
theorem Fi {w00:World} {N:Nat} {L:List Loc} {E:List (Nat×aa)} {d:Nat} {t0:TypeId} {pos:String} {af:Array Edge} {gd:Option (Nat×Bool)} {ats:Array TypeId} {o0 o1:Operand} {T0 T1:aa} {N0 M:Int} {L0 K:Nat} [bD E o0 T0] [a0:i7 T0 N0 L0] [bD E o1 T1] [a1:i7 T1 M K] (hb:L0≤1000∧K≤1000) (hM:M=0):
 au Tryz.prog w00 N L E ⟨some d, .call { callee:= .value (.func 129),args:= #[o0,o1],argTypes:=ats },t0,pos,af,gd⟩ (.tup [.nc 0 0, .nc 0 0, .is (.int .i64 20)]):=by
 subst hM
 refine qi Db fun X w v0 v1 hX _ _ h0 h1=>(Fy (a0.ok h0) (a1.ok h1) hb).mono ?_
 rintro e w' ⟨v,rfl,hv,hb⟩
 have hT:(aa.nc 0 0).holds X w' (.agg #[.bool false, .slice none 0 0]):=⟨(false,[]),⟨Whole.zero,by decide⟩,[.bool false, .slice none 0 0],rfl,b9.2 ⟨none,0,0,rfl,⟨Sl.nil,fun h=>by omega⟩,Dg.nil⟩⟩
 exact ⟨v,rfl,⟨[_,_,_],hv,hT,hT,rfl,trivial⟩,hb⟩
theorem Af{k:Nat} (hx:Dg 4294967296 x.1.2) (hy:Dg 4294967296 x.2.2) (h:jB x=true):iv x.2≠0∧cV k x=(b_ ((k:Int).fmod (iv x.2)) 0==0):=by
 obtain ⟨_,_,hd⟩:=iW.of hx hy h
 have hp:=(qv x).den_pos
 refine ⟨by omega,?_⟩
 unfold cV
 rw [h,←hd,Bool.true_and,Int.fmod_eq_emod_of_nonneg _ qO,Bool.eq_iff_iff,decide_eq_true_eq,beq_iff_eq,nJ]
 constructor
 ·intro e;exact_mod_cast congrArg (Nat.cast:Nat→Int) e
 ·intro e;exact_mod_cast e
theorem qb{k:Nat} (hL:L≤90) (hk: -9223372036854775808≤(k:Int)∧(k:Int)≤9223372036854775807):bW Tryz.prog cK 104 [4,0] [.qx x L, .is (.int .i64 (k:Int))] (fun _=> .is (.bool (cV k x))):=by
 refine lH (F:=(Dg 4294967296 x.1.2∧Dg 4294967296 x.2.2)∧x.1.2.length≤L∧x.2.2.length≤L∧0<L) (fun ha=> ?_) (fun _ _=>by kernel_rfl) fun ⟨⟨hx,hy⟩,_⟩=> ?_
 ·obtain ⟨v,us,rfl,h,_⟩:=ha.tail
  exact FS h
 cases hq:jB x
 ·rw [show cV k x=false by unfold cV;rw [hq];rfl]
  by_cases h0:iv x.2=0
  refine cr Tryz.func104 Tryz.ntmps104 fun X w hE=> ?_
  repeat' first|kernel_rfl|apply Bt.mk|refine nx ?_|apply jY (id:=1) [] [] 11 [7,8]|apply pU|apply pZ|apply wN|apply az|apply aW|infer_instance|refine aE rfl cY ?_|refine aD rfl ?_|refine aF rfl ?_|apply ae|refine aQ rfl ?_|exact cY|(intro _;simp only[cf,ci,cm,List.map,List.cons_append,List.nil_append])|intro _
  ·skip
   refine cr Tryz.func104 Tryz.ntmps104 fun X w hE=> ?_
   repeat' first|kernel_rfl|apply Bt.mk|refine nx ?_|apply jY (id:=1) [] [] 11 [7,8]|apply pU|apply pZ|apply wN|apply az|apply aW|infer_instance|refine aE rfl cY ?_|refine aD rfl ?_|refine aF rfl ?_|apply ae|refine aQ rfl ?_|exact cY|(intro _;simp only[cf,ci,cm,List.map,List.cons_append,List.nil_append])|intro _
 ·obtain ⟨h0,he⟩:=Af (k:=k) hx hy hq
  rw [he]
  refine cr Tryz.func104 Tryz.ntmps104 fun X w hE=> ?_
  repeat' first|kernel_rfl|apply Bt.mk|refine nx ?_|apply jY (id:=1) [] [] 11 [7,8]|apply pU|apply pZ|apply wN|apply az|apply aW|infer_instance|refine aE rfl cY ?_|refine aD rfl ?_|refine aF rfl ?_|apply ae|refine aQ rfl ?_|exact cY|(intro _;simp only[cf,ci,cm,List.map,List.cons_append,List.nil_append])|intro _
theorem uG(hL:L≤80):bW Tryz.prog cK 63 [4] [.qx x L] (fun _=> .is (.bool (j0 x))):=by
 unfold j0
 rw [Bool.and_assoc]
 have k0:bW Tryz.prog cK 104 [4,0] [.qx x L, .is (.int .i64 100)] _:=qb (x:=x) (k:=100) qO qD
 cases h0:cV 100 x
 ·rw [h0] at k0
  simp only [Bool.false_and]
  refine cr Tryz.func63 Tryz.ntmps63 fun X w hE=> ?_
  repeat' first|kernel_rfl|apply Bt.mk|refine nx ?_|apply ar (id:=3) [(10,false),(16,false)] [] 15|(apply m7;(focus rfl);(focus kernel_rfl))|apply az|apply aW|infer_instance|refine aE rfl cY ?_|refine aD rfl ?_|refine aF rfl ?_|apply ae|refine aQ rfl ?_|exact cY|intro _
 rw [h0] at k0
 simp only [Bool.true_and]
 unfold l9
 cases h1:decide (de (qv x) (((1000000000000000:Int):Rat)*((1000000000000000:Int):Rat))<0)
 ·simp only [Bool.false_and]
  refine cr Tryz.func63 Tryz.ntmps63 fun X w hE=> ?_
  repeat' first|kernel_rfl|apply Bt.mk|refine nx ?_|apply ar (id:=3) [(10,true),(16,false)] [] 15|(apply m7;(focus rfl);(focus kernel_rfl))|apply az|apply aW|infer_instance|refine aE rfl cY ?_|refine aD rfl ?_|refine aF rfl ?_|apply ae|refine aQ rfl ?_|exact cY|intro _
 simp only [Bool.true_and]
 refine cr Tryz.func63 Tryz.ntmps63 fun X w hE=> ?_
 repeat' first|kernel_rfl|apply Bt.mk|refine nx ?_|apply ar (id:=3) [(10,true),(16,true)] [] 15|apply az|apply aW|infer_instance|refine aE rfl cY ?_|refine aD rfl ?_|refine aF rfl ?_|apply ae|refine aQ rfl ?_|exact cY|intro _
theorem vl(hL:L≤80):bW Tryz.prog cK 62 [4] [.qx x L] (fun _=> .is (.bool (jS x))):=by
 unfold jS jH
 have k0:bW Tryz.prog cK 104 [4,0] [.qx x L, .is (.int .i64 1000000)] _:=qb (x:=x) (k:=1000000) qO qD
 cases h0:cV 1000000 x
 ·rw [h0] at k0
  simp only [Bool.false_and]
  refine cr Tryz.func62 Tryz.ntmps62 fun X w hE=> ?_
  repeat' first|kernel_rfl|apply Bt.mk|refine nx ?_|apply ar (id:=1) [(5,false),(10,false)] [] 13|(apply m7;(focus rfl);(focus kernel_rfl))|apply az|apply aW|infer_instance|refine aE rfl cY ?_|refine aD rfl ?_|refine aF rfl ?_|apply ae|refine aQ rfl ?_|exact cY|intro _
 rw [h0] at k0
 simp only [Bool.true_and]
 cases h1:decide (0≤de (qv x) 0)
 ·simp only [Bool.false_and]
  refine cr Tryz.func62 Tryz.ntmps62 fun X w hE=> ?_
  repeat' first|kernel_rfl|apply Bt.mk|refine nx ?_|apply ar (id:=1) [(5,true),(10,false)] [] 13|(apply m7;(focus rfl);(focus kernel_rfl))|apply az|apply aW|infer_instance|refine aE rfl cY ?_|refine aD rfl ?_|refine aF rfl ?_|apply ae|refine aQ rfl ?_|exact cY|intro _
 simp only [Bool.true_and]
 refine cr Tryz.func62 Tryz.ntmps62 fun X w hE=> ?_
 repeat' first|kernel_rfl|apply Bt.mk|refine nx ?_|apply ar (id:=1) [(5,true),(10,true)] [] 13|apply az|apply aW|infer_instance|refine aE rfl cY ?_|refine aD rfl ?_|refine aF rfl ?_|apply ae|refine aQ rfl ?_|exact cY|intro _
end Go.Proofs.YtpmhjieibebclaaGreatDoor
