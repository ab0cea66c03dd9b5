/- What the document says of a filing's limits, part by part and place by place: rows of what may be, and the first that may not. No program stands in it. -/
import Derived.Test.YtpmhjieibebclaaGreatDoorCP
import Derived.Test.YtpmhjieibebclaaGreatDoorCR
import Derived.Test.YtpmhjieibebclaaGreatDoorCT
import Derived.Test.YtpmhjieibebclaaGreatDoorCU
set_option maxHeartbeats 4000000
set_option maxRecDepth 20000
set_option synthInstance.maxHeartbeats 400000
set_option synthInstance.maxSize 4000
set_option linter.unusedSimpArgs false
set_option linter.unusedVariables false
namespace Go.Proofs.YtpmhjieibebclaaGreatDoor
open Go Go.RowKit
variable {i p:Nat} {a e:Int} {x:aR}
def fL (d:aj):Nat→List Bool
 |2=>(d.2.2.1).map fG
 |4=>(d.2.2.2.2.2.2.2.2.2.2.1).map fp
 |5=>(d.2.2.2.2.2.2.2.2.2.2.2.1).map bg
 |6=>(d.2.2.2.2.2.2.2.2.2.2.2.2).map ln
 |_=>[]
def fE (y:aX):Nat→List Bool
 |7=>(y.2.1).map iy
 |8=>(y.2.2.1).map iq
 |9=>(y.2.2.2.1).map iu
 |10=>(y.2.2.2.2.1).map fH
 |11=>(y.2.2.2.2.2).map ir
 |_=>[]
def kK:Nat→Nat
 |2=>16
 |4=>64
 |5=>256
 |6=>40
 |_=>0
abbrev iH (most i:Nat) (l:List Bool):Int×Int:=brk (fun b=>b) most i l
theorem gR {α:Type} {p:α→Bool} {most:Nat}:∀ {l:List α} {i:Nat},brk p most i l=iH most i (l.map p)
 |[],_=>rfl
 |x::l,i=>by
  show brk p most i (x::l)=brk (fun b=>b) most i (p x::l.map p)
  unfold brk
  rw [gR (l:=l)]
def gq (d:aj) (p:Nat):II:=bif (dw (-1) ((dC d).drop (p - 1))).2==0 then kB 0 d.2.2.2.2.2.2.2.2.2.2.2.2 else dw (-1) ((dC d).drop (p - 1))
theorem wQ{yr p:Int} {t:List (Int×Int×Int)} (h:e=0):dw yr ((p,a,e)::t)=dw yr t:=by subst h;rfl
theorem pF{yr p:Int} {t:List (Int×Int×Int)} (h:(e==0)=false):dw yr ((p,a,e)::t)=((p,yr,a),e):=by
 rw [iO,h];rfl
theorem v8(d:aj) (hp:p=2∨p=4∨p=5∨p=6):(dC d).drop (p - 1)=((p:Int),iH (kK p) 0 (fL d p))::(dC d).drop p:=by
 rcases hp with rfl|rfl|rfl|rfl
 ·rw [show iH (kK 2) 0 (fL d 2)=brk fG 16 0 _ from gR.symm];rfl
 ·rw [show iH (kK 4) 0 (fL d 4)=brk fp 64 0 _ from gR.symm];rfl
 ·rw [show iH (kK 5) 0 (fL d 5)=brk bg 256 0 _ from gR.symm];rfl
 ·rw [show iH (kK 6) 0 (fL d 6)=brk ln 40 0 _ from gR.symm];rfl
theorem BE(d:aj) (hp:p=2∨p=4∨p=5∨p=6) (h:(iH (kK p) 0 (fL d p)).2=0):gq d p=gq d (p+1):=by
 unfold gq
 rw [v8 d hp,wQ h,Nat.add_sub_cancel]
theorem so(d:aj) (hp:p=2∨p=4∨p=5∨p=6) (h:iH (kK p) 0 (fL d p)=(a,e)) (he:(e==0)=false):gq d p=(((p:Int), -1,a),e):=by
 unfold gq
 rw [v8 d hp,h,pF he]
 show (bif e==0 then _ else _)=_
 rw [he];rfl
theorem zo (d:aj):gq d 3=bif decide (0≤fz 0 (dR d)) then ((3, -1,fz 0 (dR d)),2) else gq d 4:=by
 unfold gq
 have e:(dC d).drop (3 - 1)=(3,lc d)::(dC d).drop (4 - 1):=rfl
 rw [e]
 unfold lc
 cases decide (0≤fz 0 (dR d))<;>rfl
theorem za (d:aj):gq d 7=kB 0 d.2.2.2.2.2.2.2.2.2.2.2.2:=rfl
theorem Bc {d:aj} (h:bg d.1=false):bK d=((1, -1,0),2):=by
 unfold bK dC
 have:brk bg 2 0 [d.1,d.2.1]=(0,2):=fy qD h
 rw [this,pF rfl];rfl
theorem Dm {d:aj} (h:bg d.1=true) (h1:bg d.2.1=false):bK d=((1, -1,1),2):=by
 unfold bK dC
 have:brk bg 2 0 [d.1,d.2.1]=(1,2):=by
  rw [fS qD h]
  exact fy qD h1
 rw [this,pF rfl];rfl
theorem AQ {d:aj} (h:bg d.1=true) (h1:bg d.2.1=true):bK d=gq d 2:=by
 unfold bK gq
 have:brk bg 2 0 [d.1,d.2.1]=(0,0):=by
  rw [fS qD h,fS qD h1];rfl
 have e:dC d=(1,brk bg 2 0 [d.1,d.2.1])::(dC d).drop (2 - 1):=rfl
 rw [e,this,wQ rfl];rfl
def oV (l:List aX) (k:Nat) (y:aX) (p:Nat):II:=bif (dw (k:Int) ((dp y).drop (p - 7))).2==0 then kB (k+1) l else dw (k:Int) ((dp y).drop (p - 7))
theorem t7(y:aX) (hp:7≤p∧p≤11):(dp y).drop (p - 7)=((p:Int),iH 4096 0 (fE y p))::(dp y).drop (p+1 - 7):=by
 obtain rfl|rfl|rfl|rfl|rfl:p=7∨p=8∨p=9∨p=10∨p=11:=qO
 ·rw [show iH 4096 0 (fE y 7)=brk iy 4096 0 _ from gR.symm];rfl
 ·rw [show iH 4096 0 (fE y 8)=brk iq 4096 0 _ from gR.symm];rfl
 ·rw [show iH 4096 0 (fE y 9)=brk iu 4096 0 _ from gR.symm];rfl
 ·rw [show iH 4096 0 (fE y 10)=brk fH 4096 0 _ from gR.symm];rfl
 ·rw [show iH 4096 0 (fE y 11)=brk ir 4096 0 _ from gR.symm];rfl
theorem Bm(l:List aX) (k:Nat) (y:aX) (hp:7≤p∧p≤11) (h:(iH 4096 0 (fE y p)).2=0):oV l k y p=oV l k y (p+1):=by
 unfold oV
 rw [t7 y hp,wQ h]
theorem se(l:List aX) (k:Nat) (y:aX) (hp:7≤p∧p≤11) (h:iH 4096 0 (fE y p)=(a,e)) (he:(e==0)=false):oV l k y p=(((p:Int),(k:Int),a),e):=by
 unfold oV
 rw [t7 y hp,h,pF he]
 show (bif e==0 then _ else _)=_
 rw [he];rfl
theorem uX (l:List aX) (k:Nat) (y:aX):kB k (y::l)=oV l k y 7:=by
 rw [jK];rfl
theorem zg (l:List aX) (k:Nat) (y:aX):oV l k y 12=kB (k+1) l:=rfl
theorem Bo:(cV 1 x&&jH 0 x)=(jB x&&(de (qv x) 0==0)):=by
 unfold cV jH
 cases h:jB x
 ·rfl
 simp only [Bool.true_and]
 by_cases hz:de (qv x) 0=0
 ·have e:qv x=0:=by
   unfold de at hz
   split at hz
   ·cases hz
   ·split at hz
    ·assumption
    ·cases hz
  rw [e];decide +kernel
 ·rw [show (de (qv x) 0==0)=false from by simpa using hz]
  rw [Bool.eq_false_iff]
  intro hh
  simp only [Bool.and_eq_true,decide_eq_true_eq] at hh
  exact hz (by have e:de (qv x) ((0:Int):Rat)=de (qv x) 0:=rfl;omega)
def I0 (y:aX):Prop:=(∀ x∈y.2.1,x.1.length≤1000000∧x.2.1.length≤1000000)∧(∀ x∈y.2.2.1,x.1.length≤1000000∧x.2.1.length≤1000000)∧(∀ x∈y.2.2.2.1,x.2.1.length≤1000000∧x.2.2.2.1.length≤1000000∧x.2.2.2.2.1.length≤1000000∧x.2.2.2.2.2.1.length≤1000000)∧(∀ x∈y.2.2.2.2.1,x.1.length≤1000000)∧(∀ x∈y.2.2.2.2.2,x.1.length≤1000000)
structure DE (d:aj):Prop where
 nm:d.1.length≤1000000
 pa:d.2.1.length≤1000000
 cls:∀ x∈d.2.2.2.2.2.2.2.2.2.2.1,x.1.length≤1000000
 ent:∀ x∈d.2.2.2.2.2.2.2.2.2.2.2.1,x.length≤1000000
 yrs:∀ x∈d.2.2.2.2.2.2.2.2.2.2.2.2,I0 x
theorem iJ{α β:Type} {f:α→β} {l:List α} {b:β} (h:(l.map f)[i]? =some b):∃ x,l[i]? =some x∧f x=b∧x∈l:=by
 rw [List.getElem?_map] at h
 cases e:l[i]? with
 |none=>rw [e] at h;cases h
 |some x=>
  rw [e] at h
  exact ⟨x,rfl,Option.some.inj h,List.mem_of_getElem? e⟩
theorem f7(hf:b6 6 x):bW Tryz.prog cK 63 [0] [.ra Rp.frac x] (fun _=> .is (.bool (j0 x))):=(uG (L:=6) qD).args fun h=>by
 obtain ⟨v,rfl,h⟩:=h.one
 exact ⟨mW hf h.1,trivial⟩
theorem eL(hf:b6 6 x):bW Tryz.prog cK 62 [0] [.ra Rp.frac x] (fun _=> .is (.bool (jS x))):=(vl (L:=6) qD).args fun h=>by
 obtain ⟨v,rfl,h⟩:=h.one
 exact ⟨mW hf h.1,trivial⟩
theorem zd(hf:b6 6 x):bW Tryz.prog cK 104 [0,0] [.ra Rp.frac x, .is (.int .i64 1)] (fun _=> .is (.bool (cV 1 x))):=(qb (L:=6) (k:=1) qD qD).args fun h=>by
 obtain ⟨v,us,rfl,h,h'⟩:=h.tail
 exact ⟨mW hf h,h'⟩
instance:cQ Tryz.prog 85 (.ra aw wM):=kX.al
instance:cQ Tryz.prog 49 (.ra bM gf):=gm.al
theorem ce {p:Prop} (h:p:=by first|exact gW (by assumption)|exact fO|exact jE|exact nu|exact dt|exact dE|exact du|exact bm|exact eI|exact eH|exact lm|exact lk|exact bO (b:=true) (u:=false) rfl|exact bO (b:=false) (u:=true) rfl|exact bO rfl|exact jT (by first|assumption|rfl)|exact iE (by first|assumption|rfl)|exact mN (by first|assumption|rfl)|exact lZ (by first|assumption|rfl)|exact l7 (by first|assumption|rfl)|exact dh (by assumption)|exact dA|exact d8.nil|exact bG.nil|exact bE.nil|exact sc trivial k0|exact sc hE ks|exact sc hE km|exact sc hE ku|exact BB (by omega)|exact th (by omega)|exact ut (by decide)|exact sj (by omega) (by assumption)|exact sc hE k0|exact sc hE k1|exact sc trivial k1|exact sc hE k2|exact sc trivial k3|exact sc trivial k4|exact Cv.rfl'):p:=h
theorem CP {a:ej} (hf:b6 6 a.2.2) (hl:a.1.length≤1000000):bW Tryz.prog cK 64 [0] [.ra bq a] (fun _=> .is (.bool (fp a))):=by
 haveI i0:mq (.ra Rp.frac a.2.2) (qv a.2.2) 6:=⟨fun h=>(inferInstance:mq (.qx a.2.2 6) (qv a.2.2) 6).ok (mW hf h)⟩
 haveI i1:Dv (.ra Rp.frac a.2.2) a.2.2 6:=⟨fun h=>mW hf h⟩
 have k0:=dB hl
 have ks:=eL hf
 have km:=f7 hf
 have ku:=zd hf
 unfold fp gp
 cases h0:bg a.1
 ·rw [h0] at k0
  simp only [Bool.false_and]
  refine Jr Tryz.func64 rfl Tryz.ntmps64 qE (fun _ _=>by kernel_rfl) fun X w hE=> ?_
  simp only [eK,Nat.zero_add,Nat.reduceAdd]
  repeat' first|kernel_rfl|apply cx|apply cy|apply cE|apply az|apply aW|refine @bG.cons _ _ _ _ inferInstance ?_|refine @bE.cons _ _ _ inferInstance ?_|apply cu|apply cB|apply co|apply cA|apply cp|apply cw|refine fK rfl inferInstance ce qK ?_|refine jz rfl inferInstance rfl qK ?_|refine jh rfl inferInstance qK ?_|apply ae|apply bB|apply eB|apply eu|apply ct|refine aQ rfl ?_|apply cq|apply ew|apply ep|apply jl|apply jj|refine jt rfl ?_|apply jn|apply jw|apply eC|exact ce|(intro _;simp only[cf,ci,cm,List.map,List.cons_append,List.nil_append])|intro _
 rw [h0] at k0
 simp only [Bool.true_and]
 cases h1:decide ((1:Int)≤a.2.1)
 ·have h1':decide (a.2.1<(1:Int))=true:=decide_eq_true (by have:=of_decide_eq_false h1;omega)
  simp only [Bool.false_and]
  refine Jr Tryz.func64 rfl Tryz.ntmps64 qE (fun _ _=>by kernel_rfl) fun X w hE=> ?_
  simp only [eK,Nat.zero_add,Nat.reduceAdd]
  repeat' first|kernel_rfl|apply cx|apply cy|apply cE|apply az|apply aW|refine @bG.cons _ _ _ _ inferInstance ?_|refine @bE.cons _ _ _ inferInstance ?_|apply cu|apply cB|apply co|apply cA|apply cp|apply cw|refine fK rfl inferInstance ce qK ?_|refine jz rfl inferInstance rfl qK ?_|refine jh rfl inferInstance qK ?_|apply ae|apply bB|apply eB|apply eu|apply ct|refine aQ rfl ?_|apply cq|apply ew|apply ep|apply jl|apply jj|refine jt rfl ?_|apply jn|apply jw|apply eC|exact ce|(intro _;simp only[cf,ci,cm,List.map,List.cons_append,List.nil_append])|intro _
 have h1':decide (a.2.1<(1:Int))=false:=decide_eq_false (by have:=of_decide_eq_true h1;omega)
 simp only [Bool.true_and]
 cases h2:decide (a.2.1≤(11:Int))
 ·have h2':decide ((11:Int)<a.2.1)=true:=decide_eq_true (by have:=of_decide_eq_false h2;omega)
  simp only [Bool.false_and]
  refine Jr Tryz.func64 rfl Tryz.ntmps64 qE (fun _ _=>by kernel_rfl) fun X w hE=> ?_
  simp only [eK,Nat.zero_add,Nat.reduceAdd]
  repeat' first|kernel_rfl|apply cx|apply cy|apply cE|apply az|apply aW|refine @bG.cons _ _ _ _ inferInstance ?_|refine @bE.cons _ _ _ inferInstance ?_|apply cu|apply cB|apply co|apply cA|apply cp|apply cw|refine fK rfl inferInstance ce qK ?_|refine jz rfl inferInstance rfl qK ?_|refine jh rfl inferInstance qK ?_|apply ae|apply bB|apply eB|apply eu|apply ct|refine aQ rfl ?_|apply cq|apply ew|apply ep|apply jl|apply jj|refine jt rfl ?_|apply jn|apply jw|apply eC|exact ce|(intro _;simp only[cf,ci,cm,List.map,List.cons_append,List.nil_append])|intro _
 have h2':decide ((11:Int)<a.2.1)=false:=decide_eq_false (by have:=of_decide_eq_true h2;omega)
 simp only [Bool.true_and]
 unfold tU
 cases h4:(a.2.1==4)
 rotate_left
 ·simp only [cond_true]
  refine Jr Tryz.func64 rfl Tryz.ntmps64 qE (fun _ _=>by kernel_rfl) fun X w hE=> ?_
  simp only [eK,Nat.zero_add,Nat.reduceAdd]
  repeat' first|kernel_rfl|apply cx|apply cy|apply cE|apply az|apply aW|refine @bG.cons _ _ _ _ inferInstance ?_|refine @bE.cons _ _ _ inferInstance ?_|apply cu|apply cB|apply co|apply cA|apply cp|apply cw|refine fK rfl inferInstance ce qK ?_|refine jz rfl inferInstance rfl qK ?_|refine jh rfl inferInstance qK ?_|apply ae|apply bB|apply eB|apply eu|apply ct|refine aQ rfl ?_|apply cq|apply ew|apply ep|apply jl|apply jj|refine jt rfl ?_|apply jn|apply jw|apply eC|exact ce|(intro _;simp only[cf,ci,cm,List.map,List.cons_append,List.nil_append])|intro _
 simp only [cond_false]
 cases h5:(a.2.1==5)
 rotate_left
 ·simp only [cond_true]
  refine Jr Tryz.func64 rfl Tryz.ntmps64 qE (fun _ _=>by kernel_rfl) fun X w hE=> ?_
  simp only [eK,Nat.zero_add,Nat.reduceAdd]
  repeat' first|kernel_rfl|apply cx|apply cy|apply cE|apply az|apply aW|refine @bG.cons _ _ _ _ inferInstance ?_|refine @bE.cons _ _ _ inferInstance ?_|apply cu|apply cB|apply co|apply cA|apply cp|apply cw|refine fK rfl inferInstance ce qK ?_|refine jz rfl inferInstance rfl qK ?_|refine jh rfl inferInstance qK ?_|apply ae|apply bB|apply eB|apply eu|apply ct|refine aQ rfl ?_|apply cq|apply ew|apply ep|apply jl|apply jj|refine jt rfl ?_|apply jn|apply jw|apply eC|exact ce|(intro _;simp only[cf,ci,cm,List.map,List.cons_append,List.nil_append])|intro _
 simp only [cond_false]
 cases h6:(a.2.1==6)
 ·simp only [cond_false]
  rw [Bo]
  cases hq:jB a.2.2
  ·simp only [Bool.false_and]
   refine Jr Tryz.func64 rfl Tryz.ntmps64 qE (fun _ _=>by kernel_rfl) fun X w hE=> ?_
   simp only [eK,Nat.zero_add,Nat.reduceAdd]
   repeat' first|kernel_rfl|apply cx|apply cy|apply cE|apply az|apply aW|refine @bG.cons _ _ _ _ inferInstance ?_|refine @bE.cons _ _ _ inferInstance ?_|apply cu|apply cB|apply co|apply cA|apply cp|apply cw|refine fK rfl inferInstance ce qK ?_|refine jz rfl inferInstance rfl qK ?_|refine jh rfl inferInstance qK ?_|apply ae|apply bB|apply eB|apply eu|apply ct|refine aQ rfl ?_|apply cq|apply ew|apply ep|apply jl|apply jj|refine jt rfl ?_|apply jn|apply jw|apply eC|exact ce|(intro _;simp only[cf,ci,cm,List.map,List.cons_append,List.nil_append])|intro _
  ·simp only [Bool.true_and]
   refine Jr Tryz.func64 rfl Tryz.ntmps64 qE (fun _ _=>by kernel_rfl) fun X w hE=> ?_
   simp only [eK,Nat.zero_add,Nat.reduceAdd]
   repeat' first|kernel_rfl|apply cx|apply cy|apply cE|apply az|apply aW|refine @bG.cons _ _ _ _ inferInstance ?_|refine @bE.cons _ _ _ inferInstance ?_|apply cu|apply cB|apply co|apply cA|apply cp|apply cw|refine fK rfl inferInstance ce qK ?_|refine jz rfl inferInstance rfl qK ?_|refine jh rfl inferInstance qK ?_|apply ae|apply bB|apply eB|apply eu|apply ct|refine aQ rfl ?_|apply cq|apply ew|apply ep|apply jl|apply jj|refine jt rfl ?_|apply jn|apply jw|apply eC|exact ce|(intro _;simp only[cf,ci,cm,List.map,List.cons_append,List.nil_append])|intro _
 simp only [cond_true]
 unfold jH
 cases hu:cV 1 a.2.2
 ·rw [hu] at ku
  simp only [Bool.false_and]
  refine Jr Tryz.func64 rfl Tryz.ntmps64 qE (fun _ _=>by kernel_rfl) fun X w hE=> ?_
  simp only [eK,Nat.zero_add,Nat.reduceAdd]
  repeat' first|kernel_rfl|apply cx|apply cy|apply cE|apply ar (id:=9) [(34,false),(40,false)] [] 16|(apply m7;(focus rfl);(focus kernel_rfl))|apply az|apply aW|refine @bG.cons _ _ _ _ inferInstance ?_|refine @bE.cons _ _ _ inferInstance ?_|apply cu|apply cB|apply co|apply cA|apply cp|apply cw|refine fK rfl inferInstance ce qK ?_|refine jz rfl inferInstance rfl qK ?_|refine jh rfl inferInstance qK ?_|apply ae|apply bB|apply eB|apply eu|apply ct|refine aQ rfl ?_|apply cq|apply ew|apply ep|apply jl|apply jj|refine jt rfl ?_|apply jn|apply jw|apply eC|exact ce|(intro _;simp only[cf,ci,cm,List.map,List.cons_append,List.nil_append])|intro _
 rw [hu] at ku
 simp only [Bool.true_and]
 cases hs:decide (0≤de (qv a.2.2) 0)
 ·simp only [Bool.false_and]
  refine Jr Tryz.func64 rfl Tryz.ntmps64 qE (fun _ _=>by kernel_rfl) fun X w hE=> ?_
  simp only [eK,Nat.zero_add,Nat.reduceAdd]
  repeat' first|kernel_rfl|apply cx|apply cy|apply cE|apply ar (id:=9) [(34,true),(40,false)] [] 16|(apply m7;(focus rfl);(focus kernel_rfl))|apply az|apply aW|refine @bG.cons _ _ _ _ inferInstance ?_|refine @bE.cons _ _ _ inferInstance ?_|apply cu|apply cB|apply co|apply cA|apply cp|apply cw|refine fK rfl inferInstance ce qK ?_|refine jz rfl inferInstance rfl qK ?_|refine jh rfl inferInstance qK ?_|apply ae|apply bB|apply eB|apply eu|apply ct|refine aQ rfl ?_|apply cq|apply ew|apply ep|apply jl|apply jj|refine jt rfl ?_|apply jn|apply jw|apply eC|exact ce|(intro _;simp only[cf,ci,cm,List.map,List.cons_append,List.nil_append])|intro _
 simp only [Bool.true_and]
 refine Jr Tryz.func64 rfl Tryz.ntmps64 qE (fun _ _=>by kernel_rfl) fun X w hE=> ?_
 simp only [eK,Nat.zero_add,Nat.reduceAdd]
 repeat' first|kernel_rfl|apply cx|apply cy|apply cE|apply ar (id:=9) [(34,true),(40,true)] [] 16|apply az|apply aW|refine @bG.cons _ _ _ _ inferInstance ?_|refine @bE.cons _ _ _ inferInstance ?_|apply cu|apply cB|apply co|apply cA|apply cp|apply cw|refine fK rfl inferInstance ce qK ?_|refine jz rfl inferInstance rfl qK ?_|refine jh rfl inferInstance qK ?_|apply ae|apply bB|apply eB|apply eu|apply ct|refine aQ rfl ?_|apply cq|apply ew|apply ep|apply jl|apply jj|refine jt rfl ?_|apply jn|apply jw|apply eC|exact ce|(intro _;simp only[cf,ci,cm,List.map,List.cons_append,List.nil_append])|intro _
theorem DD{d:aj} {a:dJ} (hx:(d.2.2.1)[i]? =some a) (hf:b6 6 a.1∧b6 6 a.2):bW Tryz.prog cK 28 [0,0,0] [.ra ab d, .is (.int .i64 2), .is (.int .i64 (i:Int))] (fun _=> .is (.bool (fG a))):=by
 have q2:((2:Int)==2)=true:=rfl
 have q4:((2:Int)==4)=false:=rfl
 have q5:((2:Int)==5)=false:=rfl
 unfold fG
 have k0:=f7 (x:=a.1) hf.1
 cases h0:j0 a.1
 ·rw [h0] at k0
  simp only [Bool.false_and]
  refine Jr Tryz.func28 rfl Tryz.ntmps28 qE (fun _ _=>by kernel_rfl) fun X w hE=> ?_
  simp only [eK,Nat.zero_add,Nat.reduceAdd]
  repeat' first|kernel_rfl|apply cx|apply cy|apply cE|apply cu|apply cB|apply co|apply cA|apply cp|apply cw|refine fK rfl inferInstance ce qK ?_|refine jz rfl inferInstance rfl qK ?_|refine jh rfl inferInstance qK ?_|apply ae|apply bB|apply eB|apply eu|apply ct|refine aQ rfl ?_|apply cq|apply ew|apply ep|apply jl|apply jj|refine jt rfl ?_|apply jn|apply jw|apply eC|exact ce|intro _
 rw [h0] at k0
 simp only [Bool.true_and]
 have k1:=eL (x:=a.2) hf.2
 refine Jr Tryz.func28 rfl Tryz.ntmps28 qE (fun _ _=>by kernel_rfl) fun X w hE=> ?_
 simp only [eK,Nat.zero_add,Nat.reduceAdd]
 repeat' first|kernel_rfl|apply cx|apply cy|apply cE|apply cu|apply cB|apply co|apply cA|apply cp|apply cw|refine fK rfl inferInstance ce qK ?_|refine jz rfl inferInstance rfl qK ?_|refine jh rfl inferInstance qK ?_|apply ae|apply bB|apply eB|apply eu|apply ct|refine aQ rfl ?_|apply cq|apply ew|apply ep|apply jl|apply jj|refine jt rfl ?_|apply jn|apply jw|apply eC|exact ce|intro _
theorem DT{d:aj} {a:ej} (hx:(d.2.2.2.2.2.2.2.2.2.2.1)[i]? =some a) (hf:b6 6 a.2.2) (hl:a.1.length≤1000000):bW Tryz.prog cK 28 [0,0,0] [.ra ab d, .is (.int .i64 4), .is (.int .i64 (i:Int))] (fun _=> .is (.bool (fp a))):=by
 have q2:((4:Int)==2)=false:=rfl
 have q4:((4:Int)==4)=true:=rfl
 have q5:((4:Int)==5)=false:=rfl
 have k0:=CP hf hl
 refine Jr Tryz.func28 rfl Tryz.ntmps28 qE (fun _ _=>by kernel_rfl) fun X w hE=> ?_
 simp only [eK,Nat.zero_add,Nat.reduceAdd]
 repeat' first|kernel_rfl|apply cx|apply cy|apply cE|apply cu|apply cB|apply co|apply cA|apply cp|apply cw|refine fK rfl inferInstance ce qK ?_|refine jz rfl inferInstance rfl qK ?_|refine jh rfl inferInstance qK ?_|apply ae|apply bB|apply eB|apply eu|apply ct|refine aQ rfl ?_|apply cq|apply ew|apply ep|apply jl|apply jj|refine jt rfl ?_|apply jn|apply jw|apply eC|exact ce|intro _
theorem D9{d:aj} {a:List UInt8} (hx:(d.2.2.2.2.2.2.2.2.2.2.2.1)[i]? =some a) (hl:a.length≤1000000):bW Tryz.prog cK 28 [0,0,0] [.ra ab d, .is (.int .i64 5), .is (.int .i64 (i:Int))] (fun _=> .is (.bool (bg a))):=by
 have q2:((5:Int)==2)=false:=rfl
 have q4:((5:Int)==4)=false:=rfl
 have q5:((5:Int)==5)=true:=rfl
 have k0:=dB (l:=a) hl
 refine Jr Tryz.func28 rfl Tryz.ntmps28 qE (fun _ _=>by kernel_rfl) fun X w hE=> ?_
 simp only [eK,Nat.zero_add,Nat.reduceAdd]
 repeat' first|kernel_rfl|apply cx|apply cy|apply cE|apply cu|apply cB|apply co|apply cA|apply cp|apply cw|refine fK rfl inferInstance ce qK ?_|refine jz rfl inferInstance rfl qK ?_|refine jh rfl inferInstance qK ?_|apply ae|apply bB|apply eB|apply eu|apply ct|refine aQ rfl ?_|apply cq|apply ew|apply ep|apply jl|apply jj|refine jt rfl ?_|apply jn|apply jw|apply eC|exact ce|intro _
theorem Fk{d:aj} {a:aX} (hx:(d.2.2.2.2.2.2.2.2.2.2.2.2)[i]? =some a):bW Tryz.prog cK 28 [0,0,0] [.ra ab d, .is (.int .i64 6), .is (.int .i64 (i:Int))] (fun _=> .is (.bool (ln a))):=by
 have q2:((6:Int)==2)=false:=rfl
 have q4:((6:Int)==4)=false:=rfl
 have q5:((6:Int)==5)=false:=rfl
 unfold ln gp
 cases h0:decide ((1:Int)≤a.1)
 ·simp only [Bool.false_and]
  refine Jr Tryz.func28 rfl Tryz.ntmps28 qE (fun _ _=>by kernel_rfl) fun X w hE=> ?_
  simp only [eK,Nat.zero_add,Nat.reduceAdd]
  repeat' first|kernel_rfl|apply cx|apply cy|apply cE|apply cu|apply cB|apply co|apply cA|apply cp|apply cw|refine fK rfl inferInstance ce qK ?_|refine jz rfl inferInstance rfl qK ?_|refine jh rfl inferInstance qK ?_|apply ae|apply bB|apply eB|apply eu|apply ct|refine aQ rfl ?_|apply cq|apply ew|apply ep|apply jl|apply jj|refine jt rfl ?_|apply jn|apply jw|apply eC|exact ce|intro _
 simp only [Bool.true_and]
 refine Jr Tryz.func28 rfl Tryz.ntmps28 qE (fun _ _=>by kernel_rfl) fun X w hE=> ?_
 simp only [eK,Nat.zero_add,Nat.reduceAdd]
 repeat' first|kernel_rfl|apply cx|apply cy|apply cE|apply cu|apply cB|apply co|apply cA|apply cp|apply cw|refine fK rfl inferInstance ce qK ?_|refine jz rfl inferInstance rfl qK ?_|refine jh rfl inferInstance qK ?_|apply ae|apply bB|apply eB|apply eu|apply ct|refine aQ rfl ?_|apply cq|apply ew|apply ep|apply jl|apply jj|refine jt rfl ?_|apply jn|apply jw|apply eC|exact ce|intro _
theorem GP{d:aj} {b:Bool} (hf:nf d) (hl:DE d) (hp:p=2∨p=4∨p=5∨p=6) (hx:(fL d p)[i]? =some b):bW Tryz.prog cK 28 [0,0,0] [.ra ab d, .is (.int .i64 (p:Int)), .is (.int .i64 (i:Int))] (fun _=> .is (.bool b)):=by
 rcases hp with rfl|rfl|rfl|rfl
 ·obtain ⟨x,h,rfl,hm⟩:=iJ hx
  exact DD h (hf.brk x hm)
 ·obtain ⟨x,h,rfl,hm⟩:=iJ hx
  exact DT h (hf.cls x hm) (hl.cls x hm)
 ·obtain ⟨x,h,rfl,hm⟩:=iJ hx
  exact D9 h (hl.ent x hm)
 ·obtain ⟨x,h,rfl,hm⟩:=iJ hx
  exact Fk h
theorem AV{d:aX} {a:gk} (hx:(d.2.1)[i]? =some a) (hf:b6 6 a.2.2) (hl:a.1.length≤1000000∧a.2.1.length≤1000000):bW Tryz.prog cK 29 [0,0,0] [.ra aw d, .is (.int .i64 7), .is (.int .i64 (i:Int))] (fun _=> .is (.bool (iy a))):=by
 have q7:((7:Int)==7)=true:=rfl
 have q8:((7:Int)==8)=false:=rfl
 have q9:((7:Int)==9)=false:=rfl
 have q10:((7:Int)==10)=false:=rfl
 unfold iy
 simp only [Bool.and_assoc]
 have k0:=dB (l:=a.1) hl.1
 cases h0:bg a.1
 ·rw [h0] at k0
  simp only [Bool.false_and]
  refine Jr Tryz.func29 rfl Tryz.ntmps29 qE (fun _ _=>by kernel_rfl) fun X w hE=> ?_
  simp only [eK,Nat.zero_add,Nat.reduceAdd]
  repeat' first|kernel_rfl|apply cx|apply cy|apply cE|apply cu|apply cB|apply co|apply cA|apply cp|apply cw|refine fK rfl inferInstance ce qK ?_|refine jz rfl inferInstance rfl qK ?_|refine jh rfl inferInstance qK ?_|apply ae|apply bB|apply eB|apply eu|apply ct|refine aQ rfl ?_|apply cq|apply ew|apply ep|apply jl|apply jj|refine jt rfl ?_|apply jn|apply jw|apply eC|exact ce|intro _
 rw [h0] at k0
 simp only [Bool.true_and]
 have k1:=dB (l:=a.2.1) hl.2
 cases h1:bg a.2.1
 ·rw [h1] at k1
  simp only [Bool.false_and]
  refine Jr Tryz.func29 rfl Tryz.ntmps29 qE (fun _ _=>by kernel_rfl) fun X w hE=> ?_
  simp only [eK,Nat.zero_add,Nat.reduceAdd]
  repeat' first|kernel_rfl|apply cx|apply cy|apply cE|apply cu|apply cB|apply co|apply cA|apply cp|apply cw|refine fK rfl inferInstance ce qK ?_|refine jz rfl inferInstance rfl qK ?_|refine jh rfl inferInstance qK ?_|apply ae|apply bB|apply eB|apply eu|apply ct|refine aQ rfl ?_|apply cq|apply ew|apply ep|apply jl|apply jj|refine jt rfl ?_|apply jn|apply jw|apply eC|exact ce|intro _
 rw [h1] at k1
 simp only [Bool.true_and]
 have k2:=eL (x:=a.2.2) hf
 refine Jr Tryz.func29 rfl Tryz.ntmps29 qE (fun _ _=>by kernel_rfl) fun X w hE=> ?_
 simp only [eK,Nat.zero_add,Nat.reduceAdd]
 repeat' first|kernel_rfl|apply cx|apply cy|apply cE|apply cu|apply cB|apply co|apply cA|apply cp|apply cw|refine fK rfl inferInstance ce qK ?_|refine jz rfl inferInstance rfl qK ?_|refine jh rfl inferInstance qK ?_|apply ae|apply bB|apply eB|apply eu|apply ct|refine aQ rfl ?_|apply cq|apply ew|apply ep|apply jl|apply jj|refine jt rfl ?_|apply jn|apply jw|apply eC|exact ce|intro _
theorem BI{d:aX} {a:gl} (hx:(d.2.2.1)[i]? =some a) (hf:b6 6 a.2.2) (hl:a.1.length≤1000000∧a.2.1.length≤1000000):bW Tryz.prog cK 29 [0,0,0] [.ra aw d, .is (.int .i64 8), .is (.int .i64 (i:Int))] (fun _=> .is (.bool (iq a))):=by
 have q7:((8:Int)==7)=false:=rfl
 have q8:((8:Int)==8)=true:=rfl
 have q9:((8:Int)==9)=false:=rfl
 have q10:((8:Int)==10)=false:=rfl
 unfold iq
 simp only [Bool.and_assoc]
 have k0:=dB (l:=a.1) hl.1
 cases h0:bg a.1
 ·rw [h0] at k0
  simp only [Bool.false_and]
  refine Jr Tryz.func29 rfl Tryz.ntmps29 qE (fun _ _=>by kernel_rfl) fun X w hE=> ?_
  simp only [eK,Nat.zero_add,Nat.reduceAdd]
  repeat' first|kernel_rfl|apply cx|apply cy|apply cE|apply cu|apply cB|apply co|apply cA|apply cp|apply cw|refine fK rfl inferInstance ce qK ?_|refine jz rfl inferInstance rfl qK ?_|refine jh rfl inferInstance qK ?_|apply ae|apply bB|apply eB|apply eu|apply ct|refine aQ rfl ?_|apply cq|apply ew|apply ep|apply jl|apply jj|refine jt rfl ?_|apply jn|apply jw|apply eC|exact ce|intro _
 rw [h0] at k0
 simp only [Bool.true_and]
 have k1:=dB (l:=a.2.1) hl.2
 cases h1:bg a.2.1
 ·rw [h1] at k1
  simp only [Bool.false_and]
  refine Jr Tryz.func29 rfl Tryz.ntmps29 qE (fun _ _=>by kernel_rfl) fun X w hE=> ?_
  simp only [eK,Nat.zero_add,Nat.reduceAdd]
  repeat' first|kernel_rfl|apply cx|apply cy|apply cE|apply cu|apply cB|apply co|apply cA|apply cp|apply cw|refine fK rfl inferInstance ce qK ?_|refine jz rfl inferInstance rfl qK ?_|refine jh rfl inferInstance qK ?_|apply ae|apply bB|apply eB|apply eu|apply ct|refine aQ rfl ?_|apply cq|apply ew|apply ep|apply jl|apply jj|refine jt rfl ?_|apply jn|apply jw|apply eC|exact ce|intro _
 rw [h1] at k1
 simp only [Bool.true_and]
 have k2:=f7 (x:=a.2.2) hf
 refine Jr Tryz.func29 rfl Tryz.ntmps29 qE (fun _ _=>by kernel_rfl) fun X w hE=> ?_
 simp only [eK,Nat.zero_add,Nat.reduceAdd]
 repeat' first|kernel_rfl|apply cx|apply cy|apply cE|apply cu|apply cB|apply co|apply cA|apply cp|apply cw|refine fK rfl inferInstance ce qK ?_|refine jz rfl inferInstance rfl qK ?_|refine jh rfl inferInstance qK ?_|apply ae|apply bB|apply eB|apply eu|apply ct|refine aQ rfl ?_|apply cq|apply ew|apply ep|apply jl|apply jj|refine jt rfl ?_|apply jn|apply jw|apply eC|exact ce|intro _
theorem Cc{d:aX} {a:fb} (hx:(d.2.2.2.1)[i]? =some a) (hf:b6 6 a.2.2.2.2.2.2) (hl:a.2.1.length≤1000000∧a.2.2.2.1.length≤1000000∧a.2.2.2.2.1.length≤1000000∧a.2.2.2.2.2.1.length≤1000000):bW Tryz.prog cK 29 [0,0,0] [.ra aw d, .is (.int .i64 9), .is (.int .i64 (i:Int))] (fun _=> .is (.bool (iu a))):=by
 have q7:((9:Int)==7)=false:=rfl
 have q8:((9:Int)==8)=false:=rfl
 have q9:((9:Int)==9)=true:=rfl
 have q10:((9:Int)==10)=false:=rfl
 unfold iu gp
 simp only [Bool.and_assoc]
 have k0:=dB (l:=a.2.1) hl.1
 cases h0:bg a.2.1
 ·rw [h0] at k0
  simp only [Bool.false_and]
  refine Jr Tryz.func29 rfl Tryz.ntmps29 qE (fun _ _=>by kernel_rfl) fun X w hE=> ?_
  simp only [eK,Nat.zero_add,Nat.reduceAdd]
  repeat' first|kernel_rfl|apply cx|apply cy|apply cE|apply cu|apply cB|apply co|apply cA|apply cp|apply cw|refine fK rfl inferInstance ce qK ?_|refine jz rfl inferInstance rfl qK ?_|refine jh rfl inferInstance qK ?_|apply ae|apply bB|apply eB|apply eu|apply ct|refine aQ rfl ?_|apply cq|apply ew|apply ep|apply jl|apply jj|refine jt rfl ?_|apply jn|apply jw|apply eC|exact ce|intro _
 rw [h0] at k0
 simp only [Bool.true_and]
 cases h1:decide ((1:Int)≤a.2.2.1)
 ·simp only [Bool.false_and]
  refine Jr Tryz.func29 rfl Tryz.ntmps29 qE (fun _ _=>by kernel_rfl) fun X w hE=> ?_
  simp only [eK,Nat.zero_add,Nat.reduceAdd]
  repeat' first|kernel_rfl|apply cx|apply cy|apply cE|apply cu|apply cB|apply co|apply cA|apply cp|apply cw|refine fK rfl inferInstance ce qK ?_|refine jz rfl inferInstance rfl qK ?_|refine jh rfl inferInstance qK ?_|apply ae|apply bB|apply eB|apply eu|apply ct|refine aQ rfl ?_|apply cq|apply ew|apply ep|apply jl|apply jj|refine jt rfl ?_|apply jn|apply jw|apply eC|exact ce|intro _
 simp only [Bool.true_and]
 cases h2:decide (a.2.2.1≤(4:Int))
 ·simp only [Bool.false_and]
  refine Jr Tryz.func29 rfl Tryz.ntmps29 qE (fun _ _=>by kernel_rfl) fun X w hE=> ?_
  simp only [eK,Nat.zero_add,Nat.reduceAdd]
  repeat' first|kernel_rfl|apply cx|apply cy|apply cE|apply cu|apply cB|apply co|apply cA|apply cp|apply cw|refine fK rfl inferInstance ce qK ?_|refine jz rfl inferInstance rfl qK ?_|refine jh rfl inferInstance qK ?_|apply ae|apply bB|apply eB|apply eu|apply ct|refine aQ rfl ?_|apply cq|apply ew|apply ep|apply jl|apply jj|refine jt rfl ?_|apply jn|apply jw|apply eC|exact ce|intro _
 simp only [Bool.true_and]
 have k3:=dB (l:=a.2.2.2.1) hl.2.1
 cases h3:bg a.2.2.2.1
 ·rw [h3] at k3
  simp only [Bool.false_and]
  refine Jr Tryz.func29 rfl Tryz.ntmps29 qE (fun _ _=>by kernel_rfl) fun X w hE=> ?_
  simp only [eK,Nat.zero_add,Nat.reduceAdd]
  repeat' first|kernel_rfl|apply cx|apply cy|apply cE|apply cu|apply cB|apply co|apply cA|apply cp|apply cw|refine fK rfl inferInstance ce qK ?_|refine jz rfl inferInstance rfl qK ?_|refine jh rfl inferInstance qK ?_|apply ae|apply bB|apply eB|apply eu|apply ct|refine aQ rfl ?_|apply cq|apply ew|apply ep|apply jl|apply jj|refine jt rfl ?_|apply jn|apply jw|apply eC|exact ce|intro _
 rw [h3] at k3
 simp only [Bool.true_and]
 have k4:=dB (l:=a.2.2.2.2.1) hl.2.2.1
 cases h4:bg a.2.2.2.2.1
 ·rw [h4] at k4
  simp only [Bool.false_and]
  refine Jr Tryz.func29 rfl Tryz.ntmps29 qE (fun _ _=>by kernel_rfl) fun X w hE=> ?_
  simp only [eK,Nat.zero_add,Nat.reduceAdd]
  repeat' first|kernel_rfl|apply cx|apply cy|apply cE|apply cu|apply cB|apply co|apply cA|apply cp|apply cw|refine fK rfl inferInstance ce qK ?_|refine jz rfl inferInstance rfl qK ?_|refine jh rfl inferInstance qK ?_|apply ae|apply bB|apply eB|apply eu|apply ct|refine aQ rfl ?_|apply cq|apply ew|apply ep|apply jl|apply jj|refine jt rfl ?_|apply jn|apply jw|apply eC|exact ce|intro _
 rw [h4] at k4
 simp only [Bool.true_and]
 have k5:=dB (l:=a.2.2.2.2.2.1) hl.2.2.2
 cases h5:bg a.2.2.2.2.2.1
 ·rw [h5] at k5
  simp only [Bool.false_and]
  refine Jr Tryz.func29 rfl Tryz.ntmps29 qE (fun _ _=>by kernel_rfl) fun X w hE=> ?_
  simp only [eK,Nat.zero_add,Nat.reduceAdd]
  repeat' first|kernel_rfl|apply cx|apply cy|apply cE|apply cu|apply cB|apply co|apply cA|apply cp|apply cw|refine fK rfl inferInstance (by first|exact sc trivial k5|exact ce) qK ?_|refine jz rfl inferInstance rfl qK ?_|refine jh rfl inferInstance qK ?_|apply ae|apply bB|apply eB|apply eu|apply ct|refine aQ rfl ?_|apply cq|apply ew|apply ep|apply jl|apply jj|refine jt rfl ?_|apply jn|apply jw|apply eC|exact sc trivial k5|exact ce|intro _
 rw [h5] at k5
 simp only [Bool.true_and]
 have k6:=f7 (x:=a.2.2.2.2.2.2) hf
 refine Jr Tryz.func29 rfl Tryz.ntmps29 qE (fun _ _=>by kernel_rfl) fun X w hE=> ?_
 simp only [eK,Nat.zero_add,Nat.reduceAdd]
 repeat' first|kernel_rfl|apply cx|apply cy|apply cE|apply cu|apply cB|apply co|apply cA|apply cp|apply cw|refine fK rfl inferInstance (by first|exact sc trivial k5|exact sc hE k6|exact ce) qK ?_|refine jz rfl inferInstance rfl qK ?_|refine jh rfl inferInstance qK ?_|apply ae|apply bB|apply eB|apply eu|apply ct|refine aQ rfl ?_|apply cq|apply ew|apply ep|apply jl|apply jj|refine jt rfl ?_|apply jn|apply jw|apply eC|exact sc trivial k5|exact sc hE k6|exact ce|intro _
theorem yT{d:aX} {a:eS} (hx:(d.2.2.2.2.1)[i]? =some a) (hf:b6 6 a.2.1∧b6 6 a.2.2) (hl:a.1.length≤1000000):bW Tryz.prog cK 29 [0,0,0] [.ra aw d, .is (.int .i64 10), .is (.int .i64 (i:Int))] (fun _=> .is (.bool (fH a))):=by
 have q7:((10:Int)==7)=false:=rfl
 have q8:((10:Int)==8)=false:=rfl
 have q9:((10:Int)==9)=false:=rfl
 have q10:((10:Int)==10)=true:=rfl
 unfold fH
 simp only [Bool.and_assoc]
 have k0:=dB (l:=a.1) hl
 cases h0:bg a.1
 ·rw [h0] at k0
  simp only [Bool.false_and]
  refine Jr Tryz.func29 rfl Tryz.ntmps29 qE (fun _ _=>by kernel_rfl) fun X w hE=> ?_
  simp only [eK,Nat.zero_add,Nat.reduceAdd]
  repeat' first|kernel_rfl|apply cx|apply cy|apply cE|apply cu|apply cB|apply co|apply cA|apply cp|apply cw|refine fK rfl inferInstance ce qK ?_|refine jz rfl inferInstance rfl qK ?_|refine jh rfl inferInstance qK ?_|apply ae|apply bB|apply eB|apply eu|apply ct|refine aQ rfl ?_|apply cq|apply ew|apply ep|apply jl|apply jj|refine jt rfl ?_|apply jn|apply jw|apply eC|exact ce|intro _
 rw [h0] at k0
 simp only [Bool.true_and]
 have k1:=f7 (x:=a.2.1) hf.1
 cases h1:j0 a.2.1
 ·rw [h1] at k1
  simp only [Bool.false_and]
  refine Jr Tryz.func29 rfl Tryz.ntmps29 qE (fun _ _=>by kernel_rfl) fun X w hE=> ?_
  simp only [eK,Nat.zero_add,Nat.reduceAdd]
  repeat' first|kernel_rfl|apply cx|apply cy|apply cE|apply cu|apply cB|apply co|apply cA|apply cp|apply cw|refine fK rfl inferInstance ce qK ?_|refine jz rfl inferInstance rfl qK ?_|refine jh rfl inferInstance qK ?_|apply ae|apply bB|apply eB|apply eu|apply ct|refine aQ rfl ?_|apply cq|apply ew|apply ep|apply jl|apply jj|refine jt rfl ?_|apply jn|apply jw|apply eC|exact ce|intro _
 rw [h1] at k1
 simp only [Bool.true_and]
 have k2:=eL (x:=a.2.2) hf.2
 refine Jr Tryz.func29 rfl Tryz.ntmps29 qE (fun _ _=>by kernel_rfl) fun X w hE=> ?_
 simp only [eK,Nat.zero_add,Nat.reduceAdd]
 repeat' first|kernel_rfl|apply cx|apply cy|apply cE|apply cu|apply cB|apply co|apply cA|apply cp|apply cw|refine fK rfl inferInstance ce qK ?_|refine jz rfl inferInstance rfl qK ?_|refine jh rfl inferInstance qK ?_|apply ae|apply bB|apply eB|apply eu|apply ct|refine aQ rfl ?_|apply cq|apply ew|apply ep|apply jl|apply jj|refine jt rfl ?_|apply jn|apply jw|apply eC|exact ce|intro _
theorem zB{d:aX} {a:gK} (hx:(d.2.2.2.2.2)[i]? =some a) (hf:b6 6 a.2) (hl:a.1.length≤1000000):bW Tryz.prog cK 29 [0,0,0] [.ra aw d, .is (.int .i64 11), .is (.int .i64 (i:Int))] (fun _=> .is (.bool (ir a))):=by
 have q7:((11:Int)==7)=false:=rfl
 have q8:((11:Int)==8)=false:=rfl
 have q9:((11:Int)==9)=false:=rfl
 have q10:((11:Int)==10)=false:=rfl
 unfold ir
 have k0:=dB (l:=a.1) hl
 cases h0:bg a.1
 ·rw [h0] at k0
  simp only [Bool.false_and]
  refine Jr Tryz.func29 rfl Tryz.ntmps29 qE (fun _ _=>by kernel_rfl) fun X w hE=> ?_
  simp only [eK,Nat.zero_add,Nat.reduceAdd]
  repeat' first|kernel_rfl|apply cx|apply cy|apply cE|apply cu|apply cB|apply co|apply cA|apply cp|apply cw|refine fK rfl inferInstance ce qK ?_|refine jz rfl inferInstance rfl qK ?_|refine jh rfl inferInstance qK ?_|apply ae|apply bB|apply eB|apply eu|apply ct|refine aQ rfl ?_|apply cq|apply ew|apply ep|apply jl|apply jj|refine jt rfl ?_|apply jn|apply jw|apply eC|exact ce|intro _
 rw [h0] at k0
 simp only [Bool.true_and]
 have k1:=eL (x:=a.2) hf
 refine Jr Tryz.func29 rfl Tryz.ntmps29 qE (fun _ _=>by kernel_rfl) fun X w hE=> ?_
 simp only [eK,Nat.zero_add,Nat.reduceAdd]
 repeat' first|kernel_rfl|apply cx|apply cy|apply cE|apply cu|apply cB|apply co|apply cA|apply cp|apply cw|refine fK rfl inferInstance ce qK ?_|refine jz rfl inferInstance rfl qK ?_|refine jh rfl inferInstance qK ?_|apply ae|apply bB|apply eB|apply eu|apply ct|refine aQ rfl ?_|apply cq|apply ew|apply ep|apply jl|apply jj|refine jt rfl ?_|apply jn|apply jw|apply eC|exact ce|intro _
theorem Fq{d:aX} {b:Bool} (hf:p9 d) (hl:I0 d) (hp:7≤p∧p≤11) (hx:(fE d p)[i]? =some b):bW Tryz.prog cK 29 [0,0,0] [.ra aw d, .is (.int .i64 (p:Int)), .is (.int .i64 (i:Int))] (fun _=> .is (.bool b)):=by
 obtain ⟨f1,f2,f3,f4,f5⟩:=hf
 obtain ⟨l1,l2,l3,l4,l5⟩:=hl
 obtain rfl|rfl|rfl|rfl|rfl:p=7∨p=8∨p=9∨p=10∨p=11:=qO
 ·obtain ⟨x,h,rfl,hm⟩:=iJ hx
  exact AV h (f1 x hm) (l1 x hm)
 ·obtain ⟨x,h,rfl,hm⟩:=iJ hx
  exact BI h (f2 x hm) (l2 x hm)
 ·obtain ⟨x,h,rfl,hm⟩:=iJ hx
  exact Cc h (f3 x hm) (l3 x hm)
 ·obtain ⟨x,h,rfl,hm⟩:=iJ hx
  exact yT h (f4 x hm) (l4 x hm)
 ·obtain ⟨x,h,rfl,hm⟩:=iJ hx
  exact zB h (f5 x hm) (l5 x hm)
end Go.Proofs.YtpmhjieibebclaaGreatDoor
