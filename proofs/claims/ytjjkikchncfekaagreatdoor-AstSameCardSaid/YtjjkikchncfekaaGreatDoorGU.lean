/- Package ast: Same. -/
import Derived.Test.YtjjkikchncfekaaGreatDoorGT
set_option maxHeartbeats 4000000
set_option maxRecDepth 20000
set_option synthInstance.maxHeartbeats 400000
set_option synthInstance.maxSize 4000
set_option linter.unusedSimpArgs false
set_option linter.unusedVariables false
namespace Go.Proofs.YtjjkikchncfekaaGreatDoor
open Go Go.RowKit
variable {g:FuncId}
instance GK:DecidableEq aP:=inferInstance
instance Fk:DecidableEq cM:=inferInstance
instance FP:DecidableEq ct:=inferInstance
instance Gw:DecidableEq ft:=inferInstance
instance Gy:DecidableEq fg:=inferInstance
instance GG:DecidableEq eo:=inferInstance
instance F_:DecidableEq dI:=inferInstance
instance GD:DecidableEq eX:=inferInstance
instance Hl:DecidableEq (List dI×List eX):=inferInstance
instance Hv:DecidableEq (List eo×List dI×List eX):=inferInstance
instance Hk:DecidableEq (List fg×List eo×List dI×List eX):=inferInstance
instance Hm:DecidableEq (List ft×List fg×List eo×List dI×List eX):=inferInstance
instance GH:DecidableEq bw:=inferInstance
instance Hw:DecidableEq (List (List UInt8)×List bw):=inferInstance
instance Ho:DecidableEq (List ct×List (List UInt8)×List bw):=inferInstance
instance Hj:DecidableEq (Int×List ct×List (List UInt8)×List bw):=inferInstance
instance Hn:DecidableEq (aP×Int×List ct×List (List UInt8)×List bw):=inferInstance
instance Hf:DecidableEq (aP×aP×Int×List ct×List (List UInt8)×List bw):=inferInstance
instance Hu:DecidableEq (Int×aP×aP×Int×List ct×List (List UInt8)×List bw):=inferInstance
instance Hr:DecidableEq (Int×Int×aP×aP×Int×List ct×List (List UInt8)×List bw):=inferInstance
instance Hh:DecidableEq (aP×Int×Int×aP×aP×Int×List ct×List (List UInt8)×List bw):=inferInstance
instance Hi:DecidableEq (aP×aP×Int×Int×aP×aP×Int×List ct×List (List UInt8)×List bw):=inferInstance
instance G8:DecidableEq (List cM×aP×aP×Int×Int×aP×aP×Int×List ct×List (List UInt8)×List bw):=inferInstance
instance GV:DecidableEq (List UInt8×List cM×aP×aP×Int×Int×aP×aP×Int×List ct×List (List UInt8)×List bw):=inferInstance
instance G_:DecidableEq (List UInt8×List UInt8×List cM×aP×aP×Int×Int×aP×aP×Int×List ct×List (List UInt8)×List bw):=inferInstance
theorem bm {α:Type} [BEq α] [LawfulBEq α] [DecidableEq α] (x y:α):(x==y)=decide (x=y):=by
 rw [Bool.eq_iff_iff];simp
theorem ah {α β:Type} [DecidableEq α] [DecidableEq β] {a b:α×β} [Decidable (a=b)]:decide (a=b)=(decide (a.1=b.1)&&decide (a.2=b.2)):=by
 rw [Bool.eq_iff_iff];simp [Prod.ext_iff]
theorem cy {α:Type} [DecidableEq α] {x y:α} {l m:List α} (h:decide (x=y)=false):decide (x::l=y::m)=false:=by
 have:=of_decide_eq_false h
 exact decide_eq_false fun e=>this (List.cons.inj e).1
theorem eN {α:Type} [DecidableEq α] {x y:α} {l m:List α} (h:decide (x=y)=true):decide (x::l=y::m)=decide (l=m):=by
 have:=of_decide_eq_true h
 subst this
 rw [Bool.eq_iff_iff];simp
theorem dR {α:Type} [DecidableEq α] {l m:List α} (h:((l.length:Int) != (m.length:Int))=true):decide (l=m)=false:=by
 refine decide_eq_false fun e=> ?_
 subst e
 simp at h
theorem zf {X:List Nat} {w:World} {v:Value} {xs:List Int} (h:(aa.rc Rp.limbs xs).holds X w v):(aa.rw (Rp.int .u32) tt xs).holds X w v:=by
 obtain ⟨A,n,c,e,⟨⟨g1,g2,g3,g4,g5⟩,hf⟩,_⟩:=h
 obtain rfl:v= .slice A n c:=by simpa using e
 refine ⟨fun _ _=>trivial,A,n,c,rfl,g1,g2,g3,g4,fun hn=> ?_⟩
 obtain ⟨b,off,rfl,hb,hc⟩:=g5 hn
 refine ⟨b,off,rfl,hf hn b rfl,fun j a ha=>⟨[.int .u32 a],fun i u hu=> ?_,rfl⟩⟩
 cases i with
 |zero=>
  have e:Value.int .u32 a=u:=by simpa using hu
  subst e
  have:=hc j a ha
  simpa [show (Rp.int .u32).k=1 from rfl] using this
 |succ i=>simp at hu
instance:KC (Rp.int .u32) 1:=⟨rfl⟩
instance:fw Tryz.prog 117 1 false:=⟨⟨_,Tryz.underlying117,rfl⟩,by kernel_rfl⟩
theorem a_ {p:Prop} (h:p:=by first|exact dJ (by assumption)|exact cP|exact kd|exact iO|exact k7 (by assumption)|exact qr (by first|assumption|rfl)|exact mq (by first|assumption|rfl)|exact AK (by assumption)|exact rz (by assumption)|exact ka (by assumption)|exact cb|exact eJ|exact ca|exact aW|exact f6|exact fX|exact ka (by first|assumption|rfl)|exact cZ (b:=true) (u:=false) rfl|exact cZ (b:=false) (u:=true) rfl|exact cZ rfl|exact iQ (by first|assumption|rfl)|exact ee (by assumption)|exact eC|exact eI.nil|exact aM.nil|exact aL.nil|exact Hs hE kx|exact sc trivial k0|exact sc trivial k1|exact sc trivial k2|exact sc trivial k3|exact sc trivial k4|exact sc trivial k5|exact Cv.rfl'):p:=h
theorem Dj {l m:List (Int)}:cw Tryz.prog S1 165 [0,0] [.rw (Rp.int .u32) tt l, .rw (Rp.int .u32) tt m] (fun _=> .is (.bool (decide (l=m)))):=by
 refine h_ dj (fun _ _=>by kernel_rfl) fun hb=> ?_
 cases hlen:((l.length:Int) != (m.length:Int))
 rotate_left
 ·rw [dR hlen]
  refine cr Tryz.func165 Tryz.ntmps165 fun X w hE=> ?_
  simp only [ar,Nat.zero_add,Nat.reduceAdd]
  repeat' first|kernel_rfl|apply Bt.mk|refine nx ?_|apply ab (id:=6) [] [] 8|apply au|apply aR|apply ae|refine aO rfl ?_|exact a_|intro _
 have hlm:l.length=m.length:=by
  have:(l.length:Int)=(m.length:Int):=by simpa using hlen
  omega
 refine cr Tryz.func165 Tryz.ntmps165 fun X w0 hE=> ?_
 simp only [ar,Nat.zero_add,Nat.reduceAdd]
 repeat' first|kernel_rfl|apply Bt.mk|refine nx ?_|apply ab (id:=6) [] [] 8|apply au|apply aR|apply ae|refine aO rfl ?_|exact a_|intro _
 refine bn fun a w h=> ?_
 refine aY (fun k a u=>∃ i:Nat,i+k=l.length∧decide (l.drop i=m.drop i)=decide (l=m)∧TS w0 X [] [(13, .is (.int .i64 (i:Int))),(12, .is (.int .i64 (l.length:Int))),(11, .rw (Rp.int .u32) tt l),(0, .rw (Rp.int .u32) tt l),(1, .rw (Rp.int .u32) tt m)] 26 a u) l.length ⟨0,by omega,rfl,h.keep [13,12,11,0,1]⟩ ?_
 clear h
 rintro k a u ⟨i,hi,ha,h⟩
 by_cases hlt:i<l.length
 ·obtain ⟨x,hx⟩:∃ x,l[i]? =some x:=⟨_,List.getElem?_eq_getElem hlt⟩
  obtain ⟨y,hy⟩:∃ y,m[i]? =some y:=⟨_,List.getElem?_eq_getElem qO⟩
  have hc:decide ((i:Int)<(l.length:Int))=true:=decide_eq_true qO
  have hw:IntKind.i64.wrap ((i:Int)+1)=((i+1:Nat):Int):=az qO qO
  rw [bg hx,bg hy] at ha
  cases hp:decide (x=y)
  ·rw [cy hp] at ha
   rw [←ha]
   have hn:(x != y)= !(decide (x=y)):=congrArg not (bm x y)
   rw [hp] at hn
   simp only [Bool.not_false,Bool.not_true] at hn
   refine aD h ?_
   clear h
   repeat' first|kernel_rfl|apply Bt.mk|refine nx ?_|apply cq (s:=13)|apply ab (id:=6) [] [] 8|apply au|apply aR|apply ae|refine aO rfl ?_|exact a_|intro _
  ·rw [eN hp] at ha
   have hn:(x != y)= !(decide (x=y)):=congrArg not (bm x y)
   rw [hp] at hn
   simp only [Bool.not_false,Bool.not_true] at hn
   refine aD h ?_
   clear h
   repeat' first|kernel_rfl|exact bq fun _ _ h=>⟨k - 1,by omega,i+1,by omega,ha,h.keep [13,12,11,0,1]⟩|apply Bt.mk|refine nx ?_|apply cq (s:=13)|apply ab (id:=6) [] [] 8|apply au|apply aR|apply ae|refine aO rfl ?_|exact a_|intro _
 ·obtain rfl:i=l.length:=qO
  have hc:decide ((l.length:Int)<(l.length:Int))=false:=decide_eq_false qO
  rw [List.drop_length,List.drop_eq_nil_of_le qO] at ha
  have ha:true=decide (l=m):=ha
  rw [←ha]
  refine aD h ?_
  clear h
  repeat' first|kernel_rfl|apply Bt.mk|refine nx ?_|apply cq (s:=13)|apply ab (id:=6) [] [] 8|apply au|apply aR|apply ae|refine aO rfl ?_|exact a_|intro _
theorem Dz {xs ys:List Int}:cw Tryz.prog S1 165 [0,0] [.rc Rp.limbs xs, .rc Rp.limbs ys] (fun _=> .is (.bool (decide (xs=ys)))):=Dj.args fun h=>by
 obtain ⟨v,us,rfl,h1,h2⟩:=h.tail
 obtain ⟨u,us,rfl,h3,h4⟩:=h2.tail
 exact ⟨zf h1,zf h3,h4⟩
theorem BK {l m:List (List UInt8)}:cw Tryz.prog S1 38 [0,0] [.rw Rp.str tt l, .rw Rp.str tt m] (fun _=> .is (.bool (decide (l=m)))):=by
 refine h_ dj (fun _ _=>by kernel_rfl) fun hb=> ?_
 cases hlen:((l.length:Int) != (m.length:Int))
 rotate_left
 ·rw [dR hlen]
  refine cr Tryz.func38 Tryz.ntmps38 fun X w hE=> ?_
  simp only [ar,Nat.zero_add,Nat.reduceAdd]
  repeat' first|kernel_rfl|apply Bt.mk|refine nx ?_|apply ab (id:=6) [] [] 8|apply au|apply aR|apply ae|refine aO rfl ?_|exact a_|intro _
 have hlm:l.length=m.length:=by
  have:(l.length:Int)=(m.length:Int):=by simpa using hlen
  omega
 refine cr Tryz.func38 Tryz.ntmps38 fun X w0 hE=> ?_
 simp only [ar,Nat.zero_add,Nat.reduceAdd]
 repeat' first|kernel_rfl|apply Bt.mk|refine nx ?_|apply ab (id:=6) [] [] 8|apply au|apply aR|apply ae|refine aO rfl ?_|exact a_|intro _
 refine bn fun a w h=> ?_
 refine aY (fun k a u=>∃ i:Nat,i+k=l.length∧decide (l.drop i=m.drop i)=decide (l=m)∧TS w0 X [] [(13, .is (.int .i64 (i:Int))),(12, .is (.int .i64 (l.length:Int))),(11, .rw Rp.str tt l),(0, .rw Rp.str tt l),(1, .rw Rp.str tt m)] 26 a u) l.length ⟨0,by omega,rfl,h.keep [13,12,11,0,1]⟩ ?_
 clear h
 rintro k a u ⟨i,hi,ha,h⟩
 by_cases hlt:i<l.length
 ·obtain ⟨x,hx⟩:∃ x,l[i]? =some x:=⟨_,List.getElem?_eq_getElem hlt⟩
  obtain ⟨y,hy⟩:∃ y,m[i]? =some y:=⟨_,List.getElem?_eq_getElem qO⟩
  have hc:decide ((i:Int)<(l.length:Int))=true:=decide_eq_true qO
  have hw:IntKind.i64.wrap ((i:Int)+1)=((i+1:Nat):Int):=az qO qO
  rw [bg hx,bg hy] at ha
  cases hp:decide (x=y)
  ·rw [cy hp] at ha
   rw [←ha]
   have hn:(!(x==y))= !(decide (x=y)):=congrArg not (bm x y)
   rw [hp] at hn
   simp only [Bool.not_false,Bool.not_true] at hn
   refine aD h ?_
   clear h
   repeat' first|kernel_rfl|apply Bt.mk|refine nx ?_|apply cq (s:=13)|apply ab (id:=6) [] [] 8|apply au|apply aR|apply ae|refine aO rfl ?_|exact a_|intro _
  ·rw [eN hp] at ha
   have hn:(!(x==y))= !(decide (x=y)):=congrArg not (bm x y)
   rw [hp] at hn
   simp only [Bool.not_false,Bool.not_true] at hn
   refine aD h ?_
   clear h
   repeat' first|kernel_rfl|exact bq fun _ _ h=>⟨k - 1,by omega,i+1,by omega,ha,h.keep [13,12,11,0,1]⟩|apply Bt.mk|refine nx ?_|apply cq (s:=13)|apply ab (id:=6) [] [] 8|apply au|apply aR|apply ae|refine aO rfl ?_|exact a_|intro _
 ·obtain rfl:i=l.length:=qO
  have hc:decide ((l.length:Int)<(l.length:Int))=false:=decide_eq_false qO
  rw [List.drop_length,List.drop_eq_nil_of_le qO] at ha
  have ha:true=decide (l=m):=ha
  rw [←ha]
  refine aD h ?_
  clear h
  repeat' first|kernel_rfl|apply Bt.mk|refine nx ?_|apply cq (s:=13)|apply ab (id:=6) [] [] 8|apply au|apply aR|apply ae|refine aO rfl ?_|exact a_|intro _
theorem fD {a b:aP}:cw Tryz.prog S1 89 [0,0] [.ra Rp.frac a, .ra Rp.frac b] (fun _=> .is (.bool (decide (a=b)))):=by
 rw [ah,ah (a:=a.1),ah (a:=a.2)]
 try simp only [Bool.and_assoc]
 cases h0:decide (a.1.1=b.1.1)
 ·have e0:=(bm (a.1.1) (b.1.1)).trans h0
  simp only [Bool.false_and]
  refine cr Tryz.func89 Tryz.ntmps89 fun X w hE=> ?_
  simp only [ar,Nat.zero_add,Nat.reduceAdd]
  repeat' first|kernel_rfl|apply Bt.mk|refine nx ?_|refine bi rfl a_ ?_|refine bh rfl ?_|refine bj rfl ?_|apply ae|refine aO rfl ?_|exact a_|intro _
 have e0:=(bm (a.1.1) (b.1.1)).trans h0
 simp only [Bool.true_and]
 have k1:=Dz (xs:=a.1.2) (ys:=b.1.2)
 cases h1:decide (a.1.2=b.1.2)
 ·rw [h1] at k1
  simp only [Bool.false_and]
  refine cr Tryz.func89 Tryz.ntmps89 fun X w hE=> ?_
  simp only [ar,Nat.zero_add,Nat.reduceAdd]
  repeat' first|kernel_rfl|apply Bt.mk|refine nx ?_|refine bi rfl a_ ?_|refine bh rfl ?_|refine bj rfl ?_|apply ae|refine aO rfl ?_|exact a_|intro _
 rw [h1] at k1
 simp only [Bool.true_and]
 cases h2:decide (a.2.1=b.2.1)
 ·have e2:=(bm (a.2.1) (b.2.1)).trans h2
  simp only [Bool.false_and]
  refine cr Tryz.func89 Tryz.ntmps89 fun X w hE=> ?_
  simp only [ar,Nat.zero_add,Nat.reduceAdd]
  repeat' first|kernel_rfl|apply Bt.mk|refine nx ?_|refine bi rfl a_ ?_|refine bh rfl ?_|refine bj rfl ?_|apply ae|refine aO rfl ?_|exact a_|intro _
 have e2:=(bm (a.2.1) (b.2.1)).trans h2
 simp only [Bool.true_and]
 have k3:=Dz (xs:=a.2.2) (ys:=b.2.2)
 refine cr Tryz.func89 Tryz.ntmps89 fun X w hE=> ?_
 simp only [ar,Nat.zero_add,Nat.reduceAdd]
 repeat' first|kernel_rfl|apply Bt.mk|refine nx ?_|refine bi rfl a_ ?_|refine bh rfl ?_|refine bj rfl ?_|apply ae|refine aO rfl ?_|exact a_|intro _
theorem ub{l m:List (cM)} (hr:∀ x∈l,∀ y∈m,cw Tryz.prog S1 g [0,0] [.ra a8 x, .ra a8 y] (fun _=> .is (.bool (decide (x=y))))):cw Tryz.prog S1 33 [0,0,0] [.rw a8 tt l, .rw a8 tt m, .fv g [] []] (fun _=> .is (.bool (decide (l=m)))):=by
 refine h_ dj (fun _ _=>by kernel_rfl) fun hb=> ?_
 cases hlen:((l.length:Int) != (m.length:Int))
 rotate_left
 ·rw [dR hlen]
  refine cr Tryz.func33 Tryz.ntmps33 fun X w hE=> ?_
  simp only [ar,Nat.zero_add,Nat.reduceAdd]
  repeat' first|kernel_rfl|apply Bt.mk|refine nx ?_|apply ae|refine aO rfl ?_|exact a_|intro _
 have hlm:l.length=m.length:=by
  have:(l.length:Int)=(m.length:Int):=by simpa using hlen
  omega
 refine cr Tryz.func33 Tryz.ntmps33 fun X w0 hE=> ?_
 simp only [ar,Nat.zero_add,Nat.reduceAdd]
 repeat' first|kernel_rfl|apply Bt.mk|refine nx ?_|apply ae|refine aO rfl ?_|exact a_|intro _
 refine bn fun a w h=> ?_
 refine aY (fun k a u=>∃ i:Nat,i+k=l.length∧decide (l.drop i=m.drop i)=decide (l=m)∧TS w0 X [] [(17, .is (.int .i64 (i:Int))),(16, .is (.int .i64 (l.length:Int))),(15, .rw a8 tt l),(0, .rw a8 tt l),(1, .rw a8 tt m),(2, .fv g [] [])] 32 a u) l.length ⟨0,by omega,rfl,h.keep [17,16,15,0,1,2]⟩ ?_
 clear h
 rintro k a u ⟨i,hi,ha,h⟩
 by_cases hlt:i<l.length
 ·obtain ⟨x,hx⟩:∃ x,l[i]? =some x:=⟨_,List.getElem?_eq_getElem hlt⟩
  obtain ⟨y,hy⟩:∃ y,m[i]? =some y:=⟨_,List.getElem?_eq_getElem qO⟩
  have hc:decide ((i:Int)<(l.length:Int))=true:=decide_eq_true qO
  have hw:IntKind.i64.wrap ((i:Int)+1)=((i+1:Nat):Int):=az qO qO
  rw [bg hx,bg hy] at ha
  have kx:=hr x (List.mem_of_getElem? hx) y (List.mem_of_getElem? hy)
  cases hp:decide (x=y)
  ·rw [cy hp] at ha
   rw [←ha]
   rw [hp] at kx
   refine aD h ?_
   clear h
   repeat' first|kernel_rfl|apply Bt.mk|refine nx ?_|apply cq (s:=17)|apply ae|refine aO rfl ?_|exact a_|intro _
  ·rw [eN hp] at ha
   rw [hp] at kx
   refine aD h ?_
   clear h
   repeat' first|kernel_rfl|exact bq fun _ _ h=>⟨k - 1,by omega,i+1,by omega,ha,h.drop.drop.keep [17,16,15,0,1,2]⟩|apply Bt.mk|refine nx ?_|apply cq (s:=17)|apply ae|refine aO rfl ?_|exact a_|intro _
 ·obtain rfl:i=l.length:=qO
  have hc:decide ((l.length:Int)<(l.length:Int))=false:=decide_eq_false qO
  rw [List.drop_length,List.drop_eq_nil_of_le qO] at ha
  have ha:true=decide (l=m):=ha
  rw [←ha]
  refine aD h ?_
  clear h
  repeat' first|kernel_rfl|apply Bt.mk|refine nx ?_|apply cq (s:=17)|apply ae|refine aO rfl ?_|exact a_|intro _
theorem pB {a b:cM}:cw Tryz.prog S1 34 [0,0] [.ra a8 a, .ra a8 b] (fun _=> .is (.bool (decide (a=b)))):=by
 rw [ah]
 try simp only [Bool.and_assoc]
 have k0:=fD (a:=a.1) (b:=b.1)
 cases h0:decide (a.1=b.1)
 ·rw [h0] at k0
  simp only [Bool.false_and]
  refine cr Tryz.func34 Tryz.ntmps34 fun X w hE=> ?_
  simp only [ar,Nat.zero_add,Nat.reduceAdd]
  repeat' first|kernel_rfl|apply Bt.mk|refine nx ?_|refine bi rfl a_ ?_|refine bh rfl ?_|refine bj rfl ?_|apply ae|refine aO rfl ?_|exact a_|intro _
 rw [h0] at k0
 simp only [Bool.true_and]
 have k1:=fD (a:=a.2) (b:=b.2)
 refine cr Tryz.func34 Tryz.ntmps34 fun X w hE=> ?_
 simp only [ar,Nat.zero_add,Nat.reduceAdd]
 repeat' first|kernel_rfl|apply Bt.mk|refine nx ?_|refine bi rfl a_ ?_|refine bh rfl ?_|refine bj rfl ?_|apply ae|refine aO rfl ?_|exact a_|intro _
theorem ya{l m:List (ct)} (hr:∀ x∈l,∀ y∈m,cw Tryz.prog S1 g [0,0] [.ra bt x, .ra bt y] (fun _=> .is (.bool (decide (x=y))))):cw Tryz.prog S1 36 [0,0,0] [.rw bt tt l, .rw bt tt m, .fv g [] []] (fun _=> .is (.bool (decide (l=m)))):=by
 refine h_ dj (fun _ _=>by kernel_rfl) fun hb=> ?_
 cases hlen:((l.length:Int) != (m.length:Int))
 rotate_left
 ·rw [dR hlen]
  refine cr Tryz.func36 Tryz.ntmps36 fun X w hE=> ?_
  simp only [ar,Nat.zero_add,Nat.reduceAdd]
  repeat' first|kernel_rfl|apply Bt.mk|refine nx ?_|apply ae|refine aO rfl ?_|exact a_|intro _
 have hlm:l.length=m.length:=by
  have:(l.length:Int)=(m.length:Int):=by simpa using hlen
  omega
 refine cr Tryz.func36 Tryz.ntmps36 fun X w0 hE=> ?_
 simp only [ar,Nat.zero_add,Nat.reduceAdd]
 repeat' first|kernel_rfl|apply Bt.mk|refine nx ?_|apply ae|refine aO rfl ?_|exact a_|intro _
 refine bn fun a w h=> ?_
 refine aY (fun k a u=>∃ i:Nat,i+k=l.length∧decide (l.drop i=m.drop i)=decide (l=m)∧TS w0 X [] [(17, .is (.int .i64 (i:Int))),(16, .is (.int .i64 (l.length:Int))),(15, .rw bt tt l),(0, .rw bt tt l),(1, .rw bt tt m),(2, .fv g [] [])] 32 a u) l.length ⟨0,by omega,rfl,h.keep [17,16,15,0,1,2]⟩ ?_
 clear h
 rintro k a u ⟨i,hi,ha,h⟩
 by_cases hlt:i<l.length
 ·obtain ⟨x,hx⟩:∃ x,l[i]? =some x:=⟨_,List.getElem?_eq_getElem hlt⟩
  obtain ⟨y,hy⟩:∃ y,m[i]? =some y:=⟨_,List.getElem?_eq_getElem qO⟩
  have hc:decide ((i:Int)<(l.length:Int))=true:=decide_eq_true qO
  have hw:IntKind.i64.wrap ((i:Int)+1)=((i+1:Nat):Int):=az qO qO
  rw [bg hx,bg hy] at ha
  have kx:=hr x (List.mem_of_getElem? hx) y (List.mem_of_getElem? hy)
  cases hp:decide (x=y)
  ·rw [cy hp] at ha
   rw [←ha]
   rw [hp] at kx
   refine aD h ?_
   clear h
   repeat' first|kernel_rfl|apply Bt.mk|refine nx ?_|apply cq (s:=17)|apply ae|refine aO rfl ?_|exact a_|intro _
  ·rw [eN hp] at ha
   rw [hp] at kx
   refine aD h ?_
   clear h
   repeat' first|kernel_rfl|exact bq fun _ _ h=>⟨k - 1,by omega,i+1,by omega,ha,h.drop.drop.keep [17,16,15,0,1,2]⟩|apply Bt.mk|refine nx ?_|apply cq (s:=17)|apply ae|refine aO rfl ?_|exact a_|intro _
 ·obtain rfl:i=l.length:=qO
  have hc:decide ((l.length:Int)<(l.length:Int))=false:=decide_eq_false qO
  rw [List.drop_length,List.drop_eq_nil_of_le qO] at ha
  have ha:true=decide (l=m):=ha
  rw [←ha]
  refine aD h ?_
  clear h
  repeat' first|kernel_rfl|apply Bt.mk|refine nx ?_|apply cq (s:=17)|apply ae|refine aO rfl ?_|exact a_|intro _
theorem sk {a b:ct}:cw Tryz.prog S1 37 [0,0] [.ra bt a, .ra bt b] (fun _=> .is (.bool (decide (a=b)))):=by
 rw [ah,ah (a:=a.2)]
 try simp only [Bool.and_assoc]
 cases h0:decide (a.1=b.1)
 ·have e0:=(bm (a.1) (b.1)).trans h0
  simp only [Bool.false_and]
  refine cr Tryz.func37 Tryz.ntmps37 fun X w hE=> ?_
  simp only [ar,Nat.zero_add,Nat.reduceAdd]
  repeat' first|kernel_rfl|apply Bt.mk|refine nx ?_|refine bi rfl a_ ?_|refine bh rfl ?_|refine bj rfl ?_|apply ae|refine aO rfl ?_|exact a_|intro _
 have e0:=(bm (a.1) (b.1)).trans h0
 simp only [Bool.true_and]
 cases h1:decide (a.2.1=b.2.1)
 ·have e1:=(bm (a.2.1) (b.2.1)).trans h1
  simp only [Bool.false_and]
  refine cr Tryz.func37 Tryz.ntmps37 fun X w hE=> ?_
  simp only [ar,Nat.zero_add,Nat.reduceAdd]
  repeat' first|kernel_rfl|apply Bt.mk|refine nx ?_|refine bi rfl a_ ?_|refine bh rfl ?_|refine bj rfl ?_|apply ae|refine aO rfl ?_|exact a_|intro _
 have e1:=(bm (a.2.1) (b.2.1)).trans h1
 simp only [Bool.true_and]
 have k2:=fD (a:=a.2.2) (b:=b.2.2)
 refine cr Tryz.func37 Tryz.ntmps37 fun X w hE=> ?_
 simp only [ar,Nat.zero_add,Nat.reduceAdd]
 repeat' first|kernel_rfl|apply Bt.mk|refine nx ?_|refine bi rfl a_ ?_|refine bh rfl ?_|refine bj rfl ?_|apply ae|refine aO rfl ?_|exact a_|intro _
theorem zE{l m:List (ft)} (hr:∀ x∈l,∀ y∈m,cw Tryz.prog S1 g [0,0] [.ra aH x, .ra aH y] (fun _=> .is (.bool (decide (x=y))))):cw Tryz.prog S1 90 [0,0,0] [.rw aH tt l, .rw aH tt m, .fv g [] []] (fun _=> .is (.bool (decide (l=m)))):=by
 refine h_ dj (fun _ _=>by kernel_rfl) fun hb=> ?_
 cases hlen:((l.length:Int) != (m.length:Int))
 rotate_left
 ·rw [dR hlen]
  refine cr Tryz.func90 Tryz.ntmps90 fun X w hE=> ?_
  simp only [ar,Nat.zero_add,Nat.reduceAdd]
  repeat' first|kernel_rfl|apply Bt.mk|refine nx ?_|apply ae|refine aO rfl ?_|exact a_|intro _
 have hlm:l.length=m.length:=by
  have:(l.length:Int)=(m.length:Int):=by simpa using hlen
  omega
 refine cr Tryz.func90 Tryz.ntmps90 fun X w0 hE=> ?_
 simp only [ar,Nat.zero_add,Nat.reduceAdd]
 repeat' first|kernel_rfl|apply Bt.mk|refine nx ?_|apply ae|refine aO rfl ?_|exact a_|intro _
 refine bn fun a w h=> ?_
 refine aY (fun k a u=>∃ i:Nat,i+k=l.length∧decide (l.drop i=m.drop i)=decide (l=m)∧TS w0 X [] [(17, .is (.int .i64 (i:Int))),(16, .is (.int .i64 (l.length:Int))),(15, .rw aH tt l),(0, .rw aH tt l),(1, .rw aH tt m),(2, .fv g [] [])] 32 a u) l.length ⟨0,by omega,rfl,h.keep [17,16,15,0,1,2]⟩ ?_
 clear h
 rintro k a u ⟨i,hi,ha,h⟩
 by_cases hlt:i<l.length
 ·obtain ⟨x,hx⟩:∃ x,l[i]? =some x:=⟨_,List.getElem?_eq_getElem hlt⟩
  obtain ⟨y,hy⟩:∃ y,m[i]? =some y:=⟨_,List.getElem?_eq_getElem qO⟩
  have hc:decide ((i:Int)<(l.length:Int))=true:=decide_eq_true qO
  have hw:IntKind.i64.wrap ((i:Int)+1)=((i+1:Nat):Int):=az qO qO
  rw [bg hx,bg hy] at ha
  have kx:=hr x (List.mem_of_getElem? hx) y (List.mem_of_getElem? hy)
  cases hp:decide (x=y)
  ·rw [cy hp] at ha
   rw [←ha]
   rw [hp] at kx
   refine aD h ?_
   clear h
   repeat' first|kernel_rfl|apply Bt.mk|refine nx ?_|apply cq (s:=17)|apply ae|refine aO rfl ?_|exact a_|intro _
  ·rw [eN hp] at ha
   rw [hp] at kx
   refine aD h ?_
   clear h
   repeat' first|kernel_rfl|exact bq fun _ _ h=>⟨k - 1,by omega,i+1,by omega,ha,h.drop.drop.keep [17,16,15,0,1,2]⟩|apply Bt.mk|refine nx ?_|apply cq (s:=17)|apply ae|refine aO rfl ?_|exact a_|intro _
 ·obtain rfl:i=l.length:=qO
  have hc:decide ((l.length:Int)<(l.length:Int))=false:=decide_eq_false qO
  rw [List.drop_length,List.drop_eq_nil_of_le qO] at ha
  have ha:true=decide (l=m):=ha
  rw [←ha]
  refine aD h ?_
  clear h
  repeat' first|kernel_rfl|apply Bt.mk|refine nx ?_|apply cq (s:=17)|apply ae|refine aO rfl ?_|exact a_|intro _
theorem uq {a b:ft}:cw Tryz.prog S1 91 [0,0] [.ra aH a, .ra aH b] (fun _=> .is (.bool (decide (a=b)))):=by
 rw [ah,ah (a:=a.2)]
 try simp only [Bool.and_assoc]
 cases h0:decide (a.1=b.1)
 ·have e0:=(bm (a.1) (b.1)).trans h0
  simp only [Bool.false_and]
  refine cr Tryz.func91 Tryz.ntmps91 fun X w hE=> ?_
  simp only [ar,Nat.zero_add,Nat.reduceAdd]
  repeat' first|kernel_rfl|apply Bt.mk|refine nx ?_|refine bi rfl a_ ?_|refine bh rfl ?_|refine bj rfl ?_|apply ae|refine aO rfl ?_|exact a_|intro _
 have e0:=(bm (a.1) (b.1)).trans h0
 simp only [Bool.true_and]
 cases h1:decide (a.2.1=b.2.1)
 ·have e1:=(bm (a.2.1) (b.2.1)).trans h1
  simp only [Bool.false_and]
  refine cr Tryz.func91 Tryz.ntmps91 fun X w hE=> ?_
  simp only [ar,Nat.zero_add,Nat.reduceAdd]
  repeat' first|kernel_rfl|apply Bt.mk|refine nx ?_|refine bi rfl a_ ?_|refine bh rfl ?_|refine bj rfl ?_|apply ae|refine aO rfl ?_|exact a_|intro _
 have e1:=(bm (a.2.1) (b.2.1)).trans h1
 simp only [Bool.true_and]
 have k2:=fD (a:=a.2.2) (b:=b.2.2)
 refine cr Tryz.func91 Tryz.ntmps91 fun X w hE=> ?_
 simp only [ar,Nat.zero_add,Nat.reduceAdd]
 repeat' first|kernel_rfl|apply Bt.mk|refine nx ?_|refine bi rfl a_ ?_|refine bh rfl ?_|refine bj rfl ?_|apply ae|refine aO rfl ?_|exact a_|intro _
theorem zH{l m:List (fg)} (hr:∀ x∈l,∀ y∈m,cw Tryz.prog S1 g [0,0] [.ra aG x, .ra aG y] (fun _=> .is (.bool (decide (x=y))))):cw Tryz.prog S1 92 [0,0,0] [.rw aG tt l, .rw aG tt m, .fv g [] []] (fun _=> .is (.bool (decide (l=m)))):=by
 refine h_ dj (fun _ _=>by kernel_rfl) fun hb=> ?_
 cases hlen:((l.length:Int) != (m.length:Int))
 rotate_left
 ·rw [dR hlen]
  refine cr Tryz.func92 Tryz.ntmps92 fun X w hE=> ?_
  simp only [ar,Nat.zero_add,Nat.reduceAdd]
  repeat' first|kernel_rfl|apply Bt.mk|refine nx ?_|apply ae|refine aO rfl ?_|exact a_|intro _
 have hlm:l.length=m.length:=by
  have:(l.length:Int)=(m.length:Int):=by simpa using hlen
  omega
 refine cr Tryz.func92 Tryz.ntmps92 fun X w0 hE=> ?_
 simp only [ar,Nat.zero_add,Nat.reduceAdd]
 repeat' first|kernel_rfl|apply Bt.mk|refine nx ?_|apply ae|refine aO rfl ?_|exact a_|intro _
 refine bn fun a w h=> ?_
 refine aY (fun k a u=>∃ i:Nat,i+k=l.length∧decide (l.drop i=m.drop i)=decide (l=m)∧TS w0 X [] [(17, .is (.int .i64 (i:Int))),(16, .is (.int .i64 (l.length:Int))),(15, .rw aG tt l),(0, .rw aG tt l),(1, .rw aG tt m),(2, .fv g [] [])] 32 a u) l.length ⟨0,by omega,rfl,h.keep [17,16,15,0,1,2]⟩ ?_
 clear h
 rintro k a u ⟨i,hi,ha,h⟩
 by_cases hlt:i<l.length
 ·obtain ⟨x,hx⟩:∃ x,l[i]? =some x:=⟨_,List.getElem?_eq_getElem hlt⟩
  obtain ⟨y,hy⟩:∃ y,m[i]? =some y:=⟨_,List.getElem?_eq_getElem qO⟩
  have hc:decide ((i:Int)<(l.length:Int))=true:=decide_eq_true qO
  have hw:IntKind.i64.wrap ((i:Int)+1)=((i+1:Nat):Int):=az qO qO
  rw [bg hx,bg hy] at ha
  have kx:=hr x (List.mem_of_getElem? hx) y (List.mem_of_getElem? hy)
  cases hp:decide (x=y)
  ·rw [cy hp] at ha
   rw [←ha]
   rw [hp] at kx
   refine aD h ?_
   clear h
   repeat' first|kernel_rfl|apply Bt.mk|refine nx ?_|apply cq (s:=17)|apply ae|refine aO rfl ?_|exact a_|intro _
  ·rw [eN hp] at ha
   rw [hp] at kx
   refine aD h ?_
   clear h
   repeat' first|kernel_rfl|exact bq fun _ _ h=>⟨k - 1,by omega,i+1,by omega,ha,h.drop.drop.keep [17,16,15,0,1,2]⟩|apply Bt.mk|refine nx ?_|apply cq (s:=17)|apply ae|refine aO rfl ?_|exact a_|intro _
 ·obtain rfl:i=l.length:=qO
  have hc:decide ((l.length:Int)<(l.length:Int))=false:=decide_eq_false qO
  rw [List.drop_length,List.drop_eq_nil_of_le qO] at ha
  have ha:true=decide (l=m):=ha
  rw [←ha]
  refine aD h ?_
  clear h
  repeat' first|kernel_rfl|apply Bt.mk|refine nx ?_|apply cq (s:=17)|apply ae|refine aO rfl ?_|exact a_|intro _
theorem un {a b:fg}:cw Tryz.prog S1 93 [0,0] [.ra aG a, .ra aG b] (fun _=> .is (.bool (decide (a=b)))):=by
 rw [ah,ah (a:=a.2)]
 try simp only [Bool.and_assoc]
 cases h0:decide (a.1=b.1)
 ·have e0:=(bm (a.1) (b.1)).trans h0
  simp only [Bool.false_and]
  refine cr Tryz.func93 Tryz.ntmps93 fun X w hE=> ?_
  simp only [ar,Nat.zero_add,Nat.reduceAdd]
  repeat' first|kernel_rfl|apply Bt.mk|refine nx ?_|refine bi rfl a_ ?_|refine bh rfl ?_|refine bj rfl ?_|apply ae|refine aO rfl ?_|exact a_|intro _
 have e0:=(bm (a.1) (b.1)).trans h0
 simp only [Bool.true_and]
 cases h1:decide (a.2.1=b.2.1)
 ·have e1:=(bm (a.2.1) (b.2.1)).trans h1
  simp only [Bool.false_and]
  refine cr Tryz.func93 Tryz.ntmps93 fun X w hE=> ?_
  simp only [ar,Nat.zero_add,Nat.reduceAdd]
  repeat' first|kernel_rfl|apply Bt.mk|refine nx ?_|refine bi rfl a_ ?_|refine bh rfl ?_|refine bj rfl ?_|apply ae|refine aO rfl ?_|exact a_|intro _
 have e1:=(bm (a.2.1) (b.2.1)).trans h1
 simp only [Bool.true_and]
 have k2:=fD (a:=a.2.2) (b:=b.2.2)
 refine cr Tryz.func93 Tryz.ntmps93 fun X w hE=> ?_
 simp only [ar,Nat.zero_add,Nat.reduceAdd]
 repeat' first|kernel_rfl|apply Bt.mk|refine nx ?_|refine bi rfl a_ ?_|refine bh rfl ?_|refine bj rfl ?_|apply ae|refine aO rfl ?_|exact a_|intro _
theorem yH{l m:List (eo)} (hr:∀ x∈l,∀ y∈m,cw Tryz.prog S1 g [0,0] [.ra ak x, .ra ak y] (fun _=> .is (.bool (decide (x=y))))):cw Tryz.prog S1 94 [0,0,0] [.rw ak tt l, .rw ak tt m, .fv g [] []] (fun _=> .is (.bool (decide (l=m)))):=by
 refine h_ dj (fun _ _=>by kernel_rfl) fun hb=> ?_
 cases hlen:((l.length:Int) != (m.length:Int))
 rotate_left
 ·rw [dR hlen]
  refine cr Tryz.func94 Tryz.ntmps94 fun X w hE=> ?_
  simp only [ar,Nat.zero_add,Nat.reduceAdd]
  repeat' first|kernel_rfl|apply Bt.mk|refine nx ?_|apply ae|refine aO rfl ?_|exact a_|intro _
 have hlm:l.length=m.length:=by
  have:(l.length:Int)=(m.length:Int):=by simpa using hlen
  omega
 refine cr Tryz.func94 Tryz.ntmps94 fun X w0 hE=> ?_
 simp only [ar,Nat.zero_add,Nat.reduceAdd]
 repeat' first|kernel_rfl|apply Bt.mk|refine nx ?_|apply ae|refine aO rfl ?_|exact a_|intro _
 refine bn fun a w h=> ?_
 refine aY (fun k a u=>∃ i:Nat,i+k=l.length∧decide (l.drop i=m.drop i)=decide (l=m)∧TS w0 X [] [(17, .is (.int .i64 (i:Int))),(16, .is (.int .i64 (l.length:Int))),(15, .rw ak tt l),(0, .rw ak tt l),(1, .rw ak tt m),(2, .fv g [] [])] 32 a u) l.length ⟨0,by omega,rfl,h.keep [17,16,15,0,1,2]⟩ ?_
 clear h
 rintro k a u ⟨i,hi,ha,h⟩
 by_cases hlt:i<l.length
 ·obtain ⟨x,hx⟩:∃ x,l[i]? =some x:=⟨_,List.getElem?_eq_getElem hlt⟩
  obtain ⟨y,hy⟩:∃ y,m[i]? =some y:=⟨_,List.getElem?_eq_getElem qO⟩
  have hc:decide ((i:Int)<(l.length:Int))=true:=decide_eq_true qO
  have hw:IntKind.i64.wrap ((i:Int)+1)=((i+1:Nat):Int):=az qO qO
  rw [bg hx,bg hy] at ha
  have kx:=hr x (List.mem_of_getElem? hx) y (List.mem_of_getElem? hy)
  cases hp:decide (x=y)
  ·rw [cy hp] at ha
   rw [←ha]
   rw [hp] at kx
   refine aD h ?_
   clear h
   repeat' first|kernel_rfl|apply Bt.mk|refine nx ?_|apply cq (s:=17)|apply ae|refine aO rfl ?_|exact a_|intro _
  ·rw [eN hp] at ha
   rw [hp] at kx
   refine aD h ?_
   clear h
   repeat' first|kernel_rfl|exact bq fun _ _ h=>⟨k - 1,by omega,i+1,by omega,ha,h.drop.drop.keep [17,16,15,0,1,2]⟩|apply Bt.mk|refine nx ?_|apply cq (s:=17)|apply ae|refine aO rfl ?_|exact a_|intro _
 ·obtain rfl:i=l.length:=qO
  have hc:decide ((l.length:Int)<(l.length:Int))=false:=decide_eq_false qO
  rw [List.drop_length,List.drop_eq_nil_of_le qO] at ha
  have ha:true=decide (l=m):=ha
  rw [←ha]
  refine aD h ?_
  clear h
  repeat' first|kernel_rfl|apply Bt.mk|refine nx ?_|apply cq (s:=17)|apply ae|refine aO rfl ?_|exact a_|intro _
theorem uL {a b:eo}:cw Tryz.prog S1 95 [0,0] [.ra ak a, .ra ak b] (fun _=> .is (.bool (decide (a=b)))):=by
 rw [ah,ah (a:=a.2),ah (a:=a.2.2),ah (a:=a.2.2.2),ah (a:=a.2.2.2.2),ah (a:=a.2.2.2.2.2)]
 try simp only [Bool.and_assoc]
 cases h0:decide (a.1=b.1)
 ·have e0:=(bm (a.1) (b.1)).trans h0
  simp only [Bool.false_and]
  refine cr Tryz.func95 Tryz.ntmps95 fun X w hE=> ?_
  simp only [ar,Nat.zero_add,Nat.reduceAdd]
  repeat' first|kernel_rfl|apply Bt.mk|refine nx ?_|refine bi rfl a_ ?_|refine bh rfl ?_|refine bj rfl ?_|apply ae|refine aO rfl ?_|exact a_|intro _
 have e0:=(bm (a.1) (b.1)).trans h0
 simp only [Bool.true_and]
 cases h1:decide (a.2.1=b.2.1)
 ·have e1:=(bm (a.2.1) (b.2.1)).trans h1
  simp only [Bool.false_and]
  refine cr Tryz.func95 Tryz.ntmps95 fun X w hE=> ?_
  simp only [ar,Nat.zero_add,Nat.reduceAdd]
  repeat' first|kernel_rfl|apply Bt.mk|refine nx ?_|refine bi rfl a_ ?_|refine bh rfl ?_|refine bj rfl ?_|apply ae|refine aO rfl ?_|exact a_|intro _
 have e1:=(bm (a.2.1) (b.2.1)).trans h1
 simp only [Bool.true_and]
 cases h2:decide (a.2.2.1=b.2.2.1)
 ·have e2:=(bm (a.2.2.1) (b.2.2.1)).trans h2
  simp only [Bool.false_and]
  refine cr Tryz.func95 Tryz.ntmps95 fun X w hE=> ?_
  simp only [ar,Nat.zero_add,Nat.reduceAdd]
  repeat' first|kernel_rfl|apply Bt.mk|refine nx ?_|refine bi rfl a_ ?_|refine bh rfl ?_|refine bj rfl ?_|apply ae|refine aO rfl ?_|exact a_|intro _
 have e2:=(bm (a.2.2.1) (b.2.2.1)).trans h2
 simp only [Bool.true_and]
 cases h3:decide (a.2.2.2.1=b.2.2.2.1)
 ·have e3:=(bm (a.2.2.2.1) (b.2.2.2.1)).trans h3
  simp only [Bool.false_and]
  refine cr Tryz.func95 Tryz.ntmps95 fun X w hE=> ?_
  simp only [ar,Nat.zero_add,Nat.reduceAdd]
  repeat' first|kernel_rfl|apply Bt.mk|refine nx ?_|refine bi rfl a_ ?_|refine bh rfl ?_|refine bj rfl ?_|apply ae|refine aO rfl ?_|exact a_|intro _
 have e3:=(bm (a.2.2.2.1) (b.2.2.2.1)).trans h3
 simp only [Bool.true_and]
 cases h4:decide (a.2.2.2.2.1=b.2.2.2.2.1)
 ·have e4:=(bm (a.2.2.2.2.1) (b.2.2.2.2.1)).trans h4
  simp only [Bool.false_and]
  refine cr Tryz.func95 Tryz.ntmps95 fun X w hE=> ?_
  simp only [ar,Nat.zero_add,Nat.reduceAdd]
  repeat' first|kernel_rfl|apply Bt.mk|refine nx ?_|refine bi rfl a_ ?_|refine bh rfl ?_|refine bj rfl ?_|apply ae|refine aO rfl ?_|exact a_|intro _
 have e4:=(bm (a.2.2.2.2.1) (b.2.2.2.2.1)).trans h4
 simp only [Bool.true_and]
 cases h5:decide (a.2.2.2.2.2.1=b.2.2.2.2.2.1)
 ·have e5:=(bm (a.2.2.2.2.2.1) (b.2.2.2.2.2.1)).trans h5
  simp only [Bool.false_and]
  refine cr Tryz.func95 Tryz.ntmps95 fun X w hE=> ?_
  simp only [ar,Nat.zero_add,Nat.reduceAdd]
  repeat' first|kernel_rfl|apply Bt.mk|refine nx ?_|refine bi rfl a_ ?_|refine bh rfl ?_|refine bj rfl ?_|apply ae|refine aO rfl ?_|exact a_|intro _
 have e5:=(bm (a.2.2.2.2.2.1) (b.2.2.2.2.2.1)).trans h5
 simp only [Bool.true_and]
 have k6:=fD (a:=a.2.2.2.2.2.2) (b:=b.2.2.2.2.2.2)
 refine cr Tryz.func95 Tryz.ntmps95 fun X w hE=> ?_
 simp only [ar,Nat.zero_add,Nat.reduceAdd]
 repeat' first|kernel_rfl|apply Bt.mk|refine nx ?_|refine bi rfl (by first|exact sc trivial k6|exact a_) ?_|refine bh rfl ?_|refine bj rfl ?_|apply ae|refine aO rfl ?_|exact sc trivial k6|exact a_|intro _
theorem yc{l m:List (dI)} (hr:∀ x∈l,∀ y∈m,cw Tryz.prog S1 g [0,0] [.ra bp x, .ra bp y] (fun _=> .is (.bool (decide (x=y))))):cw Tryz.prog S1 96 [0,0,0] [.rw bp tt l, .rw bp tt m, .fv g [] []] (fun _=> .is (.bool (decide (l=m)))):=by
 refine h_ dj (fun _ _=>by kernel_rfl) fun hb=> ?_
 cases hlen:((l.length:Int) != (m.length:Int))
 rotate_left
 ·rw [dR hlen]
  refine cr Tryz.func96 Tryz.ntmps96 fun X w hE=> ?_
  simp only [ar,Nat.zero_add,Nat.reduceAdd]
  repeat' first|kernel_rfl|apply Bt.mk|refine nx ?_|apply ae|refine aO rfl ?_|exact a_|intro _
 have hlm:l.length=m.length:=by
  have:(l.length:Int)=(m.length:Int):=by simpa using hlen
  omega
 refine cr Tryz.func96 Tryz.ntmps96 fun X w0 hE=> ?_
 simp only [ar,Nat.zero_add,Nat.reduceAdd]
 repeat' first|kernel_rfl|apply Bt.mk|refine nx ?_|apply ae|refine aO rfl ?_|exact a_|intro _
 refine bn fun a w h=> ?_
 refine aY (fun k a u=>∃ i:Nat,i+k=l.length∧decide (l.drop i=m.drop i)=decide (l=m)∧TS w0 X [] [(17, .is (.int .i64 (i:Int))),(16, .is (.int .i64 (l.length:Int))),(15, .rw bp tt l),(0, .rw bp tt l),(1, .rw bp tt m),(2, .fv g [] [])] 32 a u) l.length ⟨0,by omega,rfl,h.keep [17,16,15,0,1,2]⟩ ?_
 clear h
 rintro k a u ⟨i,hi,ha,h⟩
 by_cases hlt:i<l.length
 ·obtain ⟨x,hx⟩:∃ x,l[i]? =some x:=⟨_,List.getElem?_eq_getElem hlt⟩
  obtain ⟨y,hy⟩:∃ y,m[i]? =some y:=⟨_,List.getElem?_eq_getElem qO⟩
  have hc:decide ((i:Int)<(l.length:Int))=true:=decide_eq_true qO
  have hw:IntKind.i64.wrap ((i:Int)+1)=((i+1:Nat):Int):=az qO qO
  rw [bg hx,bg hy] at ha
  have kx:=hr x (List.mem_of_getElem? hx) y (List.mem_of_getElem? hy)
  cases hp:decide (x=y)
  ·rw [cy hp] at ha
   rw [←ha]
   rw [hp] at kx
   refine aD h ?_
   clear h
   repeat' first|kernel_rfl|apply Bt.mk|refine nx ?_|apply cq (s:=17)|apply ae|refine aO rfl ?_|exact a_|intro _
  ·rw [eN hp] at ha
   rw [hp] at kx
   refine aD h ?_
   clear h
   repeat' first|kernel_rfl|exact bq fun _ _ h=>⟨k - 1,by omega,i+1,by omega,ha,h.drop.drop.keep [17,16,15,0,1,2]⟩|apply Bt.mk|refine nx ?_|apply cq (s:=17)|apply ae|refine aO rfl ?_|exact a_|intro _
 ·obtain rfl:i=l.length:=qO
  have hc:decide ((l.length:Int)<(l.length:Int))=false:=decide_eq_false qO
  rw [List.drop_length,List.drop_eq_nil_of_le qO] at ha
  have ha:true=decide (l=m):=ha
  rw [←ha]
  refine aD h ?_
  clear h
  repeat' first|kernel_rfl|apply Bt.mk|refine nx ?_|apply cq (s:=17)|apply ae|refine aO rfl ?_|exact a_|intro _
theorem tF {a b:dI}:cw Tryz.prog S1 97 [0,0] [.ra bp a, .ra bp b] (fun _=> .is (.bool (decide (a=b)))):=by
 rw [ah,ah (a:=a.2)]
 try simp only [Bool.and_assoc]
 cases h0:decide (a.1=b.1)
 ·have e0:=(bm (a.1) (b.1)).trans h0
  simp only [Bool.false_and]
  refine cr Tryz.func97 Tryz.ntmps97 fun X w hE=> ?_
  simp only [ar,Nat.zero_add,Nat.reduceAdd]
  repeat' first|kernel_rfl|apply Bt.mk|refine nx ?_|refine bi rfl a_ ?_|refine bh rfl ?_|refine bj rfl ?_|apply ae|refine aO rfl ?_|exact a_|intro _
 have e0:=(bm (a.1) (b.1)).trans h0
 simp only [Bool.true_and]
 have k1:=fD (a:=a.2.1) (b:=b.2.1)
 cases h1:decide (a.2.1=b.2.1)
 ·rw [h1] at k1
  simp only [Bool.false_and]
  refine cr Tryz.func97 Tryz.ntmps97 fun X w hE=> ?_
  simp only [ar,Nat.zero_add,Nat.reduceAdd]
  repeat' first|kernel_rfl|apply Bt.mk|refine nx ?_|refine bi rfl a_ ?_|refine bh rfl ?_|refine bj rfl ?_|apply ae|refine aO rfl ?_|exact a_|intro _
 rw [h1] at k1
 simp only [Bool.true_and]
 have k2:=fD (a:=a.2.2) (b:=b.2.2)
 refine cr Tryz.func97 Tryz.ntmps97 fun X w hE=> ?_
 simp only [ar,Nat.zero_add,Nat.reduceAdd]
 repeat' first|kernel_rfl|apply Bt.mk|refine nx ?_|refine bi rfl a_ ?_|refine bh rfl ?_|refine bj rfl ?_|apply ae|refine aO rfl ?_|exact a_|intro _
theorem zd{l m:List (eX)} (hr:∀ x∈l,∀ y∈m,cw Tryz.prog S1 g [0,0] [.ra b7 x, .ra b7 y] (fun _=> .is (.bool (decide (x=y))))):cw Tryz.prog S1 98 [0,0,0] [.rw b7 tt l, .rw b7 tt m, .fv g [] []] (fun _=> .is (.bool (decide (l=m)))):=by
 refine h_ dj (fun _ _=>by kernel_rfl) fun hb=> ?_
 cases hlen:((l.length:Int) != (m.length:Int))
 rotate_left
 ·rw [dR hlen]
  refine cr Tryz.func98 Tryz.ntmps98 fun X w hE=> ?_
  simp only [ar,Nat.zero_add,Nat.reduceAdd]
  repeat' first|kernel_rfl|apply Bt.mk|refine nx ?_|apply ae|refine aO rfl ?_|exact a_|intro _
 have hlm:l.length=m.length:=by
  have:(l.length:Int)=(m.length:Int):=by simpa using hlen
  omega
 refine cr Tryz.func98 Tryz.ntmps98 fun X w0 hE=> ?_
 simp only [ar,Nat.zero_add,Nat.reduceAdd]
 repeat' first|kernel_rfl|apply Bt.mk|refine nx ?_|apply ae|refine aO rfl ?_|exact a_|intro _
 refine bn fun a w h=> ?_
 refine aY (fun k a u=>∃ i:Nat,i+k=l.length∧decide (l.drop i=m.drop i)=decide (l=m)∧TS w0 X [] [(17, .is (.int .i64 (i:Int))),(16, .is (.int .i64 (l.length:Int))),(15, .rw b7 tt l),(0, .rw b7 tt l),(1, .rw b7 tt m),(2, .fv g [] [])] 32 a u) l.length ⟨0,by omega,rfl,h.keep [17,16,15,0,1,2]⟩ ?_
 clear h
 rintro k a u ⟨i,hi,ha,h⟩
 by_cases hlt:i<l.length
 ·obtain ⟨x,hx⟩:∃ x,l[i]? =some x:=⟨_,List.getElem?_eq_getElem hlt⟩
  obtain ⟨y,hy⟩:∃ y,m[i]? =some y:=⟨_,List.getElem?_eq_getElem qO⟩
  have hc:decide ((i:Int)<(l.length:Int))=true:=decide_eq_true qO
  have hw:IntKind.i64.wrap ((i:Int)+1)=((i+1:Nat):Int):=az qO qO
  rw [bg hx,bg hy] at ha
  have kx:=hr x (List.mem_of_getElem? hx) y (List.mem_of_getElem? hy)
  cases hp:decide (x=y)
  ·rw [cy hp] at ha
   rw [←ha]
   rw [hp] at kx
   refine aD h ?_
   clear h
   repeat' first|kernel_rfl|apply Bt.mk|refine nx ?_|apply cq (s:=17)|apply ae|refine aO rfl ?_|exact a_|intro _
  ·rw [eN hp] at ha
   rw [hp] at kx
   refine aD h ?_
   clear h
   repeat' first|kernel_rfl|exact bq fun _ _ h=>⟨k - 1,by omega,i+1,by omega,ha,h.drop.drop.keep [17,16,15,0,1,2]⟩|apply Bt.mk|refine nx ?_|apply cq (s:=17)|apply ae|refine aO rfl ?_|exact a_|intro _
 ·obtain rfl:i=l.length:=qO
  have hc:decide ((l.length:Int)<(l.length:Int))=false:=decide_eq_false qO
  rw [List.drop_length,List.drop_eq_nil_of_le qO] at ha
  have ha:true=decide (l=m):=ha
  rw [←ha]
  refine aD h ?_
  clear h
  repeat' first|kernel_rfl|apply Bt.mk|refine nx ?_|apply cq (s:=17)|apply ae|refine aO rfl ?_|exact a_|intro _
theorem vf {a b:eX}:cw Tryz.prog S1 99 [0,0] [.ra b7 a, .ra b7 b] (fun _=> .is (.bool (decide (a=b)))):=by
 rw [ah]
 try simp only [Bool.and_assoc]
 cases h0:decide (a.1=b.1)
 ·have e0:=(bm (a.1) (b.1)).trans h0
  simp only [Bool.false_and]
  refine cr Tryz.func99 Tryz.ntmps99 fun X w hE=> ?_
  simp only [ar,Nat.zero_add,Nat.reduceAdd]
  repeat' first|kernel_rfl|apply Bt.mk|refine nx ?_|refine bi rfl a_ ?_|refine bh rfl ?_|refine bj rfl ?_|apply ae|refine aO rfl ?_|exact a_|intro _
 have e0:=(bm (a.1) (b.1)).trans h0
 simp only [Bool.true_and]
 have k1:=fD (a:=a.2) (b:=b.2)
 refine cr Tryz.func99 Tryz.ntmps99 fun X w hE=> ?_
 simp only [ar,Nat.zero_add,Nat.reduceAdd]
 repeat' first|kernel_rfl|apply Bt.mk|refine nx ?_|refine bi rfl a_ ?_|refine bh rfl ?_|refine bj rfl ?_|apply ae|refine aO rfl ?_|exact a_|intro _
theorem vc {a b:bw}:cw Tryz.prog S1 40 [0,0] [.ra aA a, .ra aA b] (fun _=> .is (.bool (decide (a=b)))):=by
 rw [ah,ah (a:=a.2),ah (a:=a.2.2),ah (a:=a.2.2.2),ah (a:=a.2.2.2.2)]
 try simp only [Bool.and_assoc]
 cases h0:decide (a.1=b.1)
 ·have e0:=(bm (a.1) (b.1)).trans h0
  simp only [Bool.false_and]
  refine cr Tryz.func40 Tryz.ntmps40 fun X w hE=> ?_
  simp only [ar,Nat.zero_add,Nat.reduceAdd]
  repeat' first|kernel_rfl|apply Bt.mk|refine nx ?_|refine bi rfl a_ ?_|refine bh rfl ?_|refine bj rfl ?_|apply ae|refine aO rfl ?_|exact a_|intro _
 have e0:=(bm (a.1) (b.1)).trans h0
 simp only [Bool.true_and]
 have k1:=zE (l:=a.2.1) (m:=b.2.1) (g:=91) (fun x _ y _=>uq)
 cases h1:decide (a.2.1=b.2.1)
 ·rw [h1] at k1
  simp only [Bool.false_and]
  refine cr Tryz.func40 Tryz.ntmps40 fun X w hE=> ?_
  simp only [ar,Nat.zero_add,Nat.reduceAdd]
  repeat' first|kernel_rfl|apply Bt.mk|refine nx ?_|refine bi rfl a_ ?_|refine bh rfl ?_|refine bj rfl ?_|apply ae|refine aO rfl ?_|exact a_|intro _
 rw [h1] at k1
 simp only [Bool.true_and]
 have k2:=zH (l:=a.2.2.1) (m:=b.2.2.1) (g:=93) (fun x _ y _=>un)
 cases h2:decide (a.2.2.1=b.2.2.1)
 ·rw [h2] at k2
  simp only [Bool.false_and]
  refine cr Tryz.func40 Tryz.ntmps40 fun X w hE=> ?_
  simp only [ar,Nat.zero_add,Nat.reduceAdd]
  repeat' first|kernel_rfl|apply Bt.mk|refine nx ?_|refine bi rfl a_ ?_|refine bh rfl ?_|refine bj rfl ?_|apply ae|refine aO rfl ?_|exact a_|intro _
 rw [h2] at k2
 simp only [Bool.true_and]
 have k3:=yH (l:=a.2.2.2.1) (m:=b.2.2.2.1) (g:=95) (fun x _ y _=>uL)
 cases h3:decide (a.2.2.2.1=b.2.2.2.1)
 ·rw [h3] at k3
  simp only [Bool.false_and]
  refine cr Tryz.func40 Tryz.ntmps40 fun X w hE=> ?_
  simp only [ar,Nat.zero_add,Nat.reduceAdd]
  repeat' first|kernel_rfl|apply Bt.mk|refine nx ?_|refine bi rfl a_ ?_|refine bh rfl ?_|refine bj rfl ?_|apply ae|refine aO rfl ?_|exact a_|intro _
 rw [h3] at k3
 simp only [Bool.true_and]
 have k4:=yc (l:=a.2.2.2.2.1) (m:=b.2.2.2.2.1) (g:=97) (fun x _ y _=>tF)
 cases h4:decide (a.2.2.2.2.1=b.2.2.2.2.1)
 ·rw [h4] at k4
  simp only [Bool.false_and]
  refine cr Tryz.func40 Tryz.ntmps40 fun X w hE=> ?_
  simp only [ar,Nat.zero_add,Nat.reduceAdd]
  repeat' first|kernel_rfl|apply Bt.mk|refine nx ?_|refine bi rfl a_ ?_|refine bh rfl ?_|refine bj rfl ?_|apply ae|refine aO rfl ?_|exact a_|intro _
 rw [h4] at k4
 simp only [Bool.true_and]
 have k5:=zd (l:=a.2.2.2.2.2) (m:=b.2.2.2.2.2) (g:=99) (fun x _ y _=>vf)
 refine cr Tryz.func40 Tryz.ntmps40 fun X w hE=> ?_
 simp only [ar,Nat.zero_add,Nat.reduceAdd]
 repeat' first|kernel_rfl|apply Bt.mk|refine nx ?_|refine bi rfl a_ ?_|refine bh rfl ?_|refine bj rfl ?_|apply ae|refine aO rfl ?_|exact a_|intro _
theorem zF{l m:List (bw)} (hr:∀ x∈l,∀ y∈m,cw Tryz.prog S1 g [0,0] [.ra aA x, .ra aA y] (fun _=> .is (.bool (decide (x=y))))):cw Tryz.prog S1 39 [0,0,0] [.rw aA tt l, .rw aA tt m, .fv g [] []] (fun _=> .is (.bool (decide (l=m)))):=by
 refine h_ dj (fun _ _=>by kernel_rfl) fun hb=> ?_
 cases hlen:((l.length:Int) != (m.length:Int))
 rotate_left
 ·rw [dR hlen]
  refine cr Tryz.func39 Tryz.ntmps39 fun X w hE=> ?_
  simp only [ar,Nat.zero_add,Nat.reduceAdd]
  repeat' first|kernel_rfl|apply Bt.mk|refine nx ?_|apply ae|refine aO rfl ?_|exact a_|intro _
 have hlm:l.length=m.length:=by
  have:(l.length:Int)=(m.length:Int):=by simpa using hlen
  omega
 refine cr Tryz.func39 Tryz.ntmps39 fun X w0 hE=> ?_
 simp only [ar,Nat.zero_add,Nat.reduceAdd]
 repeat' first|kernel_rfl|apply Bt.mk|refine nx ?_|apply ae|refine aO rfl ?_|exact a_|intro _
 refine bn fun a w h=> ?_
 refine aY (fun k a u=>∃ i:Nat,i+k=l.length∧decide (l.drop i=m.drop i)=decide (l=m)∧TS w0 X [] [(17, .is (.int .i64 (i:Int))),(16, .is (.int .i64 (l.length:Int))),(15, .rw aA tt l),(0, .rw aA tt l),(1, .rw aA tt m),(2, .fv g [] [])] 32 a u) l.length ⟨0,by omega,rfl,h.keep [17,16,15,0,1,2]⟩ ?_
 clear h
 rintro k a u ⟨i,hi,ha,h⟩
 by_cases hlt:i<l.length
 ·obtain ⟨x,hx⟩:∃ x,l[i]? =some x:=⟨_,List.getElem?_eq_getElem hlt⟩
  obtain ⟨y,hy⟩:∃ y,m[i]? =some y:=⟨_,List.getElem?_eq_getElem qO⟩
  have hc:decide ((i:Int)<(l.length:Int))=true:=decide_eq_true qO
  have hw:IntKind.i64.wrap ((i:Int)+1)=((i+1:Nat):Int):=az qO qO
  rw [bg hx,bg hy] at ha
  have kx:=hr x (List.mem_of_getElem? hx) y (List.mem_of_getElem? hy)
  cases hp:decide (x=y)
  ·rw [cy hp] at ha
   rw [←ha]
   rw [hp] at kx
   refine aD h ?_
   clear h
   repeat' first|kernel_rfl|apply Bt.mk|refine nx ?_|apply cq (s:=17)|apply ae|refine aO rfl ?_|exact a_|intro _
  ·rw [eN hp] at ha
   rw [hp] at kx
   refine aD h ?_
   clear h
   repeat' first|kernel_rfl|exact bq fun _ _ h=>⟨k - 1,by omega,i+1,by omega,ha,h.drop.drop.keep [17,16,15,0,1,2]⟩|apply Bt.mk|refine nx ?_|apply cq (s:=17)|apply ae|refine aO rfl ?_|exact a_|intro _
 ·obtain rfl:i=l.length:=qO
  have hc:decide ((l.length:Int)<(l.length:Int))=false:=decide_eq_false qO
  rw [List.drop_length,List.drop_eq_nil_of_le qO] at ha
  have ha:true=decide (l=m):=ha
  rw [←ha]
  refine aD h ?_
  clear h
  repeat' first|kernel_rfl|apply Bt.mk|refine nx ?_|apply cq (s:=17)|apply ae|refine aO rfl ?_|exact a_|intro _
def eK (a b:aI):Bool:=(decide (a.2.2.2.1=b.2.2.2.1)&&(decide (a.2.2.2.2.1=b.2.2.2.2.1)&&(decide (a.2.2.2.2.2.1=b.2.2.2.2.2.1)&&(decide (a.2.2.2.2.2.2.1=b.2.2.2.2.2.2.1)&&(decide (a.2.2.2.2.2.2.2.1=b.2.2.2.2.2.2.2.1)&&(decide (a.2.2.2.2.2.2.2.2.1=b.2.2.2.2.2.2.2.2.1)&&decide (a.2.2.2.2.2.2.2.2.2.1=b.2.2.2.2.2.2.2.2.2.1)))))))
theorem yb {a b:aI}:cw Tryz.prog S1 35 [0,0] [.ra ai a, .ra ai b] (fun _=> .is (.bool (eK a b))):=by
 unfold eK
 have k0:=fD (a:=a.2.2.2.1) (b:=b.2.2.2.1)
 cases h0:decide (a.2.2.2.1=b.2.2.2.1)
 ·rw [h0] at k0
  simp only [Bool.false_and]
  refine cr Tryz.func35 Tryz.ntmps35 fun X w hE=> ?_
  simp only [ar,Nat.zero_add,Nat.reduceAdd]
  repeat' first|kernel_rfl|apply Bt.mk|refine nx ?_|refine bi rfl a_ ?_|refine bh rfl ?_|refine bj rfl ?_|apply ae|refine aO rfl ?_|exact a_|intro _
 rw [h0] at k0
 simp only [Bool.true_and]
 have k1:=fD (a:=a.2.2.2.2.1) (b:=b.2.2.2.2.1)
 cases h1:decide (a.2.2.2.2.1=b.2.2.2.2.1)
 ·rw [h1] at k1
  simp only [Bool.false_and]
  refine cr Tryz.func35 Tryz.ntmps35 fun X w hE=> ?_
  simp only [ar,Nat.zero_add,Nat.reduceAdd]
  repeat' first|kernel_rfl|apply Bt.mk|refine nx ?_|refine bi rfl a_ ?_|refine bh rfl ?_|refine bj rfl ?_|apply ae|refine aO rfl ?_|exact a_|intro _
 rw [h1] at k1
 simp only [Bool.true_and]
 cases h2:decide (a.2.2.2.2.2.1=b.2.2.2.2.2.1)
 ·have e2:=(bm (a.2.2.2.2.2.1) (b.2.2.2.2.2.1)).trans h2
  simp only [Bool.false_and]
  refine cr Tryz.func35 Tryz.ntmps35 fun X w hE=> ?_
  simp only [ar,Nat.zero_add,Nat.reduceAdd]
  repeat' first|kernel_rfl|apply Bt.mk|refine nx ?_|refine bi rfl a_ ?_|refine bh rfl ?_|refine bj rfl ?_|apply ae|refine aO rfl ?_|exact a_|intro _
 have e2:=(bm (a.2.2.2.2.2.1) (b.2.2.2.2.2.1)).trans h2
 simp only [Bool.true_and]
 cases h3:decide (a.2.2.2.2.2.2.1=b.2.2.2.2.2.2.1)
 ·have e3:=(bm (a.2.2.2.2.2.2.1) (b.2.2.2.2.2.2.1)).trans h3
  simp only [Bool.false_and]
  refine cr Tryz.func35 Tryz.ntmps35 fun X w hE=> ?_
  simp only [ar,Nat.zero_add,Nat.reduceAdd]
  repeat' first|kernel_rfl|apply Bt.mk|refine nx ?_|refine bi rfl a_ ?_|refine bh rfl ?_|refine bj rfl ?_|apply ae|refine aO rfl ?_|exact a_|intro _
 have e3:=(bm (a.2.2.2.2.2.2.1) (b.2.2.2.2.2.2.1)).trans h3
 simp only [Bool.true_and]
 have k4:=fD (a:=a.2.2.2.2.2.2.2.1) (b:=b.2.2.2.2.2.2.2.1)
 cases h4:decide (a.2.2.2.2.2.2.2.1=b.2.2.2.2.2.2.2.1)
 ·rw [h4] at k4
  simp only [Bool.false_and]
  refine cr Tryz.func35 Tryz.ntmps35 fun X w hE=> ?_
  simp only [ar,Nat.zero_add,Nat.reduceAdd]
  repeat' first|kernel_rfl|apply Bt.mk|refine nx ?_|refine bi rfl a_ ?_|refine bh rfl ?_|refine bj rfl ?_|apply ae|refine aO rfl ?_|exact a_|intro _
 rw [h4] at k4
 simp only [Bool.true_and]
 have k5:=fD (a:=a.2.2.2.2.2.2.2.2.1) (b:=b.2.2.2.2.2.2.2.2.1)
 cases h5:decide (a.2.2.2.2.2.2.2.2.1=b.2.2.2.2.2.2.2.2.1)
 ·rw [h5] at k5
  simp only [Bool.false_and]
  refine cr Tryz.func35 Tryz.ntmps35 fun X w hE=> ?_
  simp only [ar,Nat.zero_add,Nat.reduceAdd]
  repeat' first|kernel_rfl|apply Bt.mk|refine nx ?_|refine bi rfl a_ ?_|refine bh rfl ?_|refine bj rfl ?_|apply ae|refine aO rfl ?_|exact a_|intro _
 rw [h5] at k5
 simp only [Bool.true_and]
 have e6:=bm (a.2.2.2.2.2.2.2.2.2.1) (b.2.2.2.2.2.2.2.2.2.1)
 refine cr Tryz.func35 Tryz.ntmps35 fun X w hE=> ?_
 simp only [ar,Nat.zero_add,Nat.reduceAdd]
 repeat' first|kernel_rfl|apply Bt.mk|refine nx ?_|refine bi rfl a_ ?_|refine bh rfl ?_|refine bj rfl ?_|apply ae|refine aO rfl ?_|exact a_|intro _
theorem oF {a b:aI}:decide (a=b)=(decide (a.1=b.1)&&(decide (a.2.1=b.2.1)&&(decide (a.2.2.1=b.2.2.1)&&(eK a b&&(decide (a.2.2.2.2.2.2.2.2.2.2.1=b.2.2.2.2.2.2.2.2.2.2.1)&&(decide (a.2.2.2.2.2.2.2.2.2.2.2.1=b.2.2.2.2.2.2.2.2.2.2.2.1)&&decide (a.2.2.2.2.2.2.2.2.2.2.2.2=b.2.2.2.2.2.2.2.2.2.2.2.2))))))):=by
 unfold eK
 rw [ah,ah (a:=a.2),ah (a:=a.2.2),ah (a:=a.2.2.2),ah (a:=a.2.2.2.2),ah (a:=a.2.2.2.2.2),ah (a:=a.2.2.2.2.2.2),ah (a:=a.2.2.2.2.2.2.2),ah (a:=a.2.2.2.2.2.2.2.2),ah (a:=a.2.2.2.2.2.2.2.2.2),ah (a:=a.2.2.2.2.2.2.2.2.2.2),ah (a:=a.2.2.2.2.2.2.2.2.2.2.2)]
 simp only [Bool.and_assoc]
theorem vr {a b:aI}:cw Tryz.prog S1 8 [0,0] [.ra ai a, .ra ai b] (fun _=> .is (.bool (decide (a=b)))):=by
 rw [oF]
 cases h0:decide (a.1=b.1)
 ·have e0:=(bm (a.1) (b.1)).trans h0
  simp only [Bool.false_and]
  refine cr Tryz.func8 Tryz.ntmps8 fun X w hE=> ?_
  simp only [ar,Nat.zero_add,Nat.reduceAdd]
  repeat' first|kernel_rfl|apply Bt.mk|refine nx ?_|refine bi rfl a_ ?_|refine bh rfl ?_|refine bj rfl ?_|apply ae|refine aO rfl ?_|exact a_|intro _
 have e0:=(bm (a.1) (b.1)).trans h0
 simp only [Bool.true_and]
 cases h1:decide (a.2.1=b.2.1)
 ·have e1:=(bm (a.2.1) (b.2.1)).trans h1
  simp only [Bool.false_and]
  refine cr Tryz.func8 Tryz.ntmps8 fun X w hE=> ?_
  simp only [ar,Nat.zero_add,Nat.reduceAdd]
  repeat' first|kernel_rfl|apply Bt.mk|refine nx ?_|refine bi rfl a_ ?_|refine bh rfl ?_|refine bj rfl ?_|apply ae|refine aO rfl ?_|exact a_|intro _
 have e1:=(bm (a.2.1) (b.2.1)).trans h1
 simp only [Bool.true_and]
 have k2:=ub (l:=a.2.2.1) (m:=b.2.2.1) (g:=34) (fun x _ y _=>pB)
 cases h2:decide (a.2.2.1=b.2.2.1)
 ·rw [h2] at k2
  simp only [Bool.false_and]
  refine cr Tryz.func8 Tryz.ntmps8 fun X w hE=> ?_
  simp only [ar,Nat.zero_add,Nat.reduceAdd]
  repeat' first|kernel_rfl|apply Bt.mk|refine nx ?_|refine bi rfl a_ ?_|refine bh rfl ?_|refine bj rfl ?_|apply ae|refine aO rfl ?_|exact a_|intro _
 rw [h2] at k2
 simp only [Bool.true_and]
 have k3:=yb (a:=a) (b:=b)
 cases h3:eK a b
 ·rw [h3] at k3
  simp only [Bool.false_and]
  refine cr Tryz.func8 Tryz.ntmps8 fun X w hE=> ?_
  simp only [ar,Nat.zero_add,Nat.reduceAdd]
  repeat' first|kernel_rfl|apply Bt.mk|refine nx ?_|refine bi rfl a_ ?_|refine bh rfl ?_|refine bj rfl ?_|apply ae|refine aO rfl ?_|exact a_|intro _
 rw [h3] at k3
 simp only [Bool.true_and]
 have k4:=ya (l:=a.2.2.2.2.2.2.2.2.2.2.1) (m:=b.2.2.2.2.2.2.2.2.2.2.1) (g:=37) (fun x _ y _=>sk)
 cases h4:decide (a.2.2.2.2.2.2.2.2.2.2.1=b.2.2.2.2.2.2.2.2.2.2.1)
 ·rw [h4] at k4
  simp only [Bool.false_and]
  refine cr Tryz.func8 Tryz.ntmps8 fun X w hE=> ?_
  simp only [ar,Nat.zero_add,Nat.reduceAdd]
  repeat' first|kernel_rfl|apply Bt.mk|refine nx ?_|refine bi rfl a_ ?_|refine bh rfl ?_|refine bj rfl ?_|apply ae|refine aO rfl ?_|exact a_|intro _
 rw [h4] at k4
 simp only [Bool.true_and]
 have k5:=BK (l:=a.2.2.2.2.2.2.2.2.2.2.2.1) (m:=b.2.2.2.2.2.2.2.2.2.2.2.1)
 cases h5:decide (a.2.2.2.2.2.2.2.2.2.2.2.1=b.2.2.2.2.2.2.2.2.2.2.2.1)
 ·rw [h5] at k5
  simp only [Bool.false_and]
  refine cr Tryz.func8 Tryz.ntmps8 fun X w hE=> ?_
  simp only [ar,Nat.zero_add,Nat.reduceAdd]
  repeat' first|kernel_rfl|apply Bt.mk|refine nx ?_|refine bi rfl a_ ?_|refine bh rfl ?_|refine bj rfl ?_|apply ae|refine aO rfl ?_|exact a_|intro _
 rw [h5] at k5
 simp only [Bool.true_and]
 have k6:=zF (l:=a.2.2.2.2.2.2.2.2.2.2.2.2) (m:=b.2.2.2.2.2.2.2.2.2.2.2.2) (g:=40) (fun x _ y _=>vc)
 refine cr Tryz.func8 Tryz.ntmps8 fun X w hE=> ?_
 simp only [ar,Nat.zero_add,Nat.reduceAdd]
 repeat' first|kernel_rfl|apply Bt.mk|refine nx ?_|refine bi rfl (by first|exact sc trivial k6|exact a_) ?_|refine bh rfl ?_|refine bj rfl ?_|apply ae|refine aO rfl ?_|exact sc trivial k6|exact a_|intro _
end Go.Proofs.YtjjkikchncfekaaGreatDoor
