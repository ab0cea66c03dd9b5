/- A filing's text in lines and words, as plain lists of bytes: byte by byte, and as the program cuts it; what is shown; texts behind one another. No program stands in it. -/
import Derived.Test.YtcpeiijdgabenaaGreatDoorEL
import Derived.Test.YtcpeiijdgabenaaGreatDoorEK
import Derived.Test.YtcpeiijdgabenaaGreatDoorEG
import Derived.Test.YtcpeiijdgabenaaGreatDoorShelf
import Derived.Lib.Builder
import Derived.Lib.AppendStr
import Derived.Lib.FrozenHead
set_option maxHeartbeats 4000000
set_option maxRecDepth 20000
set_option synthInstance.maxHeartbeats 400000
set_option synthInstance.maxSize 4000
set_option linter.unusedSimpArgs false
set_option linter.unusedVariables false
namespace Go.Proofs.YtcpeiijdgabenaaGreatDoor
open Go Go.RowKit
variable {w w00 w0:World} {k i n B s r j:Nat} {X ks X0 ks':List Nat} {T T0 T1:ai} {v:Value} {o:Operand} {P:Program} {a la:Int} {f:FuncId} {e ty:TypeId} {As As':List ai} {L:List Loc} {E:List (Nat×ai)} {c:List Value} {b rem op:Bool}
def iE (c:UInt8):Bool:=decide (33≤(c.toNat:Int))&&decide ((c.toNat:Int)≤126)&& !((c.toNat:Int)==35)
def gf (c:UInt8):Bool:=(c.toNat:Int)==32 || (c.toNat:Int)==9
abbrev Wd:=List UInt8×Int
abbrev Ln:=List Wd×Int
def vZ (out:List Ln) (ws:List Wd) (la:Int):List Ln:=bif ws.isEmpty then out else out++[(ws,la)]
def wc:List Wd→UInt8→List Wd
 |[],_=>[]
 |[w],c=>[(w.1++[c],w.2)]
 |w::v::ws,c=>w::wc (v::ws) c
theorem vp:∀ (ws:List Wd) (t:List UInt8) (a:Int) (c:UInt8),wc (ws++[(t,a)]) c=ws++[(t++[c],a)]
 |[],_,_,_=>rfl
 |[w],_,_,_=>rfl
 |w::v::ws,t,a,c=>by
  show w::wc ((v::ws)++[(t,a)]) c=_
  rw [vp (v::ws)];rfl
def lx:List UInt8→Int→List Ln→List Wd→Int→Bool→Bool→List Ln×Int×Int
 |[],_,out,ws,la,_,_=>(vZ out ws la,0,0)
 |c::r,i,out,ws,la,rem,op=>
  bif (c.toNat:Int)==10 then lx r (i+1) (vZ out ws la) [] (i+1) false false
  else bif rem || (c.toNat:Int)==35 then lx r (i+1) out ws la true false
  else bif gf c then lx r (i+1) out ws la false false
  else bif !iE c then ([],i,70)
  else bif op then lx r (i+1) out (wc ws c) la false true
  else lx r (i+1) out (ws++[([c],i)]) la false true
def kN (s:List UInt8):List Ln×Int×Int:=bif decide (65536<s.length) then ([],0,3) else lx s 0 [] [] 0 false false
def jJ (ws:List Wd):List (List UInt8):=ws.map Prod.fst
def m8 (ls:List Ln):List (List (List UInt8)):=ls.map fun x=>jJ x.1
theorem Dl (a b:List Ln):m8 (a++b)=m8 a++m8 b:=List.map_append
theorem xk (a b:List Wd):jJ (a++b)=jJ a++jJ b:=List.map_append
theorem xw (out:List Ln) (ws:List Wd) (la:Int):m8 (vZ out ws la)=m8 out++bif ws.isEmpty then [] else [jJ ws]:=by
 unfold vZ
 cases ws.isEmpty
 ·simp only [cond_false];rw [Dl];rfl
 ·exact (List.append_nil _).symm
def jW (t:List UInt8):Bool:= !(t==[])&&t.all iE
theorem Cz {c:UInt8} (h:iE c=true):((c.toNat:Int)==10)=false∧((c.toNat:Int)==35)=false∧gf c=false:=by
 unfold iE at h
 unfold gf
 simp only [Bool.and_eq_true,decide_eq_true_eq,Bool.not_eq_true',beq_eq_false_iff_ne] at h
 obtain ⟨⟨h1,h2⟩,h3⟩:=h
 refine ⟨beq_eq_false_iff_ne.2 qO,beq_eq_false_iff_ne.2 h3,?_⟩
 rw [Bool.or_eq_false_iff]
 exact ⟨beq_eq_false_iff_ne.2 qO,beq_eq_false_iff_ne.2 qO⟩
theorem It {c:UInt8} (h:iE c=true) (r:List UInt8) (i:Int) (out:List Ln) (ws:List Wd) (la:Int) (op:Bool):lx (c::r) i out ws la false op=bif op then lx r (i+1) out (wc ws c) la false true else lx r (i+1) out (ws++[([c],i)]) la false true:=by
 obtain ⟨h1,h2,h3⟩:=Cz h
 show (bif (c.toNat:Int)==10 then _ else bif false || (c.toNat:Int)==35 then _ else bif gf c then _ else bif !iE c then _ else _)=_
 rw [h1,h2,h3,h]
 rfl
theorem Ah:∀ (w t:List UInt8) (r:List UInt8) (i a:Int) (out:List Ln) (ws:List Wd) (la:Int),w.all iE=true→lx (w++r) i out (ws++[(t,a)]) la false true=lx r (i+w.length) out (ws++[(t++w,a)]) la false true
 |[],t,r,i,a,out,ws,la,_=>by simp
 |c::w,t,r,i,a,out,ws,la,h=>by
  simp only [List.all_cons,Bool.and_eq_true] at h
  rw [List.cons_append,It h.1,cond_true,vp,Ah w _ _ _ _ _ _ _ h.2,List.append_assoc,List.length_cons]
  rw [show i+1+(w.length:Int)=i+((w.length+1:Nat):Int) by omega]
  rfl
theorem Dr {w:List UInt8} (h:jW w=true) (r:List UInt8) (i:Int) (out:List Ln) (ws:List Wd) (la:Int):lx (w++r) i out ws la false false=lx r (i+w.length) out (ws++[(w,i)]) la false true:=by
 unfold jW at h
 rw [Bool.and_eq_true] at h
 cases w with
 |nil=>cases h.1
 |cons c w=>
  have h2:=h.2
  simp only [List.all_cons,Bool.and_eq_true] at h2
  rw [List.cons_append,It h2.1,cond_false,Ah w _ _ _ _ _ _ _ h2.2,List.length_cons]
  rw [show i+1+(w.length:Int)=i+((w.length+1:Nat):Int) by omega]
  rfl
def Cq (x:List (List UInt8)):Bool:= !x.isEmpty&&x.all jW
theorem zq {w:List UInt8} {c:UInt8} (hw:jW w=true) (hc:iE c=true):jW (w++[c])=true:=by
 unfold jW at*
 rw [Bool.and_eq_true] at*
 refine ⟨by cases w<;>rfl,?_⟩
 rw [List.all_append,hw.2]
 simp [hc]
theorem z8:∀ (ws:List Wd) (c:UInt8),iE c=true→(jJ ws).all jW=true→(jJ (wc ws c)).all jW=true
 |[],_,_,h=>h
 |[w],c,hc,h=>by
  have:jW w.1=true:=by simpa [jJ] using h
  show (jW (w.1++[c])&&true)=true
  rw [zq this hc];rfl
 |w::v::ws,c,hc,h=>by
  have h':jW w.1=true∧(jJ (v::ws)).all jW=true:=by simpa [jJ] using h
  show (jW w.1&&(jJ (wc (v::ws) c)).all jW)=true
  rw [h'.1,z8 (v::ws) c hc h'.2];rfl
theorem zM {out:List Ln} {ws:List Wd} (la:Int) (ho:(m8 out).all Cq=true) (hw:(jJ ws).all jW=true):(m8 (vZ out ws la)).all Cq=true:=by
 rw [xw,List.all_append,ho,Bool.true_and]
 cases ws with
 |nil=>rfl
 |cons v ws=>
  show (Cq (jJ (v::ws))&&true)=true
  unfold Cq
  rw [hw]
  rfl
theorem so:∀ (l:List UInt8) (i:Int) (out:List Ln) (ws:List Wd) (la:Int) (rem op:Bool),(m8 out).all Cq=true→(jJ ws).all jW=true→(m8 (lx l i out ws la rem op).1).all Cq=true
 |[],_,out,ws,la,_,_,ho,hw=>zM la ho hw
 |c::r,i,out,ws,la,rem,op,ho,hw=>by
  unfold lx
  cases ((c.toNat:Int)==10)
  ·cases (rem || (c.toNat:Int)==35)<;>simp only [cond_true,cond_false]
   ·cases (gf c)<;>simp only [cond_true,cond_false]
    ·cases hc:iE c<;>simp only [cond_true,cond_false,Bool.not_true,Bool.not_false]
     ·rfl
     ·cases op<;>simp only [cond_true,cond_false]
      ·refine so r _ _ _ _ _ _ ho ?_
       rw [xk,List.all_append,hw]
       show (true&&(jW [c]&&true))=true
       unfold jW
       simp [hc]
      ·exact so r _ _ _ _ _ _ ho (z8 ws c hc hw)
    ·exact so r _ _ _ _ _ _ ho hw
   ·exact so r _ _ _ _ _ _ ho hw
  ·exact so r _ _ _ _ _ _ (zM la ho hw) rfl
def ww (x:List (List UInt8)):Nat:=(x.map fun t=>t.length+1).sum
def wl (ls:List (List (List UInt8))):Nat:=(ls.map ww).sum
theorem FP (a b:List (List UInt8)):ww (a++b)=ww a+ww b:=by unfold ww;rw [List.map_append,List.sum_append]
theorem F9 (a b:List (List (List UInt8))):wl (a++b)=wl a+wl b:=by unfold wl;rw [List.map_append,List.sum_append]
theorem Cg:∀ (ws:List Wd) (c:UInt8),ww (jJ (wc ws c))≤ww (jJ ws)+1
 |[],_=>by simp [wc,jJ,ww]
 |[w],c=>by simp [wc,jJ,ww]
 |w::v::ws,c=>by
  have:=Cg (v::ws) c
  have e:ww (jJ (wc (w::v::ws) c))=w.1.length+1+ww (jJ (wc (v::ws) c)):=by simp [wc,jJ,ww]
  have e2:ww (jJ (w::v::ws))=w.1.length+1+ww (jJ (v::ws)):=by simp [jJ,ww]
  omega
theorem Aq (out:List Ln) (ws:List Wd) (la:Int):wl (m8 (vZ out ws la))=wl (m8 out)+ww (jJ ws):=by
 rw [xw,F9]
 cases ws with
 |nil=>simp [wl,jJ,ww]
 |cons v ws=>simp [wl]
theorem nT:∀ (l:List UInt8) (i:Int) (out:List Ln) (ws:List Wd) (la:Int) (rem op:Bool),wl (m8 (lx l i out ws la rem op).1)≤wl (m8 out)+ww (jJ ws)+l.length+bif op then 0 else 1
 |[],_,out,ws,la,_,op=>by
  show wl (m8 (vZ out ws la))≤_
  rw [Aq];omega
 |c::r,i,out,ws,la,rem,op=>by
  unfold lx
  rw [List.length_cons]
  cases ((c.toNat:Int)==10)
  ·cases (rem || (c.toNat:Int)==35)<;>simp only [cond_true,cond_false]
   ·cases (gf c)<;>simp only [cond_true,cond_false]
    ·cases iE c<;>simp only [cond_true,cond_false,Bool.not_true,Bool.not_false]
     ·show 0≤_;omega
     ·cases op<;>simp only [cond_true,cond_false]
      ·have:=nT r (i+1) out (ws++[([c],i)]) la false true
       rw [xk,FP] at this
       have e:ww (jJ [([c],i)])=2:=by simp [jJ,ww]
       rw [e] at this
       simp only [cond_true] at this
       omega
      ·have:=nT r (i+1) out (wc ws c) la false true
       have:=Cg ws c
       simp only [cond_true] at*
       omega
    ·have:=nT r (i+1) out ws la false false
     simp only [cond_false] at this
     cases op<;>simp only [cond_true,cond_false]<;>omega
   ·have:=nT r (i+1) out ws la true false
    simp only [cond_false] at this
    cases op<;>simp only [cond_true,cond_false]<;>omega
  ·have:=nT r (i+1) (vZ out ws la) [] (i+1) false false
   rw [Aq] at this
   simp only [cond_true,cond_false] at*
   have e:ww (jJ [])=0:=rfl
   rw [e] at this
   cases op<;>simp only [cond_true,cond_false]<;>omega
def pC:Nat→List UInt8→Int→List Wd×List UInt8
 |0,l,_=>([],l)
 |n+1,l,a=>bif (l.dropWhile gf).takeWhile iE==[] then ([],l.dropWhile gf) else
  (((l.dropWhile gf).takeWhile iE,a+((l.takeWhile gf).length:Int))::(pC n ((l.dropWhile gf).dropWhile iE) (a+((l.takeWhile gf).length:Int)+(((l.dropWhile gf).takeWhile iE).length:Int))).1,
    (pC n ((l.dropWhile gf).dropWhile iE) (a+((l.takeWhile gf).length:Int)+(((l.dropWhile gf).takeWhile iE).length:Int))).2)
def pg (c:UInt8):Bool:= !((c.toNat:Int)==10)
def Ik (l:List UInt8):Bool:=match l with
 |[]=>false
 |c::_=>(c.toNat:Int)==35
def Dt (l:List UInt8):List UInt8:=bif Ik l then l.dropWhile pg else l
def yq (l:List UInt8) (a:Int):List Wd:=(pC (l.length+1) l a).1
def z5 (l:List UInt8) (a:Int):List UInt8:=Dt (pC (l.length+1) l a).2
theorem Dw {c:UInt8} (h:gf c=true):((c.toNat:Int)==10)=false∧((c.toNat:Int)==35)=false:=by
 unfold gf at h
 rw [Bool.or_eq_true,beq_iff_eq,beq_iff_eq] at h
 exact ⟨beq_eq_false_iff_ne.2 qO,beq_eq_false_iff_ne.2 qO⟩
theorem I4 {c:UInt8} (h:gf c=true) (r:List UInt8) (i:Int) (out:List Ln) (ws:List Wd) (la:Int) (op:Bool):lx (c::r) i out ws la false op=lx r (i+1) out ws la false false:=by
 obtain ⟨h1,h2⟩:=Dw h
 show (bif (c.toNat:Int)==10 then _ else bif false || (c.toNat:Int)==35 then _ else bif gf c then _ else bif !iE c then _ else _)=_
 rw [h1,h2,h]
 rfl
theorem xF:∀ (l:List UInt8) (i:Int) (out:List Ln) (ws:List Wd) (la:Int),lx l i out ws la false false=lx (l.dropWhile gf) (i+((l.takeWhile gf).length:Int)) out ws la false false
 |[],i,out,ws,la=>by simp
 |c::r,i,out,ws,la=>by
  cases h:gf c
  ·simp [h]
  ·rw [I4 h,xF r]
   simp only [List.dropWhile_cons,List.takeWhile_cons,h,if_true,List.length_cons]
   rw [show i+1+((r.takeWhile gf).length:Int)=i+(((r.takeWhile gf).length+1:Nat):Int) by omega]
def nW (l:List UInt8):Prop:=∀ c r,l=c::r→iE c=false
theorem Ix {l:List UInt8} (h:nW l) (i:Int) (out:List Ln) (ws:List Wd) (la:Int):lx l i out ws la false true=lx l i out ws la false false:=by
 cases l with
 |nil=>rfl
 |cons c r=>
  have hc:=h c r rfl
  unfold lx
  rw [hc]
  rfl
theorem kt {p:UInt8→Bool}:∀ (l:List UInt8) {c:UInt8} {r:List UInt8},l.dropWhile p=c::r→p c=false
 |[],_,_,h=>by cases h
 |x::l,c,r,h=>by
  rw [List.dropWhile_cons] at h
  cases hx:p x with
  |true=>rw [hx] at h;exact kt l h
  |false=>
   rw [hx] at h
   simp at h
   rw [←h.1];exact hx
theorem rF {p:UInt8→Bool}:∀ (l:List UInt8),(l.takeWhile p).all p=true
 |[]=>rfl
 |x::l=>by
  cases hx:p x with
  |true=>simp only [List.takeWhile_cons,hx,if_true,List.all_cons,rF l,Bool.true_and]
  |false=>simp [hx]
theorem yX {p:UInt8→Bool} {c:UInt8} {r:List UInt8} (h:((c::r).takeWhile p==[])=true):p c=false:=by
 cases hc:p c with
 |false=>rfl
 |true=>simp [hc] at h
theorem G9 (p:UInt8→Bool) (l:List UInt8):l.length=(l.takeWhile p).length+(l.dropWhile p).length:=by
 have:=congrArg List.length (List.takeWhile_append_dropWhile (p:=p) (l:=l))
 rw [List.length_append] at this
 exact this.symm
theorem Br:∀ (n:Nat) (l:List UInt8) (a:Int),(pC n l a).2.length≤l.length
 |0,l,_=>Nat.le_refl _
 |n+1,l,a=>by
  have h1:=G9 gf l
  have h2:=G9 iE (l.dropWhile gf)
  unfold pC
  cases ((l.dropWhile gf).takeWhile iE==[])
  ·have:=Br n ((l.dropWhile gf).dropWhile iE) (a+((l.takeWhile gf).length:Int)+(((l.dropWhile gf).takeWhile iE).length:Int))
   simp only [cond_false]
   omega
  ·simp only [cond_true];omega
theorem AA:∀ (n:Nat) (l:List UInt8) (a:Int),l.length<n→∀ (out:List Ln) (ws:List Wd) (la:Int),
 lx l a out ws la false false=lx (pC n l a).2 (a+(l.length:Int) - ((pC n l a).2.length:Int)) out (ws++(pC n l a).1) la false false∧∀ c r,(pC n l a).2=c::r→iE c=false∧gf c=false
 |0,l,a,h,_,_,_=>absurd h (Nat.not_lt_zero _)
 |n+1,l,a,h,out,ws,la=>by
  have h1:=G9 gf l
  have h2:=G9 iE (l.dropWhile gf)
  have hs:=xF l a out ws la
  unfold pC
  cases hw:((l.dropWhile gf).takeWhile iE==[])
  ·simp only [cond_false]
   have hne:jW ((l.dropWhile gf).takeWhile iE)=true:=by
    unfold jW
    rw [hw,rF];rfl
   have hpos:0<((l.dropWhile gf).takeWhile iE).length:=by
    rcases Nat.eq_zero_or_pos ((l.dropWhile gf).takeWhile iE).length with e|e
    ·rw [List.length_eq_zero_iff.1 e] at hw;cases hw
    ·exact e
   have hd:nW ((l.dropWhile gf).dropWhile iE):=fun c r e=>kt _ e
   have hwd:=Dr hne ((l.dropWhile gf).dropWhile iE) (a+((l.takeWhile gf).length:Int)) out ws la
   rw [List.takeWhile_append_dropWhile] at hwd
   obtain ⟨g1,g2⟩:=AA n ((l.dropWhile gf).dropWhile iE) (a+((l.takeWhile gf).length:Int)+(((l.dropWhile gf).takeWhile iE).length:Int)) qO out (ws++[((l.dropWhile gf).takeWhile iE,a+((l.takeWhile gf).length:Int))]) la
   refine ⟨?_,g2⟩
   rw [hs,hwd,Ix hd,g1,List.append_assoc]
   congr 1
   omega
  ·simp only [cond_true]
   refine ⟨?_,fun c r e=> ?_⟩
   ·rw [hs,List.append_nil]
    congr 1
    omega
   ·rw [e] at hw
    exact ⟨yX hw,kt _ e⟩
theorem AF:∀ (l:List UInt8) (i:Int) (out:List Ln) (ws:List Wd) (la:Int),lx l i out ws la true false=lx (l.dropWhile pg) (i+((l.takeWhile pg).length:Int)) out ws la true false
 |[],i,out,ws,la=>by simp
 |c::r,i,out,ws,la=>by
  cases h:((c.toNat:Int)==10)
  ·have hn:pg c=true:=by unfold pg;rw [h];rfl
   have e:lx (c::r) i out ws la true false=lx r (i+1) out ws la true false:=by
    show (bif (c.toNat:Int)==10 then _ else bif true || (c.toNat:Int)==35 then _ else _)=_
    rw [h];rfl
   rw [e,AF r]
   simp only [List.dropWhile_cons,List.takeWhile_cons,hn,if_true,List.length_cons]
   rw [show i+1+((r.takeWhile pg).length:Int)=i+(((r.takeWhile pg).length+1:Nat):Int) by omega]
  ·have hn:pg c=false:=by unfold pg;rw [h];rfl
   simp [hn]
def tC (l:List UInt8) (a:Int) (out:List Ln) (la:Int):List Ln×Int×Int:=match z5 l a with
 |[]=>(vZ out (yq l a) la,0,0)
 |c::r=>bif (c.toNat:Int)==10 then lx r (a+(l.length:Int) - ((c::r).length:Int)+1) (vZ out (yq l a) la) [] (a+(l.length:Int) - ((c::r).length:Int)+1) false false else ([],a+(l.length:Int) - ((c::r).length:Int),70)
theorem rT (l:List UInt8) (a:Int) (out:List Ln) (la:Int):lx l a out [] la false false=tC l a out la:=by
 obtain ⟨g1,g2⟩:=AA (l.length+1) l a (Nat.lt_succ_self _) out [] la
 rw [g1,List.nil_append]
 have hle:=Br (l.length+1) l a
 unfold tC z5 yq
 generalize (pC (l.length+1) l a).1=ws at*
 generalize (pC (l.length+1) l a).2=t at*
 clear g1
 cases t with
 |nil=>rfl
 |cons c r=>
  obtain ⟨hw,hb⟩:=g2 c r rfl
  cases h:((c.toNat:Int)==35) with
  |false=>
   have e:Dt (c::r)=c::r:=by
    show (bif (c.toNat:Int)==35 then _ else _)=_
    rw [h];rfl
   rw [e]
   show (bif (c.toNat:Int)==10 then _ else bif false || (c.toNat:Int)==35 then _ else bif gf c then _ else bif !iE c then _ else _)=_
   rw [h,hw,hb]
   rfl
  |true=>
   have h10:((c.toNat:Int)==10)=false:=by
    rw [beq_iff_eq] at h
    exact beq_eq_false_iff_ne.2 qO
   have e:Dt (c::r)=r.dropWhile pg:=by
    show (bif (c.toNat:Int)==35 then _ else _)=_
    rw [h]
    have hn:pg c=true:=by unfold pg;rw [h10];rfl
    simp only [cond_true,List.dropWhile_cons,hn,if_true]
   rw [e]
   have e2:∀ i,lx (c::r) i out ws la false false=lx r (i+1) out ws la true false:=fun i=>by
    show (bif (c.toNat:Int)==10 then _ else bif false || (c.toNat:Int)==35 then _ else _)=_
    rw [h10,h];rfl
   rw [e2,AF]
   have hl:=G9 pg r
   cases hd:r.dropWhile pg with
   |nil=>rfl
   |cons x q=>
    have hx:((x.toNat:Int)==10)=true:=by
     have:=kt _ hd
     unfold pg at this
     simpa using this
    rw [hd] at hl
    show (bif (x.toNat:Int)==10 then _ else _)=_
    simp only [hx,cond_true]
    rw [List.length_cons] at hle hl
    rw [show a+(l.length:Int) - ((c::r).length:Int)+1+((r.takeWhile pg).length:Int)=a+(l.length:Int) - ((x::q).length:Int) by
     rw [List.length_cons,List.length_cons];omega]
abbrev tt {α:Type}:α→Prop:=fun _=>True
section
variable {P:Program} {w00:World} {N:Nat} {L:List Loc} {E:List (Nat×ai)} {d:Nat} {t0:TypeId} {pos:String} {af:Array Edge} {gd:Option (Nat×Bool)} {ats:Array TypeId}
theorem Ez{o1 o2:Operand} {l:List UInt8} {x y:Int} [ho:b_ E o (.is (Tx l))] [h1:b_ E o1 (.is (.int .i64 x))] [h2:b_ E o2 (.is (.int .i64 y))] [ht:wB P ty] (hx:0≤x∧x≤y∧y≤(l.length:Int)):aR P w00 N L E ⟨some d, .slice ty o (some o1) (some o2) none,t0,pos,af,gd⟩ (.is (Tx ((l.take y.toNat).drop x.toNat))):=by
 constructor
 intro X ρ w hc _ hN hm hsl
 have e0:ρ o=Tx l:=ho.get (X:=X) (w:=w) hc fun p hp e=>hsl p hp qS
 have e1:ρ o1= .int .i64 x:=h1.get (X:=X) (w:=w) hc fun p hp e=>hsl p hp qS
 have e2:ρ o2= .int .i64 y:=h2.get (X:=X) (w:=w) hc fun p hp e=>hsl p hp qS
 have hu:=ht.ok
 obtain ⟨hx0,hx1,hx2⟩:=hx
 have e3:=wo l x.toNat y.toNat
 have e4:=fR l
 clear hc hsl ho ht h1 h2
 unfold Yields
 go_simp
 exact ⟨rfl,Below.refl _ _⟩
def ai.pcs (c:List Value):ai:=⟨fun X w v=>∃ b,v= .pointer (some ⟨b,0,none⟩)∧cZ X w b∧∀ (j:Nat) (u:Value),c[j]? =some u→w.cell? ⟨b,j,none⟩=some u,
 fun ⟨b,e,hb,h⟩ hk hX=>⟨b,e,cZ.mono hk hX b hb,fun j u hj=>(World.cell?_of_block (hk.block b hb.1 hb.2)).trans (h j u hj)⟩⟩
theorem tE[ho:b_ E o (.pcs c)]:aR P w00 N L E ⟨some d, .nilCheck o,t0,pos,af,gd⟩ (.pcs c):=by
 constructor
 intro X ρ w hc _ hN hm hsl
 have h:=ho.get (X:=X) (w:=w) hc fun p hp e=>hsl p hp qS
 have h':=h
 obtain ⟨b,e,hb,hcs⟩:=h'
 have hr:(execOp ρ ⟨some d, .nilCheck o,t0,pos,af,gd⟩).run P w= .ok (.value (.pointer (some ⟨b,0,none⟩))) w:=by
  clear hc hsl ho hm h hcs hb
  go_simp
 unfold Yields
 rw [hr]
 exact ⟨by rw [←e];exact h,Below.refl _ _⟩
theorem tL{fo:Nat} {ag:Bool} {u:Value} [hs:ce E s (.pcs c)] [hf:aP P ty i fo k ag] [hn:Cp c fo u]:aR P w00 N L E ⟨some d, .fieldAddr ty (.tmp s) i,t0,pos,af,gd⟩ (.pv u):=by
 constructor
 intro X ρ w hc _ hN hm hsl
 obtain ⟨b,e,hb,hcs⟩:=hsl _ hs.mem qI
 have e':ρ (.tmp s)= .pointer (some ⟨b,0,none⟩):=e
 obtain ⟨fs,f,h1,h2,h3,h4,h5,_⟩:=hf.ok
 have hz:(sizeOf f.type).run P w= .ok k w:=by
  cases hq:P.info? f.type with
  |none=>rw [hq] at h4;cases h4
  |some q=>
   rw [hq] at h4
   have:q.size=k:=by simpa using h4
   simp [sizeOf,typeInfo,hq,this]
 have hrun:(execOp ρ ⟨some d, .fieldAddr ty (.tmp s) i,t0,pos,af,gd⟩).run P w= .ok (.value (.pointer (some ⟨b,fo,none⟩))) w:=by
  unfold execOp
  simp only [e',Instr.fieldAt,Instr.sureAddr,fieldPlace,Sem.run_bind,Sem.run_pure,Result.andThen_ok,run_underlying h1 w,h2,hz,h5,if_false,h3,Addr.add_mid,Nat.zero_add]
 unfold Yields
 rw [hrun]
 exact ⟨⟨b,fo,rfl,hb,hcs _ _ hn.ok⟩,Below.refl _ _⟩
theorem bF.weakX{vs:List Value} (h:bF X w As vs):bF [] w As vs:=h.stable ⟨Nat.le_refl _,fun _ _ _=>rfl⟩ fun _ h _=>by cases h
theorem cY{G:World→Prop} {p:Nat} {os:List Operand} [hs:ce E p (.is (.pointer (some ⟨r,0,none⟩)))] [hl:ke L r T0] [cc:kf T0 c] [k:kR E os ks As] [sg:jL G] (hG:G w00) (h:dB P G f (0::ks) (.pcs c::As) (fun _=> .is v)):
 aR P w00 N L E ⟨some d, .call { callee:= .value (.func f),args:=(.tmp p::os).toArray,argTypes:=ats },t0,pos,af,gd⟩ (.is v):=by
 constructor
 intro X ρ w hc hf hN hm hsl
 have e1:ρ (.tmp p)= .pointer (some ⟨r,0,none⟩):=hsl _ hs.mem qJ
 have e:=k.get (X:=X) (w:=w) hc hf fun q hq he=>hsl q hq (by simpa [Op.operands,Call.operands] using .inr he)
 obtain ⟨g1,g2,u,ty,g3,g4⟩:=hm.loc _ hl.mem
 rw [cc.ok g3] at g4
 have hr:(execOp ρ ⟨some d, .call { callee:= .value (.func f),args:=(.tmp p::os).toArray,argTypes:=ats },t0,pos,af,gd⟩).run P w= .ok (.enter f (.pointer (some ⟨r,0,none⟩)::os.map ρ).toArray) w:=by
  have hff:=hf f
  have hen:=h.ent
  clear hsl h hm hN hc e k g3
  go_simp
  exact hen _ _
 unfold Yields
 rw [hr]
 refine (h.run (X:=[]) (sg.stab hG hm.below) (fun _ h=>by cases h) (vs:= .pointer (some ⟨r,0,none⟩)::os.map ρ) ⟨⟨r,rfl,⟨hm.far _ g1,fun h=>by cases h⟩,fun j u hj=>eX g4 (by simpa using hj)⟩,e.weakX⟩).mono ?_
 rintro e w' ⟨v,rfl,hT,hB⟩
 exact ⟨v,rfl,hT,hB⟩
def ai.fp (P:Program) (p:UInt8→Bool):ai:=⟨fun X w v=>∃ (f:FuncId) (us:List Value) (ks:List Nat) (Us:List ai),v= .func (.func f) #[] us.toArray∧bF X w Us us∧∀ c:UInt8,dB P S1 f ks (.is (.int .u8 (c.toNat:Int))::Us) (fun _=> .is (.bool (p c))),
 fun ⟨f,us,ks,Us,e,h,hc⟩ hk hX=>⟨f,us,ks,Us,e,h.stable hk hX,hc⟩⟩
theorem rL{p:UInt8→Bool} {c:UInt8} [hs:ce E s (.fp P p)] [ho:b_ E o (.is (.int .u8 (c.toNat:Int)))] (hb:p c=b):aR P w00 N L E ⟨some d, .call { callee:= .value (.tmp s),args:= #[o],argTypes:=ats },t0,pos,af,gd⟩ (.is (.bool b)):=by
 constructor
 intro X ρ w hc hf hN hm hsl
 obtain ⟨f,us,ks,Us,e,h,hct⟩:=hsl _ hs.mem qJ
 have e0:ρ o= .int .u8 (c.toNat:Int):=ho.get (X:=X) (w:=w) hc fun p hp e=>hsl p hp (by simp [Op.operands,Call.operands,e])
 have e':ρ (.tmp s)= .func (.func f) #[] us.toArray:=e
 have hr:(execOp ρ ⟨some d, .call { callee:= .value (.tmp s),args:= #[o],argTypes:=ats },t0,pos,af,gd⟩).run P w= .ok (.enter f (.int .u8 (c.toNat:Int)::us).toArray) w:=by
  have hen:=(hct c).ent
  clear hsl hm hN hc e h hf hct
  go_simp
  exact hen _ _
 unfold Yields
 rw [hr]
 subst hb
 refine ((hct c).run trivial hm.far (vs:= .int .u8 (c.toNat:Int)::us) ⟨rfl,h⟩).mono ?_
 rintro e w' ⟨v,rfl,hT,hB⟩
 exact ⟨v,rfl,hT,hB⟩
end
theorem dB.args{G:World→Prop} {T:Nat→ai} (h:dB P G f ks As T) (ha:∀ {X:List Nat} {w:World} {vs:List Value},bF X w As' vs→bF X w As vs):dB P G f ks' As' T:=⟨h.ent,h.down,fun hG hX hv=>h.run hG hX (ha hv)⟩
theorem mA.args{G:World→Prop} (h:mA P G f T0 ks As T1 T) (ha:∀ {X:List Nat} {w:World} {vs:List Value},bF X w As' vs→bF X w As vs):mA P G f T0 ks' As' T1 T:=⟨h.ent,fun hG hm hv=>h.run hG hm (ha hv)⟩
theorem Ig{p:UInt8→Bool} (h:∀ c:UInt8,dB P S1 f ks [.is (.int .u8 (c.toNat:Int))] (fun _=> .is (.bool (p c)))) (hv:(ai.fv f [] []).holds X w v):(ai.fp P p).holds X w v:=by
 obtain ⟨vs,us,e,h1,h2⟩:=hv
 match vs,us,h1,h2 with
 |[],[],_,_=>exact ⟨f,[],ks,[],e,trivial,h⟩
class bB {α:Type} {β:outParam Type} (r:Rp α) (off:Nat) (r':outParam (Rp β)) (f:outParam (α→β)):Prop where
 ok:∀ {w:World} {S:Nat→Prop} {a:α} {cs:List Value},r.rd w S a cs→∃ c1 c2 c3,cs=c1++c2++c3∧c1.length=off∧r'.rd w S (f a) c2
class K1 {α:Type} (r:Rp α):Prop where
 ok:r.k=1
instance:K1 Rp.str:=⟨rfl⟩
instance {k:IntKind}:K1 (Rp.int k):=⟨rfl⟩
instance {α:Type} {r:Rp α}:K1 r.row:=⟨rfl⟩
instance bB.fst {α β:Type} {r:Rp α} {s:Rp β}:bB (r.pair s) 0 r Prod.fst:=⟨fun ⟨c1,c2,e,h1,_⟩=>⟨[],c1,c2,e,rfl,h1⟩⟩
instance bB.snd {α β:Type} {r:Rp α} {s:Rp β} [k:K1 r]:bB (r.pair s) 1 s Prod.snd:=⟨fun ⟨c1,c2,e,h1,h2⟩=>⟨c1,c2,[],by rw [e,List.append_nil],(r.len h1).trans k.ok,h2⟩⟩
class fI {α:Type} (r:Rp α) (a:α) (T:outParam ai):Prop where
 ok:∀ {X:List Nat} {w:World} {v:Value},r.rd w (cZ X w) a [v]→T.holds X w v
instance {l:List UInt8}:fI Rp.str l (.is (Tx l)):=⟨fun ⟨t,e,h⟩=>by
 injection e with e _
 subst e
 show Value.string t=_
 rw [Ab t,h]⟩
instance {k:IntKind} {x:Int}:fI (Rp.int k) x (.is (.int k x)):=⟨fun h=>by
 injection (show [_]=[_] from h) with e _⟩
instance {α:Type} {r:Rp α} {l:List α}:fI r.row l (.rw r tt l):=⟨fun h=>⟨fun _ _=>trivial,h⟩⟩
section
variable {P:Program} {w00:World} {N:Nat} {L:List Loc} {E:List (Nat×ai)} {d:Nat} {t0:TypeId} {pos:String} {af:Array Edge} {gd:Option (Nat×Bool)} {ats:Array TypeId}
theorem uU{b o:Nat} {c1 c2 c3:List Value} (h:w.rangeAt b o (c1++c2++c3)):w.rangeAt b (o+c1.length) c2:=fun j v hv=>by
 have:=h (c1.length+j) v (by
  rw [List.append_assoc,List.getElem?_append_right (Nat.le_add_right _ _),Nat.add_sub_cancel_left,List.getElem?_append_left (List.getElem?_eq_some_iff.1 hv).1]
  exact hv)
 rwa [←Nat.add_assoc] at this
theorem fg{α β:Type} {r:Rp α} {r':Rp β} {p:α→Prop} {a:α} {g:α→β} {fo:Nat} {ag:Bool} [hs:ce E s (.pe r p a)] [hf:aP P ty i fo k ag] [hn:bB r fo r' g]:aR P w00 N L E ⟨some d, .fieldAddr ty (.tmp s) i,t0,pos,af,gd⟩ (.pe r' tt (g a)):=by
 constructor
 intro X ρ w hc _ hN hm hsl
 obtain ⟨_,b,o,cs,e,hb,hcs,hrd⟩:=hsl _ hs.mem qI
 have e':ρ (.tmp s)= .pointer (some ⟨b,o,none⟩):=e
 obtain ⟨fs,f,h1,h2,h3,h4,h5,_⟩:=hf.ok
 have hz:(sizeOf f.type).run P w= .ok k w:=by
  cases hq:P.info? f.type with
  |none=>rw [hq] at h4;cases h4
  |some q=>
   rw [hq] at h4
   have:q.size=k:=by simpa using h4
   simp [sizeOf,typeInfo,hq,this]
 have hrun:(execOp ρ ⟨some d, .fieldAddr ty (.tmp s) i,t0,pos,af,gd⟩).run P w= .ok (.value (.pointer (some ⟨b,o+fo,none⟩))) w:=by
  unfold execOp
  simp only [e',Instr.fieldAt,Instr.sureAddr,fieldPlace,Sem.run_bind,Sem.run_pure,Result.andThen_ok,run_underlying h1 w,h2,hz,h5,if_false,h3,Addr.add_mid]
 obtain ⟨c1,c2,c3,rfl,hl,hr⟩:=hn.ok hrd
 unfold Yields
 rw [hrun]
 exact ⟨⟨trivial,b,_,c2,rfl,hb,by rw [←hl];exact uU hcs,hr⟩,Below.refl _ _⟩
theorem eG{α:Type} {r:Rp α} {p:α→Prop} {a:α} [hs:ce E s (.pe r p a)] [k1:K1 r] [ht:eV P ty 1 false] [hn:fI r a T]:aR P w00 N L E ⟨some d, .load ty (.tmp s),t0,pos,af,gd⟩ T:=by
 constructor
 intro X ρ w hc _ hN hm hsl
 obtain ⟨_,b,o,cs,e,hb,hcs,hrd⟩:=hsl _ hs.mem qI
 have e':ρ (.tmp s)= .pointer (some ⟨b,o,none⟩):=e
 obtain ⟨dd,hu,hd⟩:=ht.row
 obtain ⟨u,rfl⟩:∃ u,cs=[u]:=List.length_eq_one_iff.1 ((r.len hrd).trans k1.ok)
 have hag:(isAgg ty).run P w= .ok false w:=by
  unfold isAgg
  rw [Sem.run_bind,run_underlying hu w]
  cases dd<;>first|rfl|cases hd
 have hcell:w.cell? ⟨b,o,none⟩=some u:=hcs 0 u rfl
 have hrun:(execOp ρ ⟨some d, .load ty (.tmp s),t0,pos,af,gd⟩).run P w= .ok (.value u) w:=by
  unfold execOp
  simp only [e',Instr.loadAt,Instr.sureAddr,loadVar,Sem.run_bind,Sem.run_pure,Result.andThen_ok,hag,run_load,hcell,if_false,Bool.false_eq_true]
 unfold Yields
 rw [hrun]
 exact ⟨hn.ok hrd,Below.refl _ _⟩
end
structure GQ (P:Program) (G:World→Prop) (f:FuncId) (T0:ai) (ks:List Nat) (As:List ai) (T1:ai) (T:Nat→ai):Prop where
 ent:bE P f
 down:∀ {B B':Nat} {X:List Nat} {w:World} {v:Value},B'≤B→(T B).holds X w v→(T B').holds X w v
 run:∀ {w00 w:World} {X:List Nat} {L0:List Loc} {r:Nat} {vs:List Value},G w→kO w00 X ((r,T0)::L0) w→bF X w As vs→Calls P f (.pointer (some ⟨r,0,none⟩)::vs).toArray w (fY w00 X ((r,T1)::L0) w (T w.heap.size))
theorem GQ.args{G:World→Prop} {T:Nat→ai} (h:GQ P G f T0 ks As T1 T) (ha:∀ {X:List Nat} {w:World} {vs:List Value},bF X w As' vs→bF X w As vs):GQ P G f T0 ks' As' T1 T:=⟨h.ent,h.down,fun hG hm hv=>h.run hG hm (ha hv)⟩
theorem bF.count:∀ {As:List ai} {vs:List Value},bF X w As vs→vs.length=As.length
 |[],[],_=>rfl
 |_::_,_::_,h=>by rw [List.length_cons,List.length_cons,h.2.count]
 |[],_::_,h=>h.elim
 |_::_,[],h=>h.elim
section
variable {P:Program} {w00:World} {X:List Nat} {L L':List Loc} {E:List (Nat×ai)} {n:Nat} {ops:Array Oper} {rest:List Oper} {Q:Exit→Act→World→Prop} {cs:List Code} {t0:TypeId} {pos:String} {af:Array Edge}
theorem Ji {G:World→Prop} {f:FuncId} {fn:Func} {c:Code} {T0:ai} {ks:List Nat} {As:List ai} {T1:ai} {T:Nat→ai} [dn:d8 T] (hf:P.funcs[f]? =some fn) (hb:fn.body=some c) (hn:fn.ntmps=n) (hl:As.length+1≤n) (he:bE P f)
 (h:∀ w00 X L0 r w,G w→kO w00 X ((r,T0)::L0) w→GC P w00 X ((r,T0)::L0) (bf 0 (.is (.pointer (some ⟨r,0,none⟩))::As)++[(999, .gh X w)]) n [c] (bodyPost P fn (fY w00 X ((r,T1)::L0) w (T w.heap.size)))):GQ P G f T0 ks As T1 T:=
 ⟨he,dn.down,fun {w00 w X L0 r vs} hG hm ha=>by
  have hlen:=ha.count
  have hg:=h w00 X L0 r w hG hm
  have ha':bF X w (.is (.pointer (some ⟨r,0,none⟩))::As) (.pointer (some ⟨r,0,none⟩)::vs):=⟨rfl,ha⟩
  refine calls_of_wp hf hb (CW.out (fh (X:=X) (L:=(r,T0)::L0) (E:=bf 0 (.is (.pointer (some ⟨r,0,none⟩))::As)++[(999, .gh X w)]) ⟨?_,rfl,fun p hp=> ?_,hm⟩ hg))
  ·rw [hn]
   simp
   omega
  ·rcases List.mem_append.1 hp with hp|hp
   ·refine iT ha' (fun j hj=> ?_) p hp
    rw [Nat.zero_add,Array.getD_eq_getD_getElem?,Array.getElem?_append_left (by simpa using hj),List.getElem?_toArray,List.getD_eq_getElem?_getD]
   ·rw [List.mem_singleton.1 hp]
    exact pr⟩
theorem zI{L1:List Loc} {a:Act} (h:TS w00 X L E n a w) [g:kH E 999 (.gh X0 w0)] (sx:∀ b∈X0,b∈X) (sl:∀ p∈L1,p∈L) (hx:∀ p∈L1,p.1∈X0) (hn:(L1.map Prod.fst).Nodup) (hf:∀ b∈X0,b<w0.heap.size) (hT:T.holds X w v):fY w00 X0 L1 w0 T (.returned v) w:=by
 obtain ⟨g1,g2⟩:=h.slots _ g.mem
 have hs:∀ {T:ai} {u:Value},T.holds X w u→T.holds X0 w u:=fun {T u} h=>T.stable h ⟨Nat.le_refl _,fun _ _ _=>rfl⟩ fun b hb _=>sx b hb
 refine ⟨v,rfl,hs hT,⟨fun p hp=> ?_,fun b hb=>Nat.lt_of_lt_of_le (hf b hb) g2.size,hn,h.mem.below⟩,g2⟩
 obtain ⟨k1,k2,u,ty,k3,k4⟩:=h.mem.loc _ (sl p hp)
 exact ⟨hx p hp,k2,u,ty,hs k3,k4⟩
theorem yv{L0:List Loc} {fn:Func} {q:ResultVar} {T':ai} (hr:fn.results= #[q]) (hm:kO w00 X0 ((r,T0)::L0) w0) [g:kH E 999 (.gh X0 w0)] [hX:lQ X0 X] [sl:oW ((r,T1)::L0) L] [k:gK P L E q T] (hc:Cv T T'):GT w00 X L E n (bodyPost P fn (fY w00 X0 ((r,T1)::L0) w0 T')):=
 ⟨fun a w ht=>by
  obtain ⟨v,e,hT⟩:=k.ok ht
  exact bodyPost_ret (ig hr e) ht.df (zI ht hX.sub sl.sub (fun p hp=>(List.mem_cons.1 hp).elim (fun h=>by rw [h];exact (hm.loc _ List.mem_cons_self).1) fun h=>(hm.loc _ (List.mem_cons_of_mem _ h)).1) hm.nodup hm.far (hc.ok _ _ _ hT))⟩
theorem ti {G:World→Prop} {f:FuncId} {s p r:Nat} {os:List Operand} {ks:List Nat} {As:List ai} {T0 T0' T1:ai} {T:Nat→ai} {ats:Array TypeId} [hs:ce E p (.is (.pointer (some ⟨r,0,none⟩)))] [k:kR E os ks As] [sg:jL G] (hG:G w00) (h:GQ P G f T0 ks As T1 T) [hl:ke L r T0'] [cv:HH T0' T0] [hu:ko L r T0' T1 L'] (hd:(Nat.blt s n&& !(E.map Prod.fst).elem s)=true)
 (next:GR P w00 X L' ((s,T w00.heap.size)::E) n ops rest cs Q):GR P w00 X L E n ops (⟨some s, .call { callee:= .value (.func f),args:=(.tmp p::os).toArray,argTypes:=ats },t0,pos,af,none⟩::rest) cs Q:=⟨fun a w ht=>by
 refine cA rfl ?_
 obtain ⟨L0,_,_,p1,p2⟩:=hu.upd.split
 have e1:a.eval (.tmp p)= .pointer (some ⟨r,0,none⟩):=ht.slots _ hs.mem
 have e2:=k.get (X:=X) (w:=w) (ρ:=a.eval) (fun _=>rfl) (fun _=>rfl) fun q hq _=>ht.slots q hq
 have hm0:=ht.mem.perm p1
 have hm1:kO w00 X ((r,T0)::L0) w:=⟨fun q hq=>by
  rcases List.mem_cons.1 hq with rfl|hq
  ·obtain ⟨g1,g2,u,ty,g3,g4⟩:=hm0.loc _ List.mem_cons_self
   exact ⟨g1,g2,u,ty,cv.ok g3,g4⟩
  ·exact hm0.loc q (List.mem_cons_of_mem _ hq),hm0.far,hm0.nodup,hm0.below⟩
 have hc:=h.run (sg.stab hG ht.mem.below) hm1 e2
 have hr:∀ ρ:Operand→Value,ρ (.func f)= .func (.func f) #[] #[]→(execOp ρ ⟨some s, .call { callee:= .value (.func f),args:=(.tmp p::os).toArray,argTypes:=ats },t0,pos,af,none⟩).run P w= .ok (.enter f (ρ (.tmp p)::os.map ρ).toArray) w:=by
  intro ρ hff
  have hen:=h.ent
  clear hc hm0 hm1 e2 k next e1
  go_simp
  exact hen _ _
 have hr:=hr a.eval rfl
 rw [e1] at hr
 unfold Oper.wp
 rw [hr]
 refine hc.mono ?_
 rintro e w' ⟨v,rfl,hT,hm,hk⟩
 simp only [Bool.and_eq_true,Bool.not_eq_true'] at hd
 refine next.run _ _ ⟨by simp [Act.put,ht.size],ht.df,fun q hq=> ?_,hm.perm p2.symm⟩
 have hsz:s<a.tmps.size:=by rw [ht.size,←Nat.blt_eq];exact hd.1
 rcases List.mem_cons.1 hq with rfl|hq
 ·rw [bK _ _ _ _ hsz,if_pos rfl];exact h.down ht.mem.below.size hT
 ·have hne:q.1≠s:=fun e=>by
   have:(E.map Prod.fst).elem s=true:=by rw [List.elem_eq_mem,decide_eq_true_eq,←e];exact List.mem_map_of_mem hq
   rw [hd.2] at this;cases this
  rw [bK _ _ _ _ hsz,if_neg hne]
  exact q.2.stable (ht.slots q hq) hk fun _ hb _=>hb⟩
end
structure IQ (P:Program) (G:World→Prop) (f:FuncId) (T0:ai) (ks:List Nat) (As:List ai) (T1:ai) (T:Nat→ai):Prop where
 ent:bE P f
 down:∀ {B B':Nat} {X:List Nat} {w:World} {v:Value},B'≤B→(T B).holds X w v→(T B').holds X w v
 run:∀ {w00 w:World} {X:List Nat} {r:Nat} {vs:List Value},G w→kO w00 X [(r,T0)] w→bF X w As vs→Calls P f (.pointer (some ⟨r,0,none⟩)::vs).toArray w (fY w00 X [(r,T1)] w (T w.heap.size))
section
variable {P:Program} {w00:World} {X:List Nat} {L L':List Loc} {E:List (Nat×ai)} {n:Nat} {ops:Array Oper} {rest:List Oper} {Q:Exit→Act→World→Prop} {cs:List Code} {t0:TypeId} {pos:String} {af:Array Edge}
theorem Jg {G:World→Prop} {f:FuncId} {fn:Func} {c:Code} {T0:ai} {ks:List Nat} {As:List ai} {T1:ai} {T:Nat→ai} [dn:d8 T] (hf:P.funcs[f]? =some fn) (hb:fn.body=some c) (hn:fn.ntmps=n) (hl:As.length+1≤n) (he:bE P f)
 (h:∀ w00 X r w,G w→kO w00 X [(r,T0)] w→GC P w00 X [(r,T0)] (bf 0 (.is (.pointer (some ⟨r,0,none⟩))::As)++[(999, .gh X w)]) n [c] (bodyPost P fn (fY w00 X [(r,T1)] w (T w.heap.size)))):IQ P G f T0 ks As T1 T:=
 ⟨he,dn.down,fun {w00 w X r vs} hG hm ha=>by
  have hlen:=ha.count
  have hg:=h w00 X r w hG hm
  have ha':bF X w (.is (.pointer (some ⟨r,0,none⟩))::As) (.pointer (some ⟨r,0,none⟩)::vs):=⟨rfl,ha⟩
  refine calls_of_wp hf hb (CW.out (fh (X:=X) (L:=[(r,T0)]) (E:=bf 0 (.is (.pointer (some ⟨r,0,none⟩))::As)++[(999, .gh X w)]) ⟨?_,rfl,fun p hp=> ?_,hm⟩ hg))
  ·rw [hn]
   simp
   omega
  ·rcases List.mem_append.1 hp with hp|hp
   ·refine iT ha' (fun j hj=> ?_) p hp
    rw [Nat.zero_add,Array.getD_eq_getD_getElem?,Array.getElem?_append_left (by simpa using hj),List.getElem?_toArray,List.getD_eq_getElem?_getD]
   ·rw [List.mem_singleton.1 hp]
    exact pr⟩
theorem AJ {G:World→Prop} {f:FuncId} {s p r:Nat} {os:List Operand} {ks:List Nat} {As:List ai} {T0 T1:ai} {T:Nat→ai} {ats:Array TypeId} [hs:ce E p (.is (.pointer (some ⟨r,0,none⟩)))] [k:kR E os ks As] [sg:jL G] (hG:G w00) (h:IQ P G f T0 ks As T1 T) (hd:(Nat.blt s n&& !(E.map Prod.fst).elem s)=true)
 (next:GR P w00 X [(r,T1)] ((s,T w00.heap.size)::E) n ops rest cs Q):GR P w00 X [(r,T0)] E n ops (⟨some s, .call { callee:= .value (.func f),args:=(.tmp p::os).toArray,argTypes:=ats },t0,pos,af,none⟩::rest) cs Q:=⟨fun a w ht=>by
 refine cA rfl ?_
 have e1:a.eval (.tmp p)= .pointer (some ⟨r,0,none⟩):=ht.slots _ hs.mem
 have e2:=k.get (X:=X) (w:=w) (ρ:=a.eval) (fun _=>rfl) (fun _=>rfl) fun q hq _=>ht.slots q hq
 have hc:=h.run (sg.stab hG ht.mem.below) ht.mem e2
 have hr:∀ ρ:Operand→Value,ρ (.func f)= .func (.func f) #[] #[]→(execOp ρ ⟨some s, .call { callee:= .value (.func f),args:=(.tmp p::os).toArray,argTypes:=ats },t0,pos,af,none⟩).run P w= .ok (.enter f (ρ (.tmp p)::os.map ρ).toArray) w:=by
  intro ρ hff
  have hen:=h.ent
  clear hc e2 k next e1
  go_simp
  exact hen _ _
 have hr:=hr a.eval rfl
 rw [e1] at hr
 unfold Oper.wp
 rw [hr]
 refine hc.mono ?_
 rintro e w' ⟨v,rfl,hT,hm,hk⟩
 simp only [Bool.and_eq_true,Bool.not_eq_true'] at hd
 refine next.run _ _ ⟨by simp [Act.put,ht.size],ht.df,fun q hq=> ?_,hm⟩
 have hsz:s<a.tmps.size:=by rw [ht.size,←Nat.blt_eq];exact hd.1
 rcases List.mem_cons.1 hq with rfl|hq
 ·rw [bK _ _ _ _ hsz,if_pos rfl];exact h.down ht.mem.below.size hT
 ·have hne:q.1≠s:=fun e=>by
   have:(E.map Prod.fst).elem s=true:=by rw [List.elem_eq_mem,decide_eq_true_eq,←e];exact List.mem_map_of_mem hq
   rw [hd.2] at this;cases this
  rw [bK _ _ _ _ hsz,if_neg hne]
  exact q.2.stable (ht.slots q hq) hk fun _ hb _=>hb⟩
theorem Em{a:Act} [g:kH E 999 (.gh X0 w0)] (h:TS w00 X L E n a w):w0.heap.size≤w.heap.size:=(h.slots _ g.mem).2.size
end
instance:eV Tryz.prog 3 1 false:=⟨⟨_,Tryz.underlying3,rfl⟩,by kernel_rfl⟩
instance:eV Tryz.prog 5 1 false:=⟨⟨_,Tryz.underlying5,rfl⟩,by kernel_rfl⟩
instance:eV Tryz.prog 148 2 true:=⟨⟨_,Tryz.underlying148,rfl⟩,by kernel_rfl⟩
instance:aP Tryz.prog 148 0 0 1 false:=⟨⟨_,_,Tryz.underlying148,rfl,rfl,by kernel_rfl,by decide,_,Tryz.underlying9,rfl⟩⟩
instance:aP Tryz.prog 148 1 1 1 false:=⟨⟨_,_,Tryz.underlying148,rfl,rfl,by kernel_rfl,by decide,_,Tryz.underlying3,rfl⟩⟩
theorem Ex (x y:Int):(x != y)= !(x==y):=rfl
theorem En (c:UInt8):((c.toNat:Int).toNat).toUInt8=c:=by
 rw [Int.toNat_natCast]
 exact UInt8.ofNat_toNat
theorem BL {c:UInt8}:dB Tryz.prog S1 93 [0] [.is (.int .u8 (c.toNat:Int))] (fun _=> .is (.bool (iE c))):=by
 have h3:=Ex (c.toNat:Int) 35
 unfold iE
 rw [←h3]
 cases h1:decide ((33:Int)≤(c.toNat:Int))
 all_goals cases h2:decide ((c.toNat:Int)≤126)
 all_goals
  refine fA Tryz.func93 rfl Tryz.ntmps93 qE (fun _ _=>by kernel_rfl) fun X w hE=> ?_
  simp only [bf,Nat.zero_add,Nat.reduceAdd]
  repeat' first|kernel_rfl|apply aF|apply aG|apply aI|apply aD|apply aH|apply aM|apply aN|apply aA|apply aE|refine bw rfl inferInstance (by first|exact aj|exact bq (by first|assumption|rfl)|exact cL (by first|assumption|rfl)) qK ?_|refine bZ rfl inferInstance rfl qK ?_|refine bW rfl inferInstance qK ?_|apply be|apply aq|apply a_|apply a8|apply aB|refine fm rfl ?_|apply bc|exact aj|exact ab|exact aQ|exact aW|exact bq qG|exact cL qG|exact bP qG|exact Cv.rfl'|intro _
theorem xm {l:List UInt8} {c:UInt8}:dB Tryz.prog S1 148 [0,0] [.is (Tx l), .is (.int .u8 (c.toNat:Int))] (fun _=> .is (.int .i64 (Lib.indexByte l c))):=
 qr (fun _ _=>by kernel_rfl) fun w _=>(Tryz.strings_IndexByte ⟨l.toArray⟩ (c.toNat:Int) w).mono fun e w' h=>by
  rw [bU,En] at h
  exact ⟨h.1,by rw [h.2];exact Below.refl _ _⟩
theorem ED (c:UInt8) (n:Nat) (hn:n<256):(c==UInt8.ofNat n)=((c.toNat:Int)==(n:Int)):=by
 rw [Bool.eq_iff_iff,beq_iff_eq,beq_iff_eq]
 constructor
 ·intro h;rw [h];simp [Nat.mod_eq_of_lt hn]
 ·intro h
  have h':c.toNat=n:=qO
  rw [←h']
  simp
theorem DN (c:UInt8):decide ((0:Int)≤Lib.indexByte [32,9] c)=gf c:=by
 unfold gf
 have e1:=ED c 32 qD
 have e2:=ED c 9 qD
 rw [show ((c.toNat:Int)==32)=(c==32) from e1.symm,show ((c.toNat:Int)==9)=(c==9) from e2.symm]
 by_cases h1:c=32
 ·subst h1;decide
 ·by_cases h2:c=9
  ·subst h2;decide
  ·rw [beq_eq_false_iff_ne.2 h1,beq_eq_false_iff_ne.2 h2]
   have h3:(32==c)=false:=beq_eq_false_iff_ne.2 fun e=>h1 e.symm
   have h4:(9==c)=false:=beq_eq_false_iff_ne.2 fun e=>h2 e.symm
   simp [Lib.indexByte,List.findIdx?_cons,h3,h4]
section
variable {P:Program} {w00:World} {N:Nat} {L:List Loc} {E:List (Nat×ai)} {d:Nat} {t0:TypeId} {pos:String} {af:Array Edge} {gd:Option (Nat×Bool)} {ats:Array TypeId}
theorem AW[ho:b_ E o T]:aR P w00 N L E ⟨some d, .makeFunc (.func f) #[] #[o],t0,pos,af,gd⟩ (.fv f [] [T]):=by
 constructor
 intro X ρ w hc _ hN hm hsl
 have h:=ho.get (X:=X) (w:=w) hc fun p hp e=>hsl p hp qS
 unfold Yields execOp
 simp only [Sem.run_bind,Sem.run_pure,Result.andThen_ok]
 exact ⟨⟨[],[ρ o],by simp,trivial,h,trivial⟩,Below.refl _ _⟩
end
theorem wN {P:Program} {G:World→Prop} {f:FuncId} {fn:Func} {c:Code} {ks:List Nat} {As:List ai} {T:Nat→ai} {n:Nat} [dn:d8 T] (hf:P.funcs[f]? =some fn) (hb:fn.body=some c) (hn:fn.ntmps=n) (hl:As.length≤n) (he:bE P f)
 (h:∀ X w,G w→(∀ b∈X,b<w.heap.size)→GC P w X [] (bf 0 As) n [c] (bodyPost P fn (cE X w (T w.heap.size)))):dB P G f ks As T:=
 ⟨he,dn.down,fun {X w vs} hG hX ha=>by
  refine dm hf hb hn ?_ hX ha (h X w hG hX)
  have:∀ {As:List ai} {vs:List Value},bF X w As vs→vs.length=As.length:=by
   intro As
   induction As with
   |nil=>intro vs h;cases vs with|nil=>rfl|cons=>exact h.elim
   |cons A As ih=>intro vs h;cases vs with|nil=>exact h.elim|cons v vs=>simp [ih h.2]
  rw [this ha]
  exact hl⟩
theorem wP{fn:Func} {r:ResultVar} {T':ai} (hr:fn.results= #[r]) [k:gK P L E r T] (hc:∀ a w v,TS w00 X L E n a w→T.holds X w v→T'.holds X0 w v):GT w00 X L E n (bodyPost P fn (cE X0 w00 T')):=
 ⟨fun a w h=>by
  obtain ⟨v,h1,h2⟩:=k.ok h
  exact ⟨h.df,v,ig hr h1,v,rfl,hc a w v h h2,h.mem.below⟩⟩
theorem zu{a:Act} {u:Value} (h:TS w00 X L E n a w) [hl:ke L r (.is u)] (h1:u.oneCell'=true) (hX:∀ b∈X0,b<w00.heap.size):(ai.pv u).holds X0 w (.pointer (some ⟨r,0,none⟩)):=by
 obtain ⟨g1,g2,v,ty,g3,g4⟩:=h.mem.loc _ hl.mem
 have e:v=u:=g3
 subst e
 rw [fl h1] at g4
 exact ⟨r,0,rfl,⟨h.mem.far _ g1,fun hx=>by have:=hX _ hx;omega⟩,eX g4 rfl⟩
theorem zR {c:UInt8}:dB Tryz.prog S1 147 [0,0] [.is (.int .u8 (c.toNat:Int)), .pv (Tx [32,9])] (fun _=> .is (.bool (gf c))):=by
 have h:=DN c
 refine fA Tryz.func147 rfl Tryz.ntmps147 qE (fun _ _=>by kernel_rfl) fun X w hE=> ?_
 simp only [bf,Nat.zero_add,Nat.reduceAdd]
 repeat' first|kernel_rfl|apply aF|apply aG|apply aI|apply aD|apply aH|apply aM|apply aN|apply aA|apply aE|apply be|apply aq|apply a_|apply a8|apply aB|refine fm rfl ?_|apply bc|exact sc trivial xm|exact cT|exact aj|exact ab|exact ah|exact bP qG|exact ae|exact Cv.rfl'|intro _
theorem C1 {c:UInt8}:dB Tryz.prog S1 150 [0,0] [.is (.int .u8 (c.toNat:Int)), .pv (.int .u8 10)] (fun _=> .is (.bool (pg c))):=by
 have h:((c.toNat:Int) != 10)=pg c:=rfl
 refine fA Tryz.func150 rfl Tryz.ntmps150 qE (fun _ _=>by kernel_rfl) fun X w hE=> ?_
 simp only [bf,Nat.zero_add,Nat.reduceAdd]
 repeat' first|kernel_rfl|apply aF|apply aG|apply aI|apply aD|apply aH|apply aM|apply aN|apply aA|apply aE|apply be|apply aq|apply a_|apply a8|apply aB|refine fm rfl ?_|apply bc|exact cT|exact aj|exact ab|exact ah|exact bq qG|exact ae|exact Cv.rfl'|intro _
theorem nq:dB Tryz.prog S1 92 [0] [.is (Tx [32,9])] (fun _=> .fp Tryz.prog gf):=by
 haveI:d8 fun _=>ai.fp Tryz.prog gf:=⟨fun _ h=>h⟩
 refine wN Tryz.func92 rfl Tryz.ntmps92 qE (fun _ _=>by kernel_rfl) fun X w hE hX=> ?_
 simp only [bf,Nat.zero_add,Nat.reduceAdd]
 repeat' first|kernel_rfl|apply aF|apply aG|apply aI|apply aD|apply aH|apply aM|apply aN|apply aA|apply aE|apply be|apply aq|apply a_|apply a8|apply aB|refine wP rfl fun a w v ht hv=> ?_|apply bc|exact AW|exact ab|exact Cv.rfl'|intro _
 obtain ⟨vs,us,rfl,h1,h2⟩:=hv
 match vs,us,h1,h2 with
 |[],[q],_,h2=>
  have e:q=_:=h2.1
  subst e
  exact ⟨_,[_],[0,0],[.pv (Tx [32,9])],rfl,⟨zu ht rfl hX,trivial⟩,fun c=>zR⟩
theorem pQ:dB Tryz.prog S1 95 [0] [.is (.int .u8 10)] (fun _=> .fp Tryz.prog pg):=by
 haveI:d8 fun _=>ai.fp Tryz.prog pg:=⟨fun _ h=>h⟩
 refine wN Tryz.func95 rfl Tryz.ntmps95 qE (fun _ _=>by kernel_rfl) fun X w hE hX=> ?_
 simp only [bf,Nat.zero_add,Nat.reduceAdd]
 repeat' first|kernel_rfl|apply aF|apply aG|apply aI|apply aD|apply aH|apply aM|apply aN|apply aA|apply aE|apply be|apply aq|apply a_|apply a8|apply aB|refine wP rfl fun a w v ht hv=> ?_|apply bc|exact AW|exact ab|exact Cv.rfl'|intro _
 obtain ⟨vs,us,rfl,h1,h2⟩:=hv
 match vs,us,h1,h2 with
 |[],[q],_,h2=>
  have e:q=_:=h2.1
  subst e
  exact ⟨_,[_],[0,0],[.pv (.int .u8 10)],rfl,⟨zu ht rfl hX,trivial⟩,fun c=>C1⟩
theorem Iq {l:List UInt8} {p:UInt8→Bool} (hl:l.length≤9223372036854775807):dB Tryz.prog S1 146 [0,0] [.is (Tx l), .fp Tryz.prog p] (fun _=> .is (.int .i64 ((l.takeWhile p).length:Int))):=by
 have hm1:=jY (p:=p) l
 refine fA Tryz.func146 rfl Tryz.ntmps146 qE (fun _ _=>by kernel_rfl) fun X w0 hE=> ?_
 simp only [bf,Nat.zero_add,Nat.reduceAdd]
 repeat' first|kernel_rfl|apply aF|apply aG|apply aI|apply aD|apply aH|apply aM|apply aN|apply aA|apply aE|refine bw rfl inferInstance (by first|exact rL (by assumption)|exact bD (by assumption)|exact aj) qK ?_|refine bZ rfl inferInstance rfl qK ?_|refine bW rfl inferInstance qK ?_|apply be|apply aq|apply a_|apply a8|apply aB|refine fm rfl ?_|apply bl|apply bO|apply bN|apply eo|apply em|refine eu rfl ?_|apply ep|apply ew|apply bc|exact rL qL|exact cC qL|exact aL|exact bD qL|exact bG qL|exact aj|exact ab|exact aQ|exact aW|exact bu qG|exact am|exact Cv.rfl'|intro _
 refine kd fun a w h=> ?_
 refine iG (fun k a u=>∃ i:Nat,i+k=(l.takeWhile p).length∧TS w0 X [] [(5, .is (.int .i64 (i:Int))),(4, .is (.int .i64 0)),(0, .is (Tx l)),(1, .fp Tryz.prog p)] 20 a u) (l.takeWhile p).length ⟨0,by omega,h.keep [5,4,0,1]⟩ ?_
 clear h
 rintro k a u ⟨i,hi,h⟩
 by_cases hlt:i<(l.takeWhile p).length
 ·obtain ⟨c,hx,hd⟩:=uD hlt
  have hc:decide ((i:Int)<(l.length:Int))=true:=decide_eq_true qO
  have hix:0≤(i:Int)∧l[(i:Int).toNat]? =some c:=⟨by omega,hx⟩
  have hw:IntKind.i64.wrap ((i:Int)+1)=((i+1:Nat):Int):=dh qO qO
  refine fh h ?_
  clear h
  repeat' first|kernel_rfl|exact iz fun _ _ h=>⟨k - 1,by omega,i+1,by omega,h.keep [5,4,0,1]⟩|apply aF|apply aG|apply aI|apply aD|apply aH|apply aM|apply aN|apply aA|apply aE|refine bw rfl inferInstance (by first|exact rL (by assumption)|exact bD (by assumption)|exact aj) qK ?_|refine bZ rfl inferInstance rfl qK ?_|refine bW rfl inferInstance qK ?_|apply be|apply aq|apply a_|apply a8|apply aB|refine fm rfl ?_|apply bl|apply bO|apply bN|apply eo|apply em|refine eu rfl ?_|apply ep|apply ew|apply bc|exact rL qL|exact cC qL|exact aL|exact bD qL|exact bG qL|exact aj|exact ab|exact aQ|exact aW|exact bu qG|exact am|exact Cv.rfl'|intro _
 ·obtain rfl:i=(l.takeWhile p).length:=qO
  have hcs:decide ((((l.takeWhile p).length:Nat):Int)<(l.length:Int))=false∨(decide ((((l.takeWhile p).length:Nat):Int)<(l.length:Int))=true∧∃ c:UInt8,(0≤(((l.takeWhile p).length:Nat):Int)∧l[(((l.takeWhile p).length:Nat):Int).toNat]? =some c)∧p c=false):=by
   by_cases hq:(l.takeWhile p).length<l.length
   ·obtain ⟨c,hx,hd⟩:=sj hq
    exact .inr ⟨decide_eq_true qO,c,⟨by omega,hx⟩,hd⟩
   ·exact .inl (decide_eq_false qO)
  generalize (((l.takeWhile p).length:Nat):Int)=j at*
  rcases hcs with hc|⟨hc,c,hx,c1⟩
  all_goals
   refine fh h ?_
   clear h
   repeat' first|kernel_rfl|apply aF|apply aG|apply aI|apply aD|apply aH|apply aM|apply aN|apply aA|apply aE|refine bw rfl inferInstance (by first|exact rL (by assumption)|exact bD (by assumption)|exact aj) qK ?_|refine bZ rfl inferInstance rfl qK ?_|refine bW rfl inferInstance qK ?_|apply be|apply aq|apply a_|apply a8|apply aB|refine fm rfl ?_|apply bl|apply bO|apply bN|apply eo|apply em|refine eu rfl ?_|apply ep|apply ew|apply bc|exact rL qL|exact cC qL|exact aL|exact bD qL|exact bG qL|exact aj|exact ab|exact aQ|exact aW|exact bu qG|exact am|exact Cv.rfl'|intro _
theorem ft{s:List UInt8} (hb:decide (a<(s.length:Int))=b):dB Tryz.prog S1 54 [0] [.pcs [Tx s, .int .i64 a]] (fun _=> .is (.bool b)):=by
 refine fA Tryz.func54 rfl Tryz.ntmps54 qE (fun _ _=>by kernel_rfl) fun X w hE=> ?_
 simp only [bf,Nat.zero_add,Nat.reduceAdd]
 repeat' first|kernel_rfl|apply aF|apply aG|apply aI|apply b9 (id:=1) [] [] 10|apply bQ|apply de|exact bT.nil|exact aZ.nil|exact aY.nil|apply aD|apply aH|apply aM|apply aN|apply aA|apply aE|apply be|apply aq|apply a_|apply a8|apply aB|refine fm rfl ?_|apply bc|exact tE|exact tL|exact cT|exact aL|exact bn|exact aj|exact ab|exact ah|exact aa|exact bu qG|exact am|exact ae|exact Cv.rfl'|(intro _;simp only[cP,cQ,cS,List.map,List.cons_append,List.nil_append])|intro _
theorem jK{s:List UInt8} {k:Int} (hb:decide (a<(s.length:Int))=false):dB Tryz.prog S1 56 [0,0] [.pcs [Tx s, .int .i64 a], .is (.int .u8 k)] (fun _=> .is (.bool false)):=by
 refine fA Tryz.func56 rfl Tryz.ntmps56 qE (fun _ _=>by kernel_rfl) fun X w hE=> ?_
 simp only [bf,Nat.zero_add,Nat.reduceAdd]
 repeat' first|kernel_rfl|apply aF|apply aG|apply aI|apply b9 (id:=1) [(7,false)] [] 15|(apply FZ;(focus rfl);(focus kernel_rfl))|apply bQ|apply de|exact bT.nil|exact aZ.nil|exact aY.nil|refine @aZ.cons _ _ _ _ inferInstance ?_|refine @aY.cons _ _ _ inferInstance ?_|apply aD|apply aH|apply aM|apply aN|apply aA|apply aE|refine bw rfl inferInstance (by first|fail) qK ?_|refine bZ rfl inferInstance rfl qK ?_|refine bW rfl inferInstance qK ?_|apply be|apply aq|apply a_|apply a8|apply aB|refine fm rfl ?_|apply bc|exact sc trivial (ft hb)|exact tE|exact tL|exact cT|exact bj qG|exact bD qL|exact bn|exact aj|exact ab|exact ah|exact aa|exact aQ|exact aW|exact au qG|exact ae|exact Cv.rfl'|(intro _;simp only[cP,cQ,cS,List.map,List.cons_append,List.nil_append])|intro _
theorem ct{s:List UInt8} {k:Int} {c:UInt8} (hb:decide (a<(s.length:Int))=true) (hx:0≤a∧s[a.toNat]? =some c) (h:((c.toNat:Int)==k)=b):dB Tryz.prog S1 56 [0,0] [.pcs [Tx s, .int .i64 a], .is (.int .u8 k)] (fun _=> .is (.bool b)):=by
 refine fA Tryz.func56 rfl Tryz.ntmps56 qE (fun _ _=>by kernel_rfl) fun X w hE=> ?_
 simp only [bf,Nat.zero_add,Nat.reduceAdd]
 repeat' first|kernel_rfl|apply aF|apply aG|apply aI|apply b9 (id:=1) [(7,true)] [] 15|apply bQ|apply de|exact bT.nil|exact aZ.nil|exact aY.nil|refine @aZ.cons _ _ _ _ inferInstance ?_|refine @aY.cons _ _ _ inferInstance ?_|apply aD|apply aH|apply aM|apply aN|apply aA|apply aE|refine bw rfl inferInstance (by first|fail) qK ?_|refine bZ rfl inferInstance rfl qK ?_|refine bW rfl inferInstance qK ?_|apply be|apply aq|apply a_|apply a8|apply aB|refine fm rfl ?_|apply bc|exact sc trivial (ft hb)|exact tE|exact tL|exact cT|exact bj qG|exact bD qL|exact bn|exact aj|exact ab|exact ah|exact aa|exact aQ|exact aW|exact au qG|exact ae|exact Cv.rfl'|(intro _;simp only[cP,cQ,cS,List.map,List.cons_append,List.nil_append])|intro _
theorem C5 (s:List UInt8) (p:UInt8→Bool) (i:Nat):(s.take (i+((s.drop i).takeWhile p).length)).drop i=(s.drop i).takeWhile p:=by
 rw [List.drop_take,Nat.add_sub_cancel_left]
 exact qp _
theorem tm{s:List UInt8} {p:UInt8→Bool} (hs:s.length≤1000000) (hi:i≤s.length):GQ Tryz.prog S1 91 (.cs [Tx s, .int .i64 (i:Int)]) [0] [.fp Tryz.prog p] (.cs [Tx s, .int .i64 ((i+((s.drop i).takeWhile p).length:Nat):Int)]) (fun _=> .is (Tx ((s.drop i).takeWhile p))):=by
 have hm:=jY (p:=p) (s.drop i)
 have hd:(s.drop i).length=s.length - i:=List.length_drop
 have hc:=Iq (l:=s.drop i) (p:=p) qO
 have hcut:=C5 s p i
 generalize hn:((s.drop i).takeWhile p).length=n at*
 rw [←hcut]
 have hw:IntKind.i64.wrap ((i:Int)+(n:Int))=((i+n:Nat):Int):=dh qO qO
 have hx:0≤(i:Int)∧(i:Int)≤(s.length:Int):=⟨by omega,by omega⟩
 have hy:0≤(i:Int)∧(i:Int)≤((i+n:Nat):Int)∧((i+n:Nat):Int)≤(s.length:Int):=⟨by omega,by omega,by omega⟩
 clear hn hm hd hcut
 refine Ji Tryz.func91 rfl Tryz.ntmps91 qE (fun _ _=>by kernel_rfl) fun w00 X L0 r wS hG hm=> ?_
 simp only [bf,Nat.zero_add,Nat.reduceAdd,List.cons_append,List.nil_append]
 repeat' first|kernel_rfl|apply aF|apply aG|apply aI|apply b9 (id:=2) [] [] 15|apply b9 (id:=3) [] [] 10|apply bQ|apply de|exact bT.nil|exact aZ.nil|exact aY.nil|apply aD|apply aH|apply aM|apply aN|apply aA|apply aE|apply be|apply aq|apply a_|apply a8|apply aB|refine yv rfl hm ?_|apply bc|exact sc trivial hc|exact Ez qL|exact cC qL|exact tJ qL|exact mT qL|exact bn|exact bG qL|exact aj|exact ab|exact ah|exact aa|exact ae|exact Cv.rfl'|(intro _;simp only[cP,cQ,cS,List.map,List.cons_append,List.nil_append])|intro _
def Rp.own {α:Type} (r:Rp α) (e:TypeId):Rp (List α):=⟨1,fun w S l cs=>∃ A n c,cs=[.slice A n c]∧sh r w S A n c l∧∀ b o,A=some ⟨b,o,none⟩→0<n→o=0∧∃ cur,w.heap[b]? =some (.cells cur e (0,0)),
 fun ⟨_,_,_,h,_⟩=>by rw [h];rfl,fun ⟨_,_,_,h,_⟩ v hv=>by rw [h,List.mem_singleton] at hv;rw [hv];rfl,
 fun ⟨A,n,c,e,h,g⟩ hk=>⟨A,n,c,e,h.keep hk,fun b o hA hn=>by
  obtain ⟨h1,cur,h2⟩:=g b o hA hn
  obtain ⟨b',o',hA',hS,_⟩:=h.2.2.2.2 hn
  rw [hA] at hA'
  injection hA' with hA'
  injection hA' with hb _
  subst hb
  exact ⟨h1,cur,(hk _ hS).trans h2⟩⟩,fun ⟨A,n,c,e,h,g⟩ hB=>⟨A,n,c,e,h.more hB,g⟩⟩
def Rp.frm {α:Type} (B:Nat) (r:Rp α):Rp α:=⟨r.k,fun w S a cs=>r.rd w (fun b=>S b∧B≤b) a cs,r.len,r.one,fun h hk=>r.keep h fun b hb=>hk b hb.1,fun h hk=>r.more h fun b hb=>⟨hk b hb.1,hb.2⟩⟩
abbrev Rp.wd:Rp Wd:=Rp.str.pair (Rp.int .i64)
abbrev Rp.lr:Rp Ln:=Rp.wd.row.pair (Rp.int .i64)
abbrev Rp.lo (e:TypeId) (B:Nat):Rp Ln:= .frm B ((Rp.own Rp.wd e).pair (Rp.int .i64))
instance {α:Type} {r:Rp α} {e:TypeId}:K1 (r.own e):=⟨rfl⟩
class pj {α:Type} (r r':Rp α):Prop where
 k:r.k=r'.k
 ok:∀ {w S a cs},r.rd w S a cs→r'.rd w S a cs
instance {α:Type} {r:Rp α}:pj r r:=⟨rfl,fun h=>h⟩
theorem sh.le{α:Type} {r r':Rp α} [l:pj r r'] {S:Nat→Prop} {A:Option Addr} {c:Nat} {xs:List α} (h:sh r w S A n c xs):sh r' w S A n c xs:=by
 obtain ⟨h1,h2,h3,h4,h5⟩:=h
 refine ⟨h1,h2,h3,h4,fun hn=> ?_⟩
 obtain ⟨b,off,hA,hb,hc⟩:=h5 hn
 refine ⟨b,off,hA,hb,fun j a ha=> ?_⟩
 obtain ⟨cs,g1,g2⟩:=hc j a ha
 exact ⟨cs,by rw [←l.k];exact g1,l.ok g2⟩
instance pj.frm {α:Type} {B:Nat} {r r':Rp α} [l:pj r r']:pj (r.frm B) r':=⟨l.k,fun h=>l.ok (r.more h fun _ hb=>hb.1)⟩
instance pj.own {α:Type} {r:Rp α} {e:TypeId}:pj (r.own e) r.row:=⟨rfl,fun ⟨A,n,c,h,g,_⟩=>⟨A,n,c,h,g⟩⟩
instance pj.pair {α β:Type} {r r':Rp α} {s s':Rp β} [l:pj r r'] [m:pj s s']:pj (r.pair s) (r'.pair s'):=⟨by show r.k+s.k=r'.k+s'.k;rw [l.k,m.k],fun ⟨c1,c2,e,h1,h2⟩=>⟨c1,c2,e,l.ok h1,m.ok h2⟩⟩
theorem EJ{α:Type} {r r':Rp α} [l:pj r r'] {p:α→Prop} {xs:List α} (h:(ai.rw r p xs).holds X w v):(ai.rw r' tt xs).holds X w v:=by
 obtain ⟨_,A,n,c,e,h⟩:=h
 exact ⟨fun _ _=>trivial,A,n,c,e,h.le⟩
class CP (T:ai) (l:outParam (List Ln)):Prop where
 ok:∀ {X:List Nat} {w:World} {v:Value},T.holds X w v→(ai.rw Rp.lr tt l).holds X w v
instance {l:List Ln}:CP (.rw Rp.lr tt l) l:=⟨fun h=>h⟩
instance {e:TypeId} {B:Nat} {l:List Ln}:CP (.rw (Rp.lo e B) tt l) l:=⟨fun h=>EJ h⟩
instance {e e2:TypeId} {B B2:Nat} {p:Ln→Prop} {l:List Ln}:CP (.ow (Rp.lo e B) e2 p B2 l) l:=⟨fun h=>EJ (EX h)⟩
instance {B:Nat} {T:ai} {l:List Ln} [a:CP T l]:CP (.und B T) l:=⟨fun h=>a.ok (eN h)⟩
instance {T:ai} {l:List Ln} [a:CP T l]:Cc 20 T (.rw Rp.lr tt l):=⟨a.ok⟩
def ai.lnb (e:TypeId) (B:Nat) (ws:List Wd) (a:Int):ai:=⟨fun X w v=>∃ sv,v= .agg #[sv, .int .i64 a]∧(ai.ow Rp.wd e tt B ws).holds X w sv,fun ⟨sv,e,h⟩ hk hX=>⟨sv,e,(ai.ow _ _ _ _ _).stable h hk hX⟩⟩
def ai.lns (sv:Value) (e:TypeId) (B:Nat) (ws:List Wd) (a:Int):ai:=⟨fun X w v=>v= .agg #[sv, .int .i64 a]∧(ai.ow Rp.wd e tt B ws).holds X w sv,fun ⟨e,h⟩ hk hX=>⟨e,(ai.ow _ _ _ _ _).stable h hk hX⟩⟩
def ai.lnj (a:Int):ai:=⟨fun _ _ v=>∃ sv:Value,v= .agg #[sv, .int .i64 a]∧sv.oneCell'=true,fun h _ _=>h⟩
def ai.ows (sv:Value) (e:TypeId) (B:Nat) (ws:List Wd):ai:=⟨fun X w v=>v=sv∧(ai.ow Rp.wd e tt B ws).holds X w sv,fun ⟨e,h⟩ hk hX=>⟨e,(ai.ow _ _ _ _ _).stable h hk hX⟩⟩
theorem AM{α:Type} {r:Rp α} {p:α→Prop} {l:List α} (h:(ai.ow r e p B l).holds X w v):v.oneCell'=true:=by
 obtain ⟨A,c,ps,rfl,_⟩:=h
 rfl
theorem Ec{sv:Value} {ws:List Wd} (h:(ai.lns sv e B ws a).holds X w v):(ai.lnb e B ws a).holds X w v:=⟨sv,h.1,h.2⟩
theorem kB{ws:List Wd} (h:(ai.lnb e B ws a).holds X w v):(ai.lnj a).holds X w v:=by
 obtain ⟨sv,e,h⟩:=h
 exact ⟨sv,e,AM h⟩
theorem pI(h:(ai.lnj a).holds X w v):v.cells.size=2∧v.cells.all (·.oneCell')=true∧(true=true→v= .agg v.cells)∧(true=false→v.cells= #[v]):=by
 obtain ⟨sv,rfl,h1⟩:=h
 exact ⟨rfl,by simp [Value.cells,h1,show (Value.int .i64 a).oneCell'=true from rfl],fun _=>rfl,fun h=>by cases h⟩
instance {a:Int}:bi (.lnj a) 2 true:=⟨pI⟩
instance {e:TypeId} {B:Nat} {ws:List Wd} {a:Int}:bi (.lnb e B ws a) 2 true:=⟨fun h=>pI (kB h)⟩
instance {sv:Value} {e:TypeId} {B:Nat} {ws:List Wd} {a:Int}:bi (.lns sv e B ws a) 2 true:=⟨fun h=>pI (kB (Ec h))⟩
instance {e:TypeId} {B:Nat} {ws:List Wd} {a:Int}:az (.lnb e B ws a) 0 1 false (.ow Rp.wd e tt B ws):=⟨fun _=>rfl,fun {X w u} ⟨sv,e,h⟩=>⟨[sv],rfl,fun j x hj=>by
 subst e
 have:j=0∧x=sv:=by cases j with|zero=>exact ⟨rfl,by simpa using hj.symm⟩|succ j=>simp at hj
 rw [this.1,this.2];rfl,fun x _ hx=>by have:=hx rfl;simp at this;rw [←this];exact h⟩⟩
instance {sv:Value} {e:TypeId} {B:Nat} {ws:List Wd} {a:Int}:az (.lns sv e B ws a) 0 1 false (.ows sv e B ws):=⟨fun _=>rfl,fun {X w u} ⟨e,h⟩=>⟨[sv],rfl,fun j x hj=>by
 subst e
 have:j=0∧x=sv:=by cases j with|zero=>exact ⟨rfl,by simpa using hj.symm⟩|succ j=>simp at hj
 rw [this.1,this.2];rfl,fun x _ hx=>by have:=hx rfl;simp at this;rw [←this];exact ⟨rfl,h⟩⟩⟩
instance {e:TypeId} {B:Nat} {ws:List Wd} {a:Int}:az (.lnb e B ws a) 1 1 false (.is (.int .i64 a)):=⟨fun _=>rfl,fun {X w u} ⟨sv,e,h⟩=>⟨[.int .i64 a],rfl,fun j x hj=>by
 subst e
 have:j=0∧x= .int .i64 a:=by cases j with|zero=>exact ⟨rfl,by simpa using hj.symm⟩|succ j=>simp at hj
 rw [this.1,this.2];rfl,fun x _ hx=>by have:=hx rfl;simp at this;exact this.symm⟩⟩
instance {e:TypeId} {B:Nat} {ws:List Wd} {a:Int}:az (.lnb e B ws a) 0 2 true (.lnb e B ws a):=⟨(fun h=>by cases h),fun {X w u} h=>by
 obtain ⟨sv,e1,h1⟩:=h
 refine ⟨[sv, .int .i64 a],rfl,fun j x hj=>by subst e1;rw [Nat.zero_add];simpa [Value.cells] using hj,fun x hx _=> ?_⟩
 rw [hx rfl]
 exact ⟨sv,rfl,h1⟩⟩
instance {e:TypeId} {ws:List Wd} {a:Int}:d8 fun B=> .lnb e B ws a:=⟨fun hB ⟨sv,e1,A,c,ps,h1,h2,h3,h4,h5⟩=>⟨sv,e1,A,c,ps,h1,h2,h3,h4.lower hB,h5⟩⟩
instance {e e2:TypeId} {l:List Ln}:d8 fun B=> .ow (Rp.lo e B) e2 tt B l:=⟨fun hB ⟨A,c,ps,h1,h2,h3,h4,h5⟩=>⟨A,c,ps,h1,h2,fun q hq=>⟨(h3 q hq).1,((Rp.own Rp.wd e).pair (Rp.int .i64)).more (h3 q hq).2 fun b hb=>⟨hb.1,Nat.le_trans hB hb.2⟩⟩,h4.lower hB,h5⟩⟩
class IR (a b:TypeId):Prop where
 ne:a≠b
class IJ (e:TypeId) (T:ai) {α:outParam Type} (r:outParam (Rp α)) (a:outParam α):Prop where
 ok:∀ {X:List Nat} {w:World} {v:Value},T.holds X w v→∃ cs:List Value,v= .agg cs.toArray∧r.rd w (i0 e X w) a cs
instance {e:TypeId} {t:List UInt8} {a:Int}:IJ e (.is (.agg #[Tx t, .int .i64 a])) Rp.wd (t,a):=⟨fun h=>⟨[Tx t, .int .i64 a],h,[Tx t],[.int .i64 a],rfl,⟨_,rfl,bU t⟩,rfl⟩⟩
theorem Gv{w':World} {S S':Nat→Prop} {a:Wd} {cs:List Value} (h:Rp.wd.rd w S a cs):Rp.wd.rd w' S' a cs:=h
theorem Gd{e2:TypeId} {l:List Wd} (hne:e≠e2) (h:(ai.ow Rp.wd e tt B l).holds X w v):(Rp.own Rp.wd e).rd w (fun b=>i0 e2 X w b∧B≤b) l [v]:=by
 obtain ⟨A,c,ps,rfl,rfl,h3,h4,h5,_⟩:=h
 refine ⟨A,_,c,rfl,?_,fun b o hA hn=> ?_⟩
 ·obtain ⟨g1,g2,g3,g4,g5⟩:=h4.sl
  refine ⟨rfl,g2,g3,g4,fun hn=> ?_⟩
  obtain ⟨b,off,rfl,hb,hc⟩:=g5 hn
  obtain ⟨cur,hcur⟩:=h4.type (g:=b) rfl
  refine ⟨b,off,rfl,⟨⟨h5 b rfl,cur,e,(0,0),hcur,hne⟩,(h4.blk_ b rfl).1⟩,fun j a ha=> ?_⟩
  rw [List.getElem?_map] at ha
  cases hq:ps[j]? with
  |none=>rw [hq] at ha;cases ha
  |some q=>
   rw [hq] at ha
   obtain rfl:q.1=a:=by simpa using ha
   refine ⟨q.2,fun i u hu=> ?_,Gv (h3 q (List.mem_of_getElem? hq)).2⟩
   have:=hc (j*Rp.wd.k+i) u (j0 (fun q hq=>Rp.wd.len (h3 q hq).2) hq hu)
   rw [Nat.add_assoc]
   exact this
 ·rcases h4.form with ⟨rfl,h0,_⟩|⟨g,rfl,_⟩
  ·cases hA
  ·injection hA with hA
   injection hA with hb ho _
   subst hb
   exact ⟨ho.symm,h4.type rfl⟩
instance {e e2:TypeId} {B:Nat} {ws:List Wd} {a:Int} [n:IR e e2]:IJ e2 (.lnb e B ws a) (Rp.lo e B) (ws,a):=⟨fun {X w v} ⟨sv,hv,h⟩=>⟨[sv, .int .i64 a],hv,[sv],[.int .i64 a],rfl,Gd n.ne h,rfl⟩⟩
class Dy (T:ai) {α:outParam Type} (r:outParam (Rp α)) (e:outParam TypeId) (p:outParam (α→Prop)) (B:outParam Nat) (l:outParam (List α)):Prop where
 ok:∀ {X:List Nat} {w:World} {v:Value},T.holds X w v→(ai.ow r e p B l).holds X w v
instance {α:Type} {r:Rp α} {e:TypeId} {p:α→Prop} {B:Nat} {l:List α}:Dy (.ow r e p B l) r e p B l:=⟨fun h=>h⟩
instance {α:Type} {r:Rp α} {e:TypeId} {p:α→Prop} {B B2:Nat} {l:List α} {T:ai} [a:Dy T r e p B l]:Dy (.und B2 T) r e p B l:=⟨fun h=>a.ok (eN h)⟩
instance {X0:List Nat} {w0:World}:li w0.heap.size (.gh X0 w0):=⟨fun {X w w' v} ⟨h1,h2⟩ hs=>⟨h1,Nat.le_trans h2.size hs.size,fun b hb hx=>by
 have e:=h2.block b hb hx
 rcases hs.block b (Nat.lt_of_lt_of_le hb h2.size) with g|⟨g,_⟩
 ·exact g.trans e
 ·omega⟩⟩
instance {B:Nat} {c:List Value}:li B (.cs c):=⟨fun h _=>h⟩
instance {B:Nat} {a:Int}:li B (.lnj a):=⟨fun h _=>h⟩
instance {B:Nat}:li B ai.any:=⟨fun h _=>h⟩
section
variable {P:Program} {w00:World} {X:List Nat} {L L':List Loc} {E E0:List (Nat×ai)} {n:Nat} {ops:Array Oper} {rest:List Oper} {Q:Exit→Act→World→Prop} {cs:List Code} {t0:TypeId} {pos:String} {af:Array Edge}
theorem pS (hl:iX L L') (h:GR P w00 X L' E n ops rest cs Q):GR P w00 X L E n ops rest cs Q:=⟨fun a w ht=>h.run a w (ht.locs hl)⟩
theorem ug {α:Type} {r:Rp α} {e t:TypeId} {p:α→Prop} {B s x d bytes:Nat} {l:List α} {y:α} {Ts:ai} (ss:List Nat) (hB0:w00.heap.size≤B) (hsz:∀ a w,TS w00 X L E n a w→B≤w.heap.size) [hs:ce E s Ts] [ao:Dy Ts r e p B l] [hx:ce E x (.r1 r e p y)] [k:jQ E ss E0] [kL:ki B L] [kE:ki B E0] (T:iC P t e r.k bytes)
 (hlen:l.length≤1000000) (hby:bytes≤1000) (hd:(Nat.blt d n&& !(E0.map Prod.fst).elem d)=true)
 (h:GR P w00 X L ((d, .ow r e p B (l++[y]))::E0) n ops rest cs Q):GR P w00 X L E n ops (⟨some d, .call { callee:= .builtin .append,args:= #[.tmp s, .tmp x],argTypes:= #[t,t] },t0,pos,af,none⟩::rest) cs Q:=⟨fun a w ht=>by
 simp only [Bool.and_eq_true,Bool.not_eq_true'] at hd
 have hBw:=hsz a w ht
 obtain ⟨A,c,ps,es,hps,hrd,hown,hfree,_⟩:=ao.ok (ht.slots _ hs.mem)
 obtain ⟨hp,b,o,cs',ex,hb,hra,hrc⟩:=ht.slots _ hx.mem
 have hcl:=r.len hrc
 have hpos:=T.pos
 have hmx:l.length+1≤maxLen:=by unfold maxLen;omega
 have hsl:ql r.k w w.heap.size (some ⟨b,o,none⟩) 1 1 cs':=⟨by rw [hcl];omega,Nat.le_refl _,by unfold maxLen;omega,(fun h=>by cases h),fun _=>⟨b,o,rfl,hb.1,fun j u hu=>hra j u hu⟩⟩
 obtain ⟨A',c',w',hr,h2,h3,h4⟩:=mZ (A:=A) (A2:=some ⟨b,o,none⟩) T t0 hown hsl (r.one hrc) (by have:=Nat.mul_le_mul (show l.length+1≤1000001 by omega) hby;omega) hmx hBw
 have hch:Ch B X w w':=⟨h3.os,h3.tape,h3.output,h3.size,fun g hg=>by
  by_cases hA:fC A=some g
  ·exact .inr ⟨(hown.blk_ g hA).1,(hfree g hA).2⟩
  ·exact .inl (h3.block g hg (fun e=>hA e.symm))⟩
 have hkK:∀ g,i0 e X w g→w'.heap[g]? =w.heap[g]? :=fun g hg=>h3.block g hg.1.1 (fun e'=>by
  obtain ⟨cur,hcur⟩:=hown.type e'.symm
  obtain ⟨_,cs',t',f',h5,h6⟩:=hg
  rw [hcur] at h5
  injection h5 with h5
  injection h5 with _ h5 _
  exact h6 h5.symm)
 have hmoreK:∀ g,i0 e X w g→i0 e X w' g:=fun g hg=>by
  obtain ⟨h1,cs',t',f',h5,h6⟩:=hg
  exact ⟨⟨Nat.lt_of_lt_of_le h1.1 h3.size,h1.2⟩,cs',t',f',(hkK g ⟨h1,cs',t',f',h5,h6⟩).trans h5,h6⟩
 have hT:(ai.ow r e p B (l++[y])).holds X w' (.slice A' (l.length+1) c'):=by
  refine ⟨A',c',ps++[(y,cs')],by simp,by simp [hps],fun q hq=> ?_,by simpa using h2,fun g hg=> ?_,fun h=>by simp at h⟩
  ·rcases List.mem_append.1 hq with hq|hq
   ·exact ⟨(hrd q hq).1,r.more (r.keep (hrd q hq).2 hkK) hmoreK⟩
   ·rw [List.mem_singleton.1 hq]
    exact ⟨hp,r.more (r.keep hrc hkK) hmoreK⟩
  ·have hlt:=(h2.blk_ g hg).2
   rcases h4 g hg with h5|h5
   ·exact ⟨hlt,(hfree g h5).2⟩
   ·exact ⟨hlt,fun hx=>by have:=ht.mem.far g hx;omega⟩
 have h5:=(ht.keep (E':=E0) ss).ch hch hB0
 refine ⟨wpList_plain rfl fun K hK'=> ?_⟩
 have e1:a.eval (.tmp s)= .slice A l.length c:=es
 have e2:a.eval (.tmp x)= .slice (some ⟨b,o,none⟩) 1 1:=ex
 unfold Oper.wp execOp
 simp only [resolve,invoke,builtin,Sem.run_bind,Sem.run_pure,Result.andThen_ok,List.map_toArray,List.map_cons,List.map_nil,e1,e2,hr]
 exact hK' _ _ (h.run _ _ (h5.new hd.2 (by rw [←Nat.blt_eq];exact hd.1) hT (Below.refl _ _))).out⟩
theorem Iz {ty e:TypeId} {s r:Nat} {o:Operand} {B:Nat} {ws:List Wd} {a0:Int} [hs:ce E s (.is (.pointer (some ⟨r,0,none⟩)))] [ho:b_ E o (.ow Rp.wd e tt B ws)] [hu:ko L r (.lnj a0) (.lnb e B ws a0) L'] [hty:eV P ty 1 false]
 (h:GR P w00 X L' E n ops rest cs Q):GR P w00 X L E n ops (⟨none, .store ty (.tmp s) o,t0,pos,af,none⟩::rest) cs Q:=⟨fun a w ht=>by
 refine cA rfl ?_
 have e1:a.eval (.tmp s)= .pointer (some ⟨r,0,none⟩):=ht.slots _ hs.mem
 have e2:(ai.ow Rp.wd e tt B ws).holds X w (a.eval o):=ho.get (X:=X) (w:=w) (fun _=>rfl) fun p hp _=>ht.slots p hp
 generalize hev:a.eval o=v at e2
 have h1:=AM e2
 obtain ⟨g1,g2,u,ty',⟨sv,rfl,_⟩,g4⟩:=ht.mem.loc _ hu.upd.mem
 have hi:=hty.size
 have hcell:w.cell? ⟨r,0,none⟩=some sv:=eX g4 rfl
 have hfro:w.frozen? ⟨r,0,none⟩=false:=by simp [World.frozen?,g4]
 have hadd:(⟨r,0,none⟩:Addr).add 0=⟨r,0,none⟩:=by unfold Addr.add;split<;>simp_all
 have hst:(store ((⟨r,0,none⟩:Addr).add 0) v).run P w= .ok () (w.setRow r #[v, .int .i64 a0]):=by
  rw [hadd,run_store P w _ v _ h1,hcell]
  have:=setCell_eq_setRow w r 0 #[sv, .int .i64 a0] ty' (0,0) v g4
  simp [hfro,this]
 have hcl:v.cells= #[v]:=fl h1
 have hsv:(storeVar ty ⟨r,0,none⟩ v).run P w= .ok () (w.setRow r #[v, .int .i64 a0]):=by
  cases hq:P.info? ty with
  |none=>simp [hq] at hi
  |some q=>
   have hs:q.size=1:=by simpa [hq] using hi
   simp [storeVar,sizeOf,typeInfo,hq,hcl,hs,storeCells,hst]
 have hk:=mY (w:=w) g1 #[v, .int .i64 a0]
 have hnew:=ht.write (k:=2) (k0:=2) (ag:=true) (ag0:=true) (v:= .agg #[v, .int .i64 a0]) hu.upd ⟨v,rfl,e2⟩
 unfold Oper.wp execOp
 simp only [e1,Instr.storeAt,Instr.sureAddr,Sem.run_bind,Sem.run_pure,Result.andThen_ok,hev,hsv]
 exact h.run a _ hnew⟩
end
section
variable {P:Program} {w00:World} {N:Nat} {L:List Loc} {E:List (Nat×ai)} {d:Nat} {t0:TypeId} {pos:String} {af:Array Edge} {gd:Option (Nat×Bool)} {ats:Array TypeId}
end
section
variable {P:Program} {w00:World} {X:List Nat} {E E0:List (Nat×ai)} {n:Nat} {ops:Array Oper} {rest:List Oper} {Q:Exit→Act→World→Prop} {cs:List Code} {t0:TypeId} {pos:String} {af:Array Edge}
end
instance:eV Tryz.prog 68 2 true:=⟨⟨_,Tryz.underlying68,rfl⟩,by kernel_rfl⟩
instance:eV Tryz.prog 66 2 true:=⟨⟨_,Tryz.underlying66,rfl⟩,by kernel_rfl⟩
instance:eV Tryz.prog 64 1 false:=⟨⟨_,Tryz.underlying64,rfl⟩,by kernel_rfl⟩
instance:cO Tryz.prog 64 2:=⟨⟨_,Tryz.underlying64,by kernel_rfl⟩⟩
instance:eV Tryz.prog 59 1 false:=⟨⟨_,Tryz.underlying59,rfl⟩,by kernel_rfl⟩
instance:cO Tryz.prog 59 2:=⟨⟨_,Tryz.underlying59,by kernel_rfl⟩⟩
instance:aP Tryz.prog 68 0 0 1 false:=⟨⟨_,_,Tryz.underlying68,rfl,rfl,by kernel_rfl,by decide,_,Tryz.underlying9,rfl⟩⟩
instance:aP Tryz.prog 68 1 1 1 false:=⟨⟨_,_,Tryz.underlying68,rfl,rfl,by kernel_rfl,by decide,_,Tryz.underlying3,rfl⟩⟩
instance:aP Tryz.prog 66 0 0 1 false:=⟨⟨_,_,Tryz.underlying66,rfl,rfl,by kernel_rfl,by decide,_,Tryz.underlying64,rfl⟩⟩
instance:aP Tryz.prog 66 1 1 1 false:=⟨⟨_,_,Tryz.underlying66,rfl,rfl,by kernel_rfl,by decide,_,Tryz.underlying3,rfl⟩⟩
instance:IR 68 66:=⟨by decide⟩
instance:cX Tryz.prog 66 (.lnj 0):=⟨⟨.agg #[.slice none 0 0, .int .i64 0],fun X w=>⟨_,rfl,rfl⟩,fun o ρ w e=>by
 cases o with
 |mk dst op ty pos af gd=>
  have e':op=_:=e
  subst e'
  go_simp⟩⟩
instance:eV Tryz.prog 86 2 true:=⟨⟨_,Tryz.underlying86,rfl⟩,by kernel_rfl⟩
instance:eV Tryz.prog 89 2 true:=⟨⟨_,Tryz.underlying89,rfl⟩,by kernel_rfl⟩
instance:eV Tryz.prog 87 1 false:=⟨⟨_,Tryz.underlying87,rfl⟩,by kernel_rfl⟩
instance:cO Tryz.prog 87 2:=⟨⟨_,Tryz.underlying87,by kernel_rfl⟩⟩
instance:eV Tryz.prog 83 1 false:=⟨⟨_,Tryz.underlying83,rfl⟩,by kernel_rfl⟩
instance:cO Tryz.prog 83 2:=⟨⟨_,Tryz.underlying83,by kernel_rfl⟩⟩
instance:aP Tryz.prog 86 0 0 1 false:=⟨⟨_,_,Tryz.underlying86,rfl,rfl,by kernel_rfl,by decide,_,Tryz.underlying9,rfl⟩⟩
instance:aP Tryz.prog 86 1 1 1 false:=⟨⟨_,_,Tryz.underlying86,rfl,rfl,by kernel_rfl,by decide,_,Tryz.underlying3,rfl⟩⟩
instance:aP Tryz.prog 89 0 0 1 false:=⟨⟨_,_,Tryz.underlying89,rfl,rfl,by kernel_rfl,by decide,_,Tryz.underlying87,rfl⟩⟩
instance:aP Tryz.prog 89 1 1 1 false:=⟨⟨_,_,Tryz.underlying89,rfl,rfl,by kernel_rfl,by decide,_,Tryz.underlying3,rfl⟩⟩
instance:IR 86 89:=⟨by decide⟩
instance:cX Tryz.prog 89 (.lnj 0):=⟨⟨.agg #[.slice none 0 0, .int .i64 0],fun X w=>⟨_,rfl,rfl⟩,fun o ρ w e=>by
 cases o with
 |mk dst op ty pos af gd=>
  have e':op=_:=e
  subst e'
  go_simp⟩⟩
instance:cX Tryz.prog 68 (.ra Rp.wd ([],0)):=⟨⟨.agg #[Tx [], .int .i64 0],fun X w=>⟨[Tx [], .int .i64 0],rfl,[Tx []],[.int .i64 0],rfl,⟨_,rfl,bU []⟩,rfl⟩,fun o ρ w e=>by
 cases o with
 |mk dst op ty pos af gd=>
  have e':op=_:=e
  subst e'
  go_simp⟩⟩
theorem Hp:iC Tryz.prog 64 68 2 24:=⟨Tryz.underlying64,by decide,by
 obtain ⟨i,h1,h2,h3,h4⟩:∃ i,Tryz.prog.info? 68=some i∧i.zero=some (.agg #[Tx [], .int .i64 0])∧i.size=2∧i.bytes=24:=info_parts qK
 exact ⟨i,_,h1,h2,h3,h4,rfl⟩⟩
theorem xT:iC Tryz.prog 59 66 2 32:=⟨Tryz.underlying59,by decide,by
 obtain ⟨i,h1,h2,h3,h4⟩:∃ i,Tryz.prog.info? 66=some i∧i.zero=some (.agg #[.slice none 0 0, .int .i64 0])∧i.size=2∧i.bytes=32:=info_parts qK
 exact ⟨i,_,h1,h2,h3,h4,rfl⟩⟩
section
variable {w00:World} {N:Nat} {L:List Loc} {E:List (Nat×ai)} {d:Nat} {t0:TypeId} {pos:String} {af:Array Edge} {gd:Option (Nat×Bool)}
theorem qU[ho:b_ E o (.is (.int .i64 a))]:aR Tryz.prog w00 N L E ⟨some d, .build 66 #[(1,o)],t0,pos,af,gd⟩ (.lnb 68 B [] a):=by
 constructor
 intro X ρ w hc _ hN hm hsl
 have e0:ρ o= .int .i64 a:=ho.get (X:=X) (w:=w) hc fun p hp e=>hsl p hp qS
 have H:=Lib.hid (show (ai.lnb 68 B [] a).holds X w (.agg #[.slice none 0 0, .int .i64 a]) from ⟨_,rfl,wO rfl⟩)
 clear hc hsl ho hm
 unfold Yields
 go_simp
 exact ⟨H.out,Below.refl _ _⟩
theorem qq{o1:Operand} {t:List UInt8} [ho:b_ E o (.is (Tx t))] [h1:b_ E o1 (.is (.int .i64 a))]:aR Tryz.prog w00 N L E ⟨some d, .build 68 #[(0,o),(1,o1)],t0,pos,af,gd⟩ (.is (.agg #[Tx t, .int .i64 a])):=by
 constructor
 intro X ρ w hc _ hN hm hsl
 have e0:ρ o=Tx t:=ho.get (X:=X) (w:=w) hc fun p hp e=>hsl p hp qS
 have e1:ρ o1= .int .i64 a:=h1.get (X:=X) (w:=w) hc fun p hp e=>hsl p hp qS
 clear hc hsl ho h1 hm
 unfold Yields
 go_simp
 exact ⟨rfl,Below.refl _ _⟩
theorem mB{r:Rp Wd} {a:Wd} [ho:b_ E o T] [kx:IJ 68 T r a] (hk:r.k=2):aR Tryz.prog w00 N L E ⟨some d, .buildSlice 64 1 #[(0,o)],t0,pos,af,gd⟩ (.r1 r 68 tt a):=by
 constructor
 intro X ρ w hc _ hN hm hsl
 obtain ⟨cs,e0,g0⟩:=kx.ok (ho.get (X:=X) (w:=w) hc fun p hp e=>hsl p hp qS)
 obtain ⟨u,v,rfl⟩:∃ u v,cs=[u,v]:=by
  have:=(r.len g0).trans hk
  match cs,this with
  |[u,v],_=>exact ⟨u,v,rfl⟩
 have hb:Below w.heap.size w (w.alloc (.cells #[u,v] 68)):=(Below.refl _ _).alloc (Nat.le_refl _) _
 have hT:(ai.r1 r 68 tt a).holds X (w.alloc (.cells #[u,v] 68)) (.slice (some ⟨w.heap.size,0,none⟩) 1 1):=by
  refine ⟨trivial,w.heap.size,0,_,rfl,⟨by rw [aX];omega,fun hx=>by have:=hm.far _ hx;omega⟩,?_,Rp.upK r g0 (Below.keeps hb X) fun _ h _=>h⟩
  intro j x hj
  have:=ov (w:=w) (T:=68) (pre:=[]) (cs:=[u,v]) (ds:=[u,v]) (List.prefix_refl _) j x hj
  simpa using this
 have e0':ρ o= .agg #[u,v]:=e0
 have HT:=Lib.hid hT
 have HB:=Lib.hid hb
 clear hT hb hsl hm hc g0 ho e0
 unfold Yields
 go_simp
 exact ⟨HT.out,HB.out⟩
theorem jq{r:Rp Ln} {a:Ln} [ho:b_ E o T] [kx:IJ 66 T r a] (hk:r.k=2):aR Tryz.prog w00 N L E ⟨some d, .buildSlice 59 1 #[(0,o)],t0,pos,af,gd⟩ (.r1 r 66 tt a):=by
 constructor
 intro X ρ w hc _ hN hm hsl
 obtain ⟨cs,e0,g0⟩:=kx.ok (ho.get (X:=X) (w:=w) hc fun p hp e=>hsl p hp qS)
 obtain ⟨u,v,rfl⟩:∃ u v,cs=[u,v]:=by
  have:=(r.len g0).trans hk
  match cs,this with
  |[u,v],_=>exact ⟨u,v,rfl⟩
 have hb:Below w.heap.size w (w.alloc (.cells #[u,v] 66)):=(Below.refl _ _).alloc (Nat.le_refl _) _
 have hT:(ai.r1 r 66 tt a).holds X (w.alloc (.cells #[u,v] 66)) (.slice (some ⟨w.heap.size,0,none⟩) 1 1):=by
  refine ⟨trivial,w.heap.size,0,_,rfl,⟨by rw [aX];omega,fun hx=>by have:=hm.far _ hx;omega⟩,?_,Rp.upK r g0 (Below.keeps hb X) fun _ h _=>h⟩
  intro j x hj
  have:=ov (w:=w) (T:=66) (pre:=[]) (cs:=[u,v]) (ds:=[u,v]) (List.prefix_refl _) j x hj
  simpa using this
 have e0':ρ o= .agg #[u,v]:=e0
 have HT:=Lib.hid hT
 have HB:=Lib.hid hb
 clear hT hb hsl hm hc g0 ho e0
 unfold Yields
 go_simp
 exact ⟨HT.out,HB.out⟩
end
theorem xL (s:List UInt8) (p:UInt8→Bool) (i:Nat):s.drop (i+((s.drop i).takeWhile p).length)=(s.drop i).dropWhile p:=by
 rw [←List.drop_drop]
 exact mm _
theorem mO {l:List UInt8} (hl:l.length≤1000000):dB Tryz.prog S1 94 [0] [.is (Tx l)] (fun _=> .is (Tx l)):=by
 have hc:dB Tryz.prog S1 149 [0] [.is (Tx l)] (fun _=> .is (Tx l)):=Gp (fun _ _=>by kernel_rfl) fun w _=>Tryz.stringslite_Clone ⟨l.toArray⟩ w (by rw [fR];omega)
 refine fA Tryz.func94 rfl Tryz.ntmps94 qE (fun _ _=>by kernel_rfl) fun X w hE=> ?_
 simp only [bf,Nat.zero_add,Nat.reduceAdd]
 repeat' first|kernel_rfl|apply aF|apply aG|apply aI|apply aD|apply aH|apply aM|apply aN|apply aA|apply aE|apply be|apply aq|apply a_|apply a8|apply aB|refine fm rfl ?_|apply bc|exact sc trivial hc|exact aj|exact ab|exact Cv.rfl'|intro _
theorem Fz{s:List UInt8} (hs:s.length≤100000) (hi:i≤s.length):IQ Tryz.prog S1 55 (.cs [Tx s, .int .i64 (i:Int)]) [] [] (.cs [Tx s, .int .i64 ((s.length - (z5 (s.drop i) (i:Int)).length:Nat):Int)]) (fun B=> .lnb 68 B (yq (s.drop i) (i:Int)) (i:Int)):=by
 refine Jg Tryz.func55 rfl Tryz.ntmps55 qE (fun _ _=>by kernel_rfl) fun w00 X r wS hG hm=> ?_
 simp only [bf,Nat.zero_add,Nat.reduceAdd,List.cons_append,List.nil_append]
 repeat' first|kernel_rfl|apply aF|apply aG|apply aI|apply b9 (id:=6) [] [] 7|apply bQ|apply de|exact bT.nil|exact aZ.nil|exact aY.nil|apply aD|apply aH|apply aM|apply aN|apply aA|apply aE|apply be|apply aq|apply a_|apply a8|apply aB|refine yv rfl hm ?_|apply bl|apply bO|apply bN|apply eo|apply em|refine eu rfl ?_|apply ep|apply ew|apply bc|exact sc trivial nq|exact sc trivial pQ|exact sc trivial (mO qL)|exact cY trivial (jK qL)|exact cY trivial (ct qL qL qL)|exact qU (B:=wS.heap.size)|exact qq|exact mB rfl|exact bj qG|exact bn|exact aj|exact ab|exact ah|exact aa|exact au qG|exact ae|exact Cv.rfl'|(intro _;simp only[cP,cQ,cS,List.map,List.cons_append,List.nil_append])|intro _
 refine kd fun a w h=> ?_
 rename_i rb ra
 have hB0:w00.heap.size≤wS.heap.size:=hm.below.size
 refine iG (fun k a u=>∃ (n j:Nat) (ws:List Wd),(s.drop j).length<n∧j≤s.length∧k=s.length - j∧ws.length≤j∧pC ((s.drop i).length+1) (s.drop i) (i:Int)=(ws++(pC n (s.drop j) (j:Int)).1,(pC n (s.drop j) (j:Int)).2)∧
  TS w00 (ra::rb::X) [(ra, .lnb 68 wS.heap.size ws (i:Int)),(rb, .lnj 0),(r, .cs [Tx s, .int .i64 (j:Int)])] [(3, .is (.pointer (some ⟨ra,0,none⟩))),(2, .is (.pointer (some ⟨rb,0,none⟩))),(0, .is (.pointer (some ⟨r,0,none⟩))),(999, .gh X wS)] 37 a u) (s.length - i) ⟨_,i,[],Nat.lt_succ_self _,hi,rfl,Nat.zero_le _,rfl,h.keep [3,2,0,999]⟩ ?_
 clear h
 rintro k a u ⟨n,j,ws,hn,hj,rfl,hwl,hf,h⟩
 obtain ⟨n,rfl⟩:∃ m,n=m+1:=⟨n - 1,by omega⟩
 replace hs:s.length≤1000000:=qO
 have hdj:(s.drop j).length=s.length - j:=List.length_drop
 have hT1:=tm (p:=gf) hs hj
 have hA:=jY (p:=gf) (s.drop j)
 have hd1:=xL s gf j
 generalize hF:pC ((s.drop i).length+1) (s.drop i) (i:Int)=F at hf
 unfold pC at hf
 rw [←hd1] at hf
 obtain ⟨j1,hj1⟩:∃ x,x=j+((s.drop j).takeWhile gf).length:=⟨_,rfl⟩
 have hjj:(j:Int)+(((s.drop j).takeWhile gf).length:Int)=(j1:Int):=qO
 rw [hjj] at hf
 rw [←hj1] at hT1 hf hd1
 have hj1s:j1≤s.length:=qO
 have hd1l:(s.drop j1).length=s.length - j1:=List.length_drop
 have hT2:=(tm (p:=iE) hs hj1s).args (ks':=[0]) (As':=[.fv 93 [] []]) fun {X w vs} h=>by
  obtain ⟨v,rfl,h1⟩:=h.one
  exact ⟨Ig (fun c=>BL) h1,trivial⟩
 have hB:=jY (p:=iE) (s.drop j1)
 have hd2:=xL s iE j1
 rw [←hd2] at hf
 obtain ⟨j2,hj2⟩:∃ x,x=j1+((s.drop j1).takeWhile iE).length:=⟨_,rfl⟩
 have hjj2:(j1:Int)+(((s.drop j1).takeWhile iE).length:Int)=(j2:Int):=qO
 rw [hjj2] at hf
 rw [←hj2] at hT2 hf hd2
 have hj2s:j2≤s.length:=qO
 have hWl:((s.drop j1).takeWhile iE).length≤1000000:=qO
 generalize hW:(s.drop j1).takeWhile iE=W at*
 cases he:(W==[])
 ·rw [he] at hf
  simp only [cond_false] at hf
  have hpos:0<W.length:=by
   rcases Nat.eq_zero_or_pos W.length with e|e
   ·rw [List.length_eq_zero_iff.1 e] at he;cases he
   ·exact e
  have hd2l:(s.drop j2).length=s.length - j2:=List.length_drop
  rw [show ws++(W,(j1:Int))::(pC n (s.drop j2) (j2:Int)).1=(ws++[(W,(j1:Int))])++(pC n (s.drop j2) (j2:Int)).1 by rw [List.append_assoc];rfl] at hf
  have hl1:(ws++[(W,(j1:Int))]).length≤j2:=by rw [List.length_append,List.length_singleton];omega
  clear hW
  refine fh h ?_
  clear h
  repeat' first|kernel_rfl|(refine ti trivial hT1 qK ?_)|(refine ti trivial hT2 qK ?_)|(refine pS (L':=[(_, .lnj _),(_, .lnj _),(_, .cs _)]) (.cons (fun _ _ _ h=>kB h) (.same (.same .nil))) (ug [0,2,3,999] hB0 (fun _ _ ht=>Em (X0:=X) (w0:=wS) ht) Hp qO qD qK ?_))|apply Iz|exact iz fun _ _ h=>⟨s.length - j2,by omega,n,j2,ws++[(W,(j1:Int))],by omega,hj2s,rfl,hl1,hf,h.keep [3,2,0,999]⟩|apply aF|apply aG|apply aI|apply b9 (id:=6) [] [] 7|apply bQ|apply de|exact bT.nil|exact aZ.nil|exact aY.nil|apply aD|apply aH|apply aM|apply aN|apply aA|apply aE|apply be|apply aq|apply a_|apply a8|apply aB|refine yv rfl hm ?_|apply bl|apply bO|apply bN|apply eo|apply em|refine eu rfl ?_|apply ep|apply ew|apply bc|exact sc trivial nq|exact sc trivial pQ|exact sc trivial (mO qL)|exact cY trivial (jK qL)|exact cY trivial (ct qL qL qL)|exact qU (B:=wS.heap.size)|exact qq|exact mB rfl|exact bj qG|exact bn|exact aj|exact ab|exact ah|exact aa|exact au qG|exact ae|exact Cv.rfl'|(intro _;simp only[cP,cQ,cS,List.map,List.cons_append,List.nil_append])|intro _
 ·rw [he] at hf
  simp only [cond_true,List.append_nil] at hf
  have e1:yq (s.drop i) (i:Int)=ws:=by unfold yq;rw [hF,hf]
  have e2:z5 (s.drop i) (i:Int)=Dt (s.drop j1):=by unfold z5;rw [hF,hf]
  have hW0:W=[]:=by simpa using he
  have hj12:j2=j1:=by rw [hj2,hW0];rfl
  subst hj12
  rw [e1,e2]
  clear e1 e2 hf hd2
  cases hc:decide ((j2:Int)<(s.length:Int))
  ·have e3:s.drop j2=[]:=List.length_eq_zero_iff.1 (by have:=of_decide_eq_false hc;omega)
   have e4:s.length - (Dt (s.drop j2)).length=j2:=by rw [e3];have:=of_decide_eq_false hc;show s.length - 0=j2;omega
   rw [e4]
   refine fh h ?_
   clear h
   repeat' first|kernel_rfl|(refine ti trivial hT1 qK ?_)|(refine ti trivial hT2 qK ?_)|apply aF|apply aG|apply aI|apply b9 (id:=6) [] [] 7|apply bQ|apply de|exact bT.nil|exact aZ.nil|exact aY.nil|apply aD|apply aH|apply aM|apply aN|apply aA|apply aE|apply be|apply aq|apply a_|apply a8|apply aB|refine yv rfl hm ?_|apply bl|apply bO|apply bN|apply eo|apply em|refine eu rfl ?_|apply ep|apply ew|apply bc|exact sc trivial nq|exact sc trivial pQ|exact sc trivial (mO qL)|exact cY trivial (jK qL)|exact cY trivial (ct qL qL qL)|exact qU (B:=wS.heap.size)|exact qq|exact mB rfl|exact bj qG|exact bn|exact aj|exact ab|exact ah|exact aa|exact au qG|exact ae|exact Cv.rfl'|(intro _;simp only[cP,cQ,cS,List.map,List.cons_append,List.nil_append])|intro _
  ·have hlt:=of_decide_eq_true hc
   obtain ⟨c,hx⟩:∃ c,s[j2]? =some c:=⟨_,List.getElem?_eq_getElem qO⟩
   have hix:0≤(j2:Int)∧s[(j2:Int).toNat]? =some c:=⟨by omega,hx⟩
   have hcons:s.drop j2=c::s.drop (j2+1):=by
    obtain ⟨hl,hc⟩:=List.getElem?_eq_some_iff.1 hx
    rw [List.drop_eq_getElem_cons hl,hc]
   have hr:Dt (s.drop j2)=bif (c.toNat:Int)==35 then (s.drop j2).dropWhile pg else s.drop j2:=by rw [hcons];rfl
   have hT3:=tm (p:=pg) hs hj1s
   have ht:=G9 pg (s.drop j2)
   cases Ik:((c.toNat:Int)==35)
   ·rw [Ik] at hr
    have e4:s.length - (Dt (s.drop j2)).length=j2:=by rw [hr];show s.length - (s.drop j2).length=j2;omega
    rw [e4]
    refine fh h ?_
    clear h
    repeat' first|kernel_rfl|(refine ti trivial hT1 qK ?_)|(refine ti trivial hT2 qK ?_)|apply aF|apply aG|apply aI|apply b9 (id:=6) [] [] 7|apply bQ|apply de|exact bT.nil|exact aZ.nil|exact aY.nil|apply aD|apply aH|apply aM|apply aN|apply aA|apply aE|apply be|apply aq|apply a_|apply a8|apply aB|refine yv rfl hm ?_|apply bl|apply bO|apply bN|apply eo|apply em|refine eu rfl ?_|apply ep|apply ew|apply bc|exact sc trivial nq|exact sc trivial pQ|exact sc trivial (mO qL)|exact cY trivial (jK qL)|exact cY trivial (ct qL qL qL)|exact qU (B:=wS.heap.size)|exact qq|exact mB rfl|exact bj qG|exact bn|exact aj|exact ab|exact ah|exact aa|exact au qG|exact ae|exact Cv.rfl'|(intro _;simp only[cP,cQ,cS,List.map,List.cons_append,List.nil_append])|intro _
   ·rw [Ik] at hr
    have e4:s.length - (Dt (s.drop j2)).length=j2+((s.drop j2).takeWhile pg).length:=by rw [hr];simp only [cond_true];omega
    rw [e4]
    refine fh h ?_
    clear h
    repeat' first|kernel_rfl|(refine ti trivial hT1 qK ?_)|(refine ti trivial hT2 qK ?_)|(refine ti trivial hT3 qK ?_)|apply aF|apply aG|apply aI|apply b9 (id:=6) [] [] 7|apply bQ|apply de|exact bT.nil|exact aZ.nil|exact aY.nil|apply aD|apply aH|apply aM|apply aN|apply aA|apply aE|apply be|apply aq|apply a_|apply a8|apply aB|refine yv rfl hm ?_|apply bl|apply bO|apply bN|apply eo|apply em|refine eu rfl ?_|apply ep|apply ew|apply bc|exact sc trivial nq|exact sc trivial pQ|exact sc trivial (mO qL)|exact cY trivial (jK qL)|exact cY trivial (ct qL qL qL)|exact qU (B:=wS.heap.size)|exact qq|exact mB rfl|exact bj qG|exact bn|exact aj|exact ab|exact ah|exact aa|exact au qG|exact ae|exact Cv.rfl'|(intro _;simp only[cP,cQ,cS,List.map,List.cons_append,List.nil_append])|intro _
theorem oa (p:UInt8→Bool) (l:List UInt8):∃ q,l=q++l.dropWhile p:=⟨l.takeWhile p,(List.takeWhile_append_dropWhile).symm⟩
theorem xr:∀ (n:Nat) (l:List UInt8) (a:Int),∃ q,l=q++(pC n l a).2
 |0,l,_=>⟨[],rfl⟩
 |n+1,l,a=>by
  unfold pC
  obtain ⟨q1,h1⟩:=oa gf l
  cases ((l.dropWhile gf).takeWhile iE==[])
  ·obtain ⟨q2,h2⟩:=oa iE (l.dropWhile gf)
   obtain ⟨q3,h3⟩:=xr n ((l.dropWhile gf).dropWhile iE) (a+((l.takeWhile gf).length:Int)+(((l.dropWhile gf).takeWhile iE).length:Int))
   refine ⟨q1++(q2++q3),?_⟩
   simp only [cond_false]
   rw [List.append_assoc,List.append_assoc,←h3,←h2,←h1]
  ·exact ⟨q1,h1⟩
theorem Ep (l:List UInt8) (a:Int):∃ q,l=q++z5 l a:=by
 obtain ⟨q1,h1⟩:=xr (l.length+1) l a
 unfold z5 Dt
 cases Ik (pC (l.length+1) l a).2
 ·exact ⟨q1,h1⟩
 ·obtain ⟨q2,h2⟩:=oa pg (pC (l.length+1) l a).2
  refine ⟨q1++q2,?_⟩
  simp only [cond_true]
  rw [List.append_assoc,←h2,←h1]
theorem Bo{s q t:List UInt8} (hj:j≤s.length) (h:s.drop j=q++t):s.drop (s.length - t.length)=t∧t.length≤s.length - j:=by
 have hl:=congrArg List.length h
 rw [List.length_append,List.length_drop] at hl
 have e:s.length - t.length=j+q.length:=qO
 rw [e,←List.drop_drop,h,List.drop_left']
 ·exact ⟨rfl,by omega⟩
 ·rfl
theorem TS.drop{b:Nat} {a:Act} (h:TS w00 (b::X) ((b,T)::L) E n a w):TS w00 X L E n a w:=by
 have hs:∀ {T:ai} {u:Value},T.holds (b::X) w u→T.holds X w u:=fun {T u} h=>T.stable h ⟨Nat.le_refl _,fun _ _ _=>rfl⟩ fun c hc _=>List.mem_cons_of_mem _ hc
 have hn:=h.mem.nodup
 rw [List.map_cons,List.nodup_cons] at hn
 refine ⟨h.size,h.df,fun p hp=>hs (h.slots p hp),⟨fun p hp=> ?_,fun c hc=>h.mem.far c (List.mem_cons_of_mem _ hc),hn.2,h.mem.below⟩⟩
 obtain ⟨g1,g2,v,ty,g3,g4⟩:=h.mem.loc p (List.mem_cons_of_mem _ hp)
 refine ⟨?_,g2,v,ty,hs g3,g4⟩
 rcases List.mem_cons.1 g1 with e|g
 ·exact absurd (by show b∈L.map Prod.fst;rw [←show p.1=b from e];exact List.mem_map_of_mem hp) hn.1
 ·exact g
theorem Bm{r:Rp Ln} {U:ai}:Cv (.tup [.is (.slice none 0 0),T,U]) (.tup [.ow r e tt B [],T,U]):=⟨fun X w v h=>by
 obtain ⟨vs,e,h⟩:=h
 refine ⟨vs,e,?_⟩
 match vs,h with
 |[_,_,_],⟨h1,h2⟩=>exact ⟨wO h1,h2⟩⟩
def kv (s:List UInt8) (R:List Ln×Int×Int) (k j:Nat) (out:List Ln):Prop:=out.length≤j∧((j≤s.length∧k=s.length - j+1∧lx (s.drop j) (j:Int) out [] (j:Int) false false=R)∨(j=s.length+1∧k=0∧R=(out,0,0)))
theorem kv.over{s:List UInt8} {R:List Ln×Int×Int} {out:List Ln} (h:kv s R k j out) (hj:decide ((j:Int)<(s.length:Int))=false):R=(out,0,0):=by
 have:=of_decide_eq_false hj
 rcases h.2 with ⟨h1,h2,h3⟩|⟨_,_,h3⟩
 ·rw [←h3,List.drop_eq_nil_of_le qO];rfl
 ·exact h3
theorem xc (out:List Ln) (ws:List Wd) (la:Int):(vZ out ws la).length≤out.length+1:=by
 unfold vZ
 cases ws.isEmpty
 ·simp
 ·simp
theorem kv.last{s:List UInt8} {R:List Ln×Int×Int} {out:List Ln} (h:kv s R k j out) (hj:decide ((j:Int)<(s.length:Int))=true) (hr:z5 (s.drop j) (j:Int)=[]):∃ k',k'<k∧kv s R k' (s.length+1) (vZ out (yq (s.drop j) (j:Int)) (j:Int)):=by
 have:=of_decide_eq_true hj
 rcases h.2 with ⟨h1,h2,h3⟩|⟨h1,_⟩
 ·refine ⟨0,by omega,?_, .inr ⟨rfl,rfl,?_⟩⟩
  ·have:=xc out (yq (s.drop j) (j:Int)) (j:Int)
   have:=h.1
   omega
  ·rw [←h3,rT]
   unfold tC
   rw [hr]
 ·omega
theorem kv.step{s:List UInt8} {R:List Ln×Int×Int} {out:List Ln} (h:kv s R k j out) (hj:decide ((j:Int)<(s.length:Int))=true) {c:UInt8} {r:List UInt8} (hr:z5 (s.drop j) (j:Int)=c::r):∃ j1,s.length - (z5 (s.drop j) (j:Int)).length=j1∧j≤j1∧decide ((j1:Int)<(s.length:Int))=true∧(0≤(j1:Int)∧s[(j1:Int).toNat]? =some c)∧
 (((c.toNat:Int)==10)=true→∃ k',k'<k∧kv s R k' (j1+1) (vZ out (yq (s.drop j) (j:Int)) (j:Int)))∧(((c.toNat:Int)==10)=false→R=([],(j1:Int),70)):=by
 have:=of_decide_eq_true hj
 obtain ⟨q,hq⟩:=Ep (s.drop j) (j:Int)
 obtain ⟨h4,h5⟩:=Bo qO hq
 rw [hr] at h4 h5 ⊢
 rw [List.length_cons] at h4 h5 ⊢
 have hlt:s.length - (r.length+1)<s.length:=qO
 have hd:=List.drop_eq_getElem_cons hlt
 rw [h4] at hd
 injection hd with hd1 hd2
 have hcast:(j:Int)+((s.drop j).length:Int) - ((r.length+1:Nat):Int)=((s.length - (r.length+1):Nat):Int):=by rw [List.length_drop];omega
 rcases h.2 with ⟨h1,h2,h3⟩|⟨h1,_⟩
 ·rw [rT] at h3
  unfold tC at h3
  rw [hr] at h3
  simp only [List.length_cons] at h3
  rw [hcast] at h3
  refine ⟨_,rfl,by omega,decide_eq_true qO,⟨by omega,by rw [Int.toNat_natCast,List.getElem?_eq_getElem hlt,←hd1]⟩,fun h10=> ?_,fun h10=> ?_⟩
  ·rw [h10] at h3
   refine ⟨s.length - (s.length - (r.length+1)+1)+1,by omega,?_, .inl ⟨by omega,rfl,?_⟩⟩
   ·have:=xc out (yq (s.drop j) (j:Int)) (j:Int)
    have:=h.1
    omega
   ·rw [←h3,cond_true,←hd2,Int.natCast_add]
    rfl
  ·rw [h10] at h3
   exact h3.symm
 ·omega
instance:cX Tryz.prog 148 (.cs [Tx [], .int .i64 0]):=⟨⟨.agg #[Tx [], .int .i64 0],fun X w=>rfl,fun o ρ w e=>by
 cases o with
 |mk dst op ty pos af gd=>
  have e':op=_:=e
  subst e'
  go_simp⟩⟩
theorem kX{N:Nat} {d:Nat} {t0:TypeId} {pos:String} {af:Array Edge} {gd:Option (Nat×Bool)} {t:List UInt8} [ho:b_ E o (.is (Tx t))]:aR Tryz.prog w00 N L E ⟨some d, .build 148 #[(0,o)],t0,pos,af,gd⟩ (.is (.agg #[Tx t, .int .i64 0])):=by
 constructor
 intro X ρ w hc _ hN hm hsl
 have e0:ρ o=Tx t:=ho.get (X:=X) (w:=w) hc fun p hp e=>hsl p hp qS
 clear hc hsl ho hm
 unfold Yields
 go_simp
 exact ⟨rfl,Below.refl _ _⟩
instance {a b:Value}:CX [a,b] 2:=⟨rfl⟩
theorem DZ {s:List UInt8}:dB Tryz.prog S1 23 [0] [.is (Tx s)] (fun B=> .tup [.ow (Rp.lo 68 B) 66 tt B (kN s).1, .is (.int .i64 (kN s).2.1), .is (.int .i64 (kN s).2.2)]):=by
 have hl:decide ((65536:Int)<(s.length:Int))=decide (65536<s.length):=decide_eq_decide.2 qO
 unfold kN
 rw [←hl]
 clear hl
 cases hl:decide ((65536:Int)<(s.length:Int))
 rotate_left
 ·simp only [cond_true]
  refine fA Tryz.func23 rfl Tryz.ntmps23 qE (fun _ _=>by kernel_rfl) fun X w hE=> ?_
  simp only [bf,Nat.zero_add,Nat.reduceAdd]
  repeat' first|kernel_rfl|apply aF|apply aG|apply aI|(refine lc [5,0] ?_;apply b9 (id:=7) [] [] 3)|apply bQ|apply de|exact bT.nil|exact aZ.nil|exact aY.nil|refine @aZ.cons _ _ _ _ inferInstance ?_|refine @aY.cons _ _ _ inferInstance ?_|apply aD|apply aH|apply aM|apply aN|apply aA|apply aE|refine bw rfl inferInstance (by first|exact cY trivial (ft qL)|exact cY trivial (ct qL qL qL)|exact ak (b:=true) (u:=false) rfl|exact ak (b:=false) (u:=true) rfl|exact ak rfl) qK ?_|refine bZ rfl inferInstance rfl qK ?_|refine bW rfl inferInstance qK ?_|apply be|apply aq|apply a_|apply a8|apply aB|refine v9 rfl ?_|apply bl|apply bO|apply bN|apply eo|apply em|refine eu rfl ?_|apply ep|apply ew|apply bc|exact js|exact cY trivial (ft qL)|exact cY trivial (ct qL qL qL)|exact kX|exact jq rfl|exact cC qL|exact aL|exact bG qL|exact aj|exact ab|exact ah|exact aa|exact aQ|exact aW|exact ak (b:=true) (u:=false) rfl|exact ak (b:=false) (u:=true) rfl|exact ak rfl|exact ay qG|exact am|exact ae|exact Bm|exact Cv.rfl'|(intro _;simp only[cP,cQ,cS,List.map,List.cons_append,List.nil_append])|intro _
 ·have hs:s.length≤100000:=by have:=of_decide_eq_false hl;omega
  simp only [cond_false]
  generalize hR:lx s 0 [] [] 0 false false=R
  refine fA Tryz.func23 rfl Tryz.ntmps23 qE (fun _ _=>by kernel_rfl) fun X w0 hE=> ?_
  simp only [bf,Nat.zero_add,Nat.reduceAdd]
  repeat' first|kernel_rfl|apply aF|apply aG|apply aI|(refine lc [5,0] ?_;apply b9 (id:=7) [] [] 3)|apply bQ|apply de|exact bT.nil|exact aZ.nil|exact aY.nil|refine @aZ.cons _ _ _ _ inferInstance ?_|refine @aY.cons _ _ _ inferInstance ?_|apply aD|apply aH|apply aM|apply aN|apply aA|apply aE|refine bw rfl inferInstance (by first|exact cY trivial (ft qL)|exact cY trivial (ct qL qL qL)|exact ak (b:=true) (u:=false) rfl|exact ak (b:=false) (u:=true) rfl|exact ak rfl) qK ?_|refine bZ rfl inferInstance rfl qK ?_|refine bW rfl inferInstance qK ?_|apply be|apply aq|apply a_|apply a8|apply aB|refine v9 rfl ?_|apply bl|apply bO|apply bN|apply eo|apply em|refine eu rfl ?_|apply ep|apply ew|apply bc|exact js|exact cY trivial (ft qL)|exact cY trivial (ct qL qL qL)|exact kX|exact jq rfl|exact cC qL|exact aL|exact bG qL|exact aj|exact ab|exact ah|exact aa|exact aQ|exact aW|exact ak (b:=true) (u:=false) rfl|exact ak (b:=false) (u:=true) rfl|exact ak rfl|exact ay qG|exact am|exact ae|exact Cv.rfl'|(intro _;simp only[cP,cQ,cS,List.map,List.cons_append,List.nil_append])|intro _
  refine kd fun a w h=> ?_
  rename_i rc
  refine iG (fun k a u=>∃ (j:Nat) (out:List Ln),kv s R k j out∧TS w0 (rc::X) [(rc, .cs [Tx s, .int .i64 (j:Int)])] [(2, .ow (Rp.lo 68 w0.heap.size) 66 tt w0.heap.size out),(5, .is (.pointer (some ⟨rc,0,none⟩))),(0, .is (Tx s))] 34 a u) (s.length+1) ⟨0,[],⟨Nat.le_refl _, .inl ⟨Nat.zero_le _,rfl,hR⟩⟩,(h.keep [2,5,0]).cast fun _ _ _ h=>wO h⟩ ?_
  clear h
  rintro k a u ⟨j,out,hI,h⟩
  cases hc:decide ((j:Int)<(s.length:Int))
  ·rw [hI.over hc]
   refine fh h ?_
   clear h
   repeat' first|kernel_rfl|apply aF|apply aG|apply aI|(refine lc [5,0] ?_;apply b9 (id:=7) [] [] 3)|apply bQ|apply de|exact bT.nil|exact aZ.nil|exact aY.nil|refine @aZ.cons _ _ _ _ inferInstance ?_|refine @aY.cons _ _ _ inferInstance ?_|apply aD|apply aH|apply aM|apply aN|apply aA|apply aE|refine bw rfl inferInstance (by first|exact cY trivial (ft qL)|exact cY trivial (ct qL qL qL)|exact ak (b:=true) (u:=false) rfl|exact ak (b:=false) (u:=true) rfl|exact ak rfl) qK ?_|refine bZ rfl inferInstance rfl qK ?_|refine bW rfl inferInstance qK ?_|apply be|apply aq|apply a_|apply a8|apply aB|refine v9 rfl ?_|apply bl|apply bO|apply bN|apply eo|apply em|refine eu rfl ?_|apply ep|apply ew|apply bc|exact js|exact cY trivial (ft qL)|exact cY trivial (ct qL qL qL)|exact kX|exact jq rfl|exact cC qL|exact aL|exact bG qL|exact aj|exact ab|exact ah|exact aa|exact aQ|exact aW|exact ak (b:=true) (u:=false) rfl|exact ak (b:=false) (u:=true) rfl|exact ak rfl|exact ay qG|exact am|exact ae|exact Cv.rfl'|(intro _;simp only[cP,cQ,cS,List.map,List.cons_append,List.nil_append])|intro _
  ·have hlt:=of_decide_eq_true hc
   have hcl:=Fz hs (show j≤s.length by omega)
   have hol:out.length≤1000000:=by have:=hI.1;omega
   cases hr:z5 (s.drop j) (j:Int) with
   |nil=>
    obtain ⟨k',hk',hI'⟩:=hI.last hc hr
    rw [hr,List.length_nil,Nat.sub_zero] at hcl
    have hc2:decide ((s.length:Int)<(s.length:Int))=false:=decide_eq_false qO
    have hw:IntKind.i64.wrap ((s.length:Int)+1)=((s.length+1:Nat):Int):=dh qO qO
    generalize yq (s.drop j) (j:Int)=ws at*
    cases ws with
    |nil=>
     have hp:decide ((0:Int)<((([]:List Wd).length:Nat):Int))=false:=rfl
     refine fh h ?_
     clear h
     repeat' first|kernel_rfl|(refine AJ trivial hcl qK ?_)|(refine pS (L':=[(_, .lnj _),(_, .cs _)]) (.cons (fun _ _ _ h=>kB h) (.same .nil)) (ug [5,0] (Nat.le_refl _) (fun _ _ ht=>ht.mem.below.size) xT hol qD qK ?_))|exact iz fun _ _ h=>⟨k',hk',_,_,hI',h.drop.keep [2,5,0]⟩|apply aF|apply aG|apply aI|(refine lc [5,0] ?_;apply b9 (id:=7) [] [] 3)|apply bQ|apply de|exact bT.nil|exact aZ.nil|exact aY.nil|refine @aZ.cons _ _ _ _ inferInstance ?_|refine @aY.cons _ _ _ inferInstance ?_|apply aD|apply aH|apply aM|apply aN|apply aM|apply aN|apply aA|apply aE|refine bw rfl inferInstance (by first|exact cY trivial (ft qL)|exact cY trivial (ct qL qL qL)|exact ak (b:=true) (u:=false) rfl|exact ak (b:=false) (u:=true) rfl|exact ak rfl) qK ?_|refine bZ rfl inferInstance rfl qK ?_|refine bW rfl inferInstance qK ?_|apply be|apply aq|apply a_|apply a8|apply aB|refine v9 rfl ?_|apply bl|apply bO|apply bN|apply eo|apply em|refine eu rfl ?_|apply ep|apply ew|apply bc|exact js|exact cY trivial (ft qL)|exact cY trivial (ct qL qL qL)|exact kX|exact jq rfl|exact cC qL|exact aL|exact bG qL|exact aj|exact ab|exact ah|exact aa|exact aQ|exact aW|exact ak (b:=true) (u:=false) rfl|exact ak (b:=false) (u:=true) rfl|exact ak rfl|exact ay qG|exact am|exact ae|exact Cv.rfl'|(intro _;simp only[cP,cQ,cS,List.map,List.cons_append,List.nil_append])|intro _
    |cons x ws=>
     have hp:decide ((0:Int)<(((x::ws).length:Nat):Int))=true:=decide_eq_true (by rw [List.length_cons];omega)
     refine fh h ?_
     clear h
     repeat' first|kernel_rfl|(refine AJ trivial hcl qK ?_)|(refine pS (L':=[(_, .lnj _),(_, .cs _)]) (.cons (fun _ _ _ h=>kB h) (.same .nil)) (ug [5,0] (Nat.le_refl _) (fun _ _ ht=>ht.mem.below.size) xT hol qD qK ?_))|exact iz fun _ _ h=>⟨k',hk',_,_,hI',h.drop.keep [2,5,0]⟩|apply aF|apply aG|apply aI|(refine lc [5,0] ?_;apply b9 (id:=7) [] [] 3)|apply bQ|apply de|exact bT.nil|exact aZ.nil|exact aY.nil|refine @aZ.cons _ _ _ _ inferInstance ?_|refine @aY.cons _ _ _ inferInstance ?_|apply aD|apply aH|apply aM|apply aN|apply aA|apply aE|refine bw rfl inferInstance (by first|exact cY trivial (ft qL)|exact cY trivial (ct qL qL qL)|exact ak (b:=true) (u:=false) rfl|exact ak (b:=false) (u:=true) rfl|exact ak rfl) qK ?_|refine bZ rfl inferInstance rfl qK ?_|refine bW rfl inferInstance qK ?_|apply be|apply aq|apply a_|apply a8|apply aB|refine v9 rfl ?_|apply bl|apply bO|apply bN|apply eo|apply em|refine eu rfl ?_|apply ep|apply ew|apply bc|exact js|exact cY trivial (ft qL)|exact cY trivial (ct qL qL qL)|exact kX|exact jq rfl|exact cC qL|exact aL|exact bG qL|exact aj|exact ab|exact ah|exact aa|exact aQ|exact aW|exact ak (b:=true) (u:=false) rfl|exact ak (b:=false) (u:=true) rfl|exact ak rfl|exact ay qG|exact am|exact ae|exact Cv.rfl'|(intro _;simp only[cP,cQ,cS,List.map,List.cons_append,List.nil_append])|intro _
   |cons c r=>
    obtain ⟨j1,he,hjj,hc2,hix,hy,hn⟩:=hI.step hc hr
    rw [he] at hcl
    have hlt2:=of_decide_eq_true hc2
    have hw:IntKind.i64.wrap ((j1:Int)+1)=((j1+1:Nat):Int):=dh qO qO
    cases h10:((c.toNat:Int)==10)
    ·rw [hn h10]
     generalize yq (s.drop j) (j:Int)=ws at*
     refine fh h ?_
     clear h
     repeat' first|kernel_rfl|(refine AJ trivial hcl qK ?_)|apply aF|apply aG|apply aI|(refine lc [5,0] ?_;apply b9 (id:=7) [] [] 3)|apply bQ|apply de|exact bT.nil|exact aZ.nil|exact aY.nil|refine @aZ.cons _ _ _ _ inferInstance ?_|refine @aY.cons _ _ _ inferInstance ?_|apply aD|apply aH|apply aM|apply aN|apply aA|apply aE|refine bw rfl inferInstance (by first|exact cY trivial (ft qL)|exact cY trivial (ct qL qL qL)|exact ak (b:=true) (u:=false) rfl|exact ak (b:=false) (u:=true) rfl|exact ak rfl) qK ?_|refine bZ rfl inferInstance rfl qK ?_|refine bW rfl inferInstance qK ?_|apply be|apply aq|apply a_|apply a8|apply aB|refine v9 rfl ?_|apply bl|apply bO|apply bN|apply eo|apply em|refine eu rfl ?_|apply ep|apply ew|apply bc|exact js|exact cY trivial (ft qL)|exact cY trivial (ct qL qL qL)|exact kX|exact jq rfl|exact cC qL|exact aL|exact bG qL|exact aj|exact ab|exact ah|exact aa|exact aQ|exact aW|exact ak (b:=true) (u:=false) rfl|exact ak (b:=false) (u:=true) rfl|exact ak rfl|exact ay qG|exact am|exact ae|exact Bm|exact Cv.rfl'|(intro _;simp only[cP,cQ,cS,List.map,List.cons_append,List.nil_append])|intro _
    ·obtain ⟨k',hk',hI'⟩:=hy h10
     generalize yq (s.drop j) (j:Int)=ws at*
     cases ws with
     |nil=>
      have hp:decide ((0:Int)<((([]:List Wd).length:Nat):Int))=false:=rfl
      refine fh h ?_
      clear h
      repeat' first|kernel_rfl|(refine AJ trivial hcl qK ?_)|(refine pS (L':=[(_, .lnj _),(_, .cs _)]) (.cons (fun _ _ _ h=>kB h) (.same .nil)) (ug [5,0] (Nat.le_refl _) (fun _ _ ht=>ht.mem.below.size) xT hol qD qK ?_))|exact iz fun _ _ h=>⟨k',hk',_,_,hI',h.drop.keep [2,5,0]⟩|apply aF|apply aG|apply aI|(refine lc [5,0] ?_;apply b9 (id:=7) [] [] 3)|apply bQ|apply de|exact bT.nil|exact aZ.nil|exact aY.nil|refine @aZ.cons _ _ _ _ inferInstance ?_|refine @aY.cons _ _ _ inferInstance ?_|apply aD|apply aH|apply aM|apply aN|apply aA|apply aE|refine bw rfl inferInstance (by first|exact cY trivial (ft qL)|exact cY trivial (ct qL qL qL)|exact ak (b:=true) (u:=false) rfl|exact ak (b:=false) (u:=true) rfl|exact ak rfl) qK ?_|refine bZ rfl inferInstance rfl qK ?_|refine bW rfl inferInstance qK ?_|apply be|apply aq|apply a_|apply a8|apply aB|refine v9 rfl ?_|apply bl|apply bO|apply bN|apply eo|apply em|refine eu rfl ?_|apply ep|apply ew|apply bc|exact js|exact cY trivial (ft qL)|exact cY trivial (ct qL qL qL)|exact kX|exact jq rfl|exact cC qL|exact aL|exact bG qL|exact aj|exact ab|exact ah|exact aa|exact aQ|exact aW|exact ak (b:=true) (u:=false) rfl|exact ak (b:=false) (u:=true) rfl|exact ak rfl|exact ay qG|exact am|exact ae|exact Cv.rfl'|(intro _;simp only[cP,cQ,cS,List.map,List.cons_append,List.nil_append])|intro _
     |cons x ws=>
      have hp:decide ((0:Int)<(((x::ws).length:Nat):Int))=true:=decide_eq_true (by rw [List.length_cons];omega)
      refine fh h ?_
      clear h
      repeat' first|kernel_rfl|(refine AJ trivial hcl qK ?_)|(refine pS (L':=[(_, .lnj _),(_, .cs _)]) (.cons (fun _ _ _ h=>kB h) (.same .nil)) (ug [5,0] (Nat.le_refl _) (fun _ _ ht=>ht.mem.below.size) xT hol qD qK ?_))|exact iz fun _ _ h=>⟨k',hk',_,_,hI',h.drop.keep [2,5,0]⟩|apply aF|apply aG|apply aI|(refine lc [5,0] ?_;apply b9 (id:=7) [] [] 3)|apply bQ|apply de|exact bT.nil|exact aZ.nil|exact aY.nil|refine @aZ.cons _ _ _ _ inferInstance ?_|refine @aY.cons _ _ _ inferInstance ?_|apply aD|apply aH|apply aM|apply aN|apply aA|apply aE|refine bw rfl inferInstance (by first|exact cY trivial (ft qL)|exact cY trivial (ct qL qL qL)|exact ak (b:=true) (u:=false) rfl|exact ak (b:=false) (u:=true) rfl|exact ak rfl) qK ?_|refine bZ rfl inferInstance rfl qK ?_|refine bW rfl inferInstance qK ?_|apply be|apply aq|apply a_|apply a8|apply aB|refine v9 rfl ?_|apply bl|apply bO|apply bN|apply eo|apply em|refine eu rfl ?_|apply ep|apply ew|apply bc|exact js|exact cY trivial (ft qL)|exact cY trivial (ct qL qL qL)|exact kX|exact jq rfl|exact cC qL|exact aL|exact bG qL|exact aj|exact ab|exact ah|exact aa|exact aQ|exact aW|exact ak (b:=true) (u:=false) rfl|exact ak (b:=false) (u:=true) rfl|exact ak rfl|exact ay qG|exact am|exact ae|exact Cv.rfl'|(intro _;simp only[cP,cQ,cS,List.map,List.cons_append,List.nil_append])|intro _
section
variable {P:Program} {w00:World} {X:List Nat} {L:List Loc} {E:List (Nat×ai)} {n:Nat} {ops:Array Oper} {rest:List Oper} {Q:Exit→Act→World→Prop} {cs:List Code}
end
structure vS (s:List UInt8) (R:List Ln×Int×Int) (k i:Nat) (out:List Ln) (ws:List Wd) (la:Int) (rem op:Bool):Prop where
 o:out.length≤i
 w:ws.length≤i
 p:op=true→ws≠[]
 t:∀ x∈ws,x.1.length≤i
 l:(i≤s.length∧k=s.length - i+1∧lx (s.drop i) (i:Int) out ws la rem op=R)∨(i=s.length+1∧k=0∧R=(out,0,0))
theorem vS.over{s:List UInt8} {R:List Ln×Int×Int} {out:List Ln} {ws:List Wd} (h:vS s R k i out ws la rem op) (hi:decide ((i:Int)≤(s.length:Int))=false):R=(out,0,0):=by
 have:=of_decide_eq_false hi
 rcases h.l with ⟨h1,_⟩|⟨_,_,h3⟩
 ·omega
 ·exact h3
theorem vS.at{s:List UInt8} {R:List Ln×Int×Int} {out:List Ln} {ws:List Wd} (h:vS s R k i out ws la rem op) {c:UInt8} (hi:i<s.length) (hx:s[i]? =some c):(bif (c.toNat:Int)==10 then lx (s.drop (i+1)) (i+1) (vZ out ws la) [] (i+1) false false
 else bif rem || (c.toNat:Int)==35 then lx (s.drop (i+1)) (i+1) out ws la true false
 else bif gf c then lx (s.drop (i+1)) (i+1) out ws la false false
 else bif !iE c then ([],(i:Int),70)
 else bif op then lx (s.drop (i+1)) (i+1) out (wc ws c) la false true
 else lx (s.drop (i+1)) (i+1) out (ws++[([c],(i:Int))]) la false true)=R:=by
 rcases h.l with ⟨h1,h2,h3⟩|⟨h1,_⟩
 ·obtain ⟨hl,hc⟩:=List.getElem?_eq_some_iff.1 hx
  rw [List.drop_eq_getElem_cons hl,hc] at h3
  exact h3
 ·omega
theorem vS.next{s:List UInt8} {R:List Ln×Int×Int} {out out':List Ln} {ws ws':List Wd} {la':Int} {rem' op':Bool} (h:vS s R k i out ws la rem op) (hi:i<s.length) (ho:out'.length≤out.length+1) (hw:ws'.length≤ws.length+1) (hp:op'=true→ws'≠[]) (ht:(∀ x∈ws,x.1.length≤i)→∀ x∈ws',x.1.length≤i+1) (he:lx (s.drop (i+1)) ((i:Int)+1) out' ws' la' rem' op'=R):∃ k',k'<k∧vS s R k' (i+1) out' ws' la' rem' op':=by
 rcases h.l with ⟨h1,h2,h3⟩|⟨h1,_⟩
 ·exact ⟨s.length - (i+1)+1,by omega,by have:=h.o;omega,by have:=h.w;omega,hp,ht h.t, .inl ⟨by omega,rfl,by rw [←he];rfl⟩⟩
 ·omega
section
variable {P:Program} {w00:World} {N:Nat} {L:List Loc} {E:List (Nat×ai)} {d:Nat} {t0:TypeId} {pos:String} {af:Array Edge} {gd:Option (Nat×Bool)} {ats:Array TypeId}
end
theorem Ei{α:Type} {l:List α} {x:α} (h:l[i]? =some x):l.take (i+1)=l.take i++[x]:=by rw [List.take_add_one,h];rfl
class Jj (B B':Nat):Prop where
 le:B≤B'
instance li.le {B B':Nat} {T:ai} [l:Jj B B']:li B' (.und B T):=⟨fun {X w w' v} ⟨hB,h⟩ hs=>⟨Nat.le_trans hB hs.size,T.stable h ⟨hs.size,fun b hb hx=>by
 rcases hs.block b hb with e|⟨g,_⟩
 ·exact e
 ·exact absurd (List.mem_append_right _ (di.2 ⟨hb,Nat.le_trans l.le g⟩)) hx⟩ (fun b hb hlt=>by
 rcases List.mem_append.1 hb with hb|hb
 ·exact List.mem_append_left _ hb
 ·exact List.mem_append_right _ (di.2 ⟨hlt,(di.1 hb).2⟩))⟩⟩
structure Bd (r B:Nat) (A:Option Addr) (c:Nat) (bs:List Value) (w:World):Prop where
 hB:B≤r
 cell:∃ p,(p= .pointer none∨p= .pointer (some ⟨r,0,none⟩))∧w.heap[r]? =some (.cells #[p, .slice A bs.length c] 153 (0,0))
 own:dt 1 5 w B A bs.length c bs
 ne:fC A≠some r
theorem Bd.lt{A:Option Addr} {c:Nat} {bs:List Value} (h:Bd r B A c bs w):r<w.heap.size:=by
 obtain ⟨p,_,hp⟩:=h.cell
 rcases Nat.lt_or_ge r w.heap.size with h'|h'
 ·exact h'
 ·simp [Array.getElem?_eq_none h'] at hp
section
variable {r B c:Nat} {A:Option Addr} {bs:List Value} {w:World}
end
class IM (T:ai) (v:outParam Value):Prop where
 ok:∀ {X:List Nat} {w:World} {u:Value},T.holds X w u→u=v
instance {v:Value}:IM (.is v) v:=⟨fun h=>h⟩
instance {B:Nat} {T:ai} {v:Value} [i:IM T v]:IM (.und B T) v:=⟨fun h=>i.ok (eN h)⟩
instance {α β:Type} {r:Rp α} {s:Rp β} {p:α×β→Prop} {a:α×β} {T:ai} [k:K1 r] [sc:fI r a.1 T]:az (.el (r.pair s) p a) 0 1 false T:=⟨fun _=>rfl,fun {X w v} ⟨y,⟨e,_⟩,cs,hv,c1,c2,hcs,h1,h2⟩=>by
 subst e
 obtain ⟨u,rfl⟩:∃ u,c1=[u]:=List.length_eq_one_iff.1 ((r.len h1).trans k.ok)
 subst hcs
 refine ⟨[u],rfl,fun j x hj=> ?_,fun x _ hx=> ?_⟩
 ·have:j=0∧x=u:=by cases j with|zero=>exact ⟨rfl,by simpa using hj.symm⟩|succ j=>simp at hj
  rw [hv,this.1,this.2];rfl
 ·have:=hx rfl
  simp at this
  rw [←this];exact sc.ok h1⟩
instance {p:Ln→Prop} {a:Ln}:bi (.el Rp.lr p a) 2 true:=⟨fun h=>(bi.ex (r:=Rp.lr)).ok h⟩
instance {p:Wd→Prop} {a:Wd}:bi (.el Rp.wd p a) 2 true:=⟨fun h=>(bi.ex (r:=Rp.wd)).ok h⟩
section
variable {w00:World} {X:List Nat} {L:List Loc} {E E0:List (Nat×ai)} {n:Nat} {ops:Array Oper} {rest:List Oper} {Q:Exit→Act→World→Prop} {cs:List Code} {t0:TypeId} {pos:String} {af:Array Edge} {ats:Array TypeId}
end
section
variable {P:Program} {w00:World} {N:Nat} {L:List Loc} {E:List (Nat×ai)} {d:Nat} {t0:TypeId} {pos:String} {af:Array Edge} {gd:Option (Nat×Bool)} {ats:Array TypeId}
end
theorem Er (s:List UInt8):(m8 (kN s).1).all Cq=true∧wl (m8 (kN s).1)≤s.length+1∧wl (m8 (kN s).1)≤65537:=by
 unfold kN
 cases h:decide (65536<s.length) with
 |true=>exact ⟨rfl,Nat.zero_le _,Nat.zero_le _⟩
 |false=>
  have h1:=so s 0 [] [] 0 false false rfl rfl
  have h2:=nT s 0 [] [] 0 false false
  have h3:=of_decide_eq_false h
  have e1:wl (m8 [])=0:=rfl
  have e2:ww (jJ [])=0:=rfl
  rw [e1,e2] at h2
  simp only [cond_false] at*
  exact ⟨h1,by omega,by omega⟩
section
variable {w00:World} {N:Nat} {L:List Loc} {E:List (Nat×ai)} {d:Nat} {t0:TypeId} {pos:String} {af:Array Edge} {gd:Option (Nat×Bool)} {ats:Array TypeId}
end
open Go Go.ChangeShapes Go.WideShapes Go.ChangeAt Go.RowKit Go.Deep
theorem ik.str{t:TypeId} (hb:P.underlying t=some .string) (hc:P.cellsOf t=1):ik P t Rp.str:=⟨hc,fun h=>by
 obtain ⟨s,rfl,_⟩:=DataW.trod_string hb h
 exact ⟨_,s,rfl,rfl⟩⟩
theorem ik.int{t:TypeId} {k:IntKind} (hb:P.underlying t=some (.int k)) (hc:P.cellsOf t=1):ik P t (Rp.int k):=⟨hc,fun h=>by
 obtain ⟨n,rfl,_⟩:=DataW.trod_int hb h
 exact ⟨n,rfl⟩⟩
class vo {α:Type} (P:Program) (fs:List Field) (o:Nat) (r:Rp α):Prop where
 ok:∀ {H:Type} {enc:TypeId×Value→H} {W:World} {n:Nat} {cs:List Value},cs.length=o+r.k→(∀ f∈fs,∃ y,DataW.trod enc P W 0 (fun _=>true) true n f.type ((cs.drop f.offset).take (P.cellsOf f.type))=some y)→∃ a,r.rd W (z9 W) a (cs.drop o)
theorem vo.one{α:Type} {f:Field} {o:Nat} {r:Rp α} (h:ik P f.type r) (ho:f.offset=o):vo P [f] o r:=⟨fun {H enc W n cs} hl hf=>by
 obtain ⟨y,hy⟩:=hf f List.mem_cons_self
 rw [ho,h.size,List.take_of_length_le (by rw [List.length_drop];omega)] at hy
 exact h.ok hy⟩
theorem vo.cons {α β:Type} {P:Program} {f:Field} {fs:List Field} {o o':Nat} {r:Rp α} {s:Rp β} (h:ik P f.type r) (ho:f.offset=o) (he:o+r.k=o') (h2:vo P fs o' s):vo P (f::fs) o (r.pair s):=⟨fun {H enc W n cs} hl hf=>by
 obtain ⟨y,hy⟩:=hf f List.mem_cons_self
 rw [ho,h.size] at hy
 obtain ⟨a,ha⟩:=h.ok hy
 subst he
 have hl':cs.length=o+r.k+s.k:=by rw [hl,Nat.add_assoc];rfl
 obtain ⟨b,hb⟩:=h2.ok hl' fun g hg=>hf g (List.mem_cons_of_mem _ hg)
 exact ⟨(a,b),(cs.drop o).take r.k,cs.drop (o+r.k),by rw [←List.drop_drop];exact (List.take_append_drop _ _).symm,ha,hb⟩⟩
class KC {α:Type} (r:Rp α) (k:outParam Nat):Prop where
 ok:r.k=k
instance:KC Rp.bool 1:=⟨rfl⟩
instance:KC Rp.str 1:=⟨rfl⟩
instance:KC Rp.limbs 1:=⟨rfl⟩
instance {k:IntKind}:KC (Rp.int k) 1:=⟨rfl⟩
instance {α:Type} {r:Rp α}:KC r.row 1:=⟨rfl⟩
class Ef (a b:Nat) (c:outParam Nat):Prop where
 ok:a+b=c
instance {a:Nat}:Ef a 1 (a+1):=⟨rfl⟩
instance {a:Nat}:Ef a 2 (a+2):=⟨rfl⟩
instance {a:Nat}:Ef a 3 (a+3):=⟨rfl⟩
instance {a:Nat}:Ef a 4 (a+4):=⟨rfl⟩
theorem KC.pair {α β:Type} {r:Rp α} {s:Rp β} {a b c:Nat} (h1:KC r a) (h2:KC s b) (h:a+b=c):KC (r.pair s) c:=⟨by show r.k+s.k=c;rw [h1.ok,h2.ok];exact h⟩
theorem bB.tail{α β γ:Type} {r:Rp α} {s:Rp β} {r':Rp γ} {o:Nat} {g:β→γ} (hk:KC r k) (h:bB s o r' g) (he:k+o=n):bB (r.pair s) n r' (fun x=>g x.2):=⟨fun {w S a cs} ⟨c1,c2,e,h1,h2⟩=>by
 obtain ⟨d1,d2,d3,e2,hl,h3⟩:=h.ok h2
 refine ⟨c1++d1,d2,d3,by rw [e,e2];simp,?_,h3⟩
 rw [List.length_append,r.len h1,hk.ok,hl]
 exact he⟩
theorem bB.self {α:Type} {r:Rp α}:bB r 0 r id:=⟨fun {w S a cs} h=>⟨[],cs,[],by simp,rfl,h⟩⟩
theorem az.agg{α β:Type} {r:Rp α} {r':Rp β} {g:α→β} {a:α} {o:Nat} (h:bB r o r' g) (hk:KC r' k):az (.ra r a) o k true (.ra r' (g a)):=⟨(fun h=>by cases h),fun {X w v} ⟨cs,e,hr⟩=>by
 obtain ⟨c1,c2,c3,e2,hl,h2⟩:=h.ok hr
 refine ⟨c2,(r'.len h2).trans hk.ok,fun j u hu=> ?_,fun u hu _=>⟨c2,hu rfl,h2⟩⟩
 have hj:=(List.getElem?_eq_some_iff.1 hu).1
 rw [e]
 show (cs.toArray)[o+j]? =some u
 rw [List.getElem?_toArray,e2,List.append_assoc,List.getElem?_append_right qO,show o+j - c1.length=j by omega,List.getElem?_append_left hj]
 exact hu⟩
theorem az.cell{α β:Type} {r:Rp α} {r':Rp β} {g:α→β} {a:α} {o:Nat} (h:bB r o r' g) (hk:KC r' 1) (hs:fI r' (g a) T):az (.ra r a) o 1 false T:=⟨fun _=>rfl,fun {X w v} ⟨cs,e,hr⟩=>by
 obtain ⟨c1,c2,c3,e2,hl,h2⟩:=h.ok hr
 refine ⟨c2,(r'.len h2).trans hk.ok,fun j u hu=> ?_,fun u _ hu=>hs.ok (by rw [←hu rfl];exact h2)⟩
 have hj:=(List.getElem?_eq_some_iff.1 hu).1
 rw [e]
 show (cs.toArray)[o+j]? =some u
 rw [List.getElem?_toArray,e2,List.append_assoc,List.getElem?_append_right qO,show o+j - c1.length=j by omega,List.getElem?_append_left hj]
 exact hu⟩
theorem xf:∀ (cs:List Value) (i off:Nat) (c:Array Value),off+i+cs.length≤c.size→
 ((cs.zipIdx i).foldl (fun (a:Array Value) (p:Value×Nat)=>a.setIfInBounds (off+p.2) p.1) c).size=c.size∧
 (∀ j,j<off+i∨off+i+cs.length≤j→((cs.zipIdx i).foldl (fun (a:Array Value) (p:Value×Nat)=>a.setIfInBounds (off+p.2) p.1) c)[j]? =c[j]?)∧
 ∀ j u,cs[j]? =some u→((cs.zipIdx i).foldl (fun (a:Array Value) (p:Value×Nat)=>a.setIfInBounds (off+p.2) p.1) c)[off+i+j]? =some u
 |[],i,off,c,_=>⟨rfl,fun _ _=>rfl,fun j u h=>by simp at h⟩
 |v::cs,i,off,c,hl=>by
  simp only [List.length_cons] at hl
  obtain ⟨h1,h2,h3⟩:=xf cs (i+1) off (c.setIfInBounds (off+i) v) (by simp;omega)
  rw [List.zipIdx_cons,List.foldl_cons]
  refine ⟨by rw [h1];simp,fun j hj=> ?_,fun j u hu=> ?_⟩
  ·rw [List.length_cons] at hj
   rw [h2 j qO]
   simp [Array.getElem?_setIfInBounds,show off+i≠j by omega]
  ·cases j with
   |zero=>
    have:v=u:=by simpa using hu
    subst this
    rw [h2 _ qO]
    simp [Array.getElem?_setIfInBounds,show off+i<c.size by omega]
   |succ j=>
    have:=h3 j u (by simpa using hu)
    rw [show off+i+(j+1)=off+(i+1)+j by omega]
    exact this
theorem p7{place:Nat→Option (Nat×Nat)} {off:Nat} {cs:List Value} {c:Array Value} {rest:List (Nat×Value)} (hp:place i=some (off,k)) (hv:v.cells=cs.toArray) (hk:cs.length=k) (hl:off+k≤c.size):
 ∃ c1:Array Value,Instr.fill place c ((i,v)::rest)=Instr.fill place c1 rest∧c1.toList=c.toList.take off++cs++c.toList.drop (off+k):=by
 obtain ⟨h1,h2,h3⟩:=xf cs 0 off c qO
 refine ⟨(cs.zipIdx 0).foldl (fun (a:Array Value) (p:Value×Nat)=>a.setIfInBounds (off+p.2) p.1) c,?_,?_⟩
 ·conv=>lhs;unfold Instr.fill
  rw [hp]
  simp only [hv]
  rw [if_neg (by simp;omega)]
  congr 1
  simp
 ·apply List.ext_getElem?
  intro j
  rw [Array.getElem?_toList]
  by_cases hj:j<off
  ·rw [h2 j qO,List.append_assoc,List.getElem?_append_left (by simp;omega),List.getElem?_take_of_lt hj,Array.getElem?_toList]
  ·by_cases hj2:j<off+k
   ·have hjc:j - off<cs.length:=qO
    have:=h3 (j - off) cs[j - off] (List.getElem?_eq_getElem hjc)
    rw [show off+0+(j - off)=j by omega] at this
    rw [this,List.append_assoc,List.getElem?_append_right (by simp;omega),List.getElem?_append_left (by simp;omega)]
    simp [show j - min off c.size=j - off by omega,hjc]
   ·rw [h2 j qO,List.getElem?_append_right (by simp;omega),List.getElem?_drop,Array.getElem?_toList]
    congr 1
    simp
    omega
theorem rP {k:Nat}:∀ (xs:List (List Value)) (i:Nat) (c:Array Value),(∀ cs∈xs,cs.length=k)→(i+xs.length)*k=c.size→
 ∃ c':Array Value,Instr.fill (fun i=>some (i*k,k)) c (ir i (xs.map fun cs=> .agg cs.toArray))=some c'∧c'.toList=c.toList.take (i*k)++xs.flatMap id
 |[],i,c,_,hl=>⟨c,rfl,by
  rw [List.take_of_length_le (by rw [Array.length_toList];simp at hl;omega)]
  simp⟩
 |cs::xs,i,c,hk,hl=>by
  have h0:=hk cs List.mem_cons_self
  rw [List.length_cons] at hl
  have e1:(i+(xs.length+1))*k=i*k+k+xs.length*k:=by rw [Nat.add_mul,Nat.add_mul,Nat.one_mul];omega
  have e2:(i+1+xs.length)*k=i*k+k+xs.length*k:=by rw [Nat.add_mul,Nat.add_mul,Nat.one_mul]
  obtain ⟨c1,hf,hc1⟩:=p7 (place:=fun i=>some (i*k,k)) (i:=i) (off:=i*k) (k:=k) (v:= .agg cs.toArray) (cs:=cs) (c:=c) (rest:=ir (i+1) (xs.map fun cs=> .agg cs.toArray)) rfl rfl h0 qO
  have hs1:c1.size=c.size:=by
   have:=congrArg List.length hc1
   simp at this
   omega
  obtain ⟨c',hf',hc'⟩:=rP xs (i+1) c1 (fun d hd=>hk d (List.mem_cons_of_mem _ hd)) qO
  refine ⟨c',?_,?_⟩
  ·rw [List.map_cons]
   show Instr.fill _ c ((i, .agg cs.toArray)::ir (i+1) _)=_
   rw [hf,hf']
  ·have e3:(i+1)*k=i*k+k:=by rw [Nat.add_mul,Nat.one_mul]
   have e4:c1.toList.take (i*k+k)=c.toList.take (i*k)++cs:=by
    rw [hc1,List.take_append_of_le_length (by simp;omega)]
    exact List.take_of_length_le (by simp;omega)
   rw [hc',e3,e4,List.flatMap_cons,List.append_assoc]
   rfl
structure DK (P:Program) (ty e:TypeId) (k:Nat):Prop where
 ok:P.underlying ty=some (.slice e)∧∃ i z,P.info? e=some i∧i.zero=some z∧i.size=k∧z.cells.size=k
class Jc (T:ai) {α:Type} (r:Rp α) (a:outParam α):Prop where
 ok:∀ {X:List Nat} {w:World} {v:Value},T.holds X w v→∃ cs:List Value,v= .agg cs.toArray∧r.rd w (cZ X w) a cs
instance {α:Type} {r:Rp α} {a:α}:Jc (.ra r a) r a:=⟨fun h=>h⟩
class IB (E:List (Nat×ai)) {α:Type} (r:Rp α) (ps:List (Nat×Operand)) (k:Nat) (l:outParam (List α)):Prop where
 get:∀ {X:List Nat} {w:World} {ρ:Operand→Value},(∀ c,ρ (.const c)=c)→(∀ p∈E, .tmp p.1∈ps.map Prod.snd→p.2.holds X w (ρ (.tmp p.1)))→∃ xs:List (α×List Value),xs.map Prod.fst=l∧(∀ p∈xs,r.rd w (cZ X w) p.1 p.2)∧ps.map (fun p=>(p.1,ρ p.2))=ir k ((xs.map Prod.snd).map fun cs=> .agg cs.toArray)
instance IB.nil {E:List (Nat×ai)} {α:Type} {r:Rp α} {k:Nat}:IB E r [] k []:=⟨fun _ _=>⟨[],rfl,(fun _ h=>by cases h),rfl⟩⟩
instance IB.cons {E:List (Nat×ai)} {α:Type} {r:Rp α} {o:Operand} {ps:List (Nat×Operand)} {k:Nat} {T:ai} {a:α} {l:List α} [ho:b_ E o T] [et:Jc T r a] [t:IB E r ps (k+1) l]:IB E r ((k,o)::ps) k (a::l):=⟨fun {X w ρ} hc hs=>by
 obtain ⟨xs,h1,h2,h3⟩:=t.get (X:=X) (w:=w) hc fun p hp hm=>hs p hp (List.mem_cons_of_mem _ hm)
 obtain ⟨cs,e,hr⟩:=et.ok (ho.get (X:=X) (w:=w) hc fun p hp e=>hs p hp (by rw [e];exact List.mem_cons_self))
 refine ⟨(a,cs)::xs,by rw [List.map_cons,h1],fun p hp=> ?_,?_⟩
 ·rcases List.mem_cons.1 hp with rfl|hp
  ·exact hr
  ·exact h2 p hp
 ·rw [List.map_cons,h3,e]
  rfl⟩
theorem BJ(c:DK P ty e k) (w:World) (xs:List (List Value)) (hk:∀ cs∈xs,cs.length=k) (hn:xs.length=n) (hp:0<n*k) (hb:n*k≤1000000) (parts:Array (Nat×Value)) (hps:parts.toList=ir 0 (xs.map fun cs=> .agg cs.toArray)):
 (Instr.buildSlice ty n parts).run P w= .ok (.slice (some ⟨w.heap.size,0,none⟩) n n) (w.alloc (.cells (xs.flatMap id).toArray e)):=by
 obtain ⟨hu,i,z,hi,hz,hs,hzc⟩:=c.ok
 have hsz:(sizeOf e).run P w= .ok k w:=by simp [sizeOf,typeInfo,hi,hs]
 have hze:(zeroValue e).run P w= .ok z w:=by simp [zeroValue,typeInfo,hi,hz]
 obtain ⟨c',ef,ec⟩:=rP xs 0 ((Array.range (n*k)).map (z.cells[· %z.cells.size]!)) hk (by simp [hn])
 have ec':c'=(xs.flatMap id).toArray:=by
  apply Array.toList_inj.1
  rw [ec]
  simp
 subst ec'
 have hbig:¬ 2^24<n*k:=qO
 unfold Instr.buildSlice
 simp only [Sem.run_bind,run_underlying hu w,Result.andThen_ok,hsz,if_neg hbig,hps,Sem.run_pure,if_neg (show ¬ n*k=0 by omega),hze,ef]
 rfl
section
variable {P:Program} {w00:World} {N:Nat} {L:List Loc} {E:List (Nat×ai)} {d:Nat} {t0:TypeId} {pos:String} {af:Array Edge} {gd:Option (Nat×Bool)}
end
class aO {α:Type} {β:outParam Type} (r:Rp α) (off:Nat) (r':outParam (Rp β)) (u:outParam (α→β→α)):Prop where
 ok:∀ {w:World} {S:Nat→Prop} {a:α} {b:β} {cs ds:List Value},r.rd w S a cs→r'.rd w S b ds→off+r'.k≤r.k∧r.rd w S (u a b) (cs.take off++ds++cs.drop (off+r'.k))
theorem aO.fst {α β:Type} {r:Rp α} {s:Rp β}:aO (r.pair s) 0 r (fun a b=>(b,a.2)):=⟨fun {w S a b cs ds} ⟨c1,c2,e,h1,h2⟩ hd=>by
 refine ⟨by show 0+r.k≤r.k+s.k;omega,ds,c2,?_,hd,h2⟩
 rw [e,List.take_zero,List.nil_append,Nat.zero_add,List.drop_left' (r.len h1)]⟩
theorem aO.self {α:Type} {r:Rp α}:aO r 0 r (fun _ b=>b):=⟨fun {w S a b cs ds} h hd=>by
 refine ⟨by omega,?_⟩
 rw [List.take_zero,List.nil_append,Nat.zero_add,List.drop_of_length_le (by rw [r.len h];exact Nat.le_refl _),List.append_nil]
 exact hd⟩
theorem aO.tail{α β γ:Type} {r:Rp α} {s:Rp β} {r':Rp γ} {o:Nat} {u:β→γ→β} (hk:KC r k) (h:aO s o r' u) (he:k+o=n):aO (r.pair s) n r' (fun a b=>(a.1,u a.2 b)):=⟨fun {w S a b cs ds} ⟨c1,c2,e,h1,h2⟩ hd=>by
 obtain ⟨g1,g2⟩:=h.ok h2 hd
 have hl:c1.length=k:=(r.len h1).trans hk.ok
 have hrk:=hk.ok
 refine ⟨by show n+r'.k≤r.k+s.k;omega,c1,_,?_,h1,g2⟩
 subst he
 rw [e,Nat.add_assoc,←hl,List.take_length_add_append,List.drop_length_add_append]
 simp⟩
class qC (P:Program) (ty:TypeId) (E:List (Nat×ai)) {α:Type} (r:Rp α) (ps:List (Nat×Operand)) (a:α) (a':outParam α):Prop where
 get:∀ {X:List Nat} {w:World} {ρ:Operand→Value} {places:Array (Nat×Nat)} {c:Array Value},(∀ c,ρ (.const c)=c)→(∀ p∈E, .tmp p.1∈ps.map Prod.snd→p.2.holds X w (ρ (.tmp p.1)))→(∀ (i off k:Nat) (ag:Bool),aP P ty i off k ag→places[i]? =some (off,k))→r.rd w (cZ X w) a c.toList→∃ c':Array Value,Instr.fill (places[·]?) c (ps.map fun p=>(p.1,ρ p.2))=some c'∧r.rd w (cZ X w) a' c'.toList
instance qC.nil {P:Program} {ty:TypeId} {E:List (Nat×ai)} {α:Type} {r:Rp α} {a:α}:qC P ty E r [] a a:=⟨fun {X w ρ places c} _ _ _ h=>⟨c,rfl,h⟩⟩
class Cr (T:ai) {β:Type} (r:Rp β) (b:outParam β):Prop where
 ok:∀ {X:List Nat} {w:World} {v:Value},T.holds X w v→∃ cs:List Value,v.cells=cs.toArray∧r.rd w (cZ X w) b cs
instance qC.cons {P:Program} {ty:TypeId} {E:List (Nat×ai)} {α β:Type} {r:Rp α} {r':Rp β} {i off k:Nat} {ag:Bool} {o:Operand} {ps:List (Nat×Operand)} {T:ai} {a a':α} {b:β} {u:α→β→α} [f:aP P ty i off k ag] [sr:aO r off r' u] [kc:KC r' k] [ho:b_ E o T] [ap:Cr T r' b] [t:qC P ty E r ps (u a b) a']:qC P ty E r ((i,o)::ps) a a':=⟨fun {X w ρ places c} hc hs hp h=>by
 obtain ⟨ds,e,hd⟩:=ap.ok (ho.get (X:=X) (w:=w) hc fun p hp e=>hs p hp (by rw [e];exact List.mem_cons_self))
 obtain ⟨g1,g2⟩:=sr.ok h hd
 have hlen:=r.len h
 rw [Array.length_toList] at hlen
 have hk:=kc.ok
 obtain ⟨c1,hf,hc1⟩:=p7 (place:=(places[·]?)) (i:=i) (v:=ρ o) (c:=c) (rest:=ps.map fun p=>(p.1,ρ p.2)) (hp i off k ag f) e ((r'.len hd).trans hk) qO
 rw [hk] at g2
 obtain ⟨c',hf',hr'⟩:=t.get (X:=X) (w:=w) (c:=c1) hc (fun p hp hm=>hs p hp (List.mem_cons_of_mem _ hm)) hp (by rw [hc1];exact g2)
 exact ⟨c',by rw [List.map_cons,hf,hf'],hr'⟩⟩
theorem run_places {P:Program} {w:World}:∀ (fs:List Field),(∀ f∈fs,∃ i,P.info? f.type=some i)→∃ l:List (Nat×Nat),(fs.mapM (fun f=>do pure (f.offset,←sizeOf f.type)):Sem (List (Nat×Nat))).run P w= .ok l w∧∀ (i:Nat) (f:Field),fs[i]? =some f→∀ k,(P.info? f.type).map (·.size)=some k→l[i]? =some (f.offset,k)
 |[],_=>⟨[],rfl,fun i f h=>by simp at h⟩
 |f::fs,h=>by
  obtain ⟨j,hj⟩:=h f List.mem_cons_self
  obtain ⟨l,h1,h2⟩:=run_places (P:=P) (w:=w) fs fun g hg=>h g (List.mem_cons_of_mem _ hg)
  have hz:(sizeOf f.type).run P w= .ok j.size w:=by simp [sizeOf,typeInfo,hj]
  refine ⟨(f.offset,j.size)::l,?_,fun i g hg k hk=> ?_⟩
  ·rw [List.mapM_cons]
   simp only [Sem.run_bind,hz,Result.andThen_ok,Sem.run_pure,h1]
  ·cases i with
   |zero=>
    have:f=g:=by simpa using hg
    subst this
    rw [hj] at hk
    have:j.size=k:=by simpa using hk
    rw [←this]
    rfl
   |succ i=>exact h2 i g (by simpa using hg) k hk
structure fU {α:Type} (P:Program) (ty:TypeId) (r:Rp α) (a:α):Prop where
 ok:∃ (fs:Array Field) (i:TypeInfo) (zs:Array Value),P.underlying ty=some (.struct fs)∧(∀ f∈fs.toList,∃ j,P.info? f.type=some j)∧P.info? ty=some i∧i.zero=some (.agg zs)∧∀ w S,r.rd w S a zs.toList
instance {l:List UInt8}:Cr (.is (Tx l)) Rp.str l:=⟨fun h=>⟨[Tx l],by rw [show _=_ from h];rfl,_,rfl,bU l⟩⟩
instance {k:IntKind} {x:Int}:Cr (.is (.int k x)) (Rp.int k) x:=⟨fun h=>⟨[.int k x],by rw [show _=_ from h];rfl,rfl⟩⟩
instance {x:Bool}:Cr (.is (.bool x)) Rp.bool x:=⟨fun h=>⟨[.bool x],by rw [show _=_ from h];rfl,rfl⟩⟩
instance {α:Type} {r:Rp α} {a:α}:Cr (.ra r a) r a:=⟨fun ⟨cs,e,h⟩=>⟨cs,by rw [e];rfl,h⟩⟩
instance {α:Type} {r:Rp α} {l:List α}:Cr (.rw r tt l) r.row l:=⟨fun {X w v} ⟨_,h⟩=>⟨[v],by
 obtain ⟨A,n,c,e,_⟩:=h
 have e:v= .slice A n c:=by simpa using e
 rw [e];rfl,h⟩⟩
end Go.Proofs.YtcpeiijdgabenaaGreatDoor
