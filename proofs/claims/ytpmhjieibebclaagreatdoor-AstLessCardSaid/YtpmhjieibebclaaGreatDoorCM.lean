/- A filing's text in lines and words, as plain lists of bytes: byte by byte, and as the program cuts it; what is shown; texts behind one another. No program stands in it. -/
import Derived.Test.YtpmhjieibebclaaGreatDoorCL
import Derived.Test.YtpmhjieibebclaaGreatDoorCK
import Derived.Test.YtpmhjieibebclaaGreatDoorCG
import Derived.Test.YtpmhjieibebclaaGreatDoorShelf
import Derived.Lib.Builder
import Derived.Lib.AppendStr
import Derived.Lib.FrozenHead
import Derived.Lib.BufferRead
import Derived.Lib.SlBytesRow
set_option linter.unusedSimpArgs false
set_option linter.unusedVariables false
namespace Go.Proofs.YtpmhjieibebclaaGreatDoor
open Go Go.RowKit
variable {w:World} {X ks ks':List Nat} {P:Program} {k o n i b B:Nat} {v:Value} {e ty t:TypeId} {T:aa} {f:FuncId} {As As':List aa} {a:Int}
def k9 (c:UInt8):Bool:=decide (33≤(c.toNat:Int))&&decide ((c.toNat:Int)≤126)&& !((c.toNat:Int)==35)
def il (c:UInt8):Bool:=(c.toNat:Int)==32 || (c.toNat:Int)==9
abbrev Wd:=List UInt8×Int
abbrev Ln:=List Wd×Int
def Ej (out:List Ln) (ws:List Wd) (la:Int):List Ln:=bif ws.isEmpty then out else out++[(ws,la)]
def IE:List Wd→UInt8→List Wd
 |[],_=>[]
 |[w],c=>[(w.1++[c],w.2)]
 |w::v::ws,c=>w::IE (v::ws) c
theorem vG:∀ (ws:List Wd) (t:List UInt8) (a:Int) (c:UInt8),IE (ws++[(t,a)]) c=ws++[(t++[c],a)]
 |[],_,_,_=>rfl
 |[w],_,_,_=>rfl
 |w::v::ws,t,a,c=>by
  show w::IE ((v::ws)++[(t,a)]) c=_
  rw [vG (v::ws)];rfl
def lx:List UInt8→Int→List Ln→List Wd→Int→Bool→Bool→List Ln×Int×Int
 |[],_,out,ws,la,_,_=>(Ej out ws la,0,0)
 |c::r,i,out,ws,la,rem,op=>
  bif (c.toNat:Int)==10 then lx r (i+1) (Ej out ws la) [] (i+1) false false
  else bif rem || (c.toNat:Int)==35 then lx r (i+1) out ws la true false
  else bif il c then lx r (i+1) out ws la false false
  else bif !k9 c then ([],i,70)
  else bif op then lx r (i+1) out (IE ws c) la false true
  else lx r (i+1) out (ws++[([c],i)]) la false true
def E3 (t:List UInt8):Bool:= !(t==[])&&t.all k9
theorem DC {c:UInt8} (h:k9 c=true):((c.toNat:Int)==10)=false∧((c.toNat:Int)==35)=false∧il c=false:=by
 unfold k9 at h
 unfold il
 simp only [Bool.and_eq_true,decide_eq_true_eq,Bool.not_eq_true',beq_eq_false_iff_ne] at h
 obtain ⟨⟨h1,h2⟩,h3⟩:=h
 refine ⟨beq_eq_false_iff_ne.2 qO,beq_eq_false_iff_ne.2 h3,?_⟩
 rw [Bool.or_eq_false_iff]
 exact ⟨beq_eq_false_iff_ne.2 qO,beq_eq_false_iff_ne.2 qO⟩
theorem Jh {c:UInt8} (h:k9 c=true) (r:List UInt8) (i:Int) (out:List Ln) (ws:List Wd) (la:Int) (op:Bool):lx (c::r) i out ws la false op=bif op then lx r (i+1) out (IE ws c) la false true else lx r (i+1) out (ws++[([c],i)]) la false true:=by
 obtain ⟨h1,h2,h3⟩:=DC h
 show (bif (c.toNat:Int)==10 then _ else bif false || (c.toNat:Int)==35 then _ else bif il c then _ else bif !k9 c then _ else _)=_
 rw [h1,h2,h3,h]
 rfl
theorem BC:∀ (w t:List UInt8) (r:List UInt8) (i a:Int) (out:List Ln) (ws:List Wd) (la:Int),w.all k9=true→lx (w++r) i out (ws++[(t,a)]) la false true=lx r (i+w.length) out (ws++[(t++w,a)]) la false true
 |[],t,r,i,a,out,ws,la,_=>by simp
 |c::w,t,r,i,a,out,ws,la,h=>by
  simp only [List.all_cons,Bool.and_eq_true] at h
  rw [List.cons_append,Jh h.1,cond_true,vG,BC w _ _ _ _ _ _ _ h.2,List.append_assoc,List.length_cons]
  rw [show i+1+(w.length:Int)=i+((w.length+1:Nat):Int) by omega]
  rfl
theorem ED {w:List UInt8} (h:E3 w=true) (r:List UInt8) (i:Int) (out:List Ln) (ws:List Wd) (la:Int):lx (w++r) i out ws la false false=lx r (i+w.length) out (ws++[(w,i)]) la false true:=by
 unfold E3 at h
 rw [Bool.and_eq_true] at h
 cases w with
 |nil=>cases h.1
 |cons c w=>
  have h2:=h.2
  simp only [List.all_cons,Bool.and_eq_true] at h2
  rw [List.cons_append,Jh h2.1,cond_false,BC w _ _ _ _ _ _ _ h2.2,List.length_cons]
  rw [show i+1+(w.length:Int)=i+((w.length+1:Nat):Int) by omega]
  rfl
def vN:Nat→List UInt8→Int→List Wd×List UInt8
 |0,l,_=>([],l)
 |n+1,l,a=>bif (l.dropWhile il).takeWhile k9==[] then ([],l.dropWhile il) else
  (((l.dropWhile il).takeWhile k9,a+((l.takeWhile il).length:Int))::(vN n ((l.dropWhile il).dropWhile k9) (a+((l.takeWhile il).length:Int)+(((l.dropWhile il).takeWhile k9).length:Int))).1,
    (vN n ((l.dropWhile il).dropWhile k9) (a+((l.takeWhile il).length:Int)+(((l.dropWhile il).takeWhile k9).length:Int))).2)
def md (c:UInt8):Bool:= !((c.toNat:Int)==10)
def JV (l:List UInt8):Bool:=match l with
 |[]=>false
 |c::_=>(c.toNat:Int)==35
def Jt (l:List UInt8):List UInt8:=bif JV l then l.dropWhile md else l
def GU (l:List UInt8) (a:Int):List Wd:=(vN (l.length+1) l a).1
def GK (l:List UInt8) (a:Int):List UInt8:=Jt (vN (l.length+1) l a).2
theorem EJ {c:UInt8} (h:il c=true):((c.toNat:Int)==10)=false∧((c.toNat:Int)==35)=false:=by
 unfold il at h
 rw [Bool.or_eq_true,beq_iff_eq,beq_iff_eq] at h
 exact ⟨beq_eq_false_iff_ne.2 qO,beq_eq_false_iff_ne.2 qO⟩
theorem JM {c:UInt8} (h:il c=true) (r:List UInt8) (i:Int) (out:List Ln) (ws:List Wd) (la:Int) (op:Bool):lx (c::r) i out ws la false op=lx r (i+1) out ws la false false:=by
 obtain ⟨h1,h2⟩:=EJ h
 show (bif (c.toNat:Int)==10 then _ else bif false || (c.toNat:Int)==35 then _ else bif il c then _ else bif !k9 c then _ else _)=_
 rw [h1,h2,h]
 rfl
theorem yy:∀ (l:List UInt8) (i:Int) (out:List Ln) (ws:List Wd) (la:Int),lx l i out ws la false false=lx (l.dropWhile il) (i+((l.takeWhile il).length:Int)) out ws la false false
 |[],i,out,ws,la=>by simp
 |c::r,i,out,ws,la=>by
  cases h:il c
  ·simp [h]
  ·rw [JM h,yy r]
   simp only [List.dropWhile_cons,List.takeWhile_cons,h,if_true,List.length_cons]
   rw [show i+1+((r.takeWhile il).length:Int)=i+(((r.takeWhile il).length+1:Nat):Int) by omega]
def nW (l:List UInt8):Prop:=∀ c r,l=c::r→k9 c=false
theorem Jj {l:List UInt8} (h:nW l) (i:Int) (out:List Ln) (ws:List Wd) (la:Int):lx l i out ws la false true=lx l i out ws la false false:=by
 cases l with
 |nil=>rfl
 |cons c r=>
  have hc:=h c r rfl
  unfold lx
  rw [hc]
  rfl
theorem ke {p:UInt8→Bool}:∀ (l:List UInt8) {c:UInt8} {r:List UInt8},l.dropWhile p=c::r→p c=false
 |[],_,_,h=>by cases h
 |x::l,c,r,h=>by
  rw [List.dropWhile_cons] at h
  cases hx:p x with
  |true=>rw [hx] at h;exact ke l h
  |false=>
   rw [hx] at h
   simp at h
   rw [←h.1];exact hx
theorem rI {p:UInt8→Bool}:∀ (l:List UInt8),(l.takeWhile p).all p=true
 |[]=>rfl
 |x::l=>by
  cases hx:p x with
  |true=>simp only [List.takeWhile_cons,hx,if_true,List.all_cons,rI l,Bool.true_and]
  |false=>simp [hx]
theorem z6 {p:UInt8→Bool} {c:UInt8} {r:List UInt8} (h:((c::r).takeWhile p==[])=true):p c=false:=by
 cases hc:p c with
 |false=>rfl
 |true=>simp [hc] at h
theorem Jp (p:UInt8→Bool) (l:List UInt8):l.length=(l.takeWhile p).length+(l.dropWhile p).length:=by
 have:=congrArg List.length (List.takeWhile_append_dropWhile (p:=p) (l:=l))
 rw [List.length_append] at this
 exact this.symm
theorem CN:∀ (n:Nat) (l:List UInt8) (a:Int),(vN n l a).2.length≤l.length
 |0,l,_=>Nat.le_refl _
 |n+1,l,a=>by
  have h1:=Jp il l
  have h2:=Jp k9 (l.dropWhile il)
  unfold vN
  cases ((l.dropWhile il).takeWhile k9==[])
  ·have:=CN n ((l.dropWhile il).dropWhile k9) (a+((l.takeWhile il).length:Int)+(((l.dropWhile il).takeWhile k9).length:Int))
   simp only [cond_false]
   omega
  ·simp only [cond_true];omega
theorem Cg:∀ (n:Nat) (l:List UInt8) (a:Int),l.length<n→∀ (out:List Ln) (ws:List Wd) (la:Int),
 lx l a out ws la false false=lx (vN n l a).2 (a+(l.length:Int) - ((vN n l a).2.length:Int)) out (ws++(vN n l a).1) la false false∧∀ c r,(vN n l a).2=c::r→k9 c=false∧il c=false
 |0,l,a,h,_,_,_=>absurd h (Nat.not_lt_zero _)
 |n+1,l,a,h,out,ws,la=>by
  have h1:=Jp il l
  have h2:=Jp k9 (l.dropWhile il)
  have hs:=yy l a out ws la
  unfold vN
  cases hw:((l.dropWhile il).takeWhile k9==[])
  ·simp only [cond_false]
   have hne:E3 ((l.dropWhile il).takeWhile k9)=true:=by
    unfold E3
    rw [hw,rI];rfl
   have hpos:0<((l.dropWhile il).takeWhile k9).length:=by
    rcases Nat.eq_zero_or_pos ((l.dropWhile il).takeWhile k9).length with e|e
    ·rw [List.length_eq_zero_iff.1 e] at hw;cases hw
    ·exact e
   have hd:nW ((l.dropWhile il).dropWhile k9):=fun c r e=>ke _ e
   have hwd:=ED hne ((l.dropWhile il).dropWhile k9) (a+((l.takeWhile il).length:Int)) out ws la
   rw [List.takeWhile_append_dropWhile] at hwd
   obtain ⟨g1,g2⟩:=Cg n ((l.dropWhile il).dropWhile k9) (a+((l.takeWhile il).length:Int)+(((l.dropWhile il).takeWhile k9).length:Int)) qO out (ws++[((l.dropWhile il).takeWhile k9,a+((l.takeWhile il).length:Int))]) la
   refine ⟨?_,g2⟩
   rw [hs,hwd,Jj hd,g1,List.append_assoc]
   congr 1
   omega
  ·simp only [cond_true]
   refine ⟨?_,fun c r e=> ?_⟩
   ·rw [hs,List.append_nil]
    congr 1
    omega
   ·rw [e] at hw
    exact ⟨z6 hw,ke _ e⟩
theorem Ck:∀ (l:List UInt8) (i:Int) (out:List Ln) (ws:List Wd) (la:Int),lx l i out ws la true false=lx (l.dropWhile md) (i+((l.takeWhile md).length:Int)) out ws la true false
 |[],i,out,ws,la=>by simp
 |c::r,i,out,ws,la=>by
  cases h:((c.toNat:Int)==10)
  ·have hn:md c=true:=by unfold md;rw [h];rfl
   have e:lx (c::r) i out ws la true false=lx r (i+1) out ws la true false:=by
    show (bif (c.toNat:Int)==10 then _ else bif true || (c.toNat:Int)==35 then _ else _)=_
    rw [h];rfl
   rw [e,Ck r]
   simp only [List.dropWhile_cons,List.takeWhile_cons,hn,if_true,List.length_cons]
   rw [show i+1+((r.takeWhile md).length:Int)=i+(((r.takeWhile md).length+1:Nat):Int) by omega]
  ·have hn:md c=false:=by unfold md;rw [h];rfl
   simp [hn]
def tK (l:List UInt8) (a:Int) (out:List Ln) (la:Int):List Ln×Int×Int:=match GK l a with
 |[]=>(Ej out (GU l a) la,0,0)
 |c::r=>bif (c.toNat:Int)==10 then lx r (a+(l.length:Int) - ((c::r).length:Int)+1) (Ej out (GU l a) la) [] (a+(l.length:Int) - ((c::r).length:Int)+1) false false else ([],a+(l.length:Int) - ((c::r).length:Int),70)
theorem rV (l:List UInt8) (a:Int) (out:List Ln) (la:Int):lx l a out [] la false false=tK l a out la:=by
 obtain ⟨g1,g2⟩:=Cg (l.length+1) l a (Nat.lt_succ_self _) out [] la
 rw [g1,List.nil_append]
 have hle:=CN (l.length+1) l a
 unfold tK GK GU
 generalize (vN (l.length+1) l a).1=ws at*
 generalize (vN (l.length+1) l a).2=t at*
 clear g1
 cases t with
 |nil=>rfl
 |cons c r=>
  obtain ⟨hw,hb⟩:=g2 c r rfl
  cases h:((c.toNat:Int)==35) with
  |false=>
   have e:Jt (c::r)=c::r:=by
    show (bif (c.toNat:Int)==35 then _ else _)=_
    rw [h];rfl
   rw [e]
   show (bif (c.toNat:Int)==10 then _ else bif false || (c.toNat:Int)==35 then _ else bif il c then _ else bif !k9 c then _ else _)=_
   rw [h,hw,hb]
   rfl
  |true=>
   have h10:((c.toNat:Int)==10)=false:=by
    rw [beq_iff_eq] at h
    exact beq_eq_false_iff_ne.2 qO
   have e:Jt (c::r)=r.dropWhile md:=by
    show (bif (c.toNat:Int)==35 then _ else _)=_
    rw [h]
    have hn:md c=true:=by unfold md;rw [h10];rfl
    simp only [cond_true,List.dropWhile_cons,hn,if_true]
   rw [e]
   have e2:∀ i,lx (c::r) i out ws la false false=lx r (i+1) out ws la true false:=fun i=>by
    show (bif (c.toNat:Int)==10 then _ else bif false || (c.toNat:Int)==35 then _ else _)=_
    rw [h10,h];rfl
   rw [e2,Ck]
   have hl:=Jp md r
   cases hd:r.dropWhile md with
   |nil=>rfl
   |cons x q=>
    have hx:((x.toNat:Int)==10)=true:=by
     have:=ke _ hd
     unfold md at this
     simpa using this
    rw [hd] at hl
    show (bif (x.toNat:Int)==10 then _ else _)=_
    simp only [hx,cond_true]
    rw [List.length_cons] at hle hl
    rw [show a+(l.length:Int) - ((c::r).length:Int)+1+((r.takeWhile md).length:Int)=a+(l.length:Int) - ((x::q).length:Int) by
     rw [List.length_cons,List.length_cons];omega]
abbrev tt {α:Type}:α→Prop:=fun _=>True
section
variable {P:Program} {w00:World} {N:Nat} {L:List Loc} {E:List (Nat×aa)} {d:Nat} {t0:TypeId} {pos:String} {af:Array Edge} {gd:Option (Nat×Bool)} {ats:Array TypeId}
end
theorem bW.args{G:World→Prop} {T:Nat→aa} (h:bW P G f ks As T) (ha:∀ {X:List Nat} {w:World} {vs:List Value},cM X w As' vs→cM X w As vs):bW P G f ks' As' T:=⟨h.ent,h.down,fun hG hX hv=>h.run hG hX (ha hv)⟩
theorem JQ.args{G:World→Prop} {T0 T1:aa} (h:JQ P G f T0 ks As T1 T) (ha:∀ {X:List Nat} {w:World} {vs:List Value},cM X w As' vs→cM X w As vs):JQ P G f T0 ks' As' T1 T:=⟨h.ent,fun hG hm hv=>h.run hG hm (ha hv)⟩
class aZ {α:Type} {β:outParam Type} (r:Rp α) (off:Nat) (r':outParam (Rp β)) (f:outParam (α→β)):Prop where
 ok:∀ {w:World} {S:Nat→Prop} {a:α} {cs:List Value},r.rd w S a cs→∃ c1 c2 c3,cs=c1++c2++c3∧c1.length=off∧r'.rd w S (f a) c2
class K1 {α:Type} (r:Rp α):Prop where
 ok:r.k=1
instance:K1 Rp.str:=⟨rfl⟩
instance {k:IntKind}:K1 (Rp.int k):=⟨rfl⟩
instance {α:Type} {r:Rp α}:K1 r.row:=⟨rfl⟩
instance aZ.fst {α β:Type} {r:Rp α} {s:Rp β}:aZ (r.pair s) 0 r Prod.fst:=⟨fun ⟨c1,c2,e,h1,_⟩=>⟨[],c1,c2,e,rfl,h1⟩⟩
instance aZ.snd {α β:Type} {r:Rp α} {s:Rp β} [k:K1 r]:aZ (r.pair s) 1 s Prod.snd:=⟨fun ⟨c1,c2,e,h1,h2⟩=>⟨c1,c2,[],by rw [e,List.append_nil],(r.len h1).trans k.ok,h2⟩⟩
class lC {α:Type} (r:Rp α) (a:α) (T:outParam aa):Prop where
 ok:∀ {X:List Nat} {w:World} {v:Value},r.rd w (cU X w) a [v]→T.holds X w v
instance {l:List UInt8}:lC Rp.str l (.is (Tx l)):=⟨fun ⟨t,e,h⟩=>by
 injection e with e _
 subst e
 show Value.string t=_
 rw [FV t,h]⟩
instance {k:IntKind} {x:Int}:lC (Rp.int k) x (.is (.int k x)):=⟨fun h=>by
 injection (show [_]=[_] from h) with e _⟩
instance {α:Type} {r:Rp α} {l:List α}:lC r.row l (.rw r tt l):=⟨fun h=>⟨fun _ _=>trivial,h⟩⟩
section
variable {P:Program} {w00:World} {N:Nat} {L:List Loc} {E:List (Nat×aa)} {d:Nat} {t0:TypeId} {pos:String} {af:Array Edge} {gd:Option (Nat×Bool)} {ats:Array TypeId}
theorem oQ{c1 c2 c3:List Value} (h:w.rangeAt b o (c1++c2++c3)):w.rangeAt b (o+c1.length) c2:=fun j v hv=>by
 have:=h (c1.length+j) v (by
  rw [List.append_assoc,List.getElem?_append_right (Nat.le_add_right _ _),Nat.add_sub_cancel_left,List.getElem?_append_left (List.getElem?_eq_some_iff.1 hv).1]
  exact hv)
 rwa [←Nat.add_assoc] at this
theorem nu{α β:Type} {r:Rp α} {r':Rp β} {p:α→Prop} {a:α} {g:α→β} {s fo:Nat} {ag:Bool} [hs:ck E s (.pe r p a)] [hf:aq P ty i fo k ag] [hn:aZ r fo r' g]:au P w00 N L E ⟨some d, .fieldAddr ty (.tmp s) i,t0,pos,af,gd⟩ (.pe r' tt (g a)):=by
 constructor
 intro X ρ w hc _ hN hm hsl
 obtain ⟨_,b,o,cs,e,hb,hcs,hrd⟩:=hsl _ hs.mem qI
 have e':ρ (.tmp s)= .pointer (some ⟨b,o,none⟩):=e
 obtain ⟨fs,f,h1,h2,h3,h4,h5,_⟩:=hf.ok
 have hz:(sizeOf f.type).run P w= .ok k w:=by
  cases hq:P.info? f.type with
  |none=>rw [hq] at h4;cases h4
  |some q=>
   rw [hq] at h4
   have:q.size=k:=by simpa using h4
   simp [sizeOf,typeInfo,hq,this]
 have hrun:(execOp ρ ⟨some d, .fieldAddr ty (.tmp s) i,t0,pos,af,gd⟩).run P w= .ok (.value (.pointer (some ⟨b,o+fo,none⟩))) w:=by
  unfold execOp
  simp only [e',Instr.fieldAt,Instr.sureAddr,fieldPlace,Sem.run_bind,Sem.run_pure,Result.andThen_ok,run_underlying h1 w,h2,hz,h5,if_false,h3,Addr.add_mid]
 obtain ⟨c1,c2,c3,rfl,hl,hr⟩:=hn.ok hrd
 unfold Yields
 rw [hrun]
 exact ⟨⟨trivial,b,_,c2,rfl,hb,by rw [←hl];exact oQ hcs,hr⟩,Below.refl _ _⟩
theorem jE{α:Type} {r:Rp α} {p:α→Prop} {a:α} {s:Nat} [hs:ck E s (.pe r p a)] [k1:K1 r] [ht:fw P ty 1 false] [hn:lC r a T]:au P w00 N L E ⟨some d, .load ty (.tmp s),t0,pos,af,gd⟩ T:=by
 constructor
 intro X ρ w hc _ hN hm hsl
 obtain ⟨_,b,o,cs,e,hb,hcs,hrd⟩:=hsl _ hs.mem qI
 have e':ρ (.tmp s)= .pointer (some ⟨b,o,none⟩):=e
 obtain ⟨dd,hu,hd⟩:=ht.row
 obtain ⟨u,rfl⟩:∃ u,cs=[u]:=List.length_eq_one_iff.1 ((r.len hrd).trans k1.ok)
 have hag:(isAgg ty).run P w= .ok false w:=by
  unfold isAgg
  rw [Sem.run_bind,run_underlying hu w]
  cases dd<;>first|rfl|cases hd
 have hcell:w.cell? ⟨b,o,none⟩=some u:=hcs 0 u rfl
 have hrun:(execOp ρ ⟨some d, .load ty (.tmp s),t0,pos,af,gd⟩).run P w= .ok (.value u) w:=by
  unfold execOp
  simp only [e',Instr.loadAt,Instr.sureAddr,loadVar,Sem.run_bind,Sem.run_pure,Result.andThen_ok,hag,run_load,hcell,if_false,Bool.false_eq_true]
 unfold Yields
 rw [hrun]
 exact ⟨hn.ok hrd,Below.refl _ _⟩
end
structure JB (P:Program) (G:World→Prop) (f:FuncId) (T0:aa) (ks:List Nat) (As:List aa) (T1:aa) (T:Nat→aa):Prop where
 ent:aJ P f
 down:∀ {B B':Nat} {X:List Nat} {w:World} {v:Value},B'≤B→(T B).holds X w v→(T B').holds X w v
 run:∀ {w00 w:World} {X:List Nat} {L0:List Loc} {r:Nat} {vs:List Value},G w→vM w00 X ((r,T0)::L0) w→cM X w As vs→Calls P f (.pointer (some ⟨r,0,none⟩)::vs).toArray w (Dl w00 X ((r,T1)::L0) w (T w.heap.size))
theorem JB.args{G:World→Prop} {T0 T1:aa} {T:Nat→aa} (h:JB P G f T0 ks As T1 T) (ha:∀ {X:List Nat} {w:World} {vs:List Value},cM X w As' vs→cM X w As vs):JB P G f T0 ks' As' T1 T:=⟨h.ent,h.down,fun hG hm hv=>h.run hG hm (ha hv)⟩
theorem cM.count:∀ {As:List aa} {vs:List Value},cM X w As vs→vs.length=As.length
 |[],[],_=>rfl
 |_::_,_::_,h=>by rw [List.length_cons,List.length_cons,h.2.count]
 |[],_::_,h=>h.elim
 |_::_,[],h=>h.elim
section
variable {P:Program} {w00:World} {X:List Nat} {L L':List Loc} {E:List (Nat×aa)} {n:Nat} {ops:Array Oper} {rest:List Oper} {Q:Exit→Act→World→Prop} {cs:List Code} {t0:TypeId} {pos:String} {af:Array Edge}
end
section
variable {P:Program} {w00:World} {X:List Nat} {L L':List Loc} {E:List (Nat×aa)} {n:Nat} {ops:Array Oper} {rest:List Oper} {Q:Exit→Act→World→Prop} {cs:List Code} {t0:TypeId} {pos:String} {af:Array Edge}
end
instance:fw Tryz.prog 3 1 false:=⟨⟨_,Tryz.underlying3,rfl⟩,by kernel_rfl⟩
instance:fw Tryz.prog 5 1 false:=⟨⟨_,Tryz.underlying5,rfl⟩,by kernel_rfl⟩
theorem Fz (c:UInt8):((c.toNat:Int).toNat).toUInt8=c:=by
 rw [Int.toNat_natCast]
 exact UInt8.ofNat_toNat
theorem EC {l:List UInt8} {c:UInt8}:bW Tryz.prog S1 39 [0,0] [.is (Tx l), .is (.int .u8 (c.toNat:Int))] (fun _=> .is (.int .i64 (Lib.indexByte l c))):=
 CS (fun _ _=>by kernel_rfl) fun w _=>(Tryz.strings_IndexByte ⟨l.toArray⟩ (c.toNat:Int) w).mono fun e w' h=>by
  rw [bu,Fz] at h
  exact ⟨h.1,by rw [h.2];exact Below.refl _ _⟩
section
variable {P:Program} {w00:World} {N:Nat} {L:List Loc} {E:List (Nat×aa)} {d:Nat} {t0:TypeId} {pos:String} {af:Array Edge} {gd:Option (Nat×Bool)} {ats:Array TypeId}
end
def Rp.own {α:Type} (r:Rp α) (e:TypeId):Rp (List α):=⟨1,fun w S l cs=>∃ A n c,cs=[.slice A n c]∧su r w S A n c l∧∀ b o,A=some ⟨b,o,none⟩→0<n→o=0∧∃ cur,w.heap[b]? =some (.cells cur e (0,0)),
 fun ⟨_,_,_,h,_⟩=>by rw [h];rfl,fun ⟨_,_,_,h,_⟩ v hv=>by rw [h,List.mem_singleton] at hv;rw [hv];rfl,
 fun ⟨A,n,c,e,h,g⟩ hk=>⟨A,n,c,e,h.keep hk,fun b o hA hn=>by
  obtain ⟨h1,cur,h2⟩:=g b o hA hn
  obtain ⟨b',o',hA',hS,_⟩:=h.2.2.2.2 hn
  rw [hA] at hA'
  injection hA' with hA'
  injection hA' with hb _
  subst hb
  exact ⟨h1,cur,(hk _ hS).trans h2⟩⟩,fun ⟨A,n,c,e,h,g⟩ hB=>⟨A,n,c,e,h.more hB,g⟩⟩
def Rp.frm {α:Type} (B:Nat) (r:Rp α):Rp α:=⟨r.k,fun w S a cs=>r.rd w (fun b=>S b∧B≤b) a cs,r.len,r.one,fun h hk=>r.keep h fun b hb=>hk b hb.1,fun h hk=>r.more h fun b hb=>⟨hk b hb.1,hb.2⟩⟩
abbrev Rp.wd:Rp Wd:=Rp.str.pair (Rp.int .i64)
abbrev Rp.lr:Rp Ln:=Rp.wd.row.pair (Rp.int .i64)
abbrev Rp.lo (e:TypeId) (B:Nat):Rp Ln:= .frm B ((Rp.own Rp.wd e).pair (Rp.int .i64))
instance {α:Type} {r:Rp α} {e:TypeId}:K1 (r.own e):=⟨rfl⟩
class pw {α:Type} (r r':Rp α):Prop where
 k:r.k=r'.k
 ok:∀ {w S a cs},r.rd w S a cs→r'.rd w S a cs
instance {α:Type} {r:Rp α}:pw r r:=⟨rfl,fun h=>h⟩
theorem su.le{α:Type} {r r':Rp α} [l:pw r r'] {S:Nat→Prop} {A:Option Addr} {c:Nat} {xs:List α} (h:su r w S A n c xs):su r' w S A n c xs:=by
 obtain ⟨h1,h2,h3,h4,h5⟩:=h
 refine ⟨h1,h2,h3,h4,fun hn=> ?_⟩
 obtain ⟨b,off,hA,hb,hc⟩:=h5 hn
 refine ⟨b,off,hA,hb,fun j a ha=> ?_⟩
 obtain ⟨cs,g1,g2⟩:=hc j a ha
 exact ⟨cs,by rw [←l.k];exact g1,l.ok g2⟩
instance pw.frm {α:Type} {B:Nat} {r r':Rp α} [l:pw r r']:pw (r.frm B) r':=⟨l.k,fun h=>l.ok (r.more h fun _ hb=>hb.1)⟩
instance pw.own {α:Type} {r:Rp α} {e:TypeId}:pw (r.own e) r.row:=⟨rfl,fun ⟨A,n,c,h,g,_⟩=>⟨A,n,c,h,g⟩⟩
instance pw.pair {α β:Type} {r r':Rp α} {s s':Rp β} [l:pw r r'] [m:pw s s']:pw (r.pair s) (r'.pair s'):=⟨by show r.k+s.k=r'.k+s'.k;rw [l.k,m.k],fun ⟨c1,c2,e,h1,h2⟩=>⟨c1,c2,e,l.ok h1,m.ok h2⟩⟩
theorem FY{α:Type} {r r':Rp α} [l:pw r r'] {p:α→Prop} {xs:List α} (h:(aa.rw r p xs).holds X w v):(aa.rw r' tt xs).holds X w v:=by
 obtain ⟨_,A,n,c,e,h⟩:=h
 exact ⟨fun _ _=>trivial,A,n,c,e,h.le⟩
class Gm (T:aa) (l:outParam (List Ln)):Prop where
 ok:∀ {X:List Nat} {w:World} {v:Value},T.holds X w v→(aa.rw Rp.lr tt l).holds X w v
instance {l:List Ln}:Gm (.rw Rp.lr tt l) l:=⟨fun h=>h⟩
instance {e:TypeId} {B:Nat} {l:List Ln}:Gm (.rw (Rp.lo e B) tt l) l:=⟨fun h=>FY h⟩
instance {e e2:TypeId} {B B2:Nat} {p:Ln→Prop} {l:List Ln}:Gm (.ow (Rp.lo e B) e2 p B2 l) l:=⟨fun h=>FY (F9 h)⟩
instance {B:Nat} {T:aa} {l:List Ln} [a:Gm T l]:Gm (.und B T) l:=⟨fun h=>a.ok (ei h)⟩
instance {T:aa} {l:List Ln} [a:Gm T l]:Dj 20 T (.rw Rp.lr tt l):=⟨a.ok⟩
def aa.lnb (e:TypeId) (B:Nat) (ws:List Wd) (a:Int):aa:=⟨fun X w v=>∃ sv,v= .agg #[sv, .int .i64 a]∧(aa.ow Rp.wd e tt B ws).holds X w sv,fun ⟨sv,e,h⟩ hk hX=>⟨sv,e,(aa.ow _ _ _ _ _).stable h hk hX⟩⟩
def aa.lns (sv:Value) (e:TypeId) (B:Nat) (ws:List Wd) (a:Int):aa:=⟨fun X w v=>v= .agg #[sv, .int .i64 a]∧(aa.ow Rp.wd e tt B ws).holds X w sv,fun ⟨e,h⟩ hk hX=>⟨e,(aa.ow _ _ _ _ _).stable h hk hX⟩⟩
def aa.lnj (a:Int):aa:=⟨fun _ _ v=>∃ sv:Value,v= .agg #[sv, .int .i64 a]∧sv.oneCell'=true,fun h _ _=>h⟩
def aa.ows (sv:Value) (e:TypeId) (B:Nat) (ws:List Wd):aa:=⟨fun X w v=>v=sv∧(aa.ow Rp.wd e tt B ws).holds X w sv,fun ⟨e,h⟩ hk hX=>⟨e,(aa.ow _ _ _ _ _).stable h hk hX⟩⟩
theorem Hs{α:Type} {r:Rp α} {p:α→Prop} {l:List α} (h:(aa.ow r e p B l).holds X w v):v.oneCell'=true:=by
 obtain ⟨A,c,ps,rfl,_⟩:=h
 rfl
theorem Fl{sv:Value} {ws:List Wd} (h:(aa.lns sv e B ws a).holds X w v):(aa.lnb e B ws a).holds X w v:=⟨sv,h.1,h.2⟩
theorem yL{ws:List Wd} (h:(aa.lnb e B ws a).holds X w v):(aa.lnj a).holds X w v:=by
 obtain ⟨sv,e,h⟩:=h
 exact ⟨sv,e,Hs h⟩
theorem pW(h:(aa.lnj a).holds X w v):v.cells.size=2∧v.cells.all (·.oneCell')=true∧(true=true→v= .agg v.cells)∧(true=false→v.cells= #[v]):=by
 obtain ⟨sv,rfl,h1⟩:=h
 exact ⟨rfl,by simp [Value.cells,h1,show (Value.int .i64 a).oneCell'=true from rfl],fun _=>rfl,fun h=>by cases h⟩
instance {a:Int}:aL (.lnj a) 2 true:=⟨pW⟩
instance {e:TypeId} {B:Nat} {ws:List Wd} {a:Int}:aL (.lnb e B ws a) 2 true:=⟨fun h=>pW (yL h)⟩
instance {sv:Value} {e:TypeId} {B:Nat} {ws:List Wd} {a:Int}:aL (.lns sv e B ws a) 2 true:=⟨fun h=>pW (yL (Fl h))⟩
instance {e:TypeId} {B:Nat} {ws:List Wd} {a:Int}:ai (.lnb e B ws a) 0 1 false (.ow Rp.wd e tt B ws):=⟨fun _=>rfl,fun {X w u} ⟨sv,e,h⟩=>⟨[sv],rfl,fun j x hj=>by
 subst e
 have:j=0∧x=sv:=by cases j with|zero=>exact ⟨rfl,by simpa using hj.symm⟩|succ j=>simp at hj
 rw [this.1,this.2];rfl,fun x _ hx=>by have:=hx rfl;simp at this;rw [←this];exact h⟩⟩
instance {sv:Value} {e:TypeId} {B:Nat} {ws:List Wd} {a:Int}:ai (.lns sv e B ws a) 0 1 false (.ows sv e B ws):=⟨fun _=>rfl,fun {X w u} ⟨e,h⟩=>⟨[sv],rfl,fun j x hj=>by
 subst e
 have:j=0∧x=sv:=by cases j with|zero=>exact ⟨rfl,by simpa using hj.symm⟩|succ j=>simp at hj
 rw [this.1,this.2];rfl,fun x _ hx=>by have:=hx rfl;simp at this;rw [←this];exact ⟨rfl,h⟩⟩⟩
instance {e:TypeId} {B:Nat} {ws:List Wd} {a:Int}:ai (.lnb e B ws a) 1 1 false (.is (.int .i64 a)):=⟨fun _=>rfl,fun {X w u} ⟨sv,e,h⟩=>⟨[.int .i64 a],rfl,fun j x hj=>by
 subst e
 have:j=0∧x= .int .i64 a:=by cases j with|zero=>exact ⟨rfl,by simpa using hj.symm⟩|succ j=>simp at hj
 rw [this.1,this.2];rfl,fun x _ hx=>by have:=hx rfl;simp at this;exact this.symm⟩⟩
instance {e:TypeId} {B:Nat} {ws:List Wd} {a:Int}:ai (.lnb e B ws a) 0 2 true (.lnb e B ws a):=⟨(fun h=>by cases h),fun {X w u} h=>by
 obtain ⟨sv,e1,h1⟩:=h
 refine ⟨[sv, .int .i64 a],rfl,fun j x hj=>by subst e1;rw [Nat.zero_add];simpa [Value.cells] using hj,fun x hx _=> ?_⟩
 rw [hx rfl]
 exact ⟨sv,rfl,h1⟩⟩
instance {e:TypeId} {ws:List Wd} {a:Int}:fN fun B=> .lnb e B ws a:=⟨fun hB ⟨sv,e1,A,c,ps,h1,h2,h3,h4,h5⟩=>⟨sv,e1,A,c,ps,h1,h2,h3,h4.lower hB,h5⟩⟩
instance {e e2:TypeId} {l:List Ln}:fN fun B=> .ow (Rp.lo e B) e2 tt B l:=⟨fun hB ⟨A,c,ps,h1,h2,h3,h4,h5⟩=>⟨A,c,ps,h1,h2,fun q hq=>⟨(h3 q hq).1,((Rp.own Rp.wd e).pair (Rp.int .i64)).more (h3 q hq).2 fun b hb=>⟨hb.1,Nat.le_trans hB hb.2⟩⟩,h4.lower hB,h5⟩⟩
class JZ (a b:TypeId):Prop where
 ne:a≠b
class JU (e:TypeId) (T:aa) {α:outParam Type} (r:outParam (Rp α)) (a:outParam α):Prop where
 ok:∀ {X:List Nat} {w:World} {v:Value},T.holds X w v→∃ cs:List Value,v= .agg cs.toArray∧r.rd w (kD e X w) a cs
instance {e:TypeId} {t:List UInt8} {a:Int}:JU e (.is (.agg #[Tx t, .int .i64 a])) Rp.wd (t,a):=⟨fun h=>⟨[Tx t, .int .i64 a],h,[Tx t],[.int .i64 a],rfl,⟨_,rfl,bu t⟩,rfl⟩⟩
theorem H_{w':World} {S S':Nat→Prop} {a:Wd} {cs:List Value} (h:Rp.wd.rd w S a cs):Rp.wd.rd w' S' a cs:=h
theorem Hu{e2:TypeId} {l:List Wd} (hne:e≠e2) (h:(aa.ow Rp.wd e tt B l).holds X w v):(Rp.own Rp.wd e).rd w (fun b=>kD e2 X w b∧B≤b) l [v]:=by
 obtain ⟨A,c,ps,rfl,rfl,h3,h4,h5,_⟩:=h
 refine ⟨A,_,c,rfl,?_,fun b o hA hn=> ?_⟩
 ·obtain ⟨g1,g2,g3,g4,g5⟩:=h4.sl
  refine ⟨rfl,g2,g3,g4,fun hn=> ?_⟩
  obtain ⟨b,off,rfl,hb,hc⟩:=g5 hn
  obtain ⟨cur,hcur⟩:=h4.type (g:=b) rfl
  refine ⟨b,off,rfl,⟨⟨h5 b rfl,cur,e,(0,0),hcur,hne⟩,(h4.blk_ b rfl).1⟩,fun j a ha=> ?_⟩
  rw [List.getElem?_map] at ha
  cases hq:ps[j]? with
  |none=>rw [hq] at ha;cases ha
  |some q=>
   rw [hq] at ha
   obtain rfl:q.1=a:=by simpa using ha
   refine ⟨q.2,fun i u hu=> ?_,H_ (h3 q (List.mem_of_getElem? hq)).2⟩
   have:=hc (j*Rp.wd.k+i) u (iX (fun q hq=>Rp.wd.len (h3 q hq).2) hq hu)
   rw [Nat.add_assoc]
   exact this
 ·rcases h4.form with ⟨rfl,h0,_⟩|⟨g,rfl,_⟩
  ·cases hA
  ·injection hA with hA
   injection hA with hb ho _
   subst hb
   exact ⟨ho.symm,h4.type rfl⟩
instance {e e2:TypeId} {B:Nat} {ws:List Wd} {a:Int} [n:JZ e e2]:JU e2 (.lnb e B ws a) (Rp.lo e B) (ws,a):=⟨fun {X w v} ⟨sv,hv,h⟩=>⟨[sv, .int .i64 a],hv,[sv],[.int .i64 a],rfl,Hu n.ne h,rfl⟩⟩
class Hm (T:aa) {α:outParam Type} (r:outParam (Rp α)) (e:outParam TypeId) (p:outParam (α→Prop)) (B:outParam Nat) (l:outParam (List α)):Prop where
 ok:∀ {X:List Nat} {w:World} {v:Value},T.holds X w v→(aa.ow r e p B l).holds X w v
instance {α:Type} {r:Rp α} {e:TypeId} {p:α→Prop} {B:Nat} {l:List α}:Hm (.ow r e p B l) r e p B l:=⟨fun h=>h⟩
instance {α:Type} {r:Rp α} {e:TypeId} {p:α→Prop} {B B2:Nat} {l:List α} {T:aa} [a:Hm T r e p B l]:Hm (.und B2 T) r e p B l:=⟨fun h=>a.ok (ei h)⟩
instance {X0:List Nat} {w0:World}:mo w0.heap.size (.gh X0 w0):=⟨fun {X w w' v} ⟨h1,h2⟩ hs=>⟨h1,Nat.le_trans h2.size hs.size,fun b hb hx=>by
 have e:=h2.block b hb hx
 rcases hs.block b (Nat.lt_of_lt_of_le hb h2.size) with g|⟨g,_⟩
 ·exact g.trans e
 ·omega⟩⟩
instance {B:Nat} {c:List Value}:mo B (.cs c):=⟨fun h _=>h⟩
instance {B:Nat} {a:Int}:mo B (.lnj a):=⟨fun h _=>h⟩
instance {B:Nat}:mo B aa.any:=⟨fun h _=>h⟩
section
variable {P:Program} {w00:World} {X:List Nat} {L L':List Loc} {E E0:List (Nat×aa)} {n:Nat} {ops:Array Oper} {rest:List Oper} {Q:Exit→Act→World→Prop} {cs:List Code} {t0:TypeId} {pos:String} {af:Array Edge}
end
section
variable {P:Program} {w00:World} {N:Nat} {L:List Loc} {E:List (Nat×aa)} {d:Nat} {t0:TypeId} {pos:String} {af:Array Edge} {gd:Option (Nat×Bool)} {ats:Array TypeId}
end
theorem cU.grow{w':World} (h:cU X w b) (hs:w.heap.size≤w'.heap.size):cU X w' b:=⟨Nat.lt_of_lt_of_le h.1 hs,h.2⟩
section
variable {P:Program} {w00:World} {X:List Nat} {E E0:List (Nat×aa)} {n:Nat} {ops:Array Oper} {rest:List Oper} {Q:Exit→Act→World→Prop} {cs:List Code} {t0:TypeId} {pos:String} {af:Array Edge}
end
theorem ot (p:UInt8→Bool) (l:List UInt8):∃ q,l=q++l.dropWhile p:=⟨l.takeWhile p,(List.takeWhile_append_dropWhile).symm⟩
theorem yi:∀ (n:Nat) (l:List UInt8) (a:Int),∃ q,l=q++(vN n l a).2
 |0,l,_=>⟨[],rfl⟩
 |n+1,l,a=>by
  unfold vN
  obtain ⟨q1,h1⟩:=ot il l
  cases ((l.dropWhile il).takeWhile k9==[])
  ·obtain ⟨q2,h2⟩:=ot k9 (l.dropWhile il)
   obtain ⟨q3,h3⟩:=yi n ((l.dropWhile il).dropWhile k9) (a+((l.takeWhile il).length:Int)+(((l.dropWhile il).takeWhile k9).length:Int))
   refine ⟨q1++(q2++q3),?_⟩
   simp only [cond_false]
   rw [List.append_assoc,List.append_assoc,←h3,←h2,←h1]
  ·exact ⟨q1,h1⟩
theorem FA (l:List UInt8) (a:Int):∃ q,l=q++GK l a:=by
 obtain ⟨q1,h1⟩:=yi (l.length+1) l a
 unfold GK Jt
 cases JV (vN (l.length+1) l a).2
 ·exact ⟨q1,h1⟩
 ·obtain ⟨q2,h2⟩:=ot md (vN (l.length+1) l a).2
  refine ⟨q1++q2,?_⟩
  simp only [cond_true]
  rw [List.append_assoc,←h2,←h1]
theorem CK {s q t:List UInt8} {j:Nat} (hj:j≤s.length) (h:s.drop j=q++t):s.drop (s.length - t.length)=t∧t.length≤s.length - j:=by
 have hl:=congrArg List.length h
 rw [List.length_append,List.length_drop] at hl
 have e:s.length - t.length=j+q.length:=qO
 rw [e,←List.drop_drop,h,List.drop_left']
 ·exact ⟨rfl,by omega⟩
 ·rfl
theorem TS.drop{w00:World} {L:List Loc} {E:List (Nat×aa)} {a:Act} (h:TS w00 (b::X) ((b,T)::L) E n a w):TS w00 X L E n a w:=by
 have hs:∀ {T:aa} {u:Value},T.holds (b::X) w u→T.holds X w u:=fun {T u} h=>T.stable h ⟨Nat.le_refl _,fun _ _ _=>rfl⟩ fun c hc _=>List.mem_cons_of_mem _ hc
 have hn:=h.mem.nodup
 rw [List.map_cons,List.nodup_cons] at hn
 refine ⟨h.size,h.df,fun p hp=>hs (h.slots p hp),⟨fun p hp=> ?_,fun c hc=>h.mem.far c (List.mem_cons_of_mem _ hc),hn.2,h.mem.below⟩⟩
 obtain ⟨g1,g2,v,ty,g3,g4⟩:=h.mem.loc p (List.mem_cons_of_mem _ hp)
 refine ⟨?_,g2,v,ty,hs g3,g4⟩
 rcases List.mem_cons.1 g1 with e|g
 ·exact absurd (by show b∈L.map Prod.fst;rw [←show p.1=b from e];exact List.mem_map_of_mem hp) hn.1
 ·exact g
def oh (s:List UInt8) (R:List Ln×Int×Int) (k j:Nat) (out:List Ln):Prop:=out.length≤j∧((j≤s.length∧k=s.length - j+1∧lx (s.drop j) (j:Int) out [] (j:Int) false false=R)∨(j=s.length+1∧k=0∧R=(out,0,0)))
theorem xY (out:List Ln) (ws:List Wd) (la:Int):(Ej out ws la).length≤out.length+1:=by
 unfold Ej
 cases ws.isEmpty
 ·simp
 ·simp
theorem oh.last{s:List UInt8} {R:List Ln×Int×Int} {j:Nat} {out:List Ln} (h:oh s R k j out) (hj:decide ((j:Int)<(s.length:Int))=true) (hr:GK (s.drop j) (j:Int)=[]):∃ k',k'<k∧oh s R k' (s.length+1) (Ej out (GU (s.drop j) (j:Int)) (j:Int)):=by
 have:=of_decide_eq_true hj
 rcases h.2 with ⟨h1,h2,h3⟩|⟨h1,_⟩
 ·refine ⟨0,by omega,?_, .inr ⟨rfl,rfl,?_⟩⟩
  ·have:=xY out (GU (s.drop j) (j:Int)) (j:Int)
   have:=h.1
   omega
  ·rw [←h3,rV]
   unfold tK
   rw [hr]
 ·omega
theorem oh.step {s:List UInt8} {R:List Ln×Int×Int} {k j:Nat} {out:List Ln} (h:oh s R k j out) (hj:decide ((j:Int)<(s.length:Int))=true) {c:UInt8} {r:List UInt8} (hr:GK (s.drop j) (j:Int)=c::r):∃ j1,s.length - (GK (s.drop j) (j:Int)).length=j1∧j≤j1∧decide ((j1:Int)<(s.length:Int))=true∧(0≤(j1:Int)∧s[(j1:Int).toNat]? =some c)∧
 (((c.toNat:Int)==10)=true→∃ k',k'<k∧oh s R k' (j1+1) (Ej out (GU (s.drop j) (j:Int)) (j:Int)))∧(((c.toNat:Int)==10)=false→R=([],(j1:Int),70)):=by
 have:=of_decide_eq_true hj
 obtain ⟨q,hq⟩:=FA (s.drop j) (j:Int)
 obtain ⟨h4,h5⟩:=CK qO hq
 rw [hr] at h4 h5 ⊢
 rw [List.length_cons] at h4 h5 ⊢
 have hlt:s.length - (r.length+1)<s.length:=qO
 have hd:=List.drop_eq_getElem_cons hlt
 rw [h4] at hd
 injection hd with hd1 hd2
 have hcast:(j:Int)+((s.drop j).length:Int) - ((r.length+1:Nat):Int)=((s.length - (r.length+1):Nat):Int):=by rw [List.length_drop];omega
 rcases h.2 with ⟨h1,h2,h3⟩|⟨h1,_⟩
 ·rw [rV] at h3
  unfold tK at h3
  rw [hr] at h3
  simp only [List.length_cons] at h3
  rw [hcast] at h3
  refine ⟨_,rfl,by omega,decide_eq_true qO,⟨by omega,by rw [Int.toNat_natCast,List.getElem?_eq_getElem hlt,←hd1]⟩,fun h10=> ?_,fun h10=> ?_⟩
  ·rw [h10] at h3
   refine ⟨s.length - (s.length - (r.length+1)+1)+1,by omega,?_, .inl ⟨by omega,rfl,?_⟩⟩
   ·have:=xY out (GU (s.drop j) (j:Int)) (j:Int)
    have:=h.1
    omega
   ·rw [←h3,cond_true,←hd2,Int.natCast_add]
    rfl
  ·rw [h10] at h3
   exact h3.symm
 ·omega
instance {a b:Value}:Eb [a,b] 2:=⟨rfl⟩
section
variable {P:Program} {w00:World} {X:List Nat} {L:List Loc} {E:List (Nat×aa)} {n:Nat} {ops:Array Oper} {rest:List Oper} {Q:Exit→Act→World→Prop} {cs:List Code}
end
structure AY (s:List UInt8) (R:List Ln×Int×Int) (k i:Nat) (out:List Ln) (ws:List Wd) (la:Int) (rem op:Bool):Prop where
 o:out.length≤i
 w:ws.length≤i
 p:op=true→ws≠[]
 t:∀ x∈ws,x.1.length≤i
 l:(i≤s.length∧k=s.length - i+1∧lx (s.drop i) (i:Int) out ws la rem op=R)∨(i=s.length+1∧k=0∧R=(out,0,0))
theorem AY.at{s:List UInt8} {R:List Ln×Int×Int} {out:List Ln} {ws:List Wd} {la:Int} {rem op:Bool} (h:AY s R k i out ws la rem op) {c:UInt8} (hi:i<s.length) (hx:s[i]? =some c):(bif (c.toNat:Int)==10 then lx (s.drop (i+1)) (i+1) (Ej out ws la) [] (i+1) false false
 else bif rem || (c.toNat:Int)==35 then lx (s.drop (i+1)) (i+1) out ws la true false
 else bif il c then lx (s.drop (i+1)) (i+1) out ws la false false
 else bif !k9 c then ([],(i:Int),70)
 else bif op then lx (s.drop (i+1)) (i+1) out (IE ws c) la false true
 else lx (s.drop (i+1)) (i+1) out (ws++[([c],(i:Int))]) la false true)=R:=by
 rcases h.l with ⟨h1,h2,h3⟩|⟨h1,_⟩
 ·obtain ⟨hl,hc⟩:=List.getElem?_eq_some_iff.1 hx
  rw [List.drop_eq_getElem_cons hl,hc] at h3
  exact h3
 ·omega
theorem AY.next{s:List UInt8} {R:List Ln×Int×Int} {out out':List Ln} {ws ws':List Wd} {la la':Int} {rem op rem' op':Bool} (h:AY s R k i out ws la rem op) (hi:i<s.length) (ho:out'.length≤out.length+1) (hw:ws'.length≤ws.length+1) (hp:op'=true→ws'≠[]) (ht:(∀ x∈ws,x.1.length≤i)→∀ x∈ws',x.1.length≤i+1) (he:lx (s.drop (i+1)) ((i:Int)+1) out' ws' la' rem' op'=R):∃ k',k'<k∧AY s R k' (i+1) out' ws' la' rem' op':=by
 rcases h.l with ⟨h1,h2,h3⟩|⟨h1,_⟩
 ·exact ⟨s.length - (i+1)+1,by omega,by have:=h.o;omega,by have:=h.w;omega,hp,ht h.t, .inl ⟨by omega,rfl,by rw [←he];rfl⟩⟩
 ·omega
section
variable {P:Program} {w00:World} {N:Nat} {L:List Loc} {E:List (Nat×aa)} {d:Nat} {t0:TypeId} {pos:String} {af:Array Edge} {gd:Option (Nat×Bool)} {ats:Array TypeId}
end
theorem fQ{α:Type} {l:List α} {x:α} (h:l[i]? =some x):l.take (i+1)=l.take i++[x]:=by rw [List.take_add_one,h];rfl
class J2 (B B':Nat):Prop where
 le:B≤B'
instance mo.le {B B':Nat} {T:aa} [l:J2 B B']:mo B' (.und B T):=⟨fun {X w w' v} ⟨hB,h⟩ hs=>⟨Nat.le_trans hB hs.size,T.stable h ⟨hs.size,fun b hb hx=>by
 rcases hs.block b hb with e|⟨g,_⟩
 ·exact e
 ·exact absurd (List.mem_append_right _ (eF.2 ⟨hb,Nat.le_trans l.le g⟩)) hx⟩ (fun b hb hlt=>by
 rcases List.mem_append.1 hb with hb|hb
 ·exact List.mem_append_left _ hb
 ·exact List.mem_append_right _ (eF.2 ⟨hlt,(eF.1 hb).2⟩))⟩⟩
theorem Ii {P:Program} {G:World→Prop} {f:FuncId} {fn:Func} {c:Code} {ks:List Nat} {As:List aa} {As':Nat→List aa} {T:Nat→aa} {n:Nat} [dn:fN T] (hf:P.funcs[f]? =some fn) (hb:fn.body=some c) (hn:fn.ntmps=n) (hl:∀ B,(As' B).length≤n) (he:aJ P f)
 (hA:∀ {X:List Nat} {w:World} {vs:List Value},cM X w As vs→cM X w (As' w.heap.size) vs) (h:∀ X w,G w→GC P w X [] (eK 0 (As' w.heap.size)) n [c] (bodyPost P fn (bj X w (T w.heap.size)))):bW P G f ks As T:=
 ⟨he,dn.down,fun {X w vs} hG hX ha=>dG hf hb hn (by rw [(hA ha).count];exact hl _) hX (hA ha) (h X w hG)⟩
class JC (T:aa) (v:outParam Value):Prop where
 ok:∀ {X:List Nat} {w:World} {u:Value},T.holds X w u→u=v
instance {v:Value}:JC (.is v) v:=⟨fun h=>h⟩
instance {B:Nat} {T:aa} {v:Value} [i:JC T v]:JC (.und B T) v:=⟨fun h=>i.ok (ei h)⟩
instance {α β:Type} {r:Rp α} {s:Rp β} {p:α×β→Prop} {a:α×β} {T:aa} [k:K1 r] [sc:lC r a.1 T]:ai (.el (r.pair s) p a) 0 1 false T:=⟨fun _=>rfl,fun {X w v} ⟨y,⟨e,_⟩,cs,hv,c1,c2,hcs,h1,h2⟩=>by
 subst e
 obtain ⟨u,rfl⟩:∃ u,c1=[u]:=List.length_eq_one_iff.1 ((r.len h1).trans k.ok)
 subst hcs
 refine ⟨[u],rfl,fun j x hj=> ?_,fun x _ hx=> ?_⟩
 ·have:j=0∧x=u:=by cases j with|zero=>exact ⟨rfl,by simpa using hj.symm⟩|succ j=>simp at hj
  rw [hv,this.1,this.2];rfl
 ·have:=hx rfl
  simp at this
  rw [←this];exact sc.ok h1⟩
instance {p:Ln→Prop} {a:Ln}:aL (.el Rp.lr p a) 2 true:=⟨fun h=>(aL.ex (r:=Rp.lr)).ok h⟩
instance {p:Wd→Prop} {a:Wd}:aL (.el Rp.wd p a) 2 true:=⟨fun h=>(aL.ex (r:=Rp.wd)).ok h⟩
section
variable {w00:World} {X:List Nat} {L:List Loc} {E E0:List (Nat×aa)} {n:Nat} {ops:Array Oper} {rest:List Oper} {Q:Exit→Act→World→Prop} {cs:List Code} {t0:TypeId} {pos:String} {af:Array Edge} {ats:Array TypeId}
end
section
variable {P:Program} {w00:World} {N:Nat} {L:List Loc} {E:List (Nat×aa)} {d:Nat} {t0:TypeId} {pos:String} {af:Array Edge} {gd:Option (Nat×Bool)} {ats:Array TypeId}
end
theorem Gj{α:Type} {r:Rp α} {T:TypeId} (hX:∀ b∈X,b<w.heap.size) (xs:List (α×List Value)) (hx:∀ p∈xs,r.rd w (cU X w) p.1 p.2) (hlen:xs.length≤100):
 (aa.rw r tt (xs.map Prod.fst)).holds X (w.alloc (.cells (xs.flatMap Prod.snd).toArray T)) (.slice (some ⟨w.heap.size,0,none⟩) xs.length xs.length):=by
 have hb:Below w.heap.size w (w.alloc (.cells (xs.flatMap Prod.snd).toArray T)):=(Below.refl _ _).alloc (Nat.le_refl _) _
 refine ⟨fun _ _=>trivial,some ⟨w.heap.size,0,none⟩,xs.length,xs.length,rfl,by simp,Nat.le_refl _,by unfold maxLen;omega,(fun h=>by cases h),fun _=>⟨w.heap.size,0,rfl,⟨by rw [ak];exact Nat.lt_succ_self _,fun h=>by have:=hX _ h;omega⟩,fun j a ha=> ?_⟩⟩
 rw [List.getElem?_map] at ha
 cases hj:xs[j]? with
 |none=>rw [hj] at ha;cases ha
 |some p=>
  rw [hj] at ha
  have ha':p.1=a:=by simpa using ha
  subst ha'
  refine ⟨p.2,fun i u hu=> ?_,r.up (hx p (List.mem_of_getElem? hj)) (Below.keeps hb X) fun _ h _=>h⟩
  rw [Nat.zero_add]
  refine gg (i6 _ _) ?_
  rw [List.getElem?_toArray]
  exact iX (fun q hq=>r.len (hx q hq)) hj hu
section
variable {w00:World} {N:Nat} {L:List Loc} {E:List (Nat×aa)} {d:Nat} {t0:TypeId} {pos:String} {af:Array Edge} {gd:Option (Nat×Bool)}
end
def pt (i:Nat):UInt8:=[97,98,32,10].getD (i%4) 0
def lp (i:Nat):List UInt8:=(List.range i).map pt
def J1 (l:List UInt8):List Value:=l.map fun x=> .int .u8 (x.toNat:Int)
def aa.bz (e:TypeId) (B:Nat) (l:List UInt8):aa:=⟨fun X w v=>∃ (A:Option Addr) (c:Nat),v= .slice A l.length c∧cS 1 e w B A l.length c (J1 l)∧(∀ g,fh A=some g→cU X w g),
 fun ⟨A,c,h1,h4,h5⟩ hk hX=>⟨A,c,h1,h4.same fun g hg=>hk.block g (h5 g hg).1 (h5 g hg).2,fun g hg=>cU.mono hk hX g (h5 g hg)⟩⟩
instance {e:TypeId} {B:Nat} {l:List UInt8}:aL (.bz e B l) 1 false:=⟨fun {X w v} ⟨A,c,h1,_⟩=>by rw [h1];exact ⟨rfl,by simp [Value.cells,Value.oneCell'],(fun h=>by cases h),fun _=>rfl⟩⟩
section
variable {w00:World} {N:Nat} {L:List Loc} {E:List (Nat×aa)} {d:Nat} {t0:TypeId} {pos:String} {af:Array Edge} {gd:Option (Nat×Bool)}
end
instance:Gm (.is (.slice none 0 0)) []:=⟨fun h=>by
 rw [show _=_ from h]
 exact ⟨(fun _ h=>by cases h),none,0,0,rfl,rfl,Nat.le_refl _,Nat.zero_le _,fun _=>rfl,fun h=>absurd h qO⟩⟩
section
variable {w00:World} {N:Nat} {L:List Loc} {E:List (Nat×aa)} {d:Nat} {t0:TypeId} {pos:String} {af:Array Edge} {gd:Option (Nat×Bool)}
end
section
variable {P:Program} {w00:World} {X:List Nat} {L:List Loc} {E E0:List (Nat×aa)} {n:Nat} {ops:Array Oper} {rest:List Oper} {Q:Exit→Act→World→Prop} {cs:List Code} {t0:TypeId} {pos:String} {af:Array Edge}
end
open Go Go.ChangeShapes Go.WideShapes Go.ChangeAt Go.RowKit Go.Deep
theorem bc.str(hb:P.underlying t=some .string) (hc:P.cellsOf t=1):bc P t Rp.str:=⟨hc,fun h=>by
 obtain ⟨s,rfl,_⟩:=DataW.trod_string hb h
 exact ⟨_,s,rfl,rfl⟩⟩
theorem bc.int{k:IntKind} (hb:P.underlying t=some (.int k)) (hc:P.cellsOf t=1):bc P t (Rp.int k):=⟨hc,fun h=>by
 obtain ⟨n,rfl,_⟩:=DataW.trod_int hb h
 exact ⟨n,rfl⟩⟩
class sK {α:Type} (P:Program) (fs:List Field) (o:Nat) (r:Rp α):Prop where
 ok:∀ {H:Type} {enc:TypeId×Value→H} {W:World} {n:Nat} {cs:List Value},cs.length=o+r.k→(∀ f∈fs,∃ y,DataW.trod enc P W 0 (fun _=>true) true n f.type ((cs.drop f.offset).take (P.cellsOf f.type))=some y)→∃ a,r.rd W (x_ W) a (cs.drop o)
theorem sK.one{α:Type} {f:Field} {r:Rp α} (h:bc P f.type r) (ho:f.offset=o):sK P [f] o r:=⟨fun {H enc W n cs} hl hf=>by
 obtain ⟨y,hy⟩:=hf f List.mem_cons_self
 rw [ho,h.size,List.take_of_length_le (by rw [List.length_drop];omega)] at hy
 exact h.ok hy⟩
theorem sK.cons {α β:Type} {P:Program} {f:Field} {fs:List Field} {o o':Nat} {r:Rp α} {s:Rp β} (h:bc P f.type r) (ho:f.offset=o) (he:o+r.k=o') (h2:sK P fs o' s):sK P (f::fs) o (r.pair s):=⟨fun {H enc W n cs} hl hf=>by
 obtain ⟨y,hy⟩:=hf f List.mem_cons_self
 rw [ho,h.size] at hy
 obtain ⟨a,ha⟩:=h.ok hy
 subst he
 have hl':cs.length=o+r.k+s.k:=by rw [hl,Nat.add_assoc];rfl
 obtain ⟨b,hb⟩:=h2.ok hl' fun g hg=>hf g (List.mem_cons_of_mem _ hg)
 exact ⟨(a,b),(cs.drop o).take r.k,cs.drop (o+r.k),by rw [←List.drop_drop];exact (List.take_append_drop _ _).symm,ha,hb⟩⟩
theorem bc.strct{α:Type} {fs:Array Field} {r:Rp α} (ht:P.underlying t=some (.struct fs)) (h:sK P fs.toList 0 r) (hk:P.cellsOf t=r.k):bc P t r:=⟨hk,fun {H enc W fuel cs y} hd=>by
 obtain ⟨xs,n,_,_,hl,hn,hf⟩:=DataW.trod_struct ht hd
 refine h.ok (H:=H) (enc:=enc) (n:=n) (by rw [hl,hk,Nat.zero_add]) fun f hm=> ?_
 obtain ⟨i,hi⟩:=List.mem_iff_getElem?.1 hm
 have hlt:i<fs.size:=by simpa using (List.getElem?_eq_some_iff.1 hi).1
 exact ⟨xs[i]' qO,by rw [hf i f (by simpa using hi)];exact List.getElem?_eq_getElem qO⟩⟩
class KC {α:Type} (r:Rp α) (k:outParam Nat):Prop where
 ok:r.k=k
instance:KC Rp.bool 1:=⟨rfl⟩
instance:KC Rp.str 1:=⟨rfl⟩
instance:KC Rp.limbs 1:=⟨rfl⟩
instance {k:IntKind}:KC (Rp.int k) 1:=⟨rfl⟩
instance {α:Type} {r:Rp α}:KC r.row 1:=⟨rfl⟩
class Fm (a b:Nat) (c:outParam Nat):Prop where
 ok:a+b=c
instance {a:Nat}:Fm a 1 (a+1):=⟨rfl⟩
instance {a:Nat}:Fm a 2 (a+2):=⟨rfl⟩
instance {a:Nat}:Fm a 3 (a+3):=⟨rfl⟩
instance {a:Nat}:Fm a 4 (a+4):=⟨rfl⟩
theorem KC.pair{α β:Type} {r:Rp α} {s:Rp β} {a c:Nat} (h1:KC r a) (h2:KC s b) (h:a+b=c):KC (r.pair s) c:=⟨by show r.k+s.k=c;rw [h1.ok,h2.ok];exact h⟩
theorem aZ.tail{α β γ:Type} {r:Rp α} {s:Rp β} {r':Rp γ} {g:β→γ} (hk:KC r k) (h:aZ s o r' g) (he:k+o=n):aZ (r.pair s) n r' (fun x=>g x.2):=⟨fun {w S a cs} ⟨c1,c2,e,h1,h2⟩=>by
 obtain ⟨d1,d2,d3,e2,hl,h3⟩:=h.ok h2
 refine ⟨c1++d1,d2,d3,by rw [e,e2];simp,?_,h3⟩
 rw [List.length_append,r.len h1,hk.ok,hl]
 exact he⟩
theorem aZ.self {α:Type} {r:Rp α}:aZ r 0 r id:=⟨fun {w S a cs} h=>⟨[],cs,[],by simp,rfl,h⟩⟩
theorem ai.agg{α β:Type} {r:Rp α} {r':Rp β} {g:α→β} {a:α} (h:aZ r o r' g) (hk:KC r' k):ai (.ra r a) o k true (.ra r' (g a)):=⟨(fun h=>by cases h),fun {X w v} ⟨cs,e,hr⟩=>by
 obtain ⟨c1,c2,c3,e2,hl,h2⟩:=h.ok hr
 refine ⟨c2,(r'.len h2).trans hk.ok,fun j u hu=> ?_,fun u hu _=>⟨c2,hu rfl,h2⟩⟩
 have hj:=(List.getElem?_eq_some_iff.1 hu).1
 rw [e]
 show (cs.toArray)[o+j]? =some u
 rw [List.getElem?_toArray,e2,List.append_assoc,List.getElem?_append_right qO,show o+j - c1.length=j by omega,List.getElem?_append_left hj]
 exact hu⟩
theorem ai.cell{α β:Type} {r:Rp α} {r':Rp β} {g:α→β} {a:α} (h:aZ r o r' g) (hk:KC r' 1) (hs:lC r' (g a) T):ai (.ra r a) o 1 false T:=⟨fun _=>rfl,fun {X w v} ⟨cs,e,hr⟩=>by
 obtain ⟨c1,c2,c3,e2,hl,h2⟩:=h.ok hr
 refine ⟨c2,(r'.len h2).trans hk.ok,fun j u hu=> ?_,fun u _ hu=>hs.ok (by rw [←hu rfl];exact h2)⟩
 have hj:=(List.getElem?_eq_some_iff.1 hu).1
 rw [e]
 show (cs.toArray)[o+j]? =some u
 rw [List.getElem?_toArray,e2,List.append_assoc,List.getElem?_append_right qO,show o+j - c1.length=j by omega,List.getElem?_append_left hj]
 exact hu⟩
theorem ya:∀ (cs:List Value) (i off:Nat) (c:Array Value),off+i+cs.length≤c.size→
 ((cs.zipIdx i).foldl (fun (a:Array Value) (p:Value×Nat)=>a.setIfInBounds (off+p.2) p.1) c).size=c.size∧
 (∀ j,j<off+i∨off+i+cs.length≤j→((cs.zipIdx i).foldl (fun (a:Array Value) (p:Value×Nat)=>a.setIfInBounds (off+p.2) p.1) c)[j]? =c[j]?)∧
 ∀ j u,cs[j]? =some u→((cs.zipIdx i).foldl (fun (a:Array Value) (p:Value×Nat)=>a.setIfInBounds (off+p.2) p.1) c)[off+i+j]? =some u
 |[],i,off,c,_=>⟨rfl,fun _ _=>rfl,fun j u h=>by simp at h⟩
 |v::cs,i,off,c,hl=>by
  simp only [List.length_cons] at hl
  obtain ⟨h1,h2,h3⟩:=ya cs (i+1) off (c.setIfInBounds (off+i) v) (by simp;omega)
  rw [List.zipIdx_cons,List.foldl_cons]
  refine ⟨by rw [h1];simp,fun j hj=> ?_,fun j u hu=> ?_⟩
  ·rw [List.length_cons] at hj
   rw [h2 j qO]
   simp [Array.getElem?_setIfInBounds,show off+i≠j by omega]
  ·cases j with
   |zero=>
    have:v=u:=by simpa using hu
    subst this
    rw [h2 _ qO]
    simp [Array.getElem?_setIfInBounds,show off+i<c.size by omega]
   |succ j=>
    have:=h3 j u (by simpa using hu)
    rw [show off+i+(j+1)=off+(i+1)+j by omega]
    exact this
theorem qk{place:Nat→Option (Nat×Nat)} {off:Nat} {cs:List Value} {c:Array Value} {rest:List (Nat×Value)} (hp:place i=some (off,k)) (hv:v.cells=cs.toArray) (hk:cs.length=k) (hl:off+k≤c.size):
 ∃ c1:Array Value,Instr.fill place c ((i,v)::rest)=Instr.fill place c1 rest∧c1.toList=c.toList.take off++cs++c.toList.drop (off+k):=by
 obtain ⟨h1,h2,h3⟩:=ya cs 0 off c qO
 refine ⟨(cs.zipIdx 0).foldl (fun (a:Array Value) (p:Value×Nat)=>a.setIfInBounds (off+p.2) p.1) c,?_,?_⟩
 ·conv=>lhs;unfold Instr.fill
  rw [hp]
  simp only [hv]
  rw [if_neg (by simp;omega)]
  congr 1
  simp
 ·apply List.ext_getElem?
  intro j
  rw [Array.getElem?_toList]
  by_cases hj:j<off
  ·rw [h2 j qO,List.append_assoc,List.getElem?_append_left (by simp;omega),List.getElem?_take_of_lt hj,Array.getElem?_toList]
  ·by_cases hj2:j<off+k
   ·have hjc:j - off<cs.length:=qO
    have:=h3 (j - off) cs[j - off] (List.getElem?_eq_getElem hjc)
    rw [show off+0+(j - off)=j by omega] at this
    rw [this,List.append_assoc,List.getElem?_append_right (by simp;omega),List.getElem?_append_left (by simp;omega)]
    simp [show j - min off c.size=j - off by omega,hjc]
   ·rw [h2 j qO,List.getElem?_append_right (by simp;omega),List.getElem?_drop,Array.getElem?_toList]
    congr 1
    simp
    omega
theorem rP {k:Nat}:∀ (xs:List (List Value)) (i:Nat) (c:Array Value),(∀ cs∈xs,cs.length=k)→(i+xs.length)*k=c.size→
 ∃ c':Array Value,Instr.fill (fun i=>some (i*k,k)) c (lG i (xs.map fun cs=> .agg cs.toArray))=some c'∧c'.toList=c.toList.take (i*k)++xs.flatMap id
 |[],i,c,_,hl=>⟨c,rfl,by
  rw [List.take_of_length_le (by rw [Array.length_toList];simp at hl;omega)]
  simp⟩
 |cs::xs,i,c,hk,hl=>by
  have h0:=hk cs List.mem_cons_self
  rw [List.length_cons] at hl
  have e1:(i+(xs.length+1))*k=i*k+k+xs.length*k:=by rw [Nat.add_mul,Nat.add_mul,Nat.one_mul];omega
  have e2:(i+1+xs.length)*k=i*k+k+xs.length*k:=by rw [Nat.add_mul,Nat.add_mul,Nat.one_mul]
  obtain ⟨c1,hf,hc1⟩:=qk (place:=fun i=>some (i*k,k)) (i:=i) (off:=i*k) (k:=k) (v:= .agg cs.toArray) (cs:=cs) (c:=c) (rest:=lG (i+1) (xs.map fun cs=> .agg cs.toArray)) rfl rfl h0 qO
  have hs1:c1.size=c.size:=by
   have:=congrArg List.length hc1
   simp at this
   omega
  obtain ⟨c',hf',hc'⟩:=rP xs (i+1) c1 (fun d hd=>hk d (List.mem_cons_of_mem _ hd)) qO
  refine ⟨c',?_,?_⟩
  ·rw [List.map_cons]
   show Instr.fill _ c ((i, .agg cs.toArray)::lG (i+1) _)=_
   rw [hf,hf']
  ·have e3:(i+1)*k=i*k+k:=by rw [Nat.add_mul,Nat.one_mul]
   have e4:c1.toList.take (i*k+k)=c.toList.take (i*k)++cs:=by
    rw [hc1,List.take_append_of_le_length (by simp;omega)]
    exact List.take_of_length_le (by simp;omega)
   rw [hc',e3,e4,List.flatMap_cons,List.append_assoc]
   rfl
structure pp (P:Program) (ty e:TypeId) (k:Nat):Prop where
 ok:P.underlying ty=some (.slice e)∧∃ i z,P.info? e=some i∧i.zero=some z∧i.size=k∧z.cells.size=k
class JT (T:aa) {α:Type} (r:Rp α) (a:outParam α):Prop where
 ok:∀ {X:List Nat} {w:World} {v:Value},T.holds X w v→∃ cs:List Value,v= .agg cs.toArray∧r.rd w (cU X w) a cs
instance {α:Type} {r:Rp α} {a:α}:JT (.ra r a) r a:=⟨fun h=>h⟩
class IJ (E:List (Nat×aa)) {α:Type} (r:Rp α) (ps:List (Nat×Operand)) (k:Nat) (l:outParam (List α)):Prop where
 get:∀ {X:List Nat} {w:World} {ρ:Operand→Value},(∀ c,ρ (.const c)=c)→(∀ p∈E, .tmp p.1∈ps.map Prod.snd→p.2.holds X w (ρ (.tmp p.1)))→∃ xs:List (α×List Value),xs.map Prod.fst=l∧(∀ p∈xs,r.rd w (cU X w) p.1 p.2)∧ps.map (fun p=>(p.1,ρ p.2))=lG k ((xs.map Prod.snd).map fun cs=> .agg cs.toArray)
instance IJ.nil {E:List (Nat×aa)} {α:Type} {r:Rp α} {k:Nat}:IJ E r [] k []:=⟨fun _ _=>⟨[],rfl,(fun _ h=>by cases h),rfl⟩⟩
instance IJ.cons {E:List (Nat×aa)} {α:Type} {r:Rp α} {o:Operand} {ps:List (Nat×Operand)} {k:Nat} {T:aa} {a:α} {l:List α} [ho:bD E o T] [et:JT T r a] [t:IJ E r ps (k+1) l]:IJ E r ((k,o)::ps) k (a::l):=⟨fun {X w ρ} hc hs=>by
 obtain ⟨xs,h1,h2,h3⟩:=t.get (X:=X) (w:=w) hc fun p hp hm=>hs p hp (List.mem_cons_of_mem _ hm)
 obtain ⟨cs,e,hr⟩:=et.ok (ho.get (X:=X) (w:=w) hc fun p hp e=>hs p hp (by rw [e];exact List.mem_cons_self))
 refine ⟨(a,cs)::xs,by rw [List.map_cons,h1],fun p hp=> ?_,?_⟩
 ·rcases List.mem_cons.1 hp with rfl|hp
  ·exact hr
  ·exact h2 p hp
 ·rw [List.map_cons,h3,e]
  rfl⟩
theorem vE(c:pp P ty e k) (w:World) (xs:List (List Value)) (hk:∀ cs∈xs,cs.length=k) (hn:xs.length=n) (hp:0<n*k) (hb:n*k≤1000000) (parts:Array (Nat×Value)) (hps:parts.toList=lG 0 (xs.map fun cs=> .agg cs.toArray)):
 (Instr.buildSlice ty n parts).run P w= .ok (.slice (some ⟨w.heap.size,0,none⟩) n n) (w.alloc (.cells (xs.flatMap id).toArray e)):=by
 obtain ⟨hu,i,z,hi,hz,hs,hzc⟩:=c.ok
 have hsz:(sizeOf e).run P w= .ok k w:=by simp [sizeOf,typeInfo,hi,hs]
 have hze:(zeroValue e).run P w= .ok z w:=by simp [zeroValue,typeInfo,hi,hz]
 obtain ⟨c',ef,ec⟩:=rP xs 0 ((Array.range (n*k)).map (z.cells[· %z.cells.size]!)) hk (by simp [hn])
 have ec':c'=(xs.flatMap id).toArray:=by
  apply Array.toList_inj.1
  rw [ec]
  simp
 subst ec'
 have hbig:¬ 2^24<n*k:=qO
 unfold Instr.buildSlice
 simp only [Sem.run_bind,run_underlying hu w,Result.andThen_ok,hsz,if_neg hbig,hps,Sem.run_pure,if_neg (show ¬ n*k=0 by omega),hze,ef]
 rfl
section
variable {P:Program} {w00:World} {N:Nat} {L:List Loc} {E:List (Nat×aa)} {d:Nat} {t0:TypeId} {pos:String} {af:Array Edge} {gd:Option (Nat×Bool)}
theorem sP{α:Type} {r:Rp α} {ps:List (Nat×Operand)} {l:List α} (c:pp P ty e r.k) [h:IJ E r ps 0 l] (hn:l.length=n) (hp:0<n*r.k) (hb:n*r.k≤1000000) (hn2:n≤100):au P w00 N L E ⟨some d, .buildSlice ty n ps.toArray,t0,pos,af,gd⟩ (.rw r tt l):=by
 constructor
 intro X ρ w hc _ hN hm hsl
 obtain ⟨xs,h1,h2,h3⟩:=h.get (X:=X) (w:=w) (ρ:=ρ) hc fun p hp hm=>hsl p hp (by
  simp only [Op.operands]
  obtain ⟨q,hq,e⟩:=List.mem_map.1 hm
  simp
  exact ⟨q.1,by rw [←e];exact hq⟩)
 have hlen:xs.length=n:=by rw [←hn,←h1,List.length_map]
 have hrun:=vE c w (xs.map Prod.snd) (fun cs hcs=>by
  obtain ⟨p,hp,rfl⟩:=List.mem_map.1 hcs
  exact r.len (h2 p hp)) (by rw [List.length_map,hlen]) hp hb (ps.toArray.map fun (i,x)=>(i,ρ x)) (by rw [←h3];simp)
 have hT:=Gj (r:=r) (T:=e) hm.far xs h2 qO
 rw [hlen,h1] at hT
 have ef:(xs.map Prod.snd).flatMap id=xs.flatMap Prod.snd:=by rw [List.flatMap_map];rfl
 rw [ef] at hrun
 unfold Yields execOp
 simp only [Sem.run_bind,hrun,Result.andThen_ok,Sem.run_pure]
 exact ⟨hT,(Below.refl _ _).alloc (Nat.le_refl _) _⟩
end
class ah {α:Type} {β:outParam Type} (r:Rp α) (off:Nat) (r':outParam (Rp β)) (u:outParam (α→β→α)):Prop where
 ok:∀ {w:World} {S:Nat→Prop} {a:α} {b:β} {cs ds:List Value},r.rd w S a cs→r'.rd w S b ds→off+r'.k≤r.k∧r.rd w S (u a b) (cs.take off++ds++cs.drop (off+r'.k))
theorem ah.fst {α β:Type} {r:Rp α} {s:Rp β}:ah (r.pair s) 0 r (fun a b=>(b,a.2)):=⟨fun {w S a b cs ds} ⟨c1,c2,e,h1,h2⟩ hd=>by
 refine ⟨by show 0+r.k≤r.k+s.k;omega,ds,c2,?_,hd,h2⟩
 rw [e,List.take_zero,List.nil_append,Nat.zero_add,List.drop_left' (r.len h1)]⟩
theorem ah.self {α:Type} {r:Rp α}:ah r 0 r (fun _ b=>b):=⟨fun {w S a b cs ds} h hd=>by
 refine ⟨by omega,?_⟩
 rw [List.take_zero,List.nil_append,Nat.zero_add,List.drop_of_length_le (by rw [r.len h];exact Nat.le_refl _),List.append_nil]
 exact hd⟩
theorem ah.tail{α β γ:Type} {r:Rp α} {s:Rp β} {r':Rp γ} {u:β→γ→β} (hk:KC r k) (h:ah s o r' u) (he:k+o=n):ah (r.pair s) n r' (fun a b=>(a.1,u a.2 b)):=⟨fun {w S a b cs ds} ⟨c1,c2,e,h1,h2⟩ hd=>by
 obtain ⟨g1,g2⟩:=h.ok h2 hd
 have hl:c1.length=k:=(r.len h1).trans hk.ok
 have hrk:=hk.ok
 refine ⟨by show n+r'.k≤r.k+s.k;omega,c1,_,?_,h1,g2⟩
 subst he
 rw [e,Nat.add_assoc,←hl,List.take_length_add_append,List.drop_length_add_append]
 simp⟩
class oz (P:Program) (ty:TypeId) (E:List (Nat×aa)) {α:Type} (r:Rp α) (ps:List (Nat×Operand)) (a:α) (a':outParam α):Prop where
 get:∀ {X:List Nat} {w:World} {ρ:Operand→Value} {places:Array (Nat×Nat)} {c:Array Value},(∀ c,ρ (.const c)=c)→(∀ p∈E, .tmp p.1∈ps.map Prod.snd→p.2.holds X w (ρ (.tmp p.1)))→(∀ (i off k:Nat) (ag:Bool),aq P ty i off k ag→places[i]? =some (off,k))→r.rd w (cU X w) a c.toList→∃ c':Array Value,Instr.fill (places[·]?) c (ps.map fun p=>(p.1,ρ p.2))=some c'∧r.rd w (cU X w) a' c'.toList
instance oz.nil {P:Program} {ty:TypeId} {E:List (Nat×aa)} {α:Type} {r:Rp α} {a:α}:oz P ty E r [] a a:=⟨fun {X w ρ places c} _ _ _ h=>⟨c,rfl,h⟩⟩
class CA (T:aa) {β:Type} (r:Rp β) (b:outParam β):Prop where
 ok:∀ {X:List Nat} {w:World} {v:Value},T.holds X w v→∃ cs:List Value,v.cells=cs.toArray∧r.rd w (cU X w) b cs
instance oz.cons {P:Program} {ty:TypeId} {E:List (Nat×aa)} {α β:Type} {r:Rp α} {r':Rp β} {i off k:Nat} {ag:Bool} {o:Operand} {ps:List (Nat×Operand)} {T:aa} {a a':α} {b:β} {u:α→β→α} [f:aq P ty i off k ag] [sr:ah r off r' u] [kc:KC r' k] [ho:bD E o T] [ap:CA T r' b] [t:oz P ty E r ps (u a b) a']:oz P ty E r ((i,o)::ps) a a':=⟨fun {X w ρ places c} hc hs hp h=>by
 obtain ⟨ds,e,hd⟩:=ap.ok (ho.get (X:=X) (w:=w) hc fun p hp e=>hs p hp (by rw [e];exact List.mem_cons_self))
 obtain ⟨g1,g2⟩:=sr.ok h hd
 have hlen:=r.len h
 rw [Array.length_toList] at hlen
 have hk:=kc.ok
 obtain ⟨c1,hf,hc1⟩:=qk (place:=(places[·]?)) (i:=i) (v:=ρ o) (c:=c) (rest:=ps.map fun p=>(p.1,ρ p.2)) (hp i off k ag f) e ((r'.len hd).trans hk) qO
 rw [hk] at g2
 obtain ⟨c',hf',hr'⟩:=t.get (X:=X) (w:=w) (c:=c1) hc (fun p hp hm=>hs p hp (List.mem_cons_of_mem _ hm)) hp (by rw [hc1];exact g2)
 exact ⟨c',by rw [List.map_cons,hf,hf'],hr'⟩⟩
theorem run_places {P:Program} {w:World}:∀ (fs:List Field),(∀ f∈fs,∃ i,P.info? f.type=some i)→∃ l:List (Nat×Nat),(fs.mapM (fun f=>do pure (f.offset,←sizeOf f.type)):Sem (List (Nat×Nat))).run P w= .ok l w∧∀ (i:Nat) (f:Field),fs[i]? =some f→∀ k,(P.info? f.type).map (·.size)=some k→l[i]? =some (f.offset,k)
 |[],_=>⟨[],rfl,fun i f h=>by simp at h⟩
 |f::fs,h=>by
  obtain ⟨j,hj⟩:=h f List.mem_cons_self
  obtain ⟨l,h1,h2⟩:=run_places (P:=P) (w:=w) fs fun g hg=>h g (List.mem_cons_of_mem _ hg)
  have hz:(sizeOf f.type).run P w= .ok j.size w:=by simp [sizeOf,typeInfo,hj]
  refine ⟨(f.offset,j.size)::l,?_,fun i g hg k hk=> ?_⟩
  ·rw [List.mapM_cons]
   simp only [Sem.run_bind,hz,Result.andThen_ok,Sem.run_pure,h1]
  ·cases i with
   |zero=>
    have:f=g:=by simpa using hg
    subst this
    rw [hj] at hk
    have:j.size=k:=by simpa using hk
    rw [←this]
    rfl
   |succ i=>exact h2 i g (by simpa using hg) k hk
structure dS {α:Type} (P:Program) (ty:TypeId) (r:Rp α) (a:α):Prop where
 ok:∃ (fs:Array Field) (i:TypeInfo) (zs:Array Value),P.underlying ty=some (.struct fs)∧(∀ f∈fs.toList,∃ j,P.info? f.type=some j)∧P.info? ty=some i∧i.zero=some (.agg zs)∧∀ w S,r.rd w S a zs.toList
theorem nP{α:Type} {w00:World} {N:Nat} {L:List Loc} {E:List (Nat×aa)} {d:Nat} {t0:TypeId} {pos:String} {af:Array Edge} {gd:Option (Nat×Bool)} {r:Rp α} {ps:List (Nat×Operand)} {a0 a:α} (z:dS P ty r a0) [b:oz P ty E r ps a0 a]:au P w00 N L E ⟨some d, .build ty ps.toArray,t0,pos,af,gd⟩ (.ra r a):=by
 constructor
 intro X ρ w hc _ hN hm hsl
 obtain ⟨fs,i,zs,hu,hf,hi,hz,hr⟩:=z.ok
 obtain ⟨l,hl,hl2⟩:=run_places (P:=P) (w:=w) fs.toList hf
 have hze:(zeroValue ty).run P w= .ok (.agg zs) w:=by simp [zeroValue,typeInfo,hi,hz]
 have hpl:(fs.mapM (fun f=>do pure (f.offset,←sizeOf f.type)):Sem (Array (Nat×Nat))).run P w= .ok l.toArray w:=by
  rw [Array.mapM_eq_mapM_toList,map_eq_pure_bind]
  simp only [Sem.run_bind,hl,Result.andThen_ok,Sem.run_pure]
 obtain ⟨c',h1,h2⟩:=b.get (X:=X) (w:=w) (ρ:=ρ) (places:=l.toArray) (c:=zs) hc (fun p hp hm=>hsl p hp (by
  simp only [Op.operands]
  obtain ⟨q,hq,e⟩:=List.mem_map.1 hm
  simp
  exact ⟨q.1,by rw [←e];exact hq⟩)) (fun i off k ag f=>by
  obtain ⟨fs',g,g1,g2,g3,g4,_⟩:=f.ok
  rw [hu] at g1
  obtain rfl:fs=fs':=by simpa using g1
  have:=hl2 i g (by simpa using g2) k g4
  rw [g3] at this
  simpa using this) (hr w _)
 have hrun:(Instr.build ty (ps.toArray.map fun (i,x)=>(i,ρ x))).run P w= .ok (.agg c') w:=by
  unfold Instr.build
  have hps:(ps.toArray.map fun (i,x)=>(i,ρ x)).toList=ps.map fun p=>(p.1,ρ p.2):=by simp
  simp only [Sem.run_bind,hze,Result.andThen_ok,run_underlying hu w,hpl,hps]
  rw [show (Value.agg zs).cells=zs from rfl]
  simp only [h1]
  rfl
 unfold Yields execOp
 simp only [Sem.run_bind,hrun,Result.andThen_ok,Sem.run_pure]
 exact ⟨⟨c'.toList,by simp,h2⟩,Below.refl _ _⟩
instance {l:List UInt8}:CA (.is (Tx l)) Rp.str l:=⟨fun h=>⟨[Tx l],by rw [show _=_ from h];rfl,_,rfl,bu l⟩⟩
instance {k:IntKind} {x:Int}:CA (.is (.int k x)) (Rp.int k) x:=⟨fun h=>⟨[.int k x],by rw [show _=_ from h];rfl,rfl⟩⟩
instance {x:Bool}:CA (.is (.bool x)) Rp.bool x:=⟨fun h=>⟨[.bool x],by rw [show _=_ from h];rfl,rfl⟩⟩
instance {α:Type} {r:Rp α} {a:α}:CA (.ra r a) r a:=⟨fun ⟨cs,e,h⟩=>⟨cs,by rw [e];rfl,h⟩⟩
instance {α:Type} {r:Rp α} {l:List α}:CA (.rw r tt l) r.row l:=⟨fun {X w v} ⟨_,h⟩=>⟨[v],by
 obtain ⟨A,n,c,e,_⟩:=h
 have e:v= .slice A n c:=by simpa using e
 rw [e];rfl,h⟩⟩
end Go.Proofs.YtpmhjieibebclaaGreatDoor
