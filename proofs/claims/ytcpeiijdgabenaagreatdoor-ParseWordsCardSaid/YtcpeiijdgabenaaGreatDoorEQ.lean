/- Reading of structs and rows that are told by the types of their blocks; rows of texts of the call's own. No program stands in it. -/
import Derived.Test.YtcpeiijdgabenaaGreatDoorEP
import Derived.Test.YtcpeiijdgabenaaGreatDoorEG
import Derived.Laws.Cover3
set_option linter.unusedSimpArgs false
set_option linter.unusedVariables false
namespace Go.Proofs.YtcpeiijdgabenaaGreatDoor
open Go Go.RowKit
variable {C B:Nat} {E E':List (Nat×ai)} {l:List Oper} {e:TypeId} {P:Program}
instance {B:Nat}:ka B B:=⟨Nat.le_refl _⟩
class pT (ts:List TypeId) (C:Nat) {α:Type} (r:Rp α) (a:α) (T:outParam ai):Prop where
 ok:∀ {X:List Nat} {w:World} {v:Value},r.rd w (cu ts C X w) a [v]→T.holds X w v
instance {ts:List TypeId} {C:Nat} {l:List UInt8}:pT ts C Rp.str l (.is (Tx l)):=⟨fun ⟨t,e,h⟩=>by
 injection e with e _
 subst e
 show Value.string t=_
 rw [Ab t,h]⟩
instance {ts:List TypeId} {C:Nat} {k:IntKind} {x:Int}:pT ts C (Rp.int k) x (.is (.int k x)):=⟨fun h=>by
 injection (show [_]=[_] from h) with e _⟩
instance {ts:List TypeId} {C:Nat} {b:Bool}:pT ts C Rp.bool b (.is (.bool b)):=⟨fun h=>by
 injection (show [_]=[_] from h) with e _⟩
instance {ts:List TypeId} {C:Nat} {α:Type} {r:Rp α} {l:List α}:pT ts C r.row l (.tc r.row ts C l):=⟨fun h=>h⟩
instance {ts:List TypeId} {C:Nat} {l:List Int}:pT ts C Rp.limbs l (.tc Rp.limbs ts C l):=⟨fun h=>h⟩
theorem az.aggT{α β:Type} {r:Rp α} {r':Rp β} {g:α→β} {a:α} {ts:List TypeId} {o k:Nat} (h:bB r o r' g) (hk:KC r' k):az (.tr r ts C a) o k true (.tr r' ts C (g a)):=⟨(fun h=>by cases h),fun {X w v} ⟨cs,e,hr⟩=>by
 obtain ⟨c1,c2,c3,e2,hl,h2⟩:=h.ok hr
 refine ⟨c2,(r'.len h2).trans hk.ok,fun j u hu=> ?_,fun u hu _=>⟨c2,hu rfl,h2⟩⟩
 have hj:=(List.getElem?_eq_some_iff.1 hu).1
 rw [e]
 show (cs.toArray)[o+j]? =some u
 rw [List.getElem?_toArray,e2,List.append_assoc,List.getElem?_append_right qO,show o+j - c1.length=j by omega,List.getElem?_append_left hj]
 exact hu⟩
theorem az.cellT{α β:Type} {r:Rp α} {r':Rp β} {g:α→β} {a:α} {ts:List TypeId} {o:Nat} {T:ai} (h:bB r o r' g) (hk:KC r' 1) (hs:pT ts C r' (g a) T):az (.tr r ts C a) o 1 false T:=⟨fun _=>rfl,fun {X w v} ⟨cs,e,hr⟩=>by
 obtain ⟨c1,c2,c3,e2,hl,h2⟩:=h.ok hr
 refine ⟨c2,(r'.len h2).trans hk.ok,fun j u hu=> ?_,fun u _ hu=>hs.ok (by rw [←hu rfl];exact h2)⟩
 have hj:=(List.getElem?_eq_some_iff.1 hu).1
 rw [e]
 show (cs.toArray)[o+j]? =some u
 rw [List.getElem?_toArray,e2,List.append_assoc,List.getElem?_append_right qO,show o+j - c1.length=j by omega,List.getElem?_append_left hj]
 exact hu⟩
instance {α β:Type} {r:Rp α} {r':Rp β} {g:α→β} {a:α} {ts:List TypeId} {C o k:Nat} [h:bB r o r' g] [hk:KC r' k]:az (.tr r ts C a) o k true (.tr r' ts C (g a)):=az.aggT h hk
instance {α β:Type} {r:Rp α} {r':Rp β} {g:α→β} {a:α} {ts:List TypeId} {C o:Nat} {T:ai} [h:bB r o r' g] [hk:KC r' 1] [hs:pT ts C r' (g a) T]:az (.tr r ts C a) o 1 false T:=az.cellT h hk hs
section
variable {P:Program} {w00:World} {N:Nat} {L:List Loc} {E:List (Nat×ai)} {d:Nat} {t0:TypeId} {pos:String} {af:Array Edge} {gd:Option (Nat×Bool)} {ats:Array TypeId}
end
theorem C8 (l:List (List UInt8)):(l.map fun t=>(t,[Tx t])).flatMap Prod.snd=l.map Tx:=by
 induction l with
 |nil=>rfl
 |cons t l ih=>rw [List.map_cons,List.flatMap_cons,ih];rfl
instance {ts:List TypeId} {C:Nat} {vs:List Value} {l:List (List UInt8)} [h:GV 64 vs l]:tw (.vs vs) Rp.str ts C l:=⟨fun {X w v} ⟨b,e,hb,hc⟩=>by
 have hv:=h.ok
 have hl:=h.len
 subst hv
 rw [List.length_map] at e
 refine ⟨_,l.length,l.map fun t=>(t,[Tx t]),e,by rw [List.map_map];exact List.map_id _,fun q hq=> ?_,?_,fun _ g hg=> ?_⟩
 ·obtain ⟨t,_,rfl⟩:=List.mem_map.1 hq
  exact ⟨_,rfl,bU t⟩
 ·rw [C8]
  exact ⟨by rw [List.length_map];exact (Nat.mul_one _).symm,Nat.le_refl _,by unfold maxLen;omega,(fun h=>by cases h),fun _=>⟨b,0,rfl,hb.1,fun j u hu=>by rw [Nat.zero_add];exact hc j u hu⟩⟩
 ·have hg:b=g:=by simpa [fC] using hg
  exact hg▸hb⟩
theorem Ek{α:Type} {r:Rp α} {ts:List TypeId} {X:List Nat} {w:World} {A:Option Addr} {n c:Nat} {l:List α} (h:sh r w (cu ts C X w) A n c l):(ai.sr r ts C l).holds X w (.slice A n c):=by
 obtain ⟨h1,h2,h3,h4,h5⟩:=h
 have hl:∀ m,m≤l.length→∃ ps:List (α×List Value),ps.map Prod.fst=l.take m∧(∀ q∈ps,r.rd w (cu ts C X w) q.1 q.2)∧(0<m→∃ b off,A=some ⟨b,off,none⟩∧cu ts C X w b∧∀ j u,(ps.flatMap Prod.snd)[j]? =some u→w.cell? ⟨b,off+j,none⟩=some u)∧(ps.flatMap Prod.snd).length=m*r.k:=by
  intro m
  induction m with
  |zero=>intro _;exact ⟨[],rfl,(fun _ h=>by cases h),(fun h=>absurd h qO),by simp⟩
  |succ m ih=>
   intro hm
   obtain ⟨ps,g1,g2,g3,g4⟩:=ih qO
   obtain ⟨a,ha⟩:∃ a,l[m]? =some a:=⟨_,List.getElem?_eq_getElem qO⟩
   obtain ⟨b,off,eA,hb,hc⟩:=h5 qO
   obtain ⟨cs,hcs,hr⟩:=hc m a ha
   refine ⟨ps++[(a,cs)],by rw [List.map_append,g1,Ei ha];rfl,fun q hq=> ?_,fun _=>⟨b,off,eA,hb,fun j u hu=> ?_⟩,?_⟩
   ·rcases List.mem_append.1 hq with hq|hq
    ·exact g2 q hq
    ·rw [List.mem_singleton.1 hq];exact hr
   ·rw [List.flatMap_append] at hu
    by_cases hj:j<m*r.k
    ·rw [List.getElem?_append_left (by rw [g4];exact hj)] at hu
     have hm0:0<m:=by
      rcases Nat.eq_zero_or_pos m with e|e
      ·rw [e,Nat.zero_mul] at hj;omega
      ·exact e
     obtain ⟨b',off',eA',_,hc'⟩:=g3 hm0
     rw [eA] at eA'
     injection eA' with eA'
     injection eA' with e1 e2
     subst e1;subst e2
     exact hc' j u hu
    ·rw [List.getElem?_append_right (by rw [g4];omega),g4] at hu
     have hu:cs[j - m*r.k]? =some u:=by simpa using hu
     have:=hcs (j - m*r.k) u hu
     rw [Nat.add_assoc] at this
     rwa [show m*r.k+(j - m*r.k)=j by omega] at this
   ·rw [List.flatMap_append,List.length_append,g4]
    simp [r.len hr,Nat.add_mul]
 obtain ⟨ps,g1,g2,g3,g4⟩:=hl l.length (Nat.le_refl _)
 rw [List.take_length] at g1
 refine ⟨A,c,ps,by rw [h1],g1,g2,⟨g4,by rw [h1];exact h2,h3,h4,fun hn=> ?_⟩,fun hn g hg=> ?_⟩
 ·obtain ⟨b,off,eA,hb,hc⟩:=g3 hn
  exact ⟨b,off,eA,hb.1.1,hc⟩
 ·obtain ⟨b,off,eA,hb,hc⟩:=g3 hn
  rw [eA] at hg
  have hg:b=g:=by simpa [fC] using hg
  exact hg▸hb.1
instance {α:Type} {r:Rp α} {ts:List TypeId} {C:Nat} {l:List α}:tw (.tc r.row ts C l) r ts C l:=⟨fun {X w v} h=>by
 obtain ⟨A,n,c,e,h⟩:=h
 have e:v= .slice A n c:=by simpa using e
 rw [e]
 exact Ek h⟩
def IY (h:eL):List bA:=[h.2.2]
theorem Aj:iC Tryz.prog 30 9 1 16:=⟨Tryz.underlying30,by decide,by
 obtain ⟨i,h1,h2,h3,h4⟩:∃ i,Tryz.prog.info? 9=some i∧i.zero=some (Tx [])∧i.size=1∧i.bytes=16:=info_parts qK
 exact ⟨i,_,h1,h2,h3,h4,rfl⟩⟩
instance:dH 40 []:=⟨fun h=>by cases h⟩
instance:K1 Rp.limbs:=⟨rfl⟩
abbrev Vr:=Nat×ai×ai
inductive nM (P:Program) (w00:World) (L:List Loc) (V:List Vr):List (Nat×ai)→List Oper→List (Nat×ai)→Prop
 |nil {E:List (Nat×ai)}:nM P w00 L V E [] E
 |cons {E E':List (Nat×ai)} {os:List Oper} {T:ai} {d:Nat} {op:Op} {ty:TypeId} {pos:String} {af:Array Edge} {gd:Option (Nat×Bool)} (h:aR P w00 0 L E ⟨some d,op,ty,pos,af,gd⟩ T) (hv:(V.map Prod.fst).elem d=false) (t:nM P w00 L V ((d,T)::E) os E'):nM P w00 L V E (⟨some d,op,ty,pos,af,gd⟩::os) E'
 |alloc {E E':List (Nat×ai)} {os:List Oper} {d:Nat} {U ty:TypeId} {pos:String} {af:Array Edge} {Z T:ai} (z:cX P U Z) (hv:(d,Z,T)∈V) (t:nM P w00 L V E os E'):nM P w00 L V E (⟨some d, .alloc U,ty,pos,af,none⟩::os) E'
 |put {E E':List (Nat×ai)} {os:List Oper} {d x k k0:Nat} {ag ag0:Bool} {ty t0:TypeId} {pos:String} {af:Array Edge} {Z T:ai} (hv:(d,Z,T)∈V) (ho:(x,T)∈E) (z:bi T k ag) (z0:bi Z k0 ag0) (hk:k0=k) (hi:(P.info? ty).map (·.size)=some k) (t:nM P w00 L V E os E'):nM P w00 L V E (⟨none, .store ty (.tmp d) (.tmp x),t0,pos,af,none⟩::os) E'
inductive Iy (P:Program) (w00:World) (L:List Loc) (V:List Vr) (E:List (Nat×ai)) (o:Oper):Prop
 |step (d:Nat) (T:ai) (hd:o.dst=some d) (hT:(d,T)∈E) (hv:(V.map Prod.fst).elem d=false) (h:aR P w00 0 L E o T)
 |alloc (d:Nat) (U:TypeId) (Z T:ai) (hd:o.dst=some d) (ho:o.op= .alloc U) (z:cX P U Z) (hv:(d,Z,T)∈V)
 |put (d x k k0:Nat) (ag ag0:Bool) (ty t0:TypeId) (pos:String) (af:Array Edge) (Z T:ai) (e:o=⟨none, .store ty (.tmp d) (.tmp x),t0,pos,af,none⟩) (hv:(d,Z,T)∈V) (ho:(x,T)∈E) (z:bi T k ag) (z0:bi Z k0 ag0) (hk:k0=k) (hi:(P.info? ty).map (·.size)=some k)
section
variable {P:Program} {w00:World} {X:List Nat} {L:List Loc} {n:Nat} {Q:Exit→Act→World→Prop} {V:List Vr}
theorem nM.sub(h:nM P w00 L V E l E'):∀ p∈E,p∈E':=by
 induction h with
 |nil=>exact fun _ h=>h
 |cons _ _ _ ih=>exact fun p hp=>ih p (List.mem_cons_of_mem _ hp)
 |alloc _ _ _ ih=>exact ih
 |put _ _ _ _ _ _ _ ih=>exact ih
theorem nM.new(h:nM P w00 L V E l E'):∀ p∈E',p∈E∨∃ o∈l,o.dst=some p.1:=by
 induction h with
 |nil=>exact fun _ h=> .inl h
 |cons _ _ _ ih=>
  intro p hp
  rcases ih p hp with h|⟨q,h,h'⟩
  ·rcases List.mem_cons.1 h with rfl|h
   ·exact .inr ⟨_,List.mem_cons_self,rfl⟩
   ·exact .inl h
  ·exact .inr ⟨q,List.mem_cons_of_mem _ h,h'⟩
 |alloc _ _ _ ih=>
  intro p hp
  rcases ih p hp with h|⟨q,h,h'⟩
  ·exact .inl h
  ·exact .inr ⟨q,List.mem_cons_of_mem _ h,h'⟩
 |put _ _ _ _ _ _ _ ih=>
  intro p hp
  rcases ih p hp with h|⟨q,h,h'⟩
  ·exact .inl h
  ·exact .inr ⟨q,List.mem_cons_of_mem _ h,h'⟩
theorem nM.at(h:nM P w00 L V E l E'):∀ o∈l,Iy P w00 L V E' o:=by
 induction h with
 |nil=>exact fun _ h=>by cases h
 | @cons E E' os T d op ty pos af gd hs hv t ih=>
  intro o' ho
  rcases List.mem_cons.1 ho with rfl|ho
  ·exact .step d T rfl (t.sub _ List.mem_cons_self) hv (hs.more fun p hp=>t.sub _ (List.mem_cons_of_mem _ hp))
  ·exact ih o' ho
 | @alloc E E' os d U ty pos af Z T z hv t ih=>
  intro o' ho
  rcases List.mem_cons.1 ho with rfl|ho
  ·exact .alloc d U Z T rfl rfl z hv
  ·exact ih o' ho
 | @put E E' os d x k k0 ag ag0 ty t0 pos af Z T hv hx z z0 hk hi t ih=>
  intro o' ho
  rcases List.mem_cons.1 ho with rfl|ho
  ·exact .put d x k k0 ag ag0 ty t0 pos af Z T rfl hv (t.sub _ hx) z z0 hk hi
  ·exact ih o' ho
def done (l:List Oper) (listed:Array Bool) (p:Oper→Bool):Prop:=∃ (i:Nat) (o:Oper),l[i]? =some o∧listed.getD i false=true∧p o=true
end
section
variable {P:Program} {w00:World} {X:List Nat} {L:List Loc} {n:Nat} {Q:Exit→Act→World→Prop} {V:List Vr}
end
theorem bF.len {X:List Nat} {w:World}:∀ {Ts:List ai} {vs:List Value},bF X w Ts vs→vs.length=Ts.length
 |[],[],_=>rfl
 |T::Ts,v::vs,h=>by rw [List.length_cons,List.length_cons,bF.len h.2]
 |[],_::_,h=>h.elim
 |_::_,[],h=>h.elim
theorem bF.at_ {X:List Nat} {w:World} {T:ai}:∀ {Ts:List ai} {vs:List Value} {i:Nat},bF X w Ts vs→Ts[i]? =some T→∃ v,vs[i]? =some v∧T.holds X w v
 |[],_,_,_,h=>by simp at h
 |T::Ts,[],_,h,_=>h.elim
 |T::Ts,v::vs,0,h,e=>by
  rw [List.getElem?_cons_zero] at e
  injection e with e
  subst e
  exact ⟨v,rfl,h.1⟩
 |T::Ts,v::vs,i+1,h,e=>by
  obtain ⟨u,h1,h2⟩:=bF.at_ (i:=i) h.2 (by simpa using e)
  exact ⟨u,by simpa using h1,h2⟩
theorem bF.put {X:List Nat} {w:World} {T:ai} {u:Value} (hu:T.holds X w u):∀ {Ts:List ai} {vs:List Value} {i:Nat},bF X w Ts vs→bF X w (Ts.set i T) (vs.set i u)
 |[],[],_,_=>trivial
 |T::Ts,v::vs,0,h=>⟨hu,h.2⟩
 |T::Ts,v::vs,i+1,h=>⟨h.1,bF.put hu h.2⟩
 |[],_::_,_,h=>h.elim
 |_::_,[],_,h=>h.elim
def ai.st (Ts:List ai):ai:=⟨fun X w v=>∃ cs:List Value,v= .agg cs.toArray∧bF X w Ts cs∧∀ u∈cs,u.oneCell'=true,fun ⟨cs,e,h,o⟩ hk hX=>⟨cs,e,h.stable hk hX,o⟩⟩
class mu (Ts:List ai) (i:Nat) (T:outParam ai):Prop where
 ok:Ts[i]? =some T
instance mu.here {Ts:List ai} {T:ai}:mu (T::Ts) 0 T:=⟨rfl⟩
instance mu.there {Ts:List ai} {T T':ai} {i:Nat} [h:mu Ts i T]:mu (T'::Ts) (i+1) T:=⟨by simpa using h.ok⟩
class gQ (Ts:List ai) (i:Nat) (T:ai) (Ts':outParam (List ai)):Prop where
 ok:Ts.set i T=Ts'∧i<Ts.length
instance gQ.here {Ts:List ai} {T T':ai}:gQ (T'::Ts) 0 T (T::Ts):=⟨rfl,by simp⟩
instance gQ.there {Ts Ts':List ai} {T T':ai} {i:Nat} [h:gQ Ts i T Ts']:gQ (T'::Ts) (i+1) T (T'::Ts'):=⟨by rw [List.set_cons_succ,h.ok.1],by rw [List.length_cons];exact Nat.succ_lt_succ h.ok.2⟩
class wM (Ts:List ai) (k:outParam Nat):Prop where
 ok:Ts.length=k
instance wM.nil:wM [] 0:=⟨rfl⟩
instance wM.cons {Ts:List ai} {T:ai} {k:Nat} [h:wM Ts k]:wM (T::Ts) (k+1):=⟨by rw [List.length_cons,h.ok]⟩
class kz (e:TypeId) (B:Nat) (Ts:List ai):Prop where
 ok:∀ {X:List Nat} {w w':World} {vs:List Value},bF X w Ts vs→vg e B X w w'→bF X w' Ts vs
instance kz.nil {e:TypeId} {B:Nat}:kz e B []:=⟨fun {X w w' vs} h _=>by cases vs with
 |nil=>trivial
 |cons v vs=>exact h.elim⟩
instance kz.cons {e:TypeId} {B:Nat} {T:ai} {Ts:List ai} [a:jT e B T] [k:kz e B Ts]:kz e B (T::Ts):=⟨fun {X w w' vs} h hc=>by cases vs with
 |nil=>exact h.elim
 |cons v vs=>exact ⟨a.ok h.1 hc,k.ok h.2 hc⟩⟩
instance {e:TypeId} {B:Nat} {Ts:List ai} [k:kz e B Ts]:jT e B (.st Ts):=⟨fun ⟨cs,e,h,o⟩ hc=>⟨cs,e,k.ok h hc,o⟩⟩
instance {Ts:List ai} {i:Nat} {T:ai} [n:mu Ts i T]:az (.st Ts) i 1 false T:=⟨fun _=>rfl,fun {X w v} ⟨cs,e,h,o⟩=>by
 obtain ⟨u,h1,h2⟩:=h.at_ n.ok
 refine ⟨[u],rfl,fun j x hj=> ?_,fun x _ hx=> ?_⟩
 ·have:j=0∧x=u:=by
   cases j with
   |zero=>exact ⟨rfl,by simpa using hj.symm⟩
   |succ j=>simp at hj
  rw [e,this.1,this.2]
  show (cs.toArray)[i+0]? =some u
  simpa using h1
 ·have:=hx rfl
  have:u=x:=by simpa using this
  rw [←this];exact h2⟩
instance {Ts:List ai} {k:Nat} [n:wM Ts k]:bi (.st Ts) k true:=⟨fun {X w v} ⟨cs,e,h,o⟩=>by
 subst e
 refine ⟨?_,?_,fun _=>rfl,fun h=>by cases h⟩
 ·show cs.toArray.size=k
  simp [h.len,n.ok]
 ·show cs.toArray.all (·.oneCell')=true
  simpa using o⟩
section
variable {P:Program} {w00:World} {X:List Nat} {L L':List Loc} {E:List (Nat×ai)} {n:Nat} {ops:Array Oper} {rest:List Oper} {Q:Exit→Act→World→Prop} {cs:List Code} {t0:TypeId} {pos:String} {af:Array Edge}
theorem oN {Ts Ts':List ai} {ty:TypeId} {s r i:Nat} {o:Operand} {T:ai} [hs:ce E s (.is (.pointer (some ⟨r,i,none⟩)))] [hl:ke L r (.st Ts)] [ho:b_ E o T] [hc:gQ Ts i T Ts'] [hu:ko L r (.st Ts) (.st Ts') L'] [z:bi T 1 false] [hty:eV P ty 1 false]
 (h:GR P w00 X L' E n ops rest cs Q):GR P w00 X L E n ops (⟨none, .store ty (.tmp s) o,t0,pos,af,none⟩::rest) cs Q:=⟨fun a w ht=>by
 refine cA rfl ?_
 have e1:a.eval (.tmp s)= .pointer (some ⟨r,i,none⟩):=ht.slots _ hs.mem
 have e2:T.holds X w (a.eval o):=ho.get (X:=X) (w:=w) (fun _=>rfl) fun p hp _=>ht.slots p hp
 obtain ⟨g1,g2,u,ty',⟨c0,rfl,ha,hone⟩,g4⟩:=ht.mem.loc _ hu.upd.mem
 replace g4:w.heap[r]? =some (.cells c0.toArray ty' (0,0)):=g4
 obtain ⟨hc1,hc2⟩:=hc.ok
 have hlen:=ha.len
 have hi:=hty.size
 obtain ⟨z1,z2,_,z4⟩:=z.ok e2
 have hcl:(a.eval o).cells= #[a.eval o]:=z4 rfl
 have h1:(a.eval o).oneCell'=true:=by
  rw [hcl] at z2
  simpa using z2
 have hcell:w.cell? ⟨r,i,none⟩=some (c0[i]' qO):=eX g4 (by simp [show i<c0.length by omega])
 have hfro:w.frozen? ⟨r,i,none⟩=false:=by simp [World.frozen?,g4]
 have hadd:(⟨r,i,none⟩:Addr).add 0=⟨r,i,none⟩:=by unfold Addr.add;split<;>simp_all
 have hst:(store ((⟨r,i,none⟩:Addr).add 0) (a.eval o)).run P w= .ok () (w.setRow r (c0.set i (a.eval o)).toArray):=by
  rw [hadd,run_store P w _ _ _ h1,hcell]
  simp [hfro,setCell_eq_setRow w r i c0.toArray ty' (0,0) _ g4]
 have hsv:(storeVar ty ⟨r,i,none⟩ (a.eval o)).run P w= .ok () (w.setRow r (c0.set i (a.eval o)).toArray):=by
  cases hq:P.info? ty with
  |none=>simp [hq] at hi
  |some q=>
   have hs:q.size=1:=by simpa [hq] using hi
   simp [storeVar,sizeOf,typeInfo,hq,hcl,hs,storeCells,hst]
 unfold Oper.wp execOp
 simp only [e1,Instr.storeAt,Instr.sureAddr,Sem.run_bind,Sem.run_pure,Result.andThen_ok,hsv]
 have hnew:(ai.st Ts').holds X w (.agg (c0.set i (a.eval o)).toArray):=⟨_,rfl,by rw [←hc1];exact ha.put e2,fun x hx=>by
  rcases List.mem_or_eq_of_mem_set hx with hx|hx
  ·exact hone x hx
  ·rw [hx];exact h1⟩
 exact h.run a _ (ht.write (k:=0) (k0:=0) (ag:=true) (ag0:=true) (v:= .agg (c0.set i (a.eval o)).toArray) hu.upd hnew)⟩
end
section
variable {P:Program} {w00:World} {X:List Nat} {L L':List Loc} {E:List (Nat×ai)} {n:Nat} {ops:Array Oper} {rest:List Oper} {Q:Exit→Act→World→Prop} {cs:List Code}
theorem bF.any_ {X:List Nat} {w:World}:∀ {Ts:List ai} {vs:List Value} {i:Nat},bF X w Ts vs→bF X w (Ts.set i .any) vs
 |[],[],_,_=>trivial
 |T::Ts,v::vs,0,h=>⟨trivial,h.2⟩
 |T::Ts,v::vs,i+1,h=>⟨h.1,bF.any_ h.2⟩
 |[],_::_,_,h=>h.elim
 |_::_,[],_,h=>h.elim
theorem Cn {Ts Ts':List ai} (r i:Nat) [hc:gQ Ts i .any Ts'] [hu:ko L r (.st Ts) (.st Ts') L'] (h:GR P w00 X L' E n ops rest cs Q):GR P w00 X L E n ops rest cs Q:=⟨fun a w ht=>by
 obtain ⟨v,⟨c,e,ha,ho⟩,f⟩:=ht.openL hu.upd.mem
 exact h.run a w (f (T':= .st Ts') ⟨c,e,by rw [←hc.ok.1];exact ha.any_,ho⟩ hu.upd)⟩
end
instance {Ts:List ai} {k:Nat} [n:wM Ts k]:az (.st Ts) 0 k true (.st Ts):=⟨(fun h=>by cases h),fun {X w v} ⟨cs,e,h,o⟩=>⟨cs,h.len.trans n.ok,fun j u hj=>by
 rw [e]
 show (cs.toArray)[0+j]? =some u
 simpa using hj,fun u hu _=>⟨cs,hu rfl,h,o⟩⟩⟩
instance {e:TypeId} {B:Nat}:jT e B .any:=⟨fun _ _=>trivial⟩
def Rp.nil:Rp Unit:=⟨1,fun _ _ _ cs=>cs=[.slice none 0 0],fun h=>by rw [h];rfl,fun h v hv=>by rw [h,List.mem_singleton] at hv;rw [hv];rfl,fun h _=>h,fun h _=>h⟩
abbrev tF:=Int×Unit×Unit×Unit×Unit×Unit
abbrev fL:Rp tF:=(Rp.int .i64).pair (Rp.nil.pair (Rp.nil.pair (Rp.nil.pair (Rp.nil.pair Rp.nil))))
theorem u7:fU Tryz.prog 119 fL (0,(),(),(),(),()):=⟨by
 obtain ⟨i,h1,h2,h3,h4⟩:∃ i,Tryz.prog.info? 119=some i∧i.zero=some (.agg #[.int .i64 0, .slice none 0 0, .slice none 0 0, .slice none 0 0, .slice none 0 0, .slice none 0 0])∧i.size=6∧i.bytes=128:=info_parts qK
 refine ⟨_,i,_,Tryz.underlying119,(fun f hf=> ?_),h1,h2,fun w S=> ?_⟩
 ·simp only [List.mem_cons,List.not_mem_nil,or_false] at hf
  rcases hf with rfl|rfl|rfl|rfl|rfl|rfl<;>exact Option.isSome_iff_exists.1 qK
 ·exact ⟨[.int .i64 0],[.slice none 0 0, .slice none 0 0, .slice none 0 0, .slice none 0 0, .slice none 0 0],rfl,rfl,[.slice none 0 0],[.slice none 0 0, .slice none 0 0, .slice none 0 0, .slice none 0 0],rfl,rfl,[.slice none 0 0],[.slice none 0 0, .slice none 0 0, .slice none 0 0],rfl,rfl,[.slice none 0 0],[.slice none 0 0, .slice none 0 0],rfl,rfl,[.slice none 0 0],[.slice none 0 0],rfl,rfl,rfl⟩⟩
instance:aO fL 0 (Rp.int .i64) (fun a b=>(b,a.2)):=aO.fst
instance:KC fL 6:=⟨rfl⟩
instance:dH 178 [128]:=⟨by decide⟩
instance:fz [178,128] [178,180,182,184,186,128]:=⟨by decide⟩
instance:dH 178 [180,128]:=⟨by decide⟩
instance:dH 178 [182,128]:=⟨by decide⟩
instance:dH 178 [184,128]:=⟨by decide⟩
instance:dH 178 [186,128]:=⟨by decide⟩
instance:dH 180 [128]:=⟨by decide⟩
instance:fz [180,128] [178,180,182,184,186,128]:=⟨by decide⟩
instance:dH 180 [178,128]:=⟨by decide⟩
instance:dH 180 [182,128]:=⟨by decide⟩
instance:dH 180 [184,128]:=⟨by decide⟩
instance:dH 180 [186,128]:=⟨by decide⟩
instance:dH 182 [128]:=⟨by decide⟩
instance:fz [182,128] [178,180,182,184,186,128]:=⟨by decide⟩
instance:dH 182 [178,128]:=⟨by decide⟩
instance:dH 182 [180,128]:=⟨by decide⟩
instance:dH 182 [184,128]:=⟨by decide⟩
instance:dH 182 [186,128]:=⟨by decide⟩
instance:dH 184 [128]:=⟨by decide⟩
instance:fz [184,128] [178,180,182,184,186,128]:=⟨by decide⟩
instance:dH 184 [178,128]:=⟨by decide⟩
instance:dH 184 [180,128]:=⟨by decide⟩
instance:dH 184 [182,128]:=⟨by decide⟩
instance:dH 184 [186,128]:=⟨by decide⟩
instance:dH 186 [128]:=⟨by decide⟩
instance:fz [186,128] [178,180,182,184,186,128]:=⟨by decide⟩
instance:dH 186 [178,128]:=⟨by decide⟩
instance:dH 186 [180,128]:=⟨by decide⟩
instance:dH 186 [182,128]:=⟨by decide⟩
instance:dH 186 [184,128]:=⟨by decide⟩
instance:cX Tryz.prog 119 (.tr fL [] 0 (0,(),(),(),(),())):=u7.alT
def Rp.frn {α:Type} (B:Nat) (r:Rp α):Rp α:=⟨r.k,fun w S a cs=>r.rd w (fun b=>S b∧B≤b∧∃ (c:Array Value) (t:TypeId),w.heap[b]? =some (.cells c t (0,0))) a cs,r.len,r.one,
 fun h hk=>r.more (r.keep h fun b hb=>hk b hb.1) fun b hb=>⟨hb.1,hb.2.1,hb.2.2.imp fun c h=>h.imp fun t h=>(hk b hb.1).trans h⟩,fun h hk=>r.more h fun b hb=>⟨hk b hb.1,hb.2⟩⟩
instance {α:Type} {r:Rp α} {B k:Nat} [h:KC r k]:KC (Rp.frn B r) k:=⟨h.ok⟩
instance {α β:Type} {r:Rp α} {s:Rp β} {B off:Nat} {u:α→β→α} [h:aO r off s u]:aO (Rp.frn B r) off (Rp.frn B s) u:=⟨fun h1 h2=>h.ok h1 h2⟩
instance {ts:List TypeId} {C B:Nat} {l:List UInt8}:qi ts C (.is (Tx l)) (Rp.frn B Rp.str) l:=⟨fun h=>⟨[Tx l],by rw [show _=_ from h];rfl,_,rfl,bU l⟩⟩
instance {ts:List TypeId} {C B:Nat} {k:IntKind} {x:Int}:qi ts C (.is (.int k x)) (Rp.frn B (Rp.int k)) x:=⟨fun h=>⟨[.int k x],by rw [show _=_ from h];rfl,rfl⟩⟩
instance {ts:List TypeId} {C B:Nat} {x:Bool}:qi ts C (.is (.bool x)) (Rp.frn B Rp.bool) x:=⟨fun h=>⟨[.bool x],by rw [show _=_ from h];rfl,rfl⟩⟩
theorem AQ{α:Type} {r:Rp α} {ts:List TypeId} {l:List α} {X:List Nat} {w:World} {v:Value} (h:(ai.to (Rp.frn B r) e ts C B l).holds X w v):(Rp.frn B r.row).rd w (cu (e::ts) C X w) l [v]:=by
 obtain ⟨A,c,ps,rfl,rfl,h3,h4,h5⟩:=h
 refine ⟨A,_,c,rfl,rfl,?_⟩
 obtain ⟨g1,g2,g3,g4,g5⟩:=h4.sl
 refine ⟨g2,g3,g4,fun hn=> ?_⟩
 obtain ⟨b,off,rfl,hb,hc⟩:=g5 hn
 obtain ⟨cur,hcur⟩:=h4.type (g:=b) rfl
 refine ⟨b,off,rfl,⟨⟨h5 b rfl, .inr ⟨cur,_,_,hcur,List.mem_cons_self⟩⟩,(h4.blk_ b rfl).1,cur,e,hcur⟩,fun j a ha=> ?_⟩
 rw [List.getElem?_map] at ha
 cases hq:ps[j]? with
 |none=>rw [hq] at ha;cases ha
 |some q=>
  rw [hq] at ha
  obtain rfl:q.1=a:=by simpa using ha
  refine ⟨q.2,fun i u hu=> ?_,r.more (h3 q (List.mem_of_getElem? hq)) fun b hb=>⟨⟨hb.1.1,hb.1.2.imp id fun ⟨cs,t,f,h3,h4⟩=>⟨cs,t,f,h3,List.mem_cons_of_mem _ h4⟩⟩,hb.2⟩⟩
  have:=hc (j*r.k+i) u (j0 (fun q hq=>r.len (h3 q hq)) hq hu)
  rw [Nat.add_assoc]
  exact this
instance {α:Type} {r:Rp α} {e:TypeId} {ts ts':List TypeId} {C B:Nat} {l:List α} [s:fz (e::ts') ts]:qi ts C (.to (Rp.frn B r) e ts' C B l) (Rp.frn B r.row) l:=⟨fun {X w v} h=>⟨[v],by
 obtain ⟨A,c,ps,e,_⟩:=h
 rw [e];rfl,(Rp.frn B r.row).more (AQ h) (cu.sub (s:=s))⟩⟩
instance {α:Type} {r:Rp α} {ts:List TypeId} {C:Nat} {a:α}:d8 fun B=> .tr (Rp.frn B r) ts C a:=⟨fun hB ⟨cs,e,h⟩=>⟨cs,e,r.more h fun _ hb=>⟨hb.1,Nat.le_trans hB hb.2.1,hb.2.2⟩⟩⟩
instance {α:Type} {r:Rp α} {ts:List TypeId} {C:Nat} {a:α}:d8 fun B=> .tc (Rp.frn B r) ts C a:=⟨fun hB h=>r.more h fun _ hb=>⟨hb.1,Nat.le_trans hB hb.2.1,hb.2.2⟩⟩
instance {α:Type} {r:Rp α} {e:TypeId} {ts:List TypeId} {C:Nat} {l:List α}:d8 fun B=> .to (Rp.frn B r) e ts C B l:=⟨fun hB ⟨A,c,ps,h1,h2,h3,h4,h5⟩=>⟨A,c,ps,h1,h2,fun q hq=>r.more (h3 q hq) fun _ hb=>⟨hb.1,Nat.le_trans hB hb.2.1,hb.2.2⟩,h4.lower hB,h5⟩⟩
instance (priority:=low) {Ts:Nat→List ai} [t:qh Ts]:d8 fun B=> .st (Ts B):=⟨fun hB ⟨cs,e,h,o⟩=>⟨cs,e,t.down hB h,o⟩⟩
structure xu {α:Type} (P:Program) (e:TypeId) (r:Rp α) (bytes:Nat) (a:α):Prop where
 ok:∃ (i:TypeInfo) (z:Value),P.info? e=some i∧i.zero=some z∧i.size=r.k∧i.bytes=bytes∧∀ w S,r.rd w S a z.cells.toList
theorem fU.el{α:Type} {r:Rp α} {a:α} {bytes:Nat} (z:fU P e r a) (h:(P.info? e).map (fun i=>(i.size,i.bytes))=some (r.k,bytes)):xu P e r bytes a:=by
 obtain ⟨fs,i,zs,hu,hf,hi,hz,hr⟩:=z.ok
 rw [hi] at h
 simp only [Option.map_some,Option.some.injEq,Prod.mk.injEq] at h
 exact ⟨i, .agg zs,hi,hz,h.1,h.2,hr⟩
theorem xu.frm{α:Type} {r:Rp α} {a:α} {bytes:Nat} (z:xu P e r bytes a):xu P e (Rp.frn B r) bytes a:=by
 obtain ⟨i,z,h1,h2,h3,h4,h5⟩:=z.ok
 exact ⟨i,z,h1,h2,h3,h4,fun w S=>h5 w _⟩
section
variable {P:Program} {w00:World} {N:Nat} {L:List Loc} {E:List (Nat×ai)} {d:Nat} {t0:TypeId} {pos:String} {af:Array Edge} {gd:Option (Nat×Bool)}
end
section
variable {P:Program} {w00:World} {X:List Nat} {L:List Loc} {E E0:List (Nat×ai)} {n:Nat} {ops:Array Oper} {rest:List Oper} {Q:Exit→Act→World→Prop} {cs:List Code} {t0:TypeId} {pos:String} {af:Array Edge}
end
section
variable {P:Program} {w00:World} {N:Nat} {L:List Loc} {E:List (Nat×ai)} {d:Nat} {t0:TypeId} {pos:String} {af:Array Edge} {gd:Option (Nat×Bool)}
end
section
variable {P:Program} {w00:World} {X:List Nat} {L L':List Loc} {E:List (Nat×ai)} {n:Nat} {ops:Array Oper} {rest:List Oper} {Q:Exit→Act→World→Prop} {cs:List Code} {x y:Code} {t0:TypeId} {pos:String} {af:Array Edge}
instance {Ts:List ai} {i:Nat} {a b:Bool} {xs ys:List Int} {ts:List TypeId} {C:Nat} [h0:mu Ts i (.is (.bool a))] [h1:mu Ts (i+1) (.tc Rp.limbs ts C xs)] [h2:mu Ts (i+2) (.is (.bool b))] [h3:mu Ts (i+3) (.tc Rp.limbs ts C ys)]:az (.st Ts) i 4 true (.tr Rp.frac ts C ((a,xs),(b,ys))):=⟨(fun h=>by cases h),fun {X w v} ⟨cs,e,h,o⟩=>by
 obtain ⟨u0,g0,k0⟩:=h.at_ h0.ok
 obtain ⟨u1,g1,k1⟩:=h.at_ h1.ok
 obtain ⟨u2,g2,k2⟩:=h.at_ h2.ok
 obtain ⟨u3,g3,k3⟩:=h.at_ h3.ok
 have k0:u0= .bool a:=k0
 have k2:u2= .bool b:=k2
 refine ⟨[u0,u1,u2,u3],rfl,fun j x hj=> ?_,fun x hx _=>⟨[u0,u1,u2,u3],hx rfl,[u0,u1],[u2,u3],rfl,⟨[u0],[u1],rfl,by rw [k0];rfl,k1⟩,⟨[u2],[u3],rfl,by rw [k2];rfl,k3⟩⟩⟩
 rw [e]
 show (cs.toArray)[i+j]? =some x
 rcases j with _|_|_|_|j
 ·have:u0=x:=by simpa using hj
  rw [←this];simpa using g0
 ·have:u1=x:=by simpa using hj
  rw [←this];simpa using g1
 ·have:u2=x:=by simpa using hj
  rw [←this];simpa using g2
 ·have:u3=x:=by simpa using hj
  rw [←this];simpa using g3
 ·simp at hj⟩
end
instance {f:FuncId} {B:Nat}:li B (.fv f [] []):=⟨fun ⟨vs,us,e,h1,h2⟩ _=>⟨vs,us,e,by cases vs<;>first|trivial|exact h1,by cases us<;>first|trivial|exact h2⟩⟩
instance Ja:eV Tryz.prog 128 1 false:=⟨⟨_,Tryz.underlying128,rfl⟩,by kernel_rfl⟩
instance:dH 122 [128]:=⟨by decide⟩
instance:dH 124 [128]:=⟨by decide⟩
instance:dH 130 [128]:=⟨by decide⟩
instance:dH 82 [128]:=⟨by decide⟩
instance:dH 132 [128]:=⟨by decide⟩
instance:dH 134 [128]:=⟨by decide⟩
instance:dH 136 [128]:=⟨by decide⟩
instance:dH 80 [130,82,132,134,136,128]:=⟨by decide⟩
theorem Ic {α:Type} {a b c d:α}:∀ {i:Nat} {cs:List α},i+4≤cs.length→cs.take i++[a,b,c,d]++cs.drop (i+4)=(((cs.set i a).set (i+1) b).set (i+2) c).set (i+3) d
 |0,cs,h=>by
  match cs,h with
  |x0::x1::x2::x3::r,_=>simp
 |i+1,cs,h=>by
  match cs,h with
  |x::cs,h=>
   rw [List.length_cons] at h
   have:=Ic (a:=a) (b:=b) (c:=c) (d:=d) (i:=i) (cs:=cs) qO
   rw [show i+1+4=(i+4)+1 by omega,show i+1+1=(i+1)+1 by rfl,show i+1+2=(i+2)+1 by omega,show i+1+3=(i+3)+1 by omega]
   simp only [List.take_succ_cons,List.drop_succ_cons,List.set_cons_succ,List.cons_append]
   rw [←this]
section
variable {P:Program} {w00:World} {X:List Nat} {L L':List Loc} {E:List (Nat×ai)} {n:Nat} {ops:Array Oper} {rest:List Oper} {Q:Exit→Act→World→Prop} {cs:List Code} {t0:TypeId} {pos:String} {af:Array Edge}
theorem zF {Ts T1 T2 T3 T4:List ai} {ty:TypeId} {s r i:Nat} {o:Operand} {B C:Nat} {ts:List TypeId} {q:bA} {ag:Bool} [hs:ce E s (.is (.pointer (some ⟨r,i,none⟩)))] [hl:ke L r (.st Ts)] [ho:b_ E o (.tr (Rp.frn B Rp.frac) ts C q)]
 [s0:gQ Ts i (.is (.bool q.1.1)) T1] [s1:gQ T1 (i+1) (.tc (Rp.frn B Rp.limbs) ts C q.1.2) T2] [s2:gQ T2 (i+2) (.is (.bool q.2.1)) T3] [s3:gQ T3 (i+3) (.tc (Rp.frn B Rp.limbs) ts C q.2.2) T4] [hu:ko L r (.st Ts) (.st T4) L'] [hty:eV P ty 4 ag]
 (h:GR P w00 X L' E n ops rest cs Q):GR P w00 X L E n ops (⟨none, .store ty (.tmp s) o,t0,pos,af,none⟩::rest) cs Q:=⟨fun ac w ht=>by
 refine cA rfl ?_
 have e1:ac.eval (.tmp s)= .pointer (some ⟨r,i,none⟩):=ht.slots _ hs.mem
 obtain ⟨ds,hd1,hd2⟩:=ho.get (X:=X) (w:=w) (ρ:=ac.eval) (fun _=>rfl) fun p hp _=>ht.slots p hp
 have hone:∀ x∈ds,x.oneCell'=true:=Rp.frac.one hd2
 obtain ⟨d1,d2,rfl,⟨d3,d4,rfl,k0,k1⟩,⟨d5,d6,rfl,k2,k3⟩⟩:=hd2
 have k0:d3=[.bool q.1.1]:=k0
 have k2:d5=[.bool q.2.1]:=k2
 subst k0 k2
 obtain ⟨v4,rfl⟩:∃ v,d4=[v]:=List.length_eq_one_iff.1 (Rp.limbs.len k1)
 obtain ⟨v6,rfl⟩:∃ v,d6=[v]:=List.length_eq_one_iff.1 (Rp.limbs.len k3)
 obtain ⟨g1,g2,u,ty',⟨c0,rfl,ha,ho1⟩,g4⟩:=ht.mem.loc _ hu.upd.mem
 replace g4:w.heap[r]? =some (.cells c0.toArray ty' (0,0)):=g4
 obtain ⟨a0,l0⟩:=s0.ok
 obtain ⟨a1,l1⟩:=s1.ok
 obtain ⟨a2,l2⟩:=s2.ok
 obtain ⟨a3,l3⟩:=s3.ok
 have hlen:=ha.len
 have hl3:i+4≤c0.length:=by
  have:T3.length=Ts.length:=by rw [←a2,←a1,←a0];simp
  omega
 have hds:([Value.bool q.1.1]++[v4]++([Value.bool q.2.1]++[v6]))=[.bool q.1.1,v4, .bool q.2.1,v6]:=rfl
 rw [hds] at hone hd1
 have hsv:(storeVar ty ⟨r,i,none⟩ (ac.eval o)).run P w= .ok () (w.setRow r (c0.take i++[.bool q.1.1,v4, .bool q.2.1,v6]++c0.drop (i+4)).toArray):=by
  have:=run_storeVar_mid (P:=P) w r i ty #[.bool q.1.1,v4, .bool q.2.1,v6] (fun j hj=>by
   have hj:j<4:=by simpa using hj
   refine ⟨?_,by simp [World.frozen?,g4]⟩
   rw [eX (u:=c0[i+j]' qO) g4 (by simp [show i+j<c0.length by omega])]
   rfl) (by rw [hty.size];rfl) (all_oneCell_toArray hone)
  have h4:=m7 [.bool q.1.1,v4, .bool q.2.1,v6] w r i c0 ty' g4 (by simpa using hl3)
  simp only [List.length_cons,List.length_nil,Nat.zero_add,Nat.reduceAdd] at h4
  rw [←h4,←this]
  unfold storeVar
  rw [hd1]
 unfold Oper.wp execOp
 simp only [e1,Instr.storeAt,Instr.sureAddr,Sem.run_bind,Sem.run_pure,Result.andThen_ok,hsv]
 have hnew:(ai.st T4).holds X w (.agg (c0.take i++[.bool q.1.1,v4, .bool q.2.1,v6]++c0.drop (i+4)).toArray):=⟨_,rfl,by
  rw [Ic hl3,←a3,←a2,←a1,←a0]
  exact bF.put (show (ai.tc (Rp.frn B Rp.limbs) ts C q.2.2).holds X w v6 from k3) (bF.put (show (ai.is (.bool q.2.1)).holds X w (.bool q.2.1) from rfl) (bF.put (show (ai.tc (Rp.frn B Rp.limbs) ts C q.1.2).holds X w v4 from k1) (bF.put (show (ai.is (.bool q.1.1)).holds X w (.bool q.1.1) from rfl) ha))),fun x hx=>by
  rcases List.mem_append.1 hx with hx|hx
  ·rcases List.mem_append.1 hx with hx|hx
   ·exact ho1 x (List.mem_of_mem_take hx)
   ·exact hone x hx
  ·exact ho1 x (List.mem_of_mem_drop hx)⟩
 exact h.run ac _ (ht.write (k:=0) (k0:=0) (ag:=true) (ag0:=true) (v:= .agg (c0.take i++[.bool q.1.1,v4, .bool q.2.1,v6]++c0.drop (i+4)).toArray) hu.upd hnew)⟩
end
theorem fU.frm{α:Type} {ty:TypeId} {r:Rp α} {a:α} (z:fU P ty r a):fU P ty (Rp.frn B r) a:=by
 obtain ⟨fs,i,zs,h1,h2,h3,h4,h5⟩:=z.ok
 exact ⟨fs,i,zs,h1,h2,h3,h4,fun w S=>h5 w _⟩
end Go.Proofs.YtcpeiijdgabenaaGreatDoor
