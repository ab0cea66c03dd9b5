/- Plain maths of fractions: what two numbers are as a fraction; when they are right; how long sums and products are. No program stands in it. -/
import Derived.Test.YtpmhjieibebclaaGreatDoorCA
import Derived.Test.YtpmhjieibebclaaGreatDoorCD
import Derived.Deep.MidRow
import Derived.Deep.LoopGhost
import Derived.Laws.CopyOwn
import Derived.Great.BuildSlice
import Derived.Test.YtpmhjieibebclaaGreatDoorDD
set_option linter.unusedSimpArgs false
set_option linter.unusedVariables false
namespace Go.Proofs.YtpmhjieibebclaaGreatDoor
variable {w w' w00:World} {ty t1 t:TypeId} {s L r id i c N n m f d:Nat} {l os:List Oper} {q p:Rat} {K K':Act→World→Prop} {X X0:List Nat} {P:Program} {o o0 o1:Operand} {k:IntKind} {a:Act} {ops:Array Oper} {v:Value} {u ag:Bool} {x y:Int} {gs:List (Nat×Bool)} {A:Option Addr} {af:Array Edge} {vs:List Value}
abbrev fa:=Bool×List Int
abbrev aR:=fa×fa
def iv (x:fa):Int:=bp x.1 x.2
def jB (x:aR):Bool:=jN x.1.1 x.1.2&&jN x.2.1 x.2.2&&decide (0<iv x.2)&&(cJ ((iv x.1).natAbs:Int) ((iv x.2).natAbs:Int)==1)
def qv (x:aR):Rat:=bif jB x then Rat.divInt (iv x.1) (iv x.2) else 0
theorem uN {x:aR} (h:jB x=true):qv x=Rat.divInt (iv x.1) (iv x.2):=by unfold qv;rw [h];rfl
theorem iR {x:aR} (h:jB x=false):qv x=0:=by unfold qv;rw [h];rfl
theorem lF (a b:Int):cJ (a.natAbs:Int) (b.natAbs:Int)=(Int.gcd a b:Int):=by simp [cJ,Int.gcd]
theorem mM {n d N D g:Int} (hn:n=N*g) (hd:d=D*g) (hg:g≠0) (hD:0<D) (hc:Int.gcd N D=1):(Rat.divInt n d).num=N∧((Rat.divInt n d).den:Int)=D:=by
 rw [hn,hd,Rat.divInt_mul_right hg]
 obtain ⟨k,rfl⟩:∃ k:Nat,D=k:=⟨D.toNat,by omega⟩
 have hk:k≠0:=qO
 have hco:N.natAbs.Coprime k:=by simpa [Int.gcd,Nat.Coprime] using hc
 have e:=Rat.mk_eq_divInt (num:=N) (den:=k) (nz:=hk) (c:=hco)
 rw [←e]
 exact ⟨rfl,rfl⟩
structure iW (q:Rat) (x:aR):Prop where
 num:Whole q.num x.1.1 x.1.2
 den:Whole (q.den:Int) x.2.1 x.2.2
theorem iW.uniq{x y:aR} (h:iW q x) (h':iW q y):x=y:=by
 obtain ⟨⟨a,b⟩,c,d⟩:=x
 obtain ⟨⟨a',b'⟩,c',d'⟩:=y
 obtain ⟨rfl,rfl⟩:=h.num.uniq h'.num
 obtain ⟨rfl,rfl⟩:=h.den.uniq h'.den
 rfl
theorem den_pos (q:Rat):0<(q.den:Int):=by have:=q.den_pos;omega
theorem iW.right{x:aR} (h:iW q x):jB x=true:=by
 unfold jB iv
 rw [h.num.right,h.den.right,h.num.val,h.den.val,lF]
 have h1:=den_pos q
 have h2:Int.gcd q.num (q.den:Int)=1:=by simpa [Int.gcd,Nat.Coprime] using q.reduced
 simp [h2,q.den_pos]
theorem iW.val{x:aR} (h:iW q x):qv x=q:=by
 rw [uN h.right]
 unfold iv
 rw [h.num.val,h.den.val]
 exact Rat.num_divInt_den q
theorem iW.of {x:aR} (hx:Dg 4294967296 x.1.2) (hy:Dg 4294967296 x.2.2) (h:jB x=true):iW (qv x) x∧(qv x).num=iv x.1∧((qv x).den:Int)=iv x.2:=by
 have h':=h
 unfold jB at h
 rw [lF] at h
 simp only [Bool.and_eq_true,decide_eq_true_eq,beq_iff_eq] at h
 obtain ⟨⟨⟨h1,h2⟩,h3⟩,h4⟩:=h
 obtain ⟨e1,e2⟩:=mM (n:=iv x.1) (d:=iv x.2) (g:=1) (Int.mul_one _).symm (Int.mul_one _).symm qD h3 qO
 rw [←uN h'] at e1 e2
 have w1:=Whole.of (s:=x.1.1) hx h1
 have w2:=Whole.of (s:=x.2.1) hy h2
 rw [←fU h1] at w1
 rw [←fU h2] at w2
 refine ⟨⟨?_,?_⟩,e1,e2⟩
 ·rw [e1];exact w1
 ·rw [e2];exact w2
def I5:aR:=((false,[]),(false,[1]))
theorem yQ:Whole 1 false [1]:=⟨⟨fun x hx=>by rw [List.mem_singleton.1 hx];decide,mH [] qD,by simp [Go.Proofs.YtpmhjieibebclaaGreatDoor.val]⟩,rfl⟩
theorem iW.zero:iW 0 I5:=⟨Whole.zero,yQ⟩
def Lq (q:Rat) (L:Nat):Prop:=(q.num.natAbs:Int)<4294967296^L∧(q.den:Int)<4294967296^L
theorem Lq.mono{K:Nat} (h:Lq q L) (hl:L≤K):Lq q K:=
 ⟨Int.lt_of_lt_of_le h.1 (aP qD hl),Int.lt_of_lt_of_le h.2 (aP qD hl)⟩
theorem Lq.of{x:aR} (h:iW q x) (h1:x.1.2.length≤L) (h2:x.2.2.length≤L):Lq q L:=by
 have a:=bQ (β:=4294967296) qD h.num.row.dg
 have b:=bQ (β:=4294967296) qD h.den.row.dg
 rw [h.num.row.val] at a
 rw [h.den.row.val] at b
 have c:=aP (β:=4294967296) qD h1
 have d:=aP (β:=4294967296) qD h2
 refine ⟨Int.lt_of_lt_of_le a c,?_⟩
 have:=Int.lt_of_lt_of_le b d
 omega
theorem iW.len{x:aR} (h:iW q x) (hl:Lq q L):x.1.2.length≤L∧x.2.2.length≤L:=⟨h.num.len hl.1,h.den.len (by have:=hl.2;omega)⟩
theorem Lq.zero:Lq 0 1:=⟨by decide,by decide⟩
theorem Lq.divInt{n d:Int} (hn:(n.natAbs:Int)<4294967296^L) (hd:(d.natAbs:Int)<4294967296^L) (hL:0<L):Lq (Rat.divInt n d) L:=by
 have hp:(1:Int)<4294967296^L:=by
  have:=aP (β:=4294967296) qD (show 1≤L from hL)
  omega
 by_cases h0:d=0
 ·subst h0
  rw [Rat.divInt_zero]
  exact Lq.zero.mono hL
 ·have e:=Rat.num_divInt_den (Rat.divInt n d)
  have e2:(Rat.divInt n d).num*d=n*((Rat.divInt n d).den:Int):=by
   have hden:((Rat.divInt n d).den:Int)≠0:=by have:=den_pos (Rat.divInt n d);omega
   exact (Rat.divInt_eq_divInt_iff hden h0).1 e
  generalize Rat.divInt n d=q at*
  have hco:=q.reduced
  have hdp:=q.den_pos
  have e3:q.num.natAbs*d.natAbs=n.natAbs*q.den:=by
   have:=congrArg Int.natAbs e2
   rw [Int.natAbs_mul,Int.natAbs_mul] at this
   simpa using this
  have hd2:q.den∣d.natAbs:=(Nat.Coprime.symm hco).dvd_of_dvd_mul_left ⟨n.natAbs,by rw [e3,Nat.mul_comm]⟩
  obtain ⟨k,hk⟩:=hd2
  have hk0:0<k:=by
   rcases Nat.eq_zero_or_pos k with h|h
   ·subst h;simp at hk;omega
   ·exact h
  have hn2:n.natAbs=q.num.natAbs*k:=by
   rw [hk,←Nat.mul_assoc,Nat.mul_right_comm] at e3
   exact (Nat.eq_of_mul_eq_mul_right hdp e3).symm
  have a1:q.den≤d.natAbs:=by rw [hk];exact Nat.le_mul_of_pos_right _ hk0
  have a2:q.num.natAbs≤n.natAbs:=by rw [hn2];exact Nat.le_mul_of_pos_right _ hk0
  exact ⟨by omega,by omega⟩
theorem ym (p q:Rat):p+q=Rat.divInt (p.num*q.den+q.num*p.den) (p.den*q.den):=by
 conv=>lhs;rw [←Rat.num_divInt_den p,←Rat.num_divInt_den q]
 exact Rat.divInt_add_divInt _ _ (by have:=den_pos p;omega) (by have:=den_pos q;omega)
theorem xZ (p q:Rat):p*q=Rat.divInt (p.num*q.num) (p.den*q.den):=by
 conv=>lhs;rw [←Rat.num_divInt_den p,←Rat.num_divInt_den q]
 exact Rat.divInt_mul_divInt _ _
theorem mz(h:Lq q L):((q.den:Int).natAbs:Int)<4294967296^L:=by have:=h.2;omega
theorem Lq.pos(h:Lq q L):0<L:=by
 rcases Nat.eq_zero_or_pos L with h0|h0
 ·subst h0
  have:=h.2
  have:=den_pos q
  omega
 ·exact h0
theorem Lq.add{K:Nat} (hp:Lq p L) (hq:Lq q K):Lq (p+q) (L+K+1):=by
 rw [ym]
 have h1:=BT (lu hp.1 (mz hq)) (lu hq.1 (mz hp))
 have h2:=lu (mz hp) (mz hq)
 refine Lq.divInt (Int.lt_of_lt_of_le h1 (aP qD qO)) (Int.lt_of_lt_of_le h2 (aP qD qO)) qO
theorem Lq.mul{K:Nat} (hp:Lq p L) (hq:Lq q K):Lq (p*q) (L+K):=by
 rw [xZ]
 have:=hp.pos
 exact Lq.divInt (lu hp.1 hq.1) (lu (mz hp) (mz hq)) qO
theorem Lq.neg(hp:Lq p L):Lq (-p) L:=⟨by rw [Rat.neg_num,Int.natAbs_neg];exact hp.1,by rw [Rat.neg_den];exact hp.2⟩
theorem Lq.sub{K:Nat} (hp:Lq p L) (hq:Lq q K):Lq (p - q) (L+K+1):=by
 rw [Rat.sub_eq_add_neg]
 exact hp.add hq.neg
def de (p q:Rat):Int:=if p<q then -1 else if p=q then 0 else 1
theorem uP (p q:Rat):b_ (p.num*q.den) (q.num*p.den)=de p q:=by
 unfold de
 rcases Int.lt_trichotomy (p.num*(q.den:Int)) (q.num*(p.den:Int)) with h|h|h
 ·rw [eO h,if_pos ((Rat.lt_iff p q).2 h)]
 ·have e:p=q:=by
   have hp:(p.den:Int)≠0:=by have:=den_pos p;omega
   have hq:(q.den:Int)≠0:=by have:=den_pos q;omega
   have:=(Rat.divInt_eq_divInt_iff hp hq (n₁:=p.num) (n₂:=q.num)).2 h
   rwa [Rat.num_divInt_den,Rat.num_divInt_den] at this
  rw [lM h,if_neg (by rw [e];exact Rat.lt_irrefl),if_pos e]
 ·rw [gV h,if_neg (fun h'=>by have:=(Rat.lt_iff p q).1 h';omega),if_neg (fun e=>by rw [e] at h;omega)]
theorem rR (p:Rat):b_ p.num 0=de p 0:=by
 have:=uP p 0
 simpa using this
theorem Cs (p q:Rat):de (p - q) 0=de p q:=by
 unfold de
 have h1:p - q<0↔p<q:=by rw [←Rat.not_le,←Rat.not_le,Rat.le_iff_sub_nonneg q p]
 have h2:p - q=0↔p=q:=by
  constructor
  ·intro h
   have:=congrArg (· +q) h
   simpa [Rat.sub_eq_add_neg,Rat.add_assoc,Rat.neg_add_cancel,Rat.add_zero,Rat.zero_add] using this
  ·intro h;rw [h];simp [Rat.sub_eq_add_neg,Rat.add_neg_cancel]
 simp only [h1,h2]
open Go Go.RowKit
def cU (X:List Nat) (w:World) (b:Nat):Prop:=b<w.heap.size∧b ∉ X
structure gr (X:List Nat) (w w':World):Prop where
 size:w.heap.size≤w'.heap.size
 block:∀ b,b<w.heap.size→b ∉ X→w'.heap[b]? =w.heap[b]?
theorem Below.keeps(h:Below w.heap.size w w') (X:List Nat):gr X w w':=⟨h.size,fun b hb _=>h.block b hb⟩
structure aa where
 holds:List Nat→World→Value→Prop
 stable:∀ {X X':List Nat} {w w':World} {v:Value},holds X w v→gr X w w'→(∀ b∈X',b<w.heap.size→b∈X)→holds X' w' v
def aa.any:aa:=⟨fun _ _ _=>True,fun h _ _=>h⟩
def aa.is (c:Value):aa:=⟨fun _ _ v=>v=c,fun h _ _=>h⟩
def cM (X:List Nat) (w:World):List aa→List Value→Prop
 |[],[]=>True
 |T::Ts,v::vs=>T.holds X w v∧cM X w Ts vs
 |_,_=>False
theorem cM.stable {X X':List Nat} {w w':World} (hk:gr X w w') (hX:∀ b∈X',b<w.heap.size→b∈X):∀ {Ts:List aa} {vs:List Value},cM X w Ts vs→cM X' w' Ts vs
 |[],[],h=>h
 |T::Ts,v::vs,h=>⟨T.stable h.1 hk hX,cM.stable hk hX h.2⟩
 |[],_::_,h=>h.elim
 |_::_,[],h=>h.elim
def aa.tup (Ts:List aa):aa:=⟨fun X w v=>∃ vs:List Value,v= .tuple vs.toArray∧cM X w Ts vs,fun ⟨vs,e,h⟩ hk hX=>⟨vs,e,h.stable hk hX⟩⟩
def JK (r:Nat) (T:aa) (X:List Nat) (w:World):Prop:=∃ v ty,T.holds X w v∧w.heap[r]? =some (.cells v.cells ty (0,0))
abbrev Loc:=Nat×aa
structure vM (w00:World) (X:List Nat) (L:List Loc) (w:World):Prop where
 loc:∀ p∈L,p.1∈X∧w00.heap.size≤p.1∧JK p.1 p.2 X w
 far:∀ b∈X,b<w.heap.size
 nodup:(L.map Prod.fst).Nodup
 below:Below w00.heap.size w00 w
theorem vM.step {w00 w w':World} {X X':List Nat} {L:List Loc} (h:vM w00 X L w) (hb:Below w.heap.size w w') (h1:∀ b∈X,b∈X') (h2:∀ b∈X',b∈X∨(w.heap.size≤b∧b<w'.heap.size)):vM w00 X' L w':=by
 refine ⟨fun p hp=> ?_,fun b hb'=> ?_,h.nodup,h.below.trans (hb.mono h.below.size)⟩
 ·obtain ⟨g1,g2,v,ty,g3,g4⟩:=h.loc p hp
  refine ⟨h1 _ g1,g2,v,ty,p.2.stable g3 (Below.keeps hb _) (fun b hb' hlt=> ?_),(hb.block _ (h.far _ g1)).trans g4⟩
  rcases h2 b hb' with h|h
  ·exact h
  ·omega
 ·rcases h2 b hb' with g|g
  ·exact Nat.lt_of_lt_of_le (h.far b g) hb.size
  ·exact g.2
theorem vM.same{L:List Loc} (h:vM w00 X L w) (hb:Below w.heap.size w w'):vM w00 X L w':=h.step hb (fun _ h=>h) fun _ h=> .inl h
structure TS (w00:World) (X:List Nat) (L:List Loc) (E:List (Nat×aa)) (n:Nat) (a:Act) (w:World):Prop where
 size:a.tmps.size=n
 df:a.defers=[]
 slots:∀ p∈E,p.2.holds X w (a.tmps.getD p.1 undef)
 mem:vM w00 X L w
class ck (E:List (Nat×aa)) (s:Nat) (T:outParam aa):Prop where
 mem:(s,T)∈E
instance ck.here {E:List (Nat×aa)} {s:Nat} {T:aa}:ck ((s,T)::E) s T:=⟨List.mem_cons_self⟩
instance (priority:=low) ck.there {E:List (Nat×aa)} {s:Nat} {T:aa} {p:Nat×aa} [h:ck E s T]:ck (p::E) s T:=⟨List.mem_cons_of_mem _ h.mem⟩
class bD (E:List (Nat×aa)) (o:Operand) (T:outParam aa):Prop where
 get:∀ {X:List Nat} {w:World} {ρ:Operand→Value},(∀ c,ρ (.const c)=c)→(∀ p∈E, .tmp p.1=o→p.2.holds X w (ρ (.tmp p.1)))→T.holds X w (ρ o)
instance bD.tmp {E:List (Nat×aa)} {s:Nat} {T:aa} [h:ck E s T]:bD E (.tmp s) T:=⟨fun _ hs=>hs _ h.mem rfl⟩
instance bD.const {E:List (Nat×aa)} {c:Value}:bD E (.const c) (.is c):=⟨fun hc _=>hc c⟩
class qd (E:List (Nat×aa)) (ss:List Nat) (E':outParam (List (Nat×aa))):Prop where
 sub:∀ p∈E',p∈E
 keys:E'.map Prod.fst=ss
instance qd.nil {E:List (Nat×aa)}:qd E [] []:=⟨(fun _ h=>by cases h),rfl⟩
instance qd.cons {E E':List (Nat×aa)} {s:Nat} {ss:List Nat} {T:aa} [h:ck E s T] [k:qd E ss E']:qd E (s::ss) ((s,T)::E'):=
 ⟨(fun p hp=>by
   rcases List.mem_cons.1 hp with rfl|hp
   ·exact h.mem
   ·exact k.sub p hp),by rw [List.map_cons,k.keys]⟩
theorem TS.sub{L:List Loc} {E E':List (Nat×aa)} (h:TS w00 X L E n a w) (hs:∀ p∈E',p∈E):TS w00 X L E' n a w:=⟨h.size,h.df,fun p hp=>h.slots p (hs p hp),h.mem⟩
theorem TS.keep {w00 w:World} {X:List Nat} {L:List Loc} {E E':List (Nat×aa)} {n:Nat} {a:Act} (ss:List Nat) [k:qd E ss E'] (h:TS w00 X L E n a w):TS w00 X L E' n a w:=h.sub k.sub
structure au (P:Program) (w00:World) (N:Nat) (L:List Loc) (E:List (Nat×aa)) (o:Oper) (T:aa):Prop where
 run:∀ (X:List Nat) (ρ:Operand→Value) (w:World),(∀ c,ρ (.const c)=c)→(∀ f,ρ (.func f)= .func (.func f) #[] #[])→N≤w.heap.size→vM w00 X L w→(∀ p∈E, .tmp p.1∈o.op.operands.toList→p.2.holds X w (ρ (.tmp p.1)))→
  Yields P o ρ w fun v w'=>T.holds X w' v∧Below w.heap.size w w'
structure WL (P:Program) (ops:Array Oper) (Q:Exit→Act→World→Prop) (l:List Oper) (a:Act) (w:World):Prop where
 out:wpList P ops Q l a w
structure CW (P:Program) (c:Code) (Q:Exit→Act→World→Prop) (a:Act) (w:World):Prop where
 out:c.wp P Q a w
class cQ (P:Program) (T:TypeId) (Z:outParam aa):Prop where
 ok:∃ v:Value,(∀ X w,Z.holds X w v)∧∀ (o:Oper) (ρ:Operand→Value) (w:World),o.op= .alloc T→(execOp ρ o).run P w= .ok (.value (.pointer (some ⟨w.heap.size,0,none⟩))) (w.alloc (.cells v.cells T))
inductive d8 (P:Program) (w00:World) (N:Nat) (L:List Loc) (ops:Array Oper) (gs:List (Nat×Bool)):List (Nat×aa)→List Oper→List (Nat×aa)→List (Nat×aa)→Prop
 |nil {E:List (Nat×aa)}:d8 P w00 N L ops gs E [] E []
 |cons {E E':List (Nat×aa)} {o:Oper} {os:List Oper} {T:aa} {al:List (Nat×aa)} {d:Nat} (h:au P w00 N L E o T) (hno:∀ U,o.op≠ .alloc U) (hd:o.dst=some d) (t:d8 P w00 N L ops gs ((d,T)::E) os E' al):d8 P w00 N L ops gs E (o::os) E' al
 |alloc {E E':List (Nat×aa)} {os:List Oper} {al:List (Nat×aa)} {d:Nat} {T ty:TypeId} {pos:String} {af:Array Edge} {Z:aa} (z:cQ P T Z) (t:d8 P w00 N L ops gs E os E' al):d8 P w00 N L ops gs E (⟨some d, .alloc T,ty,pos,af,none⟩::os) E' ((d,Z)::al)
 |skip {E E':List (Nat×aa)} {o:Oper} {os:List Oper} {al:List (Nat×aa)} (h:i_ ops gs o=false) (hno:∀ U,o.op≠ .alloc U) (t:d8 P w00 N L ops gs E os E' al):d8 P w00 N L ops gs E (o::os) E' al
 |undef {E E':List (Nat×aa)} {o:Oper} {os:List Oper} {al:List (Nat×aa)} {d:Nat} (h:i_ ops gs o=false) (hno:∀ U,o.op≠ .alloc U) (hd:o.dst=some d) (t:d8 P w00 N L ops gs ((d, .is Go.undef)::E) os E' al):d8 P w00 N L ops gs E (o::os) E' al
def lj:List (Nat×aa)→Nat→aa
 |[],_=> .any
 |(t,x)::l,s=>bif Nat.beq t s then x else lj l s
theorem pK:∀ {E:List (Nat×aa)} {s:Nat},(E.map Prod.fst).elem s=false→lj E s=aa.any
 |[],_,_=>rfl
 |(t,x)::E,s,h=>by
  unfold lj
  cases hb:Nat.beq t s with
  |true=>
    have:=Nat.eq_of_beq_eq_true hb
    subst this
    simp at h
  |false=>
    refine pK (E:=E) ?_
    have hne:(s==t)=false:=by
     cases e:(s==t) with
     |false=>rfl
     |true=>
      have e':s=t:=by simpa using e
      subst e'
      simp at hb
    simp only [List.map_cons,List.elem_cons,hne] at h
    exact h
theorem Co{E:List (Nat×aa)} (h:lj E s=aa.any):lj E s=aa.any:=h
theorem kj {p:Nat×aa}:∀ {E:List (Nat×aa)},(E.map Prod.fst).Nodup→p∈E→lj E p.1=p.2
 |[],_,h=>by cases h
 |q::E,hn,h=>by
  rw [List.map_cons,List.nodup_cons] at hn
  unfold lj
  rcases List.mem_cons.1 h with rfl|h
  ·simp
  ·have hne:q.1≠p.1:=fun e=>hn.1 (by rw [e];exact List.mem_map_of_mem h)
   have:Nat.beq q.1 p.1=false:=by
    cases hb:Nat.beq q.1 p.1 with
    |false=>rfl
    |true=>exact absurd (Nat.eq_of_beq_eq_true hb) hne
   rw [this]
   exact kj hn.2 h
def jr (E:List (Nat×aa)):List Nat→Prop
 |[]=>True
 |d::l=>lj E d=aa.is undef∧jr E l
theorem jr.mem {E:List (Nat×aa)}:∀ {l:List Nat},jr E l→∀ d∈l,lj E d=aa.is undef
 |[],_,_,h=>by cases h
 |x::l,h,d,hd=>by
  rcases List.mem_cons.1 hd with rfl|hd
  ·exact h.1
  ·exact jr.mem h.2 d hd
def gS (E:List (Nat×aa)):List (Nat×Bool)→Prop
 |[]=>True
 |(d,b)::l=>(∀ X w v,(lj E d).holds X w v→v= .bool b)∧gS E l
theorem gS.mem {E:List (Nat×aa)}:∀ {l:List (Nat×Bool)},gS E l→∀ p∈l,∀ X w v,(lj E p.1).holds X w v→v= .bool p.2
 |[],_,_,h=>by cases h
 |(d,b)::l,h,p,hp=>by
  rcases List.mem_cons.1 hp with rfl|hp
  ·exact h.1
  ·exact gS.mem h.2 p hp
def FT (P:Program) (E:List (Nat×aa)) (X:List Nat) (w0:World) (o:Oper):Prop:=
 ∀ (La:List Nat) (ρ:Operand→Value) (w:World),(∀ c,ρ (.const c)=c)→(∀ f,ρ (.func f)= .func (.func f) #[] #[])→(∀ b∈La,w0.heap.size≤b∧b<w.heap.size)→Below w0.heap.size w0 w→(∀ s, .tmp s∈o.op.operands.toList→(lj E s).holds (La++X) w (ρ (.tmp s)))→
  Yields P o ρ w fun v w'=>(lj E (aK o)).holds (La++X) w' v∧Below w.heap.size w w'
def lg (P:Program) (ops:Array Oper) (gs:List (Nat×Bool)) (E:List (Nat×aa)) (X:List Nat) (w0:World) (l:List Oper):Prop:=∀ o∈l,i_ ops gs o=true→FT P E X w0 o
theorem lg.mem{E:List (Nat×aa)} {w0:World} (h:lg P ops gs E X w0 l):∀ o∈l,i_ ops gs o=true→FT P E X w0 o:=h
def Dn (P:Program) (zer:TypeId→Array Value) (o:Oper):Prop:=∀ T,o.op= .alloc T→∀ (ρ:Operand→Value) (w:World),∃ w',(execOp ρ o).run P w= .ok (.value (.pointer (some ⟨w.heap.size,0,none⟩))) w'∧w.heap.size<w'.heap.size∧w'.heap[w.heap.size]? =some (.cells (zer T) T (0,0))
def pN (P:Program) (zer:TypeId→Array Value) (l:List Oper):Prop:=∀ o∈l,Dn P zer o
theorem pN.mem{zer:TypeId→Array Value} (h:pN P zer l):∀ o∈l,Dn P zer o:=h
section
variable {P:Program} {ops:Array Oper} {Q:Exit→Act→World→Prop} {E:List (Nat×aa)} {X:List Nat} {w0:World} {a0:Act} {start:List Nat} {gs:List (Nat×Bool)} {us:List Nat} {n m:Nat} {zer:TypeId→Array Value}
structure I8 (zer:TypeId→Array Value) (ops:Array Oper) (E:List (Nat×aa)) (X:List Nat) (w0:World) (a0:Act) (start:List Nat) (n m:Nat) (La:List Nat) (listed:Array Bool) (a:Act) (w:World):Prop where
 size:a.tmps.size=n
 defers:a.defers=a0.defers
 below:Below w0.heap.size w0 w
 rest:∀ s,s ∉ (ops.toList.take m).map aK→a.tmps.getD s undef=a0.tmps.getD s undef
 start:∀ s∈start,(lj E s).holds (La++X) w (a.tmps.getD s undef)
 done:∀ (i:Nat) (o:Oper),i<m→ops[i]? =some o→listed.getD i false=true→(lj E (aK o)).holds (La++X) w (a.tmps.getD (aK o) undef)
 len:listed.size=ops.size
 last:∀ i,m≤i→i<ops.size→listed.getD i true=false
 closed:∀ (i:Nat) (o:Oper),i<m→ops[i]? =some o→listed.getD i false=true→∀ e∈o.after.toList,Region.binds .any e=true→listed.getD e.on false=true
 fresh:∀ (i:Nat) (o:Oper) (T:TypeId),i<m→ops[i]? =some o→o.op= .alloc T→o.guard=none→listed.getD i false=true→∃ r,a.tmps.getD (aK o) undef= .pointer (some ⟨r,0,none⟩)∧r<w.heap.size∧r∈La∧w.heap[r]? =some (.cells (zer T) T (0,0))
 ext:∀ b∈La,w0.heap.size≤b∧b<w.heap.size
 apart:∀ (i j:Nat) (o o':Oper) (T T':TypeId),i<m→j<m→i≠j→ops[i]? =some o→ops[j]? =some o'→o.op= .alloc T→o'.op= .alloc T'→o.guard=none→o'.guard=none→listed.getD i false=true→listed.getD j false=true→a.tmps.getD (aK o) undef≠a.tmps.getD (aK o') undef
theorem y7 (hck:io ops (E.map Prod.fst) start gs us n m=true) (hus:jr E us) (hgs:gS E gs) (hok:lg P ops gs E X w0 (ops.toList.take m)) (hal:pN P zer (ops.toList.take m)) (hoa:∀ o∈ops.toList.take m,∀ T,o.op= .alloc T→∀ d,aK o=d→lj E d=aa.any) (hn:a0.tmps.size=n)
 (hfin:∀ v w' La,(∀ b∈La,w0.heap.size≤b∧b<w'.heap.size)→(∀ o∈ops.toList.take m,(lj E (aK o)).holds (La++X) w' (v (aK o)))→ql (ops.toList.take m) v→(∀ o∈ops.toList.take m,∀ T,o.op= .alloc T→o.guard=none→∃ r,v (aK o)= .pointer (some ⟨r,0,none⟩)∧r∈La∧w'.heap[r]? =some (.cells (zer T) T (0,0)))→Below w0.heap.size w0 w'→wpList P ops Q (ops.toList.drop m) (bF a0 v ((ops.toList.take m).map aK)) w'):
 ∀ (fuel:Nat) (La:List Nat) (listed:Array Bool) (a:Act) (w:World),I8 zer ops E X w0 a0 start n m La listed a w→fJ listed.toList≤fuel→wpAny P .any ops Q fuel listed a w:=by
 unfold io at hck
 simp only [Bool.and_eq_true,List.all_eq_true] at hck
 obtain ⟨⟨⟨⟨hfr,hdis⟩,htl⟩,hmle⟩,_⟩:=hck
 have hms:m≤ops.size:=Nat.le_of_ble_eq_true hmle
 have hop:∀ (i:Nat) (o:Oper),i<m→ops[i]? =some o→fm ops (E.map Prod.fst) start gs us n i o=true∧∃ j,i<j∧j≤m∧jg ops j i=true:=by
  intro i o hi ho
  have:=hfr i (by simpa using hi)
  rw [ho] at this
  simp only [Bool.and_eq_true,List.any_eq_true,List.mem_range] at this
  obtain ⟨h1,j,hj,h2,h3⟩:=this
  exact ⟨h1,j,by rw [←Nat.blt_eq];exact h2,by omega,h3⟩
 have hch:∀ j,m≤j→j<ops.size→∃ o,ops[j]? =some o∧(∀ e∈o.after.toList,Region.binds .any e=true→e.on<j)∧(j=m∨jg ops j (j - 1)=true):=by
  intro j hj hjs
  have:=htl j (by simpa using hjs)
  obtain ⟨o,ho⟩:∃ o,ops[j]? =some o:=⟨_,Array.getElem?_eq_getElem hjs⟩
  rw [ho] at this
  simp only [Bool.or_eq_true,Bool.and_eq_true,List.all_eq_true,Bool.not_eq_true'] at this
  rcases this with h|⟨⟨_,h1⟩,h2⟩
  ·have:j<m:=by rw [←Nat.blt_eq];exact h
   omega
  ·refine ⟨o,ho,fun e he hb=> ?_,?_⟩
   ·rcases h1 e he with h|h
    ·rw [hb] at h;cases h
    ·rw [←Nat.blt_eq];exact h
   ·rcases h2 with h|h
    ·exact .inl (Nat.eq_of_beq_eq_true h)
    ·exact .inr h
 have hd:∀ (i:Nat) (o:Oper),i<m→ops[i]? =some o→∃ d,o.dst=some d∧d<n∧d ∉ start∧aK o=d:=by
  intro i o hi ho
  have:=(hop i o hi ho).1
  unfold fm at this
  simp only [Bool.and_eq_true] at this
  obtain ⟨⟨⟨h1,_⟩,_⟩,_⟩:=this
  cases hdo:o.dst with
  |none=>rw [hdo] at h1;simp at h1
  |some d=>
   rw [hdo] at h1
   simp only [Bool.and_eq_true,Bool.not_eq_true',List.elem_eq_mem,decide_eq_false_iff_not] at h1
   exact ⟨d,rfl,by rw [←Nat.blt_eq];exact h1.1,h1.2,by unfold aK;rw [hdo];rfl⟩
 have hdist:∀ (i j:Nat) (o o':Oper),i<m→j<m→ops[i]? =some o→ops[j]? =some o'→aK o=aK o'→i=j:=by
  intro i j o o' hi hj ho ho' he
  refine gc hdis i j (aK o) ?_ ?_
  ·rw [List.getElem?_map,List.getElem?_take,if_pos hi,Array.getElem?_toList,ho];rfl
  ·rw [List.getElem?_map,List.getElem?_take,if_pos hj,Array.getElem?_toList,ho',he];rfl
 have hon:∀ (i:Nat) (o:Oper),i<m→ops[i]? =some o→∀ e∈o.after.toList,Region.binds .any e=true→e.on<i:=by
  intro i o hi ho e he hb
  have:=(hop i o hi ho).1
  unfold fm at this
  simp only [Bool.and_eq_true,List.all_eq_true] at this
  have:=this.2 e he
  simp only [Bool.or_eq_true,Bool.not_eq_true'] at this
  rcases this with h|h
  ·rw [hb] at h;cases h
  ·rw [←Nat.blt_eq];exact h
 have hend:∀ (fuel:Nat) (La:List Nat) (listed:Array Bool) (a:Act) (w:World),I8 zer ops E X w0 a0 start n m La listed a w→(∀ i,i<m→listed.getD i false=true)→fJ listed.toList≤fuel→wpAny P .any ops Q fuel listed a w:=by
  intro fuel La listed a w hI hall hf
  have hds:∀ d∈(ops.toList.take m).map aK,d<a0.tmps.size:=by
   intro d hdm
   obtain ⟨o,ho,rfl⟩:=List.mem_map.1 hdm
   obtain ⟨j,hj,hoj⟩:=fV.1 ho
   obtain ⟨d,_,h2,_,h4⟩:=hd j o hj hoj
   rw [h4,hn];exact h2
  have he:a=bF a0 (fun s=>a.tmps.getD s undef) ((ops.toList.take m).map aK):=by
   refine pD (by rw [fX,hI.size,hn]) (by rw [eY,hI.defers]) fun s=> ?_
   by_cases hs:s∈(ops.toList.take m).map aK
   ·rw [gF _ _ _ _ hds (.inl hs)]
   ·rw [gz _ _ _ _ hds hs,hI.rest s hs]
  have hlast:=hfin (fun s=>a.tmps.getD s undef) w La hI.ext (fun o ho=>by
   obtain ⟨j,hj,hoj⟩:=fV.1 ho
   exact hI.done j o hj hoj (hall j hj)) (fun i j o o' T T' hne hi hj hT hT' hg hg'=>by
    have hi':i<m∧ops[i]? =some o:=by
     rw [List.getElem?_take] at hi
     split at hi
     ·exact ⟨by assumption,by rw [←Array.getElem?_toList];exact hi⟩
     ·cases hi
    have hj':j<m∧ops[j]? =some o':=by
     rw [List.getElem?_take] at hj
     split at hj
     ·exact ⟨by assumption,by rw [←Array.getElem?_toList];exact hj⟩
     ·cases hj
    exact hI.apart i j o o' T T' hi'.1 hj'.1 hne hi'.2 hj'.2 hT hT' hg hg' (hall i hi'.1) (hall j hj'.1)) (fun o ho T hT hg=>by
    obtain ⟨j,hj,hoj⟩:=fV.1 ho
    obtain ⟨r,e1,_,e3,e4⟩:=hI.fresh j o T hj hoj hT hg (hall j hj)
    exact ⟨r,e1,e3,e4⟩) hI.below
  rw [←he] at hlast
  exact oI hch fuel m listed a w (Nat.le_refl _) hms hI.len hall hI.last hf hlast
 intro fuel
 induction fuel with
 |zero=>
  intro La listed a w hI hf
  by_cases hall:∀ i,i<m→listed.getD i false=true
  ·exact hend 0 La listed a w hI hall hf
  ·exfalso
   refine hall fun i hi=> ?_
   have hls:i<listed.size:=by rw [hI.len];omega
   cases h:listed.getD i true with
   |true=>exact pC hls h
   |false=>
    have:=gJ _ _ (ik hls h)
    omega
 |succ fuel ih=>
  intro La listed a w hI hf
  by_cases hall:∀ i,i<m→listed.getD i false=true
  ·exact hend (fuel+1) La listed a w hI hall hf
  ·refine ⟨fun hr=> ?_,fun i hi=> ?_⟩
   ·exfalso
    refine hall fun i=> ?_
    induction i using Nat.strongRecOn with
    |_ i ihh=>
     intro hi
     have hls:i<listed.size:=by rw [hI.len];omega
     cases h:listed.getD i true with
     |true=>exact pC hls h
     |false=>
      exfalso
      obtain ⟨o,ho⟩:∃ o,ops[i]? =some o:=⟨_,Array.getElem?_eq_getElem qO⟩
      have:=qB ho h (fun e he hb=>ihh e.on (hon i o hi ho e he hb) (by have:=hon i o hi ho e he hb;omega))
      rw [hr] at this
      cases this
   ·obtain ⟨hlt,hl,haf⟩:=iV hI.len hi
    have hi':i<listed.size:=by rw [hI.len];exact hlt
    obtain ⟨o,ho⟩:∃ o,ops[i]? =some o:=⟨_,Array.getElem?_eq_getElem hlt⟩
    have hilt:i<m:=by
     rcases Nat.lt_or_ge i m with h|h
     ·exact h
     ·exfalso
      rcases Nat.lt_or_eq_of_le h with h|h
      ·obtain ⟨o',ho',_,hor⟩:=hch i qO hlt
       rcases hor with h'|h'
       ·omega
       ·obtain ⟨o2,ho2,e,he,hb,heon⟩:=fY h'
        have:=haf o2 ho2 e he hb
        rw [heon,nG (hI.last (i - 1) qO qO)] at this
        cases this
      ·subst h
       refine hall ?_
       have key:∀ d i,i<m→m - i≤d→listed.getD i false=true:=by
        intro d
        induction d with
        |zero=>intro i hi hd;omega
        |succ d ihd=>
         intro i hi hd
         obtain ⟨oi,hoi⟩:∃ oi,ops[i]? =some oi:=⟨_,Array.getElem?_eq_getElem qO⟩
         obtain ⟨_,j,hij,hjm,hw⟩:=hop i oi hi hoi
         obtain ⟨oj,hoj,e,he,hb,heon⟩:=fY hw
         rw [←heon]
         rcases Nat.lt_or_eq_of_le hjm with h|h
         ·exact hI.closed j oj h hoj (ihd j h qO) e he hb
         ·subst h
          exact haf oj hoj e he hb
       exact fun i hi=>key (m - i) i hi (Nat.le_refl _)
    have hchk:=(hop i o hilt ho).1
    unfold fm at hchk
    simp only [Bool.and_eq_true] at hchk
    obtain ⟨⟨⟨hc1,hc2⟩,hc3⟩,hc4⟩:=hchk
    have hwait:∀ e∈o.after.toList,Region.binds .any e=true→∀ oe,ops[e.on]? =some oe→(lj E (aK oe)).holds (La++X) w (a.tmps.getD (aK oe) undef):=by
     intro e he hb oe hoe
     exact hI.done _ _ (by have:=hon i o hilt ho e he hb;omega) hoe (haf o ho e he hb)
    obtain ⟨d,hd1,hd2,hd3,hd4⟩:=hd i o hilt ho
    have hsz:d<a.tmps.size:=by rw [hI.size];exact hd2
    have hof:o∈ops.toList.take m:=fV.2 ⟨i,hilt,ho⟩
    have hnext:∀ (v:Value) (w':World) (Lb:List Nat),(∀ b∈La,b∈Lb)→(∀ b∈Lb,b∈La∨(w.heap.size≤b∧b<w'.heap.size))→(lj E d).holds (Lb++X) w' v→Below w.heap.size w w'→(∀ T,o.op= .alloc T→o.guard=none→v= .pointer (some ⟨w.heap.size,0,none⟩)∧w.heap.size<w'.heap.size∧w.heap.size∈Lb∧w'.heap[w.heap.size]? =some (.cells (zer T) T (0,0)))→wpAny P .any ops Q fuel (listed.setIfInBounds i true) (a.put (some d) v) w':=by
     intro v w' Lb hLs hLn hT hB hA
     have hst:∀ {s:Nat} {u:Value},(lj E s).holds (La++X) w u→(lj E s).holds (Lb++X) w' u:=fun {s u} h=>(lj E s).stable h (Below.keeps hB _) fun b hb hlt=>by
      rcases List.mem_append.1 hb with hb|hb
      ·rcases hLn b hb with h|h
       ·exact List.mem_append_left _ h
       ·omega
      ·exact List.mem_append_right _ hb
     have hold:∀ (j:Nat) (oj:Oper),j<m→j≠i→ops[j]? =some oj→(a.put (some d) v).tmps.getD (aK oj) undef=a.tmps.getD (aK oj) undef:=by
      intro j oj hjm hji hj
      have hne:aK oj≠d:=fun h=>hji (hdist j i oj o hjm hilt hj ho (by rw [h,hd4]))
      rw [bC _ _ _ _ hsz,if_neg hne]
     have hself:(a.put (some d) v).tmps.getD (aK o) undef=v:=by rw [hd4,bC _ _ _ _ hsz,if_pos rfl]
     refine ih Lb _ _ _ ⟨?_,?_,?_,?_,?_,?_,?_,?_,?_,?_,?_,?_⟩ ?_
     ·simp [Act.put,hI.size]
     ·exact hI.defers
     ·exact hI.below.trans (hB.mono hI.below.size)
     ·intro s hs
      rw [bC _ _ _ _ hsz,if_neg,hI.rest s hs]
      rintro rfl
      exact hs (List.mem_map.2 ⟨o,hof,hd4⟩)
     ·intro s hs
      rw [bC _ _ _ _ hsz,if_neg]
      ·exact hst (hI.start s hs)
      ·rintro rfl
       exact hd3 hs
     ·intro j oj hjm hj hlj
      by_cases hji:j=i
      ·subst hji
       rw [ho] at hj
       injection hj with hj
       subst hj
       rw [hd4,bC _ _ _ _ hsz,if_pos rfl]
       exact hT
      ·have hne:aK oj≠d:=fun h=>hji (hdist j i oj o hjm hilt hj ho (by rw [h,hd4]))
       rw [bC _ _ _ _ hsz,if_neg hne]
       refine hst (hI.done j oj hjm hj ?_)
       rw [cT hji] at hlj
       exact hlj
     ·simp [hI.len]
     ·intro j hj hjs
      rw [cT qO]
      exact hI.last j hj hjs
     ·intro j oj hjm hj hlj e he hb
      by_cases hji:j=i
      ·subst hji
       rw [ho] at hj
       injection hj with hj
       subst hj
       have h1:=hon j o hjm ho e he hb
       rw [cT qO]
       exact haf o ho e he hb
      ·rw [cT hji] at hlj
       have h1:=hI.closed j oj hjm hj hlj e he hb
       by_cases hei:e.on=i
       ·rw [hei];exact tO hi'
       ·rw [cT hei];exact h1
     ·intro j oj T hjm hj hop hgd hlj
      by_cases hji:j=i
      ·subst hji
       rw [ho] at hj
       injection hj with hj
       subst hj
       obtain ⟨e1,e2,e3,e4⟩:=hA T hop hgd
       exact ⟨_,hself.trans e1,e2,e3,e4⟩
      ·rw [cT hji] at hlj
       obtain ⟨r,e1,e2,e3,e4⟩:=hI.fresh j oj T hjm hj hop hgd hlj
       exact ⟨r,(hold j oj hjm hji hj).trans e1,Nat.lt_of_lt_of_le e2 hB.size,hLs r e3,(hB.block r e2).trans e4⟩
     ·intro b hb
      rcases hLn b hb with h|h
      ·have:=hI.ext b h
       exact ⟨this.1,Nat.lt_of_lt_of_le this.2 hB.size⟩
      ·exact ⟨Nat.le_trans hI.below.size h.1,h.2⟩
     ·intro j k oj ok T T' hjm hkm hjk hj hk hop hop' hgd hgd' hlj hlk
      by_cases hji:j=i
      ·subst hji
       rw [ho] at hj
       injection hj with hj
       subst hj
       have hkj:k≠j:=fun h=>hjk h.symm
       rw [cT hkj] at hlk
       obtain ⟨r,e1,e2,_⟩:=hI.fresh k ok T' hkm hk hop' hgd' hlk
       rw [hself,hold k ok hkm hkj hk,e1,(hA T hop hgd).1]
       intro h
       injection h with h
       injection h with h
       injection h with h
       omega
      ·by_cases hki:k=i
       ·subst hki
        rw [ho] at hk
        injection hk with hk
        subst hk
        rw [cT hji] at hlj
        obtain ⟨r,e1,e2,_⟩:=hI.fresh j oj T hjm hj hop hgd hlj
        rw [hself,hold j oj hjm hji hj,e1,(hA T' hop' hgd').1]
        intro h
        injection h with h
        injection h with h
        injection h with h
        omega
       ·rw [cT hji] at hlj
        rw [cT hki] at hlk
        rw [hold j oj hjm hji hj,hold k ok hkm hki hk]
        exact hI.apart j k oj ok T T' hjm hkm hjk hj hk hop hop' hgd hgd' hlj hlk
     ·have:=gH _ _ (ik hi' hl)
      rw [Array.toList_setIfInBounds]
      omega
    have hgv:∀ g want,o.guard=some (g,want)→(∃ og dg,ops[g]? =some og∧og.dst=some dg∧a.tmps[dg]? =some (.bool want)∧gs.elem (dg,want)=true)∨(Region.wanted o (yielded ops a.tmps)=false∧∀ Y W,(lj E (aK o)).holds Y W undef):=by
     intro g want hg
     rw [hg] at hc3
     simp only [Bool.and_eq_true,List.any_eq_true] at hc3
     obtain ⟨h1,e,he,hb,heg⟩:=hc3
     have heg':e.on=g:=Nat.eq_of_beq_eq_true heg
     have hgi:=hon i o hilt ho e he hb
     cases hog:ops[g]? with
     |none=>rw [hog] at h1;simp at h1
     |some og=>
      rw [hog] at h1
      obtain ⟨dg,hdg1,hdg2,_,hdg4⟩:=hd g og qO hog
      rw [Option.bind_some,hdg1] at h1
      simp only [Bool.or_eq_true,Bool.and_eq_true,Bool.not_eq_true'] at h1
      have hv:=hwait e he hb og (by rw [heg'];exact hog)
      rw [hdg4] at hv
      have hsg:dg<a.tmps.size:=by rw [hI.size];exact hdg2
      have hval:∀ b,gs.elem (dg,b)=true→a.tmps[dg]? =some (.bool b):=by
       intro b hb'
       have:=hgs.mem (dg,b) (by simpa using hb') _ _ _ hv
       rw [Array.getD_eq_getD_getElem?,Array.getElem?_eq_getElem hsg] at this
       rw [Array.getElem?_eq_getElem hsg]
       simpa using this
      rcases h1 with h1|⟨h1,h2⟩
      ·exact .inl ⟨og,dg,rfl,hdg1,hval _ h1,h1⟩
      ·refine .inr ⟨?_,fun Y W=> ?_⟩
       ·rcases h1 with h1|h1
        ·have hget:=hval _ h1
         unfold Region.wanted;rw [hg];simp [yielded,hog,hdg1,hget]
        ·have hu:=hus.mem dg (by simpa using h1)
         rw [hu] at hv
         have hget:a.tmps[dg]? =some undef:=by
                    have hv':a.tmps.getD dg undef=undef:=hv
                    rw [Array.getD_eq_getD_getElem?,Array.getElem?_eq_getElem hsg] at hv'
                    rw [Array.getElem?_eq_getElem hsg]
                    simpa using hv'
         unfold Region.wanted;rw [hg];simp [yielded,hog,hdg1,hget,undef]
       ·rcases h2 with h2|h2
        ·rw [pK h2];trivial
        ·rw [hus.mem _ (by simpa using h2)];rfl
    have hrun:i_ ops gs o=true→Region.wanted o (yielded ops a.tmps)=true→wpOp P ops Q i (wpAny P .any ops Q fuel (listed.setIfInBounds i true)) a w:=by
     intro hr hw
     unfold wpOp
     simp only [ho]
     rw [if_pos hw]
     left
     have hslots:∀ s, .tmp s∈o.op.operands.toList→(lj E s).holds (La++X) w (a.eval (.tmp s)):=by
      intro s hs
      have:=List.all_eq_true.1 hc2 _ hs
      simp only [Bool.or_eq_true,List.any_eq_true,Bool.and_eq_true,Bool.not_eq_true'] at this
      rcases this with (h|h)|⟨e,he,hb,heq⟩
      ·rw [pK h];trivial
      ·exact hI.start s (by simpa using h)
      ·have heq':(ops[e.on]?).bind (·.dst)=some s:=by simpa using heq
       cases hoe:ops[e.on]? with
       |none=>rw [hoe] at heq';cases heq'
       |some oe=>
        rw [hoe] at heq'
        have h1:=hwait e he hb oe hoe
        obtain ⟨d',hd1',_,_,hd4'⟩:=hd _ oe (by have:=hon i o hilt ho e he hb;omega) hoe
        have:d'=s:=by
         have h2:oe.dst=some s:=heq'
         rw [hd1'] at h2
         injection h2
        subst this
        rw [hd4'] at h1
        exact h1
     have hy:=(hok.mem o hof hr) La a.eval w (fun _=>rfl) (fun _=>rfl) hI.ext hI.below hslots
     have hy2:Yields P o a.eval w fun v w'=>((lj E (aK o)).holds (La++X) w' v∧Below w.heap.size w w')∧∀ T,o.op= .alloc T→v= .pointer (some ⟨w.heap.size,0,none⟩)∧w.heap.size<w'.heap.size∧w'.heap[w.heap.size]? =some (.cells (zer T) T (0,0)):=by
      by_cases hex:∃ T,o.op= .alloc T
      ·obtain ⟨T,hT⟩:=hex
       obtain ⟨w1,hr1,hz1,hz2⟩:=hal.mem o hof T hT a.eval w
       have h:=hy
       unfold Yields at h ⊢
       rw [hr1] at h ⊢
       refine ⟨h,fun T' hT'=>⟨rfl,hz1,?_⟩⟩
       rw [hT] at hT'
       injection hT' with hT'
       rw [←hT']
       exact hz2
      ·have hno:∀ T,o.op= .alloc T→False:=fun T h=>hex ⟨T,h⟩
       unfold Yields at hy ⊢
       generalize (execOp a.eval o).run P w=rr at hy ⊢
       split at hy
       ·exact ⟨hy,fun T h=>(hno T h).elim⟩
       ·refine Calls.mono hy ?_
        rintro e w'' ⟨v,rfl,hk⟩
        exact ⟨v,rfl,hk,fun T h=>(hno T h).elim⟩
       ·exact hy.elim
     refine Oper.wp_mono (fun a' w' h=> ?_) hy2.wp
     obtain ⟨v,rfl,⟨hT,hB⟩,hA⟩:=h
     rw [hd1]
     rw [hd4] at hT
     by_cases hex:∃ T,o.op= .alloc T
     ·obtain ⟨T,hTo⟩:=hex
      obtain ⟨h1,h2,h3⟩:=hA T hTo
      refine hnext v w' (w.heap.size::La) (fun b hb=>List.mem_cons_of_mem _ hb) (fun b hb=> ?_) ?_ hB (fun T' h _=> ?_)
      ·rcases List.mem_cons.1 hb with rfl|hb
       ·exact .inr ⟨Nat.le_refl _,h2⟩
       ·exact .inl hb
      ·rw [Co (hoa o hof T hTo d hd4)];trivial
      ·obtain ⟨g1,g2,g3⟩:=hA T' h
       exact ⟨g1,g2,List.mem_cons_self,g3⟩
     ·exact hnext v w' La (fun _ h=>h) (fun _ h=> .inl h) hT hB (fun T h _=>(hex ⟨T,h⟩).elim)
    cases hg:o.guard with
    |none=>exact hrun (by unfold i_;rw [hg]) (by unfold Region.wanted;rw [hg])
    |some p=>
     obtain ⟨g,want⟩:=p
     rcases hgv g want hg with ⟨og,dg,hog,hdg,hget,hgs1⟩|⟨hw,hkey⟩
     ·refine hrun ?_ ?_
      ·unfold i_;rw [hg];simp only [hog,Option.bind_some,hdg,hgs1]
      ·unfold Region.wanted;rw [hg];simp [yielded,hog,hdg,hget]
     ·unfold wpOp
      simp only [ho]
      rw [if_neg (by rw [hw];exact Bool.false_ne_true),hd1]
      rw [hd4] at hkey
      exact hnext undef w La (fun _ h=>h) (fun _ h=> .inl h) (hkey _ w) (Below.refl _ _) (fun T _ hgn=>by rw [hg] at hgn;cases hgn)
theorem rl {l:List Oper} {w:World} {zer:TypeId→Array Value} (E:List (Nat×aa)) (X start:List Nat) (gs:List (Nat×Bool)) (us:List Nat) (n m:Nat) (hck:io l.toArray (E.map Prod.fst) start gs us n m=true) (hus:jr E us) (hn:a0.tmps.size=n) (hgs:gS E gs)
 (hX:∀ b∈X,b<w.heap.size) (hst:∀ s∈start,(lj E s).holds X w (a0.tmps.getD s undef)) (hok:lg P l.toArray gs E X w (l.take m)) (hal:pN P zer (l.take m)) (hoa:∀ o∈l.take m,∀ T,o.op= .alloc T→∀ d,aK o=d→lj E d=aa.any)
 (hfin:∀ v w' La,(∀ b∈La,w.heap.size≤b∧b<w'.heap.size)→(∀ o∈l.take m,(lj E (aK o)).holds (La++X) w' (v (aK o)))→ql (l.take m) v→(∀ o∈l.take m,∀ T,o.op= .alloc T→o.guard=none→∃ r,v (aK o)= .pointer (some ⟨r,0,none⟩)∧r∈La∧w'.heap[r]? =some (.cells (zer T) T (0,0)))→Below w.heap.size w w'→wpList P l.toArray Q (l.drop m) (bF a0 v ((l.take m).map aK)) w'):
 wpAny P .any l.toArray Q l.toArray.size (Array.replicate l.toArray.size false) a0 { w with drawn:=w.drawn+1 }:=by
 have hb:Below w.heap.size w w.drew:=(Below.refl _ _).drew
 have hno:∀ i,(Array.replicate l.toArray.size false).getD i false=true→False:=by
  intro i hl
  rw [Array.getD_eq_getD_getElem?] at hl
  cases h:(Array.replicate l.toArray.size false)[i]? with
  |none=>rw [h] at hl;cases hl
  |some b=>
   have:=Array.mem_of_getElem? h
   simp at this
   rw [h,this.2] at hl
   cases hl
 refine y7 (w0:=w) (zer:=zer) (X:=X) hck hus hgs (by simpa using hok) (by simpa using hal) (by simpa using hoa) hn (fun v w' La hx h ha hz hb=>by simpa using hfin v w' La hx (by simpa using h) (by simpa using ha) (by simpa using hz) hb) _ [] _ _ _ ⟨hn,rfl,hb,fun _ _=>rfl,fun s hs=>(lj E s).stable (hst s hs) (Below.keeps hb _) (fun _ h _=>h),fun i o _ _ hl=>(hno i hl).elim,by simp,?_,fun i o _ _ hl=>(hno i hl).elim,fun i _ _ _ _ _ _ hl=>(hno i hl).elim,(fun b hb=>by cases hb),fun i _ _ _ _ _ _ _ _ _ _ _ _ _ _ hl=>(hno i hl).elim⟩ ?_
 ·intro i _ hi
  rw [Array.getD_eq_getD_getElem?,Array.getElem?_replicate,if_pos hi]
  rfl
 ·simpa using jG l.toArray.size
end
open Classical in
noncomputable def CC (P:Program) (T:TypeId):Array Value:=if h:∃ Z,cQ P T Z then h.choose_spec.ok.choose.cells else #[]
theorem i6 (w:World) (o:Obj):(w.alloc o).heap[w.heap.size]? =some o:=heap_alloc_new _ _
theorem zh{o o':Obj} (h:w.alloc o=w.alloc o'):o=o':=by
 have:=i6 w o
 rw [h,i6] at this
 injection this with this
 exact this.symm
theorem vv{T:TypeId} {Z:aa} (z:cQ P T Z):∃ v:Value,v.cells=CC P T∧(∀ X w,Z.holds X w v)∧∀ (o:Oper) (ρ:Operand→Value) (w:World),o.op= .alloc T→(execOp ρ o).run P w= .ok (.value (.pointer (some ⟨w.heap.size,0,none⟩))) (w.alloc (.cells v.cells T)):=by
 obtain ⟨v,h1,h2⟩:=z.ok
 refine ⟨v,?_,h1,h2⟩
 have hex:∃ Z,cQ P T Z:=⟨Z,z⟩
 unfold CC
 rw [dif_pos hex]
 have g:=hex.choose_spec.ok.choose_spec.2
 generalize hex.choose_spec.ok.choose=u at g
 have e1 := h2 ⟨none, .alloc T, 0, "", #[], none⟩ (fun _ => .bool true) (default : World) rfl
 have e2 := g ⟨none, .alloc T, 0, "", #[], none⟩ (fun _ => .bool true) (default : World) rfl
 rw [e1] at e2
 injection e2 with _ e2
 have e3:=zh e2
 injection e3
section
variable {P:Program} {w00:World} {X:List Nat} {L:List Loc} {N:Nat} {ops:Array Oper} {gs:List (Nat×Bool)}
theorem d8.sub{E E' al:List (Nat×aa)} (h:d8 P w00 N L ops gs E l E' al):∀ p∈E,p∈E':=by
 induction h with
 |nil=>exact fun _ h=>h
 |cons _ _ _ _ ih=>exact fun p hp=>ih p (List.mem_cons_of_mem _ hp)
 |alloc _ _ ih=>exact ih
 |skip _ _ _ ih=>exact ih
 |undef _ _ _ _ ih=>exact fun p hp=>ih p (List.mem_cons_of_mem _ hp)
theorem d8.new{E E' al:List (Nat×aa)} (h:d8 P w00 N L ops gs E l E' al):∀ p∈E',p∈E∨∃ o∈l,aK o=p.1:=by
 induction h with
 |nil=>exact fun _ h=> .inl h
 | @cons E E' o os T al d _ _ hd _ ih=>
  intro p hp
  rcases ih p hp with h|⟨q,h,h'⟩
  ·rcases List.mem_cons.1 h with rfl|h
   ·exact .inr ⟨o,List.mem_cons_self,by unfold aK;rw [hd];rfl⟩
   ·exact .inl h
  ·exact .inr ⟨q,List.mem_cons_of_mem _ h,h'⟩
 |alloc _ _ ih=>
  intro p hp
  rcases ih p hp with h|⟨q,h,h'⟩
  ·exact .inl h
  ·exact .inr ⟨q,List.mem_cons_of_mem _ h,h'⟩
 |skip _ _ _ ih=>
  intro p hp
  rcases ih p hp with h|⟨q,h,h'⟩
  ·exact .inl h
  ·exact .inr ⟨q,List.mem_cons_of_mem _ h,h'⟩
 | @undef E E' o os al d _ _ hd _ ih=>
  intro p hp
  rcases ih p hp with h|⟨q,h,h'⟩
  ·rcases List.mem_cons.1 h with rfl|h
   ·exact .inr ⟨o,List.mem_cons_self,by unfold aK;rw [hd];rfl⟩
   ·exact .inl h
  ·exact .inr ⟨q,List.mem_cons_of_mem _ h,h'⟩
theorem d8.alo{E E' al:List (Nat×aa)} (h:d8 P w00 N L ops gs E l E' al):∀ p∈al,∃ o∈l,∃ T,o.op= .alloc T∧o.dst=some p.1∧o.guard=none∧cQ P T p.2:=by
 induction h with
 |nil=>exact fun _ h=>by cases h
 |cons _ _ _ _ ih=>exact fun p hp=>let ⟨o,h1,h2⟩:=ih p hp;⟨o,List.mem_cons_of_mem _ h1,h2⟩
 | @alloc E E' os al d T ty pos af Z z _ ih=>
  intro p hp
  rcases List.mem_cons.1 hp with rfl|hp
  ·exact ⟨_,List.mem_cons_self,T,rfl,rfl,rfl,z⟩
  ·obtain ⟨o,h1,h2⟩:=ih p hp
   exact ⟨o,List.mem_cons_of_mem _ h1,h2⟩
 |skip _ _ _ ih=>exact fun p hp=>let ⟨o,h1,h2⟩:=ih p hp;⟨o,List.mem_cons_of_mem _ h1,h2⟩
 |undef _ _ _ _ ih=>exact fun p hp=>let ⟨o,h1,h2⟩:=ih p hp;⟨o,List.mem_cons_of_mem _ h1,h2⟩
theorem d8.allocs{E E' al:List (Nat×aa)} (h:d8 P w00 N L ops gs E l E' al):∀ o∈l,∀ T,o.op= .alloc T→(aK o∈al.map Prod.fst)∧∃ Z,cQ P T Z:=by
 induction h with
 |nil=>exact fun _ h=>by cases h
 |cons _ hno _ _ ih=>
  intro o ho T hT
  rcases List.mem_cons.1 ho with rfl|ho
  ·exact absurd hT (hno T)
  ·exact ih o ho T hT
 | @alloc E E' os al d T' ty pos af Z z _ ih=>
  intro o ho T hT
  rcases List.mem_cons.1 ho with rfl|ho
  ·injection hT with hT
   subst hT
   exact ⟨by simp [aK],Z,z⟩
  ·obtain ⟨h1,h2⟩:=ih o ho T hT
   exact ⟨by rw [List.map_cons];exact List.mem_cons_of_mem _ h1,h2⟩
 |skip _ hno _ ih=>
  intro o ho T hT
  rcases List.mem_cons.1 ho with rfl|ho
  ·exact absurd hT (hno T)
  ·exact ih o ho T hT
 |undef _ hno _ _ ih=>
  intro o ho T hT
  rcases List.mem_cons.1 ho with rfl|ho
  ·exact absurd hT (hno T)
  ·exact ih o ho T hT
theorem d8.steps{E E' al:List (Nat×aa)} (h:d8 P w00 N L ops gs E l E' al) {F:List (Nat×aa)} (hF:∀ p∈E',p∈F) (hn:(F.map Prod.fst).Nodup) (hd:∀ d∈al.map Prod.fst,lj F d=aa.any) {w0:World} (hm:vM w00 X L w0) (hN:N=w0.heap.size):lg P ops gs F X w0 l:=by
 induction h with
 |nil=>exact fun _ h=>by cases h
 | @cons E E' o os T al d hs hno hdo t ih=>
  intro o' ho' hr
  rcases List.mem_cons.1 ho' with rfl|ho'
  ·intro La ρ w hc hf hLa hb hsl
   have hdd:aK o'=d:=by unfold aK;rw [hdo];rfl
   have hT:lj F (aK o')=T:=by rw [hdd];exact kj (p:=(d,T)) hn (hF _ (t.sub _ List.mem_cons_self))
   rw [hT]
   refine hs.run (La++X) ρ w hc hf (by rw [hN];exact hb.size) (hm.step hb (fun b h=>List.mem_append_right _ h) fun b h=> ?_) fun p hp ho=> ?_
   ·rcases List.mem_append.1 h with h|h
    ·exact .inr (hLa b h)
    ·exact .inl h
   ·have:=hsl _ ho
    rw [kj hn (hF p (t.sub p (List.mem_cons_of_mem _ hp)))] at this
    exact this
  ·exact ih hF hd o' ho' hr
 | @alloc E E' os al d T ty pos af Z z t ih=>
  intro o' ho' hr
  rcases List.mem_cons.1 ho' with rfl|ho'
  ·intro La ρ w hc hf hLa hb hsl
   have hT:lj F d=aa.any:=hd d qE
   obtain ⟨v,_,hrun⟩:=z.ok
   have hr':=hrun ⟨some d, .alloc T,ty,pos,af,none⟩ ρ w rfl
   unfold Yields
   rw [hr']
   show (lj F d).holds _ _ _∧_
   rw [hT]
   exact ⟨trivial,(Below.refl _ _).alloc (Nat.le_refl _) _⟩
  ·exact ih hF (fun d' h'=>hd d' (by rw [List.map_cons];exact List.mem_cons_of_mem _ h')) o' ho' hr
 |skip h hno t ih=>
  intro o' ho' hr
  rcases List.mem_cons.1 ho' with rfl|ho'
  ·rw [h] at hr;cases hr
  ·exact ih hF hd o' ho' hr
 |undef h hno _ t ih=>
  intro o' ho' hr
  rcases List.mem_cons.1 ho' with rfl|ho'
  ·rw [h] at hr;cases hr
  ·exact ih hF hd o' ho' hr
end
theorem dM:∀ {l:List Nat},cn l=true→l.Nodup
 |[],_=>List.nodup_nil
 |x::l,h=>by
  unfold cn at h
  simp only [Bool.and_eq_true,Bool.not_eq_true'] at h
  refine List.nodup_cons.2 ⟨fun hm=> ?_,dM h.2⟩
  have:=h.1
  simp [hm] at this
class bG (E:List (Nat×aa)) (gs:List (Nat×Bool)):Prop where
 mem:∀ p∈gs,(p.1,aa.is (.bool p.2))∈E
instance bG.nil {E:List (Nat×aa)}:bG E []:=⟨fun _ h=>by cases h⟩
instance bG.cons {E:List (Nat×aa)} {d:Nat} {b:Bool} {gs:List (Nat×Bool)} [h:ck E d (.is (.bool b))] [t:bG E gs]:bG E ((d,b)::gs):=⟨fun p hp=>by
 rcases List.mem_cons.1 hp with rfl|hp
 ·exact h.mem
 ·exact t.mem p hp⟩
class bE (E:List (Nat×aa)) (us:List Nat):Prop where
 mem:∀ d∈us,(d,aa.is undef)∈E
instance bE.nil {E:List (Nat×aa)}:bE E []:=⟨fun _ h=>by cases h⟩
instance bE.cons {E:List (Nat×aa)} {d:Nat} {us:List Nat} [h:ck E d (.is undef)] [t:bE E us]:bE E (d::us):=⟨fun p hp=>by
 rcases List.mem_cons.1 hp with rfl|hp
 ·exact h.mem
 ·exact t.mem p hp⟩
theorem gS.of {E:List (Nat×aa)} (hn:(E.map Prod.fst).Nodup):∀ {gs:List (Nat×Bool)},(∀ p∈gs,(p.1,aa.is (.bool p.2))∈E)→gS E gs
 |[],_=>trivial
 |(d,b)::gs,h=>⟨fun X w v hv=>by
    have:=kj (p:=(d,aa.is (.bool b))) hn (h _ List.mem_cons_self)
    rw [this] at hv
    exact hv,gS.of hn fun p hp=>h p (List.mem_cons_of_mem _ hp)⟩
theorem jr.of {E:List (Nat×aa)} (hn:(E.map Prod.fst).Nodup):∀ {us:List Nat},(∀ d∈us,(d,aa.is undef)∈E)→jr E us
 |[],_=>trivial
 |d::us,h=>⟨kj (p:=(d,aa.is undef)) hn (h _ List.mem_cons_self),jr.of hn fun p hp=>h p (List.mem_cons_of_mem _ hp)⟩
def cf (r:Nat→Nat) (al:List (Nat×aa)) (X:List Nat):List Nat:=al.map (fun p=>r p.1)++X
def ci (r:Nat→Nat) (al:List (Nat×aa)) (L:List Loc):List Loc:=al.map (fun p=>(r p.1,p.2))++L
def cm (r:Nat→Nat) (al E:List (Nat×aa)):List (Nat×aa):=al.map (fun p=>(p.1, .is (.pointer (some ⟨r p.1,0,none⟩))))++E
section
variable {P:Program} {w00:World} {X:List Nat} {L:List Loc} {gs:List (Nat×Bool)} {us:List Nat} {Q:Exit→Act→World→Prop}
theorem uY {n:Nat} {l:List Oper} {E E' al:List (Nat×aa)} {a0:Act} {w:World} (h:TS w00 X L E n a0 w) (gs:List (Nat×Bool)) (us:List Nat) (m:Nat) (ht:d8 P w00 w.heap.size L l.toArray gs E (l.take m) E' al)
 (hc:(io l.toArray (E'.map Prod.fst) (E.map Prod.fst) gs us n m&&cn (E'.map Prod.fst)&&cn (al.map Prod.fst)&&(al.map Prod.fst).all (fun d=> !(E'.map Prod.fst).elem d))=true)
 (hg:bG E' gs) (hu:bE E' us) (hfin:∀ (r:Nat→Nat) a w,TS w00 (cf r al X) (ci r al L) (cm r al E') n a w→WL P l.toArray Q (l.drop m) a w):wpAny P .any l.toArray Q l.toArray.size (Array.replicate l.toArray.size false) a0 { w with drawn:=w.drawn+1 }:=by
 simp only [Bool.and_eq_true] at hc
 obtain ⟨⟨⟨hck,hd1⟩,hd2⟩,hd3⟩:=hc
 have hn:=dM hd1
 have hnA:=dM hd2
 have hany:∀ d∈al.map Prod.fst,lj E' d=aa.any:=fun d hd=>pK (by
  have:=List.all_eq_true.1 hd3 d hd
  simpa using this)
 have hall:=hck
 unfold io at hall
 simp only [Bool.and_eq_true,List.all_eq_true] at hall
 obtain ⟨⟨⟨⟨hfr,hdis⟩,_⟩,_⟩,_⟩:=hall
 have hop:∀ o∈l.take m,∃ d,o.dst=some d∧d<n∧d ∉ E.map Prod.fst∧aK o=d:=by
  intro o ho
  obtain ⟨i,hi⟩:=List.mem_iff_getElem?.1 ho
  rw [List.getElem?_take] at hi
  split at hi
  ·rename_i him
   have:=hfr i (by simpa using him)
   have e:l.toArray[i]? =some o:=by simpa using hi
   rw [e] at this
   simp only [Bool.and_eq_true] at this
   have h1:=this.1
   unfold fm at h1
   simp only [Bool.and_eq_true] at h1
   obtain ⟨⟨⟨h1,_⟩,_⟩,_⟩:=h1
   cases hdo:o.dst with
   |none=>rw [hdo] at h1;simp at h1
   |some d=>
    rw [hdo] at h1
    simp only [Bool.and_eq_true,Bool.not_eq_true',List.elem_eq_mem,decide_eq_false_iff_not] at h1
    exact ⟨d,rfl,by rw [←Nat.blt_eq];exact h1.1,h1.2,by unfold aK;rw [hdo];rfl⟩
  ·cases hi
 have hlk:∀ p∈E,lj E' p.1=p.2:=fun p hp=>kj hn (ht.sub p hp)
 refine rl (zer:=CC P) E' X (E.map Prod.fst) gs us n m hck (jr.of hn hu.mem) h.size (gS.of hn hg.mem) h.mem.far ?_ (ht.steps (fun _ h=>h) hn hany h.mem rfl) ?_ ?_ ?_
 ·intro s hs
  obtain ⟨p,hp,rfl⟩:=List.mem_map.1 hs
  rw [hlk p hp]
  exact h.slots p hp
 ·intro o ho T hT ρ w1
  obtain ⟨_,Z,z⟩:=ht.allocs o ho T hT
  obtain ⟨v,e1,_,e2⟩:=vv z
  refine ⟨_,e2 o ρ w1 hT,by rw [ak];exact Nat.lt_succ_self _,?_⟩
  rw [←e1]
  exact i6 _ _
 ·intro o ho T hT d hd
  rw [←hd]
  exact hany _ (ht.allocs o ho T hT).1
 ·intro v w' La hLa hsl hap hal hb
  have hex:∃ r:Nat→Nat,∀ p∈al,v p.1= .pointer (some ⟨r p.1,0,none⟩)∧r p.1∈La∧∃ u ty,(∀ X w,p.2.holds X w u)∧w'.heap[r p.1]? =some (.cells u.cells ty (0,0)):=by
   refine ⟨fun s=>match v s with| .pointer (some x)=>x.block|_=>0,fun p hp=> ?_⟩
   obtain ⟨o,ho,T,hT,hdo,hgo,z⟩:=ht.alo p hp
   obtain ⟨r,e1,e2,e3⟩:=hal o ho T hT hgo
   have e0:aK o=p.1:=by unfold aK;rw [hdo];rfl
   rw [e0] at e1
   obtain ⟨u,g1,g2,_⟩:=vv z
   have er:(match v p.1 with| .pointer (some x)=>x.block|_=>0)=r:=by rw [e1]
   simp only [er]
   exact ⟨e1,e2,u,T,g2,by rw [e3,g1]⟩
  obtain ⟨r,hr⟩:=hex
  have hds:∀ d∈(l.take m).map aK,d<a0.tmps.size:=by
   intro d hdm
   obtain ⟨o,ho,rfl⟩:=List.mem_map.1 hdm
   obtain ⟨d,_,h2,_,h4⟩:=hop o ho
   rw [h4,h.size];exact h2
  have hX':∀ b∈cf r al X,b∈La++X:=by
   intro b hb'
   rcases List.mem_append.1 hb' with h1|h1
   ·obtain ⟨p,hp,rfl⟩:=List.mem_map.1 h1
    exact List.mem_append_left _ (hr p hp).2.1
   ·exact List.mem_append_right _ h1
  have hkr:gr (La++X) w' w':=⟨Nat.le_refl _,fun _ _ _=>rfl⟩
  refine (hfin r _ _ ?_).out
  refine ⟨by rw [fX,h.size],by rw [eY,h.df],?_,?_⟩
  ·intro p hp
   rcases List.mem_append.1 hp with hp|hp
   ·obtain ⟨q,hq,rfl⟩:=List.mem_map.1 hp
    obtain ⟨o,ho,T,hT,hdo,_,_⟩:=ht.alo q hq
    have e0:aK o=q.1:=by unfold aK;rw [hdo];rfl
    rw [gF v _ _ _ hds (.inl (by rw [←e0];exact List.mem_map_of_mem ho))]
    exact (hr q hq).1
   ·rcases ht.new p hp with hE|⟨o,ho,e⟩
    ·have hno:p.1 ∉ (l.take m).map aK:=by
      intro hm'
      obtain ⟨o,ho,e⟩:=List.mem_map.1 hm'
      obtain ⟨d,_,_,h3,h4⟩:=hop o ho
      rw [h4] at e
      subst e
      exact h3 (List.mem_map_of_mem hE)
     rw [gz v _ _ _ hds hno]
     refine p.2.stable (h.slots p hE) (Below.keeps hb _) fun b hb' hlt=> ?_
     rcases List.mem_append.1 (hX' b hb') with g|g
     ·have:=hLa b g
      omega
     ·exact g
    ·rw [gF v _ _ _ hds (.inl (by rw [←e];exact List.mem_map_of_mem ho))]
     have:=hsl o ho
     rw [e,kj hn hp] at this
     exact p.2.stable this hkr fun b hb' _=>hX' b hb'
  ·have hm1:vM w00 (cf r al X) L w':=h.mem.step hb (fun b hb'=>List.mem_append_right _ hb') fun b hb'=>by
    rcases List.mem_append.1 hb' with g|g
    ·obtain ⟨p,hp,rfl⟩:=List.mem_map.1 g
     exact .inr (hLa _ (hr p hp).2.1)
    ·exact .inl g
   refine ⟨fun p hp=> ?_,hm1.far,?_,hm1.below⟩
   ·rcases List.mem_append.1 hp with hp|hp
    ·obtain ⟨q,hq,rfl⟩:=List.mem_map.1 hp
     obtain ⟨_,g1,u,ty,g2,g3⟩:=hr q hq
     exact ⟨List.mem_append_left _ (List.mem_map_of_mem (f:=fun p:Nat×aa=>r p.1) hq),Nat.le_trans h.mem.below.size (hLa _ g1).1,u,ty,g2 _ _,g3⟩
    ·exact hm1.loc p hp
   ·unfold ci
    rw [List.map_append,List.map_map,List.nodup_append]
    refine ⟨?_,h.mem.nodup,?_⟩
    ·rw [List.nodup_iff_pairwise_ne] at hnA ⊢
     rw [List.pairwise_map] at hnA ⊢
     refine hnA.imp_of_mem fun {p q} hp hq hne e=> ?_
     obtain ⟨o,ho,T,hT,hdo,hgo,_⟩:=ht.alo p hp
     obtain ⟨o',ho',T',hT',hdo',hgo',_⟩:=ht.alo q hq
     have e0:aK o=p.1:=by unfold aK;rw [hdo];rfl
     have e0':aK o'=q.1:=by unfold aK;rw [hdo'];rfl
     obtain ⟨i,hi⟩:=List.mem_iff_getElem?.1 ho
     obtain ⟨j,hj⟩:=List.mem_iff_getElem?.1 ho'
     refine hap i j o o' T T' (fun hij=> ?_) hi hj hT hT' hgo hgo' ?_
     ·subst hij
      rw [hi] at hj
      injection hj with hj
      subst hj
      exact hne (e0.symm.trans e0')
     ·rw [e0,e0',(hr p hp).1,(hr q hq).1]
      have e':r p.1=r q.1:=e
      rw [e']
    ·intro a ha b hb' e
     obtain ⟨p,hp,rfl⟩:=List.mem_map.1 ha
     obtain ⟨q,hq,rfl⟩:=List.mem_map.1 hb'
     have g1:=(hLa _ (hr p hp).2.1).1
     have g2:=h.mem.far _ (h.mem.loc q hq).1
     have e':r p.1=q.1:=e
     omega
theorem ER {id n:Nat} {l:List Oper} {E E' al:List (Nat×aa)} {a0:Act} {w:World} (h:TS w00 X L E n a0 w) (gs:List (Nat×Bool)) (us:List Nat) (m:Nat) (hm:P.follows .mixedOrders=true) (ht:d8 P w00 w.heap.size L l.toArray gs E (l.take m) E' al)
 (hc:(io l.toArray (E'.map Prod.fst) (E.map Prod.fst) gs us n m&&cn (E'.map Prod.fst)&&cn (al.map Prod.fst)&&(al.map Prod.fst).all (fun d=> !(E'.map Prod.fst).elem d))=true)
 (hg:bG E' gs) (hu:bE E' us) (hfin:∀ (r:Nat→Nat) a w,TS w00 (cf r al X) (ci r al L) (cm r al E') n a w→WL P l.toArray Q (l.drop m) a w):CW P (Code.region id l.toArray true) Q a0 w:=⟨wp_region_any hm (uY h gs us m ht hc hg hu hfin)⟩
end
class aL (T:aa) (k:outParam Nat) (ag:outParam Bool):Prop where
 ok:∀ {X w v},T.holds X w v→v.cells.size=k∧v.cells.all (·.oneCell')=true∧(ag=true→v= .agg v.cells)∧(ag=false→v.cells= #[v])
inductive m9:List Loc→Nat→aa→aa→List Loc→Prop
 |here {L:List Loc} {r:Nat} {T T':aa}:m9 ((r,T)::L) r T T' ((r,T')::L)
 |there {L L':List Loc} {r:Nat} {T T':aa} {p:Loc} (h:m9 L r T T' L'):m9 (p::L) r T T' (p::L')
class j8 (L:List Loc) (r:Nat) (T:outParam aa) (T':aa) (L':outParam (List Loc)):Prop where
 upd:m9 L r T T' L'
instance j8.here {L:List Loc} {r:Nat} {T T':aa}:j8 ((r,T)::L) r T T' ((r,T')::L):=⟨.here⟩
instance (priority:=low) j8.there {L L':List Loc} {r:Nat} {T T':aa} {p:Loc} [h:j8 L r T T' L']:j8 (p::L) r T T' (p::L'):=⟨.there h.upd⟩
theorem m9.map{L L':List Loc} {T T':aa} (h:m9 L r T T' L'):L'.map Prod.fst=L.map Prod.fst:=by
 induction h with
 |here=>rfl
 |there _ ih=>rw [List.map_cons,List.map_cons,ih]
theorem m9.mem{L L':List Loc} {T T':aa} (h:m9 L r T T' L'):(r,T)∈L:=by
 induction h with
 |here=>exact List.mem_cons_self
 |there _ ih=>exact List.mem_cons_of_mem _ ih
theorem m9.of{L L':List Loc} {T T':aa} (h:m9 L r T T' L') (hn:(L.map Prod.fst).Nodup):∀ p∈L',p=(r,T')∨(p∈L∧p.1≠r):=by
 induction h with
 |here=>
  rw [List.map_cons,List.nodup_cons] at hn
  intro p hp
  rcases List.mem_cons.1 hp with rfl|hp
  ·exact .inl rfl
  ·exact .inr ⟨List.mem_cons_of_mem _ hp,fun e=>hn.1 (by have e':p.1=_:=e;exact e'▸(List.mem_map_of_mem (f:=Prod.fst) hp:p.1∈_))⟩
 | @there L L' r T T' q h ih=>
  rw [List.map_cons,List.nodup_cons] at hn
  intro p hp
  rcases List.mem_cons.1 hp with rfl|hp
  ·exact .inr ⟨List.mem_cons_self,fun e=>hn.1 (by rw [e];exact List.mem_map_of_mem (f:=Prod.fst) h.mem)⟩
  ·rcases ih hn.2 p hp with h|h
   ·exact .inl h
   ·exact .inr ⟨List.mem_cons_of_mem _ h.1,h.2⟩
theorem tE(hr:r∈X) (cs:Array Value):gr X w (w.setRow r cs):=by
 refine ⟨by rw [size_setRow];exact Nat.le_refl _,fun b _ hb=>setRow_other w r b cs fun e=>hb (by rw [e];exact hr)⟩
section
variable {P:Program} {w00:World} {X:List Nat} {L L':List Loc} {E E':List (Nat×aa)} {n:Nat} {a:Act} {w:World} {ops:Array Oper} {rest:List Oper} {Q:Exit→Act→World→Prop}
theorem TS.write{T T0:aa} {k k0:Nat} {ag ag0:Bool} (h:TS w00 X L E n a w) (hu:m9 L r T0 T L') (hv:T.holds X w v):TS w00 X L' E n a (w.setRow r v.cells):=by
 obtain ⟨g1,g2,u,ty,g3,g4⟩:=h.mem.loc _ hu.mem
 have hk:=tE (w:=w) g1 v.cells
 refine ⟨h.size,h.df,fun p hp=>p.2.stable (h.slots p hp) hk fun _ hb _=>hb,fun p hp=> ?_,fun b hb=>by rw [size_setRow];exact h.mem.far b hb,by rw [hu.map];exact h.mem.nodup,below_setRow h.mem.below g2 _⟩
 rcases hu.of h.mem.nodup p hp with rfl|⟨hp,hne⟩
 ·exact ⟨g1,g2,v,ty,T.stable hv hk fun _ hb _=>hb,setRow_heap w r _ _ ty _ g4⟩
 ·obtain ⟨f1,f2,u',ty',f3,f4⟩:=h.mem.loc p hp
  exact ⟨f1,f2,u',ty',p.2.stable f3 hk fun _ hb _=>hb,(setRow_other w r p.1 _ hne).trans f4⟩
theorem dT {o:Oper} (hg:o.guard=none) (h:o.wp P a w (WL P ops Q rest) Q):WL P ops Q (o::rest) a w:=by
 refine ⟨?_⟩
 unfold wpList
 rw [if_pos (by unfold Region.wanted;rw [hg])]
 exact .inl (Oper.wp_mono (fun _ _ h=>h.out) h)
theorem uu {ty t0:TypeId} {pos:String} {af:Array Edge} {s r k:Nat} {o:Operand} {T T0:aa} {ag:Bool} {k0:Nat} {ag0:Bool} (h:TS w00 X L E n a w) [hs:ck E s (.is (.pointer (some ⟨r,0,none⟩)))] [ho:bD E o T] [hu:j8 L r T0 T L'] [z:aL T k ag] [z0:aL T0 k0 ag0] (hk:k0=k) (hi:(P.info? ty).map (·.size)=some k)
 (next:∀ w,TS w00 X L' E n a w→WL P ops Q rest a w):WL P ops Q (⟨none, .store ty (.tmp s) o,t0,pos,af,none⟩::rest) a w:=by
 refine dT rfl ?_
 have e1:a.eval (.tmp s)= .pointer (some ⟨r,0,none⟩):=h.slots _ hs.mem
 have e2:T.holds X w (a.eval o):=ho.get (fun _=>rfl) fun p hp _=>h.slots p hp
 obtain ⟨y1,y2,y3,y4⟩:=z.ok e2
 obtain ⟨g1,g2,u,ty',g3,g4⟩:=h.mem.loc _ hu.upd.mem
 have hsz:=(z0.ok g3).1
 have hst:(storeVar ty ⟨r,0,none⟩ (a.eval o)).run P w= .ok () (w.setRow r (a.eval o).cells):=by
  cases ag with
  |true=>
   have e:=y3 rfl
   have:=run_storeVar_row (P:=P) w r ty' ty u.cells (a.eval o).cells g4 (by rw [hi,y1]) qO y2
   rw [←e] at this
   exact this
  |false=>
   have e:=y4 rfl
   have h1:(a.eval o).oneCell'=true:=by
    have:=Array.all_eq_true_iff_forall_mem.1 y2 (a.eval o) (by rw [e];simp)
    exact this
   have hk1:k=1:=by rw [←y1,e];rfl
   obtain ⟨old,hold⟩:∃ old,u.cells= #[old]:=by
    have hz:u.cells.size=1:=qO
    have hz':u.cells.toList.length=1:=by simpa using hz
    obtain ⟨x,hx⟩:=List.length_eq_one_iff.1 hz'
    exact ⟨x,Array.ext' (by simpa using hx)⟩
   rw [hold] at g4
   have:=run_storeVar_one (P:=P) w r ty' ty old (a.eval o) g4 (by rw [hi,hk1]) h1
   rw [e]
   exact this
 unfold Oper.wp execOp
 simp only [e1,Instr.storeAt,Instr.sureAddr,Sem.run_bind,Sem.run_pure,Result.andThen_ok,hst]
 exact next _ (h.write (k:=k) (k0:=k0) (ag:=ag) (ag0:=ag0) hu.upd e2)
class jf (E:List (Nat×aa)) (s:Nat) (E':outParam (List (Nat×aa))):Prop where
 sub:∀ p∈E',p∈E
instance jf.nil {s:Nat}:jf [] s []:=⟨fun _ h=>h⟩
instance jf.here {E E':List (Nat×aa)} {s:Nat} {T:aa} [h:jf E s E']:jf ((s,T)::E) s E':=⟨fun p hp=>List.mem_cons_of_mem _ (h.sub p hp)⟩
instance (priority:=low) jf.there {E E':List (Nat×aa)} {s:Nat} {p:Nat×aa} [h:jf E s E']:jf (p::E) s (p::E'):=⟨fun q hq=>by
 rcases List.mem_cons.1 hq with rfl|hq
 ·exact List.mem_cons_self
 ·exact List.mem_cons_of_mem _ (h.sub q hq)⟩
theorem TS.put {s:Nat} {T:aa} {v:Value} (h:TS w00 X L E n a w) (hE:∀ p∈E',p∈E) (hd:(E'.map Prod.fst).elem s=false) (hs:s<n) (hT:T.holds X w v):TS w00 X L ((s,T)::E') n (a.put (some s) v) w:=by
 have hsz:s<a.tmps.size:=by rw [h.size];exact hs
 refine ⟨by simp [Act.put,h.size],h.df,fun p hp=> ?_,h.mem⟩
 rcases List.mem_cons.1 hp with rfl|hp
 ·rw [bC _ _ _ _ hsz,if_pos rfl];exact hT
 ·rw [bC _ _ _ _ hsz,if_neg]
  ·exact h.slots p (hE p hp)
  ·intro e
   simp at hd
   exact hd p.2 (by rw [←e];exact hp)
theorem sh {t0:TypeId} {pos:String} {af:Array Edge} {s:Nat} {o:Operand} {T:aa} (h:TS w00 X L E n a w) [ho:bD E o T] [k:jf E s E'] (hd:(Nat.blt s n&& !(E'.map Prod.fst).elem s)=true)
 (next:∀ a,TS w00 X L ((s,T)::E') n a w→WL P ops Q rest a w):WL P ops Q (⟨some s, .assign o,t0,pos,af,none⟩::rest) a w:=by
 refine dT rfl ?_
 simp only [Bool.and_eq_true,Bool.not_eq_true'] at hd
 unfold Oper.wp execOp
 simp only [Sem.run_pure]
 exact next _ (h.put k.sub hd.2 (by rw [←Nat.blt_eq];exact hd.1) (ho.get (fun _=>rfl) fun p hp _=>h.slots p hp))
theorem DI {t0:TypeId} {pos:String} {af:Array Edge} {s:Nat} {o:Operand} {T:aa} (h:TS w00 X L E n a w) [ho:bD E o T] [k:jf E s E'] (hd:(Nat.blt s n&& !(E'.map Prod.fst).elem s)=true)
 (next:∀ a,TS w00 X L ((s,T)::E') n a w→WL P ops Q rest a w):WL P ops Q (⟨some s, .move o,t0,pos,af,none⟩::rest) a w:=by
 refine dT rfl ?_
 simp only [Bool.and_eq_true,Bool.not_eq_true'] at hd
 unfold Oper.wp execOp
 simp only [Sem.run_pure]
 exact next _ (h.put k.sub hd.2 (by rw [←Nat.blt_eq];exact hd.1) (ho.get (fun _=>rfl) fun p hp _=>h.slots p hp))
theorem TS.new{T:aa} (h:TS w00 X L E n a w) (hd:(E.map Prod.fst).elem s=false) (hs:s<n) (hT:T.holds X w' v) (hb:Below w.heap.size w w'):TS w00 X L ((s,T)::E) n (a.put (some s) v) w':=by
 have hsz:s<a.tmps.size:=by rw [h.size];exact hs
 refine ⟨by simp [Act.put,h.size],h.df,fun p hp=> ?_,h.mem.same hb⟩
 rcases List.mem_cons.1 hp with rfl|hp
 ·rw [bC _ _ _ _ hsz,if_pos rfl];exact hT
 ·rw [bC _ _ _ _ hsz,if_neg]
  ·exact p.2.stable (h.slots p hp) (Below.keeps hb _) fun _ hb _=>hb
  ·intro e
   have:p.1∈E.map Prod.fst:=List.mem_map_of_mem hp
   rw [e] at this
   simp at hd
   exact hd p.2 (by rw [←e];exact hp)
theorem Ek {o:Oper} {s:Nat} {T:aa} (h:TS w00 X L E n a w) (hst:au P w00 w.heap.size L E o T) (ho:o.dst=some s) (hg:o.guard=none) (hd:(Nat.blt s n&& !(E.map Prod.fst).elem s)=true)
 (next:∀ a w,TS w00 X L ((s,T)::E) n a w→WL P ops Q rest a w):WL P ops Q (o::rest) a w:=by
 refine dT hg ?_
 simp only [Bool.and_eq_true,Bool.not_eq_true'] at hd
 refine Oper.wp_mono (fun a' w' hh=> ?_) (hst.run X a.eval w (fun _=>rfl) (fun _=>rfl) (Nat.le_refl _) h.mem (fun p hp _=>h.slots p hp)).wp
 obtain ⟨v,rfl,hT,hB⟩:=hh
 rw [ho]
 exact next _ _ (h.new hd.2 (by rw [←Nat.blt_eq];exact hd.1) hT hB)
theorem Gl {o:Oper} {s g dg:Nat} {T:aa} {want:Bool} (h:TS w00 X L E n a w) (hst:au P w00 w.heap.size L E o T) (ho:o.dst=some s) (hg:o.guard=some (g,want)) (hgd:(ops[g]?).bind (·.dst)=some dg) [hl:ck E dg (.is (.bool want))] (hd:(Nat.blt s n&&Nat.blt dg n&& !(E.map Prod.fst).elem s)=true)
 (next:∀ a w,TS w00 X L ((s,T)::E) n a w→WL P ops Q rest a w):WL P ops Q (o::rest) a w:=by
 simp only [Bool.and_eq_true,Bool.not_eq_true'] at hd
 have hv:a.tmps.getD dg undef= .bool want:=h.slots _ hl.mem
 have hdg:dg<a.tmps.size:=by rw [h.size,←Nat.blt_eq];exact hd.1.2
 have hget:a.tmps[dg]? =some (.bool want):=by
  rw [Array.getD_eq_getD_getElem?,Array.getElem?_eq_getElem hdg] at hv
  rw [Array.getElem?_eq_getElem hdg]
  simpa using hv
 have hw:Region.wanted o (yielded ops a.tmps)=true:=by
  cases hog:ops[g]? with
  |none=>rw [hog] at hgd;cases hgd
  |some og=>
   rw [hog] at hgd
   have hgd':og.dst=some dg:=hgd
   unfold Region.wanted;rw [hg];simp [yielded,hog,hgd',hget]
 refine ⟨?_⟩
 unfold wpList
 rw [if_pos hw]
 left
 refine Oper.wp_mono (fun a' w' hh=> ?_) (hst.run X a.eval w (fun _=>rfl) (fun _=>rfl) (Nat.le_refl _) h.mem (fun p hp _=>h.slots p hp)).wp
 obtain ⟨v,rfl,hT,hB⟩:=hh
 rw [ho]
 exact (next _ _ (h.new hd.2 (by rw [←Nat.blt_eq];exact hd.1.1) hT hB)).out
theorem En {o:Oper} {s g dg:Nat} {want b:Bool} (h:TS w00 X L E n a w) (ho:o.dst=some s) (hg:o.guard=some (g,want)) (hgd:(ops[g]?).bind (·.dst)=some dg) [hl:ck E dg (.is (.bool b))] (hne:(b==want)=false) (hd:(Nat.blt s n&&Nat.blt dg n&& !(E.map Prod.fst).elem s)=true)
 (next:∀ a,TS w00 X L ((s, .is undef)::E) n a w→WL P ops Q rest a w):WL P ops Q (o::rest) a w:=by
 simp only [Bool.and_eq_true,Bool.not_eq_true'] at hd
 have hv:a.tmps.getD dg undef= .bool b:=h.slots _ hl.mem
 have hdg:dg<a.tmps.size:=by rw [h.size,←Nat.blt_eq];exact hd.1.2
 have hget:a.tmps[dg]? =some (.bool b):=by
  rw [Array.getD_eq_getD_getElem?,Array.getElem?_eq_getElem hdg] at hv
  rw [Array.getElem?_eq_getElem hdg]
  simpa using hv
 have hw:Region.wanted o (yielded ops a.tmps)=false:=by
  cases hog:ops[g]? with
  |none=>rw [hog] at hgd;cases hgd
  |some og=>
   rw [hog] at hgd
   have hgd':og.dst=some dg:=hgd
   unfold Region.wanted;rw [hg];simp only [yielded,hog,Option.bind_some,hgd',hget]
   cases b<;>cases want<;>simp_all
 refine ⟨?_⟩
 unfold wpList
 rw [if_neg (by rw [hw];exact Bool.false_ne_true),ho]
 have hT:=h.new (s:=s) (T:= .is undef) (v:=undef) hd.2 (by rw [←Nat.blt_eq];exact hd.1.1) rfl (Below.refl _ _)
 exact (next _ hT).out
theorem A_ {o:Oper} {s g dg:Nat} {want:Bool} (h:TS w00 X L E n a w) (ho:o.dst=some s) (hg:o.guard=some (g,want)) (hgd:(ops[g]?).bind (·.dst)=some dg) [hl:ck E dg (.is undef)] (hd:(Nat.blt s n&&Nat.blt dg n&& !(E.map Prod.fst).elem s)=true)
 (next:∀ a,TS w00 X L ((s, .is undef)::E) n a w→WL P ops Q rest a w):WL P ops Q (o::rest) a w:=by
 simp only [Bool.and_eq_true,Bool.not_eq_true'] at hd
 have hv:a.tmps.getD dg undef=undef:=h.slots _ hl.mem
 have hdg:dg<a.tmps.size:=by rw [h.size,←Nat.blt_eq];exact hd.1.2
 have hget:a.tmps[dg]? =some undef:=by
  rw [Array.getD_eq_getD_getElem?,Array.getElem?_eq_getElem hdg] at hv
  rw [Array.getElem?_eq_getElem hdg]
  simpa using hv
 have hw:Region.wanted o (yielded ops a.tmps)=false:=by
  cases hog:ops[g]? with
  |none=>rw [hog] at hgd;cases hgd
  |some og=>
   rw [hog] at hgd
   have hgd':og.dst=some dg:=hgd
   unfold Region.wanted;rw [hg];simp only [yielded,hog,Option.bind_some,hgd',hget]
   first|rfl|(cases want<;>simp_all)
 refine ⟨?_⟩
 unfold wpList
 rw [if_neg (by rw [hw];exact Bool.false_ne_true),ho]
 have hT:=h.new (s:=s) (T:= .is undef) (v:=undef) hd.2 (by rw [←Nat.blt_eq];exact hd.1.1) rfl (Below.refl _ _)
 exact (next _ hT).out
theorem TS.fresh{T:aa} (h:TS w00 X L E n a w) (hd:(E.map Prod.fst).elem s=false) (hs:s<n) (hT:∀ w' X',gr X w w'→(∀ b∈X',b<w.heap.size→b∈X)→T.holds X' w' v):
 TS w00 (w.heap.size::X) ((w.heap.size,T)::L) ((s, .is (.pointer (some ⟨w.heap.size,0,none⟩)))::E) n (a.put (some s) (.pointer (some ⟨w.heap.size,0,none⟩))) (w.alloc (.cells v.cells ty)):=by
 have hsz:s<a.tmps.size:=by rw [h.size];exact hs
 have hb:Below w.heap.size w (w.alloc (.cells v.cells ty)):=(Below.refl _ _).alloc (Nat.le_refl _) _
 have hX:∀ b∈w.heap.size::X,b<w.heap.size→b∈X:=fun b hb' hlt=>by
  rcases List.mem_cons.1 hb' with rfl|h
  ·omega
  ·exact h
 have hm:=h.mem.step hb (X':=w.heap.size::X) (fun b hb=>List.mem_cons_of_mem _ hb) fun b hb'=>by
  rcases List.mem_cons.1 hb' with rfl|h
  ·exact .inr ⟨Nat.le_refl _,by rw [ak];exact Nat.lt_succ_self _⟩
  ·exact .inl h
 refine ⟨by simp [Act.put,h.size],h.df,fun p hp=> ?_,fun p hp=> ?_,hm.far,?_,hm.below⟩
 ·rcases List.mem_cons.1 hp with rfl|hp
  ·rw [bC _ _ _ _ hsz,if_pos rfl];rfl
  ·rw [bC _ _ _ _ hsz,if_neg]
   ·exact p.2.stable (h.slots p hp) (Below.keeps hb _) hX
   ·intro e
    simp at hd
    exact hd p.2 (by rw [←e];exact hp)
 ·rcases List.mem_cons.1 hp with rfl|hp
  ·exact ⟨List.mem_cons_self,h.mem.below.size,v,ty,hT _ _ (Below.keeps hb _) hX,i6 _ _⟩
  ·exact hm.loc p hp
 ·rw [List.map_cons,List.nodup_cons]
  refine ⟨fun hm'=> ?_,h.mem.nodup⟩
  obtain ⟨p,hp,e⟩:=List.mem_map.1 hm'
  have:=h.mem.far _ (h.mem.loc p hp).1
  have e':p.1=w.heap.size:=e
  omega
theorem G9 {ty t0:TypeId} {pos:String} {af:Array Edge} {s:Nat} {o:Operand} {T:aa} (h:TS w00 X L E n a w) [ho:bD E o T] (hd:(Nat.blt s n&& !(E.map Prod.fst).elem s)=true)
 (next:∀ r a w,TS w00 (r::X) ((r,T)::L) ((s, .is (.pointer (some ⟨r,0,none⟩)))::E) n a w→WL P ops Q rest a w):WL P ops Q (⟨some s, .box ty o,t0,pos,af,none⟩::rest) a w:=by
 refine dT rfl ?_
 simp only [Bool.and_eq_true,Bool.not_eq_true'] at hd
 have hv:T.holds X w (a.eval o):=ho.get (fun _=>rfl) fun p hp _=>h.slots p hp
 have hr:(execOp a.eval ⟨some s, .box ty o,t0,pos,af,none⟩).run P w= .ok (.value (.pointer (some ⟨w.heap.size,0,none⟩))) (w.alloc (.cells (a.eval o).cells ty)):=by
  unfold execOp
  simp only [Instr.box,newVar,newRow,Sem.run_bind,Sem.run_pure,Result.andThen_ok,run_newObj_alloc]
 unfold Oper.wp
 rw [hr]
 exact next _ _ _ (h.fresh hd.2 (by rw [←Nat.blt_eq];exact hd.1) fun w' X' hk hX=>T.stable hv hk hX)
theorem AM {U t0:TypeId} {pos:String} {af:Array Edge} {s:Nat} {Z:aa} (h:TS w00 X L E n a w) [z:cQ P U Z] (hd:(Nat.blt s n&& !(E.map Prod.fst).elem s)=true)
 (next:∀ r a w,TS w00 (r::X) ((r,Z)::L) ((s, .is (.pointer (some ⟨r,0,none⟩)))::E) n a w→WL P ops Q rest a w):WL P ops Q (⟨some s, .alloc U,t0,pos,af,none⟩::rest) a w:=by
 refine dT rfl ?_
 simp only [Bool.and_eq_true,Bool.not_eq_true'] at hd
 obtain ⟨v,h1,h2⟩:=z.ok
 unfold Oper.wp
 rw [h2 ⟨some s, .alloc U,t0,pos,af,none⟩ a.eval w rfl]
 exact next _ _ _ (h.fresh hd.2 (by rw [←Nat.blt_eq];exact hd.1) fun w' X' _ _=>h1 _ _)
theorem wm (h:Q .normal a w):WL P ops Q [] a w:=⟨wpList_nil h⟩
theorem aO {c:Code} (I:Nat→Act→World→Prop) (n0:Nat) (h0:I n0 a w) (round:∀ n a w,I n a w→CW P c (Exit.then (fun a' w'=>∃ n',n'<n∧I n' a' w') Q) a w):CW P (Code.loop c) Q a w:=
 ⟨wp_loop_ghost I n0 h0 fun n a w h=>(round n a w h).out⟩
def bj (X:List Nat) (w:World) (T:aa) (e:Ending) (w':World):Prop:=∃ v,e= .returned v∧T.holds X w' v∧Below w.heap.size w w'
theorem bj.imp{T T':aa} {e:Ending} (h:bj X w T e w') (hi:∀ v,T.holds X w' v→T'.holds X w' v):bj X w T' e w':=let ⟨v,h1,h2,h3⟩:=h;⟨v,h1,hi v h2,h3⟩
theorem TS.result{T:aa} (h:TS w00 X L E n a w) (hX:∀ b∈X0,b∈X) (hT:T.holds X w v):bj X0 w00 T (.returned v) w:=
 ⟨v,rfl,T.stable hT ⟨Nat.le_refl _,fun _ _ _=>rfl⟩ fun b hb _=>hX b hb,h.mem.below⟩
def eK:Nat→List aa→List (Nat×aa)
 |_,[]=>[]
 |i,T::Ts=>(i,T)::eK (i+1) Ts
theorem sw {tmps:Array Value} {w:World}:∀ {Ts:List aa} {vs:List Value} {i:Nat},cM X w Ts vs→(∀ j,j<vs.length→tmps.getD (i+j) undef=vs.getD j undef)→∀ p∈eK i Ts,p.2.holds X w (tmps.getD p.1 undef)
 |[],_,_,_,_,_,h=>by cases h
 |T::Ts,v::vs,i,h,ht,p,hp=>by
  rcases List.mem_cons.1 hp with rfl|hp
  ·have:=ht 0 qE
   rw [Nat.add_zero] at this
   rw [this]
   exact h.1
  ·refine sw (i:=i+1) h.2 (fun j hj=> ?_) p hp
   have:=ht (j+1) (by simp;omega)
   rw [show i+1+j=i+(j+1) by omega,this]
   rfl
 |_::_,[],_,h,_,_,_=>h.elim
theorem cN {f:FuncId} {fn:Func} {c:Code} {Ts:List aa} {vs:List Value} {R:Ending→World→Prop} (hf:P.funcs[f]? =some fn) (hb:fn.body=some c) (hn:fn.ntmps=n) (hl:vs.length≤n) (hX:∀ b∈X,b<w.heap.size) (h:cM X w Ts vs)
 (next:∀ a,TS w X [] (eK 0 Ts) n a w→CW P c (bodyPost P fn R) a w):Calls P f vs.toArray w R:=by
 refine calls_of_wp hf hb (CW.out (next _ ⟨?_,rfl,?_,⟨(fun p hp=>by cases hp),hX,List.nodup_nil,Below.refl _ _⟩⟩))
 ·rw [hn]
  simp
  omega
 ·refine sw h fun j hj=> ?_
  rw [Nat.zero_add,Array.getD_eq_getD_getElem?,Array.getElem?_append_left (by simpa using hj),List.getElem?_toArray,List.getD_eq_getElem?_getD]
end
section
variable {P:Program} {w00:World} {X:List Nat} {L L':List Loc} {E E':List (Nat×aa)} {n:Nat} {a:Act} {w:World} {ops:Array Oper} {rest:List Oper} {Q:Exit→Act→World→Prop}
theorem Be {ty t0:TypeId} {pos:String} {af:Array Edge} {s r k:Nat} {o:Operand} {T T0:aa} {ag:Bool} {k0:Nat} {ag0:Bool} (h:TS w00 X L E n a w) [hs:ck E s (.is (.pointer (some ⟨r,0,none⟩)))] [ho:bD E o T] [hu:j8 L r T0 T L'] [z:aL T k ag] [z0:aL T0 k0 ag0] (hk:k0=k) (hi:(P.info? ty).map (·.size)=some k)
 (next:∀ w,TS w00 X L' E n a w→WL P ops Q rest a w):∃ w2,(execOp a.eval ⟨none, .store ty (.tmp s) o,t0,pos,af,none⟩).run P w= .ok .skip w2∧WL P ops Q rest a w2:=by
 have e1:a.eval (.tmp s)= .pointer (some ⟨r,0,none⟩):=h.slots _ hs.mem
 have e2:T.holds X w (a.eval o):=ho.get (fun _=>rfl) fun p hp _=>h.slots p hp
 obtain ⟨y1,y2,y3,y4⟩:=z.ok e2
 obtain ⟨g1,g2,u,ty',g3,g4⟩:=h.mem.loc _ hu.upd.mem
 have hsz:=(z0.ok g3).1
 have hst:(storeVar ty ⟨r,0,none⟩ (a.eval o)).run P w= .ok () (w.setRow r (a.eval o).cells):=by
  cases ag with
  |true=>
   have e:=y3 rfl
   have:=run_storeVar_row (P:=P) w r ty' ty u.cells (a.eval o).cells g4 (by rw [hi,y1]) qO y2
   rw [←e] at this
   exact this
  |false=>
   have e:=y4 rfl
   have h1:(a.eval o).oneCell'=true:=by
    have:=Array.all_eq_true_iff_forall_mem.1 y2 (a.eval o) (by rw [e];simp)
    exact this
   have hk1:k=1:=by rw [←y1,e];rfl
   obtain ⟨old,hold⟩:∃ old,u.cells= #[old]:=by
    have hz:u.cells.size=1:=qO
    have hz':u.cells.toList.length=1:=by simpa using hz
    obtain ⟨x,hx⟩:=List.length_eq_one_iff.1 hz'
    exact ⟨x,Array.ext' (by simpa using hx)⟩
   rw [hold] at g4
   have:=run_storeVar_one (P:=P) w r ty' ty old (a.eval o) g4 (by rw [hi,hk1]) h1
   rw [e]
   exact this
 refine ⟨_,?_,next _ (h.write (k:=k) (k0:=k0) (ag:=ag) (ag0:=ag0) hu.upd e2)⟩
 unfold execOp
 simp only [e1,Instr.storeAt,Instr.sureAddr,Sem.run_bind,Sem.run_pure,Result.andThen_ok,hst]
end
structure Rp (α:Type) where
 k:Nat
 rd:World→(Nat→Prop)→α→List Value→Prop
 len:∀ {w S a cs},rd w S a cs→cs.length=k
 one:∀ {w S a cs},rd w S a cs→∀ v∈cs,v.oneCell'=true
 keep:∀ {w w' S a cs},rd w S a cs→(∀ b,S b→w'.heap[b]? =w.heap[b]?)→rd w' S a cs
 more:∀ {w S S' a cs},rd w S a cs→(∀ b,S b→S' b)→rd w S' a cs
def Rp.bool:Rp Bool:=⟨1,fun _ _ b cs=>cs=[.bool b],fun h=>by rw [h];rfl,fun h v hv=>by rw [h,List.mem_singleton] at hv;rw [hv];rfl,fun h _=>h,fun h _=>h⟩
def Rp.int (k:IntKind):Rp Int:=⟨1,fun _ _ x cs=>cs=[.int k x],fun h=>by rw [h];rfl,fun h v hv=>by rw [h,List.mem_singleton] at hv;rw [hv];rfl,fun h _=>h,fun h _=>h⟩
def Rp.str:Rp (List UInt8):=⟨1,fun _ _ l cs=>∃ t:ByteArray,cs=[.string t]∧t.data.toList=l,fun ⟨_,h,_⟩=>by rw [h];rfl,fun ⟨_,h,_⟩ v hv=>by rw [h,List.mem_singleton] at hv;rw [hv];rfl,fun h _=>h,fun h _=>h⟩
def Ce (k:IntKind) (w:World) (S:Nat→Prop) (A:Option Addr) (n c:Nat) (xs:List Int):Prop:=
 Sl k w w.heap.size A n c xs∧(0<n→∀ b,fh A=some b→S b)
theorem Ce.keep {k:IntKind} {w w':World} {S:Nat→Prop} {A:Option Addr} {n c:Nat} {xs:List Int} (h:Ce k w S A n c xs) (hk:∀ b,S b→w'.heap[b]? =w.heap[b]?):Ce k w' S A n c xs:=by
 obtain ⟨⟨h1,h2,h3,h4,h5⟩,h6⟩:=h
 refine ⟨⟨h1,h2,h3,h4,fun hn=> ?_⟩,h6⟩
 obtain ⟨b,off,rfl,hb,hc⟩:=h5 hn
 have hS:=h6 hn b rfl
 have hc':∀ j x,xs[j]? =some x→w'.cell? ⟨b,off+j,none⟩=some (.int k x):=fun j x hx=>(World.cell?_of_block (hk b hS)).trans (hc j x hx)
 obtain ⟨x,hx⟩:∃ x,xs[0]? =some x:=⟨_,List.getElem?_eq_getElem qO⟩
 exact ⟨b,off,rfl,World.block_lt_of_cell? _ _ (hc' 0 x hx),hc'⟩
theorem Ce.more{S S':Nat→Prop} {xs:List Int} (h:Ce k w S A n c xs) (hk:∀ b,S b→S' b):Ce k w S' A n c xs:=⟨h.1,fun hn b hb=>hk b (h.2 hn b hb)⟩
def Rp.limbs:Rp (List Int):=⟨1,fun w S xs cs=>∃ A n c,cs=[.slice A n c]∧Ce .u32 w S A n c xs∧Dg 4294967296 xs,fun ⟨_,_,_,h,_⟩=>by rw [h];rfl,fun ⟨_,_,_,h,_⟩ v hv=>by rw [h,List.mem_singleton] at hv;rw [hv];rfl,
 fun ⟨A,n,c,e,h,d⟩ hk=>⟨A,n,c,e,h.keep hk,d⟩,fun ⟨A,n,c,e,h,d⟩ hB=>⟨A,n,c,e,h.more hB,d⟩⟩
def Rp.pair {α β:Type} (r:Rp α) (s:Rp β):Rp (α×β):=⟨r.k+s.k,fun w S x cs=>∃ c1 c2,cs=c1++c2∧r.rd w S x.1 c1∧s.rd w S x.2 c2,
 fun ⟨_,_,e,h1,h2⟩=>by rw [e,List.length_append,r.len h1,s.len h2],
 fun ⟨_,_,e,h1,h2⟩ v hv=>by
  rw [e] at hv
  rcases List.mem_append.1 hv with h|h
  ·exact r.one h1 v h
  ·exact s.one h2 v h,
 fun ⟨c1,c2,e,h1,h2⟩ hk=>⟨c1,c2,e,r.keep h1 hk,s.keep h2 hk⟩,fun ⟨c1,c2,e,h1,h2⟩ hB=>⟨c1,c2,e,r.more h1 hB,s.more h2 hB⟩⟩
theorem cU.mono{X':List Nat} (hk:gr X w w') (hX:∀ b∈X',b<w.heap.size→b∈X) (b:Nat) (h:cU X w b):cU X' w' b:=
 ⟨Nat.lt_of_lt_of_le h.1 hk.size,fun hb=>h.2 (hX b hb h.1)⟩
theorem Rp.up{α:Type} (r:Rp α) {X':List Nat} {a:α} {cs:List Value} (h:r.rd w (cU X w) a cs) (hk:gr X w w') (hX:∀ b∈X',b<w.heap.size→b∈X):r.rd w' (cU X' w') a cs:=
 r.more (r.keep h fun b hb=>hk.block b hb.1 hb.2) (cU.mono hk hX)
def aa.ra {α:Type} (r:Rp α) (a:α):aa:=⟨fun X w v=>∃ cs:List Value,v= .agg cs.toArray∧r.rd w (cU X w) a cs,fun ⟨cs,e,h⟩ hk hX=>⟨cs,e,r.up h hk hX⟩⟩
def aa.rc {α:Type} (r:Rp α) (a:α):aa:=⟨fun X w v=>r.rd w (cU X w) a [v],fun h hk hX=>r.up h hk hX⟩
def aa.ex {α:Type} (r:Rp α) (p:α→Prop):aa:=⟨fun X w v=>∃ a,p a∧(aa.ra r a).holds X w v,fun ⟨a,hp,h⟩ hk hX=>⟨a,hp,(aa.ra r a).stable h hk hX⟩⟩
instance aL.ex {α:Type} {r:Rp α} {p:α→Prop}:aL (.ex r p) r.k true:=⟨fun {X w v} h=>by
 obtain ⟨a,_,cs,rfl,h⟩:=h
 refine ⟨by simpa [Value.cells] using r.len h,Array.all_eq_true_iff_forall_mem.2 fun v hv=>r.one h v (by simpa [Value.cells] using hv),fun _=>rfl,fun h=>by cases h⟩⟩
instance aL.ra {α:Type} {r:Rp α} {a:α}:aL (.ra r a) r.k true:=⟨fun {X w v} h=>by
 obtain ⟨cs,rfl,h⟩:=h
 refine ⟨by simpa [Value.cells] using r.len h,Array.all_eq_true_iff_forall_mem.2 fun v hv=>r.one h v (by simpa [Value.cells] using hv),fun _=>rfl,fun h=>by cases h⟩⟩
theorem f6(h:v.oneCell'=true):v.cells= #[v]:=by cases v<;>first|rfl|cases h
instance aL.int {k:IntKind} {x:Int}:aL (.is (.int k x)) 1 false:=⟨fun {X w v} h=>by rw [show v=_ from h];exact ⟨rfl,by simp [Value.cells,Value.oneCell'],(fun h=>by cases h),fun _=>rfl⟩⟩
instance aL.bool {x:Bool}:aL (.is (.bool x)) 1 false:=⟨fun {X w v} h=>by rw [show v=_ from h];exact ⟨rfl,by simp [Value.cells,Value.oneCell'],(fun h=>by cases h),fun _=>rfl⟩⟩
instance aL.slice {A:Option Addr} {n c:Nat}:aL (.is (.slice A n c)) 1 false:=⟨fun {X w v} h=>by rw [show v=_ from h];exact ⟨rfl,by simp [Value.cells,Value.oneCell'],(fun h=>by cases h),fun _=>rfl⟩⟩
instance aL.str {t:ByteArray}:aL (.is (.string t)) 1 false:=⟨fun {X w v} h=>by rw [show v=_ from h];exact ⟨rfl,by simp [Value.cells,Value.oneCell'],(fun h=>by cases h),fun _=>rfl⟩⟩
instance aL.rc {α:Type} {r:Rp α} {a:α}:aL (.rc r a) 1 false:=⟨fun {X w v} h=>by
 have h1:=r.one h v qE
 rw [f6 h1]
 exact ⟨rfl,by simp [h1],(fun h=>by cases h),fun _=>rfl⟩⟩
class fw (P:Program) (ty:TypeId) (k:outParam Nat) (ag:outParam Bool):Prop where
 row:∃ d,P.underlying ty=some d∧d.isRow=ag
 size:(P.info? ty).map (·.size)=some k
class ai (T:aa) (off k:Nat) (ag:Bool) (T':outParam aa):Prop where
 one:ag=false→k=1
 ok:∀ {X w v},T.holds X w v→∃ cs:List Value,cs.length=k∧(∀ (j:Nat) (u:Value),cs[j]? =some u→v.cells[off+j]? =some u)∧∀ u,(ag=true→u= .agg cs.toArray)→(ag=false→cs=[u])→T'.holds X w u
theorem gg{o:Nat} {cs:Array Value} {f:Nat×Nat} {u:Value} (h:w.heap[r]? =some (.cells cs ty f)) (hu:cs[o]? =some u):w.cell? ⟨r,o,none⟩=some u:=by
 unfold World.cell?
 simp only [h,hu]
 rfl
class p5 (L:List Loc) (r:Nat) (T:outParam aa):Prop where
 mem:(r,T)∈L
instance p5.here {L:List Loc} {r:Nat} {T:aa}:p5 ((r,T)::L) r T:=⟨List.mem_cons_self⟩
instance (priority:=low) p5.there {L:List Loc} {r:Nat} {T:aa} {p:Loc} [h:p5 L r T]:p5 (p::L) r T:=⟨List.mem_cons_of_mem _ h.mem⟩
section
variable {P:Program} {w00:World} {N:Nat} {L:List Loc} {E:List (Nat×aa)} {d:Nat} {t0:TypeId} {pos:String} {af:Array Edge} {gd:Option (Nat×Bool)} {ats:Array TypeId}
theorem dt{T:aa} [ho:bD E o T]:au P w00 N L E ⟨some d, .move o,t0,pos,af,gd⟩ T:=by
 constructor
 intro X ρ w hc hf hN hm hs
 exact ⟨ho.get hc fun p hp e=>hs p hp qS,Below.refl _ _⟩
theorem dE{T:aa} [ho:bD E o T]:au P w00 N L E ⟨some d, .assign o,t0,pos,af,gd⟩ T:=by
 constructor
 intro X ρ w hc hf hN hm hs
 exact ⟨ho.get hc fun p hp e=>hs p hp qS,Below.refl _ _⟩
theorem du{off k:Nat} {T T':aa} [hs:ck E s (.is (.pointer (some ⟨r,off,none⟩)))] [hl:p5 L r T] [ht:fw P ty k ag] [hp:ai T off k ag T']:au P w00 N L E ⟨some d, .load ty (.tmp s),t0,pos,af,gd⟩ T':=by
 constructor
 intro X ρ w hc hf hN hm hsl
 have e:ρ (.tmp s)= .pointer (some ⟨r,off,none⟩):=hsl _ hs.mem qI
 obtain ⟨_,_,v,ty',hv,hh⟩:=hm.loc _ hl.mem
 obtain ⟨cs,hk,hcs,hT⟩:=hp.ok hv
 obtain ⟨dd,hu,hd⟩:=ht.row
 have hra:w.rangeAt r off cs:=fun j u hj=>by
  have:=hcs j u hj
  exact gg hh this
 have hi:(P.info? ty).map (·.size)=some cs.length:=by rw [hk];exact ht.size
 unfold Yields
 cases ag with
 |true=>
  have hrun:(execOp ρ ⟨some d, .load ty (.tmp s),t0,pos,af,gd⟩).run P w= .ok (.value (.agg cs.toArray)) w:=by
   unfold execOp
   simp only [e,run_loadAt_mid w r off ty cs dd hra hu hd hi,Sem.run_bind,Sem.run_pure,Result.andThen_ok]
  rw [hrun]
  exact ⟨hT _ (fun _=>rfl) (fun h=>by cases h),Below.refl _ _⟩
 |false=>
  have hag:(isAgg ty).run P w= .ok false w:=by
   unfold isAgg
   rw [Sem.run_bind,run_underlying hu w]
   cases dd<;>first|rfl|cases hd
  obtain ⟨u,rfl⟩:∃ u,cs=[u]:=List.length_eq_one_iff.1 (hk.trans (hp.one rfl))
  have hcell:w.cell? ⟨r,off,none⟩=some u:=gg hh (hcs 0 u rfl)
  have hrun:(execOp ρ ⟨some d, .load ty (.tmp s),t0,pos,af,gd⟩).run P w= .ok (.value u) w:=by
   unfold execOp
   simp only [e,Instr.loadAt,Instr.sureAddr,loadVar,Sem.run_bind,Sem.run_pure,Result.andThen_ok,hag,run_load,hcell,if_false,Bool.false_eq_true]
  rw [hrun]
  exact ⟨hT u (fun h=>by cases h) (fun _=>rfl),Below.refl _ _⟩
end
class aq (P:Program) (ty:TypeId) (i:Nat) (off k:outParam Nat) (ag:outParam Bool):Prop where
 ok:∃ (fs:Array Field) (f:Field),P.underlying ty=some (.struct fs)∧fs[i]? =some f∧f.offset=off∧(P.info? f.type).map (·.size)=some k∧k≠0∧∃ d,P.underlying f.type=some d∧d.isRow=ag
class zZ (a b:Nat) (c:outParam Nat):Prop where
 ok:a+b=c
instance zZ.zero {b:Nat}:zZ 0 b b:=⟨Nat.zero_add b⟩
instance (priority:=low) zZ.zero' {a:Nat}:zZ a 0 a:=⟨rfl⟩
class xc (Ts:List aa) (i:Nat) (T:outParam aa):Prop where
 ok:Ts[i]? =some T
instance xc.here {Ts:List aa} {T:aa}:xc (T::Ts) 0 T:=⟨rfl⟩
instance xc.one {Ts:List aa} {T U:aa}:xc (U::T::Ts) 1 T:=⟨rfl⟩
instance xc.two {Ts:List aa} {T U V:aa}:xc (U::V::T::Ts) 2 T:=⟨rfl⟩
theorem cM.nth {X:List Nat} {w:World}:∀ {Ts:List aa} {vs:List Value} {i:Nat} {T:aa},cM X w Ts vs→Ts[i]? =some T→∃ v,vs[i]? =some v∧T.holds X w v
 |[],_,_,_,_,h=>by cases h
 |_::_,[],_,_,h,_=>h.elim
 |T::Ts,v::vs,0,_,h,e=>by
  simp only [List.getElem?_cons_zero,Option.some.injEq] at e
  subst e
  exact ⟨v,rfl,h.1⟩
 |T::Ts,v::vs,i+1,_,h,e=>cM.nth (Ts:=Ts) (vs:=vs) (i:=i) h.2 (by simpa using e)
section
variable {P:Program} {w00:World} {N:Nat} {L:List Loc} {E:List (Nat×aa)} {d:Nat} {t0:TypeId} {pos:String} {af:Array Edge} {gd:Option (Nat×Bool)} {ats:Array TypeId}
theorem bm{off fo k o':Nat} [hs:ck E s (.is (.pointer (some ⟨r,off,none⟩)))] [hf:aq P ty i fo k ag] [ha:zZ off fo o']:au P w00 N L E ⟨some d, .fieldAddr ty (.tmp s) i,t0,pos,af,gd⟩ (.is (.pointer (some ⟨r,o',none⟩))):=by
 constructor
 intro X ρ w hc _ hN hm hsl
 have e:ρ (.tmp s)= .pointer (some ⟨r,off,none⟩):=hsl _ hs.mem qI
 obtain ⟨fs,f,h1,h2,h3,h4,h5,_⟩:=hf.ok
 have hz:(sizeOf f.type).run P w= .ok k w:=by
  cases hq:P.info? f.type with
  |none=>rw [hq] at h4;cases h4
  |some q=>
   rw [hq] at h4
   have:q.size=k:=by simpa using h4
   simp [sizeOf,typeInfo,hq,this]
 have hrun:(execOp ρ ⟨some d, .fieldAddr ty (.tmp s) i,t0,pos,af,gd⟩).run P w= .ok (.value (.pointer (some ⟨r,o',none⟩))) w:=by
  unfold execOp
  simp only [e,Instr.fieldAt,Instr.sureAddr,fieldPlace,Sem.run_bind,Sem.run_pure,Result.andThen_ok,run_underlying h1 w,h2,hz,h5,if_false,h3,Addr.add_mid,ha.ok]
 unfold Yields
 rw [hrun]
 exact ⟨rfl,Below.refl _ _⟩
theorem sn{fo k:Nat} {T T':aa} {k0:Nat} [ho:bD E o T] [hf:aq P ty i fo k ag] [hp:ai T fo k ag T'] [hz:aL T k0 true]:au P w00 N L E ⟨some d, .field ty o i,t0,pos,af,gd⟩ T':=by
 constructor
 intro X ρ w hc _ hN hm hsl
 have hv:T.holds X w (ρ o):=ho.get hc fun p hp e=>hsl p hp qS
 have e:=(hz.ok hv).2.2.1 rfl
 obtain ⟨cc,hvv⟩:∃ cc,ρ o= .agg cc:=⟨_,e⟩
 rw [hvv] at hv
 clear e
 obtain ⟨fs,f,h1,h2,h3,h4,h5,dd,hd,hag⟩:=hf.ok
 obtain ⟨cs,hk,hcs',hT⟩:=hp.ok hv
 have hcs:∀ (j:Nat) (u:Value),cs[j]? =some u→cc[fo+j]? =some u:=hcs'
 clear hcs'
 have hz:(sizeOf f.type).run P w= .ok k w:=by
  cases hq:P.info? f.type with
  |none=>rw [hq] at h4;cases h4
  |some q=>
   rw [hq] at h4
   have:q.size=k:=by simpa using h4
   simp [sizeOf,typeInfo,hq,this]
 have hisa:(isAgg f.type).run P w= .ok ag w:=by
  unfold isAgg
  rw [Sem.run_bind,run_underlying hd w]
  rw [←hag]
  cases dd<;>rfl
 obtain ⟨u,hu,hpart⟩:∃ u,T'.holds X w u∧(part f.type cc fo).run P w= .ok u w:=by
  cases ag with
  |true=>
   refine ⟨.agg cs.toArray,hT _ (fun _=>rfl) (fun h=>by cases h),?_⟩
   have hex:cc.extract fo (fo+k)=cs.toArray:=by
    have hlen:fo+k≤cc.size:=by
     have hk0:k - 1<cs.length:=qO
     have:=hcs (k - 1) _ (List.getElem?_eq_getElem hk0)
     have:=(Array.getElem?_eq_some_iff.1 this).1
     omega
    refine Array.ext (by simp;omega) fun j h1 h2=> ?_
    have hj:j<cs.length:=by simpa using h2
    have:=hcs j _ (List.getElem?_eq_getElem hj)
    obtain ⟨_,hg⟩:=Array.getElem?_eq_some_iff.1 this
    simpa using hg
   simp only [part,Sem.run_bind,Sem.run_pure,Result.andThen_ok,hisa,if_true,hz,hex]
  |false=>
   obtain ⟨u,rfl⟩:∃ u,cs=[u]:=List.length_eq_one_iff.1 (hk.trans (hp.one rfl))
   refine ⟨u,hT _ (fun h=>by cases h) (fun _=>rfl),?_⟩
   have:=hcs 0 u rfl
   rw [Nat.add_zero] at this
   simp only [part,Sem.run_bind,Sem.run_pure,Result.andThen_ok,hisa,if_false,Bool.false_eq_true,this]
 have hrun:(execOp ρ ⟨some d, .field ty o i,t0,pos,af,gd⟩).run P w= .ok (.value u) w:=by
  unfold execOp
  simp only [hvv,Instr.field,asAgg,Sem.run_bind,Sem.run_pure,Result.andThen_ok,run_underlying h1 w,h2,h3,hpart]
 unfold Yields
 rw [hrun]
 exact ⟨hu,Below.refl _ _⟩
theorem fi{Ts:List aa} {T:aa} [hs:ck E s (.tup Ts)] [hn:xc Ts i T]:au P w00 N L E ⟨some d, .extract (.tmp s) i,t0,pos,af,gd⟩ T:=by
 constructor
 intro X ρ w hc _ hN hm hsl
 obtain ⟨vs,e,h⟩:=hsl _ hs.mem qI
 obtain ⟨v,hv,hT⟩:=h.nth hn.ok
 have e':ρ (.tmp s)= .tuple vs.toArray:=e
 unfold Yields
 go_simp
 exact Below.refl _ _
theorem eI{T:aa} [hs:ck E s (.is (.bool true))] [ho:bD E o T]:au P w00 N L E ⟨some d, .pick (.tmp s) o (.const (.bool false)),t0,pos,af,gd⟩ T:=by
 constructor
 intro X ρ w hc _ hN hm hsl
 have e:ρ (.tmp s)= .bool true:=hsl _ hs.mem qI
 have hv:T.holds X w (ρ o):=ho.get hc fun p hp e=>hsl p hp qS
 clear hc hsl hs ho
 unfold Yields
 go_simp
 exact Below.refl _ _
theorem eH[hs:ck E s (.is (.bool false))]:au P w00 N L E ⟨some d, .pick (.tmp s) o (.const (.bool false)),t0,pos,af,gd⟩ (.is (.bool false)):=by
 constructor
 intro X ρ w hc _ hN hm hsl
 have e:ρ (.tmp s)= .bool false:=hsl _ hs.mem qI
 have e2:=hc (.bool false)
 clear hc hsl hs
 unfold Yields
 go_simp
 exact ⟨rfl,Below.refl _ _⟩
theorem lm{T:aa} [hs:ck E s (.is (.bool false))] [ho:bD E o T]:au P w00 N L E ⟨some d, .pick (.tmp s) (.const (.bool true)) o,t0,pos,af,gd⟩ T:=by
 constructor
 intro X ρ w hc _ hN hm hsl
 have e:ρ (.tmp s)= .bool false:=hsl _ hs.mem qI
 have hv:T.holds X w (ρ o):=ho.get hc fun p hp e=>hsl p hp qS
 clear hc hsl hs ho
 unfold Yields
 go_simp
 exact Below.refl _ _
theorem lk[hs:ck E s (.is (.bool true))]:au P w00 N L E ⟨some d, .pick (.tmp s) (.const (.bool true)) o,t0,pos,af,gd⟩ (.is (.bool true)):=by
 constructor
 intro X ρ w hc _ hN hm hsl
 have e:ρ (.tmp s)= .bool true:=hsl _ hs.mem qI
 have e2:=hc (.bool true)
 clear hc hsl hs
 unfold Yields
 go_simp
 exact ⟨rfl,Below.refl _ _⟩
theorem bO{b:Bool} [ho:bD E o (.is (.bool b))] (hu:(!b)=u):au P w00 N L E ⟨some d, .unOp .not ty o,t0,pos,af,gd⟩ (.is (.bool u)):=by
 constructor
 intro X ρ w hc _ hN hm hsl
 have e:ρ o= .bool b:=ho.get (X:=X) (w:=w) hc fun p hp e=>hsl p hp qS
 clear hc hsl ho
 unfold Yields
 go_simp
 exact ⟨by rw [←hu];rfl,Below.refl _ _⟩
theorem J5{T:aa} (hcf:aJ P f) (hcall:∀ X w,(∀ b∈X,b<w.heap.size)→N≤w.heap.size→Below w00.heap.size w00 w→Calls P f #[] w (bj X w T)):
 au P w00 N L E ⟨some d, .call { callee:= .value (.func f),args:= #[],argTypes:=ats },t0,pos,af,gd⟩ T:=by
 constructor
 intro X ρ w hc hf hN hm hsl
 have hr:(execOp ρ ⟨some d, .call { callee:= .value (.func f),args:= #[],argTypes:=ats },t0,pos,af,gd⟩).run P w= .ok (.enter f #[]) w:=by
  have hff:=hf f
  clear hsl hcall hm hN hc
  go_simp
  exact hcf _ _
 unfold Yields
 rw [hr]
 refine (hcall X w hm.far hN hm.below).mono ?_
 rintro e w' ⟨v,rfl,hT,hB⟩
 exact ⟨v,rfl,hT,hB⟩
theorem pm{T0 T:aa} [h0:bD E o0 T0] (hcf:aJ P f) (hcall:∀ X w v0,(∀ b∈X,b<w.heap.size)→N≤w.heap.size→Below w00.heap.size w00 w→T0.holds X w v0→Calls P f #[v0] w (bj X w T)):
 au P w00 N L E ⟨some d, .call { callee:= .value (.func f),args:= #[o0],argTypes:=ats },t0,pos,af,gd⟩ T:=by
 constructor
 intro X ρ w hc hf hN hm hsl
 have e0:T0.holds X w (ρ o0):=h0.get hc fun p hp e=>hsl p hp (by simp [Op.operands,Call.operands,e])
 have hr:(execOp ρ ⟨some d, .call { callee:= .value (.func f),args:= #[o0],argTypes:=ats },t0,pos,af,gd⟩).run P w= .ok (.enter f #[ρ o0]) w:=by
  have hff:=hf f
  clear hsl hcall hm hN hc e0
  go_simp
  exact hcf _ _
 unfold Yields
 rw [hr]
 refine (hcall X w _ hm.far hN hm.below e0).mono ?_
 rintro e w' ⟨v,rfl,hT,hB⟩
 exact ⟨v,rfl,hT,hB⟩
theorem qi{T0 T1 T:aa} [h0:bD E o0 T0] [h1:bD E o1 T1] (hcf:aJ P f) (hcall:∀ X w v0 v1,(∀ b∈X,b<w.heap.size)→N≤w.heap.size→Below w00.heap.size w00 w→T0.holds X w v0→T1.holds X w v1→Calls P f #[v0,v1] w (bj X w T)):
 au P w00 N L E ⟨some d, .call { callee:= .value (.func f),args:= #[o0,o1],argTypes:=ats },t0,pos,af,gd⟩ T:=by
 constructor
 intro X ρ w hc hf hN hm hsl
 have e0:T0.holds X w (ρ o0):=h0.get hc fun p hp e=>hsl p hp (by simp [Op.operands,Call.operands,e])
 have e1:T1.holds X w (ρ o1):=h1.get hc fun p hp e=>hsl p hp (by simp [Op.operands,Call.operands,e])
 have hr:(execOp ρ ⟨some d, .call { callee:= .value (.func f),args:= #[o0,o1],argTypes:=ats },t0,pos,af,gd⟩).run P w= .ok (.enter f #[ρ o0,ρ o1]) w:=by
  have hff:=hf f
  clear hsl hcall hm hN hc e0 e1
  go_simp
  exact hcf _ _
 unfold Yields
 rw [hr]
 refine (hcall X w _ _ hm.far hN hm.below e0 e1).mono ?_
 rintro e w' ⟨v,rfl,hT,hB⟩
 exact ⟨v,rfl,hT,hB⟩
theorem jT[h0:bD E o0 (.is (.int k x))] [h1:bD E o1 (.is (.int k y))] (hu:(x==y)=u):au P w00 N L E ⟨some d, .binOp .eql ty o0 o1 t1,t0,pos,af,gd⟩ (.is (.bool u)):=by
 constructor
 intro X ρ w hc _ hN hm hsl
 have e0:ρ o0= .int k x:=h0.get (X:=X) (w:=w) hc fun p hp e=>hsl p hp qS
 have e1:ρ o1= .int k y:=h1.get (X:=X) (w:=w) hc fun p hp e=>hsl p hp qS
 clear hc hsl h0 h1
 unfold Yields
 go_simp
 exact ⟨by rw [←hu];rfl,Below.refl _ _⟩
theorem nq[h0:bD E o0 (.is (.int k x))] [h1:bD E o1 (.is (.int k y))] (hu:(x != y)=u):au P w00 N L E ⟨some d, .binOp .neq ty o0 o1 t1,t0,pos,af,gd⟩ (.is (.bool u)):=by
 constructor
 intro X ρ w hc _ hN hm hsl
 have e0:ρ o0= .int k x:=h0.get (X:=X) (w:=w) hc fun p hp e=>hsl p hp qS
 have e1:ρ o1= .int k y:=h1.get (X:=X) (w:=w) hc fun p hp e=>hsl p hp qS
 clear hc hsl h0 h1
 unfold Yields
 go_simp
 exact ⟨by rw [←hu];rfl,Below.refl _ _⟩
theorem iE[h0:bD E o0 (.is (.int k x))] [h1:bD E o1 (.is (.int k y))] (hu:decide (x<y)=u):au P w00 N L E ⟨some d, .binOp .lss ty o0 o1 t1,t0,pos,af,gd⟩ (.is (.bool u)):=by
 constructor
 intro X ρ w hc _ hN hm hsl
 have e0:ρ o0= .int k x:=h0.get (X:=X) (w:=w) hc fun p hp e=>hsl p hp qS
 have e1:ρ o1= .int k y:=h1.get (X:=X) (w:=w) hc fun p hp e=>hsl p hp qS
 clear hc hsl h0 h1
 unfold Yields
 go_simp
 exact ⟨by rw [←hu];rfl,Below.refl _ _⟩
theorem mN[h0:bD E o0 (.is (.int k x))] [h1:bD E o1 (.is (.int k y))] (hu:decide (x≤y)=u):au P w00 N L E ⟨some d, .binOp .leq ty o0 o1 t1,t0,pos,af,gd⟩ (.is (.bool u)):=by
 constructor
 intro X ρ w hc _ hN hm hsl
 have e0:ρ o0= .int k x:=h0.get (X:=X) (w:=w) hc fun p hp e=>hsl p hp qS
 have e1:ρ o1= .int k y:=h1.get (X:=X) (w:=w) hc fun p hp e=>hsl p hp qS
 clear hc hsl h0 h1
 unfold Yields
 go_simp
 exact ⟨by rw [←hu];rfl,Below.refl _ _⟩
theorem lZ[h0:bD E o0 (.is (.int k x))] [h1:bD E o1 (.is (.int k y))] (hu:decide (y<x)=u):au P w00 N L E ⟨some d, .binOp .gtr ty o0 o1 t1,t0,pos,af,gd⟩ (.is (.bool u)):=by
 constructor
 intro X ρ w hc _ hN hm hsl
 have e0:ρ o0= .int k x:=h0.get (X:=X) (w:=w) hc fun p hp e=>hsl p hp qS
 have e1:ρ o1= .int k y:=h1.get (X:=X) (w:=w) hc fun p hp e=>hsl p hp qS
 clear hc hsl h0 h1
 unfold Yields
 go_simp
 exact ⟨by rw [←hu];rfl,Below.refl _ _⟩
theorem l7[h0:bD E o0 (.is (.int k x))] [h1:bD E o1 (.is (.int k y))] (hu:decide (y≤x)=u):au P w00 N L E ⟨some d, .binOp .geq ty o0 o1 t1,t0,pos,af,gd⟩ (.is (.bool u)):=by
 constructor
 intro X ρ w hc _ hN hm hsl
 have e0:ρ o0= .int k x:=h0.get (X:=X) (w:=w) hc fun p hp e=>hsl p hp qS
 have e1:ρ o1= .int k y:=h1.get (X:=X) (w:=w) hc fun p hp e=>hsl p hp qS
 clear hc hsl h0 h1
 unfold Yields
 go_simp
 exact ⟨by rw [←hu];rfl,Below.refl _ _⟩
end
def ka (r:ResultVar) (tmps:Array Value):Sem Value:=match r with
 | .tmp t=>pure (tmps.getD t undef)
 | .cell a t=>do loadVar t (←asAddr (tmps.getD a undef))
class pn (P:Program) (L:List Loc) (E:List (Nat×aa)) (r:ResultVar) (T:outParam aa):Prop where
 ok:∀ {w00:World} {X:List Nat} {n:Nat} {a:Act} {w:World},TS w00 X L E n a w→∃ v,(ka r a.tmps).run P w= .ok v w∧T.holds X w v
instance pn.tmp {P:Program} {L:List Loc} {E:List (Nat×aa)} {s:Nat} {T:aa} [h:ck E s T]:pn P L E (.tmp s) T:=⟨fun ht=>⟨_,rfl,ht.slots _ h.mem⟩⟩
instance pn.cell {P:Program} {L:List Loc} {E:List (Nat×aa)} {s r k:Nat} {ty:TypeId} {T:aa} [h:ck E s (.is (.pointer (some ⟨r,0,none⟩)))] [hl:p5 L r T] [ht:fw P ty k true] [hz:aL T k true]:pn P L E (.cell s ty) T:=⟨fun {w00 X n a w} hts=>by
 have e:a.tmps.getD s undef= .pointer (some ⟨r,0,none⟩):=hts.slots _ h.mem
 obtain ⟨_,_,v,ty',hv,hh⟩:=hts.mem.loc _ hl.mem
 obtain ⟨z1,_,z3,_⟩:=hz.ok hv
 obtain ⟨dd,hu,hd⟩:=ht.row
 refine ⟨v,?_,hv⟩
 have hra:w.rangeAt r 0 v.cells.toList:=fun j u hj=>by
  rw [Nat.zero_add]
  exact gg hh (by simpa using hj)
 have hi:(P.info? ty).map (·.size)=some v.cells.toList.length:=by rw [ht.size];simp [z1]
 have:=run_loadVar_mid (P:=P) w r 0 ty v.cells.toList dd hra hu hd hi
 unfold ka
 simp only [e,asAddr,Sem.run_bind,Sem.run_pure,Result.andThen_ok,this]
 rw [show (Value.agg v.cells.toList.toArray)=v by simpa using (z3 rfl).symm]⟩
section
variable {P:Program} {w00:World} {X X0:List Nat} {L:List Loc} {E:List (Nat×aa)} {n:Nat} {a:Act} {w:World} {fn:Func} {R:Ending→World→Prop}
theorem uo{r:ResultVar} {tmps:Array Value} (hr:fn.results= #[r]) (h:(ka r tmps).run P w= .ok v w):(results fn tmps).run P w= .ok v w:=by
 unfold results
 rw [hr]
 simp only [List.mapM_toArray,List.mapM_cons,List.mapM_nil,bind_assoc,pure_bind,Sem.run_bind,Sem.run_pure,Result.andThen_ok,map_bind,map_pure]
 change Result.andThen ((ka r tmps).run P w) _=_
 rw [h]
 rfl
theorem um{r s:ResultVar} {tmps:Array Value} {u:Value} (hr:fn.results= #[r,s]) (h:(ka r tmps).run P w= .ok v w) (h2:(ka s tmps).run P w= .ok u w):(results fn tmps).run P w= .ok (.tuple #[v,u]) w:=by
 unfold results
 rw [hr]
 simp only [List.mapM_toArray,List.mapM_cons,List.mapM_nil,bind_assoc,pure_bind,Sem.run_bind,Sem.run_pure,Result.andThen_ok,map_bind,map_pure]
 change Result.andThen ((ka r tmps).run P w) _=_
 rw [h]
 simp only [Result.andThen_ok]
 change Result.andThen ((ka s tmps).run P w) _=_
 rw [h2]
 rfl
theorem FE {r:ResultVar} {T:aa} (h:TS w00 X L E n a w) (hr:fn.results= #[r]) (hX:∀ b∈X0,b∈X) [k:pn P L E r T] (hR:∀ e w',bj X0 w00 T e w'→R e w'):bodyPost P fn R .ret a w:=by
 obtain ⟨v,h1,h2⟩:=k.ok h
 exact ⟨h.df,v,uo hr h1,hR _ _ (h.result hX h2)⟩
theorem EB {r s:ResultVar} {T U:aa} (h:TS w00 X L E n a w) (hr:fn.results= #[r,s]) (hX:∀ b∈X0,b∈X) [k:pn P L E r T] [k2:pn P L E s U] (hR:∀ e w',bj X0 w00 (.tup [T,U]) e w'→R e w'):bodyPost P fn R .ret a w:=by
 obtain ⟨v,h1,h2⟩:=k.ok h
 obtain ⟨u,g1,g2⟩:=k2.ok h
 exact ⟨h.df,_,um hr h1 g1,hR _ _ (h.result (T:= .tup [T,U]) hX ⟨[v,u],rfl,h2,g2,trivial⟩)⟩
end
def su {α:Type} (r:Rp α) (w:World) (S:Nat→Prop) (A:Option Addr) (n c:Nat) (l:List α):Prop:=
 l.length=n∧n≤c∧c≤maxLen∧(A=none→c=0)∧
  (0<n→∃ b off,A=some ⟨b,off,none⟩∧S b∧∀ (j:Nat) (a:α),l[j]? =some a→∃ cs,w.rangeAt b (off+j*r.k) cs∧r.rd w S a cs)
theorem gu{b o:Nat} {cs:List Value} (h:w.rangeAt b o cs) (hk:w'.heap[b]? =w.heap[b]?):w'.rangeAt b o cs:=fun j v hv=>(World.cell?_of_block hk).trans (h j v hv)
theorem su.keep {α:Type} {r:Rp α} {w w':World} {S:Nat→Prop} {A:Option Addr} {n c:Nat} {l:List α} (h:su r w S A n c l) (hk:∀ b,S b→w'.heap[b]? =w.heap[b]?):su r w' S A n c l:=by
 obtain ⟨h1,h2,h3,h4,h5⟩:=h
 refine ⟨h1,h2,h3,h4,fun hn=> ?_⟩
 obtain ⟨b,off,hA,hb,hc⟩:=h5 hn
 refine ⟨b,off,hA,hb,fun j a ha=> ?_⟩
 obtain ⟨cs,g1,g2⟩:=hc j a ha
 exact ⟨cs,gu g1 (hk b hb),r.keep g2 hk⟩
theorem su.more{α:Type} {r:Rp α} {S S':Nat→Prop} {l:List α} (h:su r w S A n c l) (hk:∀ b,S b→S' b):su r w S' A n c l:=by
 obtain ⟨h1,h2,h3,h4,h5⟩:=h
 refine ⟨h1,h2,h3,h4,fun hn=> ?_⟩
 obtain ⟨b,off,hA,hb,hc⟩:=h5 hn
 refine ⟨b,off,hA,hk b hb,fun j a ha=> ?_⟩
 obtain ⟨cs,g1,g2⟩:=hc j a ha
 exact ⟨cs,g1,r.more g2 hk⟩
theorem su.lenMax{α:Type} {r:Rp α} {S:Nat→Prop} {l:List α} (h:su r w S A n c l):n≤9223372036854775807:=by
 have h1:=h.2.1
 have h2:=h.2.2.1
 unfold maxLen at h2
 omega
def Rp.row {α:Type} (r:Rp α):Rp (List α):=⟨1,fun w S l cs=>∃ A n c,cs=[.slice A n c]∧su r w S A n c l,fun ⟨_,_,_,h,_⟩=>by rw [h];rfl,fun ⟨_,_,_,h,_⟩ v hv=>by rw [h,List.mem_singleton] at hv;rw [hv];rfl,
 fun ⟨A,n,c,e,h⟩ hk=>⟨A,n,c,e,h.keep hk⟩,fun ⟨A,n,c,e,h⟩ hB=>⟨A,n,c,e,h.more hB⟩⟩
def aa.rw {α:Type} (r:Rp α) (p:α→Prop) (l:List α):aa:=⟨fun X w v=>(∀ a∈l,p a)∧(aa.rc r.row l).holds X w v,fun ⟨hp,h⟩ hk hX=>⟨hp,(aa.rc r.row l).stable h hk hX⟩⟩
def aa.pe {α:Type} (r:Rp α) (p:α→Prop) (a:α):aa:=⟨fun X w v=>p a∧∃ b o cs,v= .pointer (some ⟨b,o,none⟩)∧cU X w b∧w.rangeAt b o cs∧r.rd w (cU X w) a cs,
 fun ⟨hp,b,o,cs,e,hb,h1,h2⟩ hk hX=>⟨hp,b,o,cs,e,cU.mono hk hX b hb,gu h1 (hk.block b hb.1 hb.2),r.up h2 hk hX⟩⟩
def aa.el {α:Type} (r:Rp α) (p:α→Prop) (a:α):aa:=aa.ex r fun y=>y=a∧p y
instance aL.rw {α:Type} {r:Rp α} {p:α→Prop} {l:List α}:aL (.rw r p l) 1 false:=⟨fun {X w v} h=>(inferInstance:aL (.rc r.row l) 1 false).ok h.2⟩
class cP (P:Program) (ty:TypeId) (k:outParam Nat):Prop where
 ok:∃ e,P.underlying ty=some (.slice e)∧(P.info? e).map (·.size)=some k
section
variable {P:Program} {w00:World} {N:Nat} {L:List Loc} {E:List (Nat×aa)} {d:Nat} {t0:TypeId} {pos:String} {af:Array Edge} {gd:Option (Nat×Bool)} {ats:Array TypeId}
theorem iA{α:Type} {r:Rp α} {p:α→Prop} {l:List α} {k:Nat} [ho:ck E s (.rw r p l)] [ht:cP P ty k]:au P w00 N L E ⟨some d, .call { callee:= .builtin .len,args:= #[.tmp s],argTypes:= #[ty] },t0,pos,af,gd⟩ (.is (.int .i64 l.length)):=by
 constructor
 intro X ρ w hc _ hN hm hsl
 obtain ⟨_,A,n,c,e,h⟩:=hsl _ ho.mem qJ
 have e1:ρ (.tmp s)= .slice A n c:=by simpa using e
 obtain ⟨el,hu,_⟩:=ht.ok
 have hl:=h.1
 clear hc hsl ho ht h e hm
 unfold Yields
 go_simp
 exact ⟨rfl,Below.refl _ _⟩
theorem dh{α:Type} {r:Rp α} {p:α→Prop} {l:List α} {a:α} {oi:Operand} {j:Nat} [ho:bD E o (.rw r p l)] [hi:bD E oi (.is (.int .i64 (j:Int)))] [ht:cP P ty r.k] (ha:l[j]? =some a):au P w00 N L E ⟨some d, .indexAddr ty o oi,t0,pos,af,gd⟩ (.pe r p a):=by
 constructor
 intro X ρ w hc _ hN hm hsl
 obtain ⟨hp,A,n,c,e,h1,h2,h3,h4,h5⟩:=ho.get (X:=X) (w:=w) hc fun p hp e=>hsl p hp qS
 have e1:ρ o= .slice A n c:=by simpa using e
 have e2:ρ oi= .int .i64 j:=hi.get (X:=X) (w:=w) hc fun p hp e=>hsl p hp qS
 have hj:j<n:=by rw [←h1];exact (List.getElem?_eq_some_iff.1 ha).1
 obtain ⟨b,off,rfl,hb,hcs⟩:=h5 qO
 obtain ⟨cs,g1,g2⟩:=hcs j a ha
 obtain ⟨el,hu,hs⟩:=ht.ok
 have hz:(sizeOf el).run P w= .ok r.k w:=by
  cases hq:P.info? el with
  |none=>rw [hq] at hs;cases hs
  |some q=>
   rw [hq] at hs
   have:q.size=r.k:=by simpa using hs
   simp [sizeOf,typeInfo,hq,this]
 have hrun:(execOp ρ ⟨some d, .indexAddr ty o oi,t0,pos,af,gd⟩).run P w= .ok (.value (.pointer (some ⟨b,off+j*r.k,none⟩))) w:=by
  unfold execOp
  have hji:(0:Int)≤(j:Int)∧(j:Int)<(n:Int):=⟨by omega,by omega⟩
  simp only [e1,e2,Instr.indexAt,asIntOf,Sem.run_bind,Sem.run_pure,Result.andThen_ok,run_underlying hu w,hji,and_self,if_true,hz,Int.toNat_natCast,Addr.add_mid]
 unfold Yields
 rw [hrun]
 exact ⟨⟨hp a (List.mem_of_getElem? ha),b,_,cs,rfl,hb,g1,g2⟩,Below.refl _ _⟩
theorem dA{α:Type} {r:Rp α} {p:α→Prop} {a:α} [ho:ck E s (.pe r p a)] [ht:fw P ty r.k true]:au P w00 N L E ⟨some d, .load ty (.tmp s),t0,pos,af,gd⟩ (.el r p a):=by
 constructor
 intro X ρ w hc _ hN hm hsl
 obtain ⟨hp,b,o,cs,e,hb,h1,h2⟩:=hsl _ ho.mem qI
 have e':ρ (.tmp s)= .pointer (some ⟨b,o,none⟩):=e
 obtain ⟨dd,hu,hd⟩:=ht.row
 have hi:(P.info? ty).map (·.size)=some cs.length:=by rw [r.len h2];exact ht.size
 have hrun:(execOp ρ ⟨some d, .load ty (.tmp s),t0,pos,af,gd⟩).run P w= .ok (.value (.agg cs.toArray)) w:=by
  unfold execOp
  simp only [e',run_loadAt_mid w b o ty cs dd h1 hu hd hi,Sem.run_bind,Sem.run_pure,Result.andThen_ok]
 unfold Yields
 rw [hrun]
 exact ⟨⟨a,⟨rfl,hp⟩,cs,rfl,h2⟩,Below.refl _ _⟩
theorem l8{z:Int} [h0:bD E o0 (.is (.int k x))] [h1:bD E o1 (.is (.int k y))] (hz:k.wrap (x+y)=z):au P w00 N L E ⟨some d, .binOp .add ty o0 o1 t1,t0,pos,af,gd⟩ (.is (.int k z)):=by
 constructor
 intro X ρ w hc _ hN hm hsl
 have e0:ρ o0= .int k x:=h0.get (X:=X) (w:=w) hc fun p hp e=>hsl p hp qS
 have e1:ρ o1= .int k y:=h1.get (X:=X) (w:=w) hc fun p hp e=>hsl p hp qS
 clear hc hsl h0 h1
 unfold Yields
 go_simp
 exact ⟨rfl,Below.refl _ _⟩
end
inductive jP:List Loc→List Loc→Prop
 |nil:jP [] []
 |cons {L L':List Loc} {r:Nat} {T T':aa} (h:∀ X w v,T.holds X w v→T'.holds X w v) (t:jP L L'):jP ((r,T)::L) ((r,T')::L')
 |same {L L':List Loc} {p:Loc} (t:jP L L'):jP (p::L) (p::L')
theorem jP.map {L L':List Loc} (h:jP L L'):L'.map Prod.fst=L.map Prod.fst:=by
 induction h with
 |nil=>rfl
 |cons _ _ ih=>rw [List.map_cons,List.map_cons,ih]
 |same _ ih=>rw [List.map_cons,List.map_cons,ih]
theorem jP.of {L L':List Loc} (h:jP L L'):∀ p∈L',∃ q∈L,q.1=p.1∧∀ X w v,q.2.holds X w v→p.2.holds X w v:=by
 induction h with
 |nil=>exact fun _ h=>by cases h
 |cons hT _ ih=>
  intro p hp
  rcases List.mem_cons.1 hp with rfl|hp
  ·exact ⟨_,List.mem_cons_self,rfl,hT⟩
  ·obtain ⟨q,h1,h2⟩:=ih p hp
   exact ⟨q,List.mem_cons_of_mem _ h1,h2⟩
 |same _ ih=>
  intro p hp
  rcases List.mem_cons.1 hp with rfl|hp
  ·exact ⟨_,List.mem_cons_self,rfl,fun _ _ _ h=>h⟩
  ·obtain ⟨q,h1,h2⟩:=ih p hp
   exact ⟨q,List.mem_cons_of_mem _ h1,h2⟩
def CL (P:Program):List Code→(Exit→Act→World→Prop)→Act→World→Prop
 |[],Q,a,w=>Q .normal a w
 |c::cs,Q,a,w=>c.wp P (Exit.then (CL P cs Q) Q) a w
theorem zI{Q:Exit→Act→World→Prop}:Exit.then K (Exit.then K' Q)=Exit.then K Q:=by
 funext e a w
 cases e<;>rfl
theorem zw {Q:Exit→Act→World→Prop}:Exit.then (fun a w=>Q .normal a w) Q=Q:=by
 funext e a w
 cases e<;>rfl
structure GC (P:Program) (w00:World) (X:List Nat) (L:List Loc) (E:List (Nat×aa)) (n:Nat) (cs:List Code) (Q:Exit→Act→World→Prop):Prop where
 run:∀ a w,TS w00 X L E n a w→CL P cs Q a w
structure GR (P:Program) (w00:World) (X:List Nat) (L:List Loc) (E:List (Nat×aa)) (n:Nat) (ops:Array Oper) (l:List Oper) (cs:List Code) (Q:Exit→Act→World→Prop):Prop where
 run:∀ a w,TS w00 X L E n a w→WL P ops (Exit.then (CL P cs Q) Q) l a w
structure GE (w00:World) (X:List Nat) (L:List Loc) (E:List (Nat×aa)) (n:Nat) (id:Nat) (Q:Exit→Act→World→Prop):Prop where
 run:∀ a w,TS w00 X L E n a w→Q (.exit id) a w
structure GT (w00:World) (X:List Nat) (L:List Loc) (E:List (Nat×aa)) (n:Nat) (Q:Exit→Act→World→Prop):Prop where
 run:∀ a w,TS w00 X L E n a w→Q .ret a w
structure Cv (T T':aa):Prop where
 ok:∀ X w v,T.holds X w v→T'.holds X w v
theorem Cv.rfl' {T:aa}:Cv T T:=⟨fun _ _ _ h=>h⟩
class xv (X0 X:List Nat):Prop where
 sub:∀ b∈X0,b∈X
instance xv.here {X:List Nat}:xv X X:=⟨fun _ h=>h⟩
instance (priority:=low) xv.there {X0 X:List Nat} {b:Nat} [h:xv X0 X]:xv X0 (b::X):=⟨fun c hc=>List.mem_cons_of_mem _ (h.sub c hc)⟩
def IK:Op→Bool
 | .alloc _=>true
 |_=>false
theorem au.zero{L:List Loc} {E:List (Nat×aa)} {o:Oper} {T:aa} (h:au P w00 0 L E o T):au P w00 N L E o T:=⟨fun X ρ w hc hf _ hm hs=>h.run X ρ w hc hf (Nat.zero_le _) hm hs⟩
theorem d8.zero{L:List Loc} {E:List (Nat×aa)} {E' al:List (Nat×aa)} (h:d8 P w00 0 L ops gs E l E' al):d8 P w00 N L ops gs E l E' al:=by
 induction h with
 |nil=>exact .nil
 |cons h hno hd _ ih=>exact .cons h.zero hno hd ih
 |alloc z _ ih=>exact .alloc z ih
 |skip h hno _ ih=>exact .skip h hno ih
 |undef h hno hd _ ih=>exact .undef h hno hd ih
section
variable {P:Program} {w00:World} {X:List Nat} {L:List Loc} {E E':List (Nat×aa)} {n:Nat} {cs:List Code} {Q:Exit→Act→World→Prop} {x y:Code}
theorem aB(h:TS w00 X L E n a w) (hg:GC P w00 X L E n [x] Q):CW P x Q a w:=by
 have:=hg.run a w h
 unfold CL at this
 rw [show CL P [] Q=fun a w=>Q .normal a w from rfl,zw] at this
 exact ⟨this⟩
theorem aY (h:∀ a w,TS w00 X L E n a w→CW P x (Exit.then (CL P cs Q) Q) a w):GC P w00 X L E n (x::cs) Q:=⟨fun a w ht=>(h a w ht).out⟩
theorem cx (h:GC P w00 X L E n (x::y::cs) Q):GC P w00 X L E n (Code.seq x y::cs) Q:=⟨fun a w ht=>by
 have:=h.run a w ht
 refine wp_seq ?_
 rw [zI]
 exact this⟩
theorem bB (h:GC P w00 X L E n cs Q):GC P w00 X L E n (Code.skip::cs) Q:=⟨fun a w ht=>wp_skip (h.run a w ht)⟩
theorem eB[hl:ck E c (.is (.bool true))] (h:GC P w00 X L E n (x::cs) Q):GC P w00 X L E n (Code.cond (.tmp c) x y::cs) Q:=
 ⟨fun a w ht=>wp_cond (t:=true) (show a.eval (.tmp c)= .bool true from ht.slots _ hl.mem) (h.run a w ht)⟩
theorem eu[hl:ck E c (.is (.bool false))] (h:GC P w00 X L E n (y::cs) Q):GC P w00 X L E n (Code.cond (.tmp c) x y::cs) Q:=
 ⟨fun a w ht=>wp_cond (t:=false) (show a.eval (.tmp c)= .bool false from ht.slots _ hl.mem) (h.run a w ht)⟩
theorem cq(h:GC P w00 X L E n [x] (Exit.inBlock id (Exit.then (CL P cs Q) Q))):GC P w00 X L E n (Code.block id x::cs) Q:=⟨fun _ _ ht=>wp_block (aB ht h).out⟩
theorem ew(h:GC P w00 X L E n cs Q):GC P w00 X L E n [] (Exit.inBlock id (Exit.then (CL P cs Q) Q)):=⟨fun a w ht=>h.run a w ht⟩
theorem a8(h:∀ a w,TS w00 X L E n a w→K a w):GC P w00 X L E n [] (Exit.then K Q):=⟨fun a w ht=>h a w ht⟩
theorem eC (h:GC P w00 X L E n cs Q):GC P w00 X L E n [] (Exit.then (CL P cs Q) Q):=⟨fun a w ht=>h.run a w ht⟩
theorem ep(h:GE w00 X L E n id Q):GC P w00 X L E n (Code.exit id::cs) Q:=⟨fun a w ht=>wp_exit (h.run a w ht)⟩
theorem jj(h:GC P w00 X L E n cs Q):GE w00 X L E n id (Exit.inBlock id (Exit.then (CL P cs Q) Q)):=⟨fun a w ht=>by
 unfold Exit.inBlock
 simp only [if_true]
 exact h.run a w ht⟩
theorem jl(h:GE w00 X L E n id Q):GE w00 X L E n id (Exit.then K Q):=⟨fun a w ht=>h.run a w ht⟩
theorem jt{id2:Nat} (hne:Nat.beq id id2=false) (h:GE w00 X L E n id Q):GE w00 X L E n id (Exit.inBlock id2 Q):=⟨fun a w ht=>by
 unfold Exit.inBlock
 have:¬ id=id2:=fun e=>by rw [e,Nat.beq_refl] at hne;cases hne
 simpa [this] using h.run a w ht⟩
theorem ct (h:GT w00 X L E n Q):GC P w00 X L E n (Code.ret::cs) Q:=⟨fun a w ht=>wp_ret (h.run a w ht)⟩
theorem jn(h:GT w00 X L E n Q):GT w00 X L E n (Exit.then K Q):=⟨fun a w ht=>h.run a w ht⟩
theorem jw(h:GT w00 X L E n Q):GT w00 X L E n (Exit.inBlock id Q):=⟨fun a w ht=>h.run a w ht⟩
theorem aQ{fn:Func} {r:ResultVar} {T T':aa} (hr:fn.results= #[r]) [hX:xv X0 X] [k:pn P L E r T] (hc:Cv T T'):GT w00 X L E n (bodyPost P fn (bj X0 w00 T')):=
 ⟨fun _ _ ht=>FE ht hr hX.sub fun _ _ g=>g.imp fun v=>hc.ok _ _ v⟩
theorem d9{fn:Func} {r s:ResultVar} {T U T':aa} (hr:fn.results= #[r,s]) [hX:xv X0 X] [k:pn P L E r T] [k2:pn P L E s U] (hc:Cv (.tup [T,U]) T'):GT w00 X L E n (bodyPost P fn (bj X0 w00 T')):=
 ⟨fun _ _ ht=>EB ht hr hX.sub fun _ _ g=>g.imp fun v=>hc.ok _ _ v⟩
theorem cy(h:GR P w00 X L E n l.toArray l cs Q):GC P w00 X L E n (Code.region id l.toArray false::cs) Q:=⟨fun a w ht=>wp_region_lit (h.run a w ht).out⟩
theorem ar {id:Nat} {l:List Oper} {al:List (Nat×aa)} (gs:List (Nat×Bool)) (us:List Nat) (m:Nat) (ht:d8 P w00 0 L l.toArray gs E (l.take m) E' al)
 (hc:(io l.toArray (E'.map Prod.fst) (E.map Prod.fst) gs us n m&&cn (E'.map Prod.fst)&&cn (al.map Prod.fst)&&(al.map Prod.fst).all (fun d=> !(E'.map Prod.fst).elem d))=true)
 (hg:bG E' gs) (hu:bE E' us) (hm:P.follows .mixedOrders=true) (h:∀ r:Nat→Nat,GR P w00 (cf r al X) (ci r al L) (cm r al E') n l.toArray (l.drop m) cs Q):GC P w00 X L E n (Code.region id l.toArray true::cs) Q:=
 ⟨fun _ _ hts=>(ER hts gs us m hm ht.zero hc hg hu fun r a w h'=>(h r).run a w h').out⟩
theorem az{al:List (Nat×aa)} {T:TypeId} {pos:String} {Z:aa} [z:cQ P T Z] (t:d8 P w00 N L ops gs E os E' al):d8 P w00 N L ops gs E (⟨some d, .alloc T,ty,pos,af,none⟩::os) E' ((d,Z)::al):= .alloc z t
theorem aW{al:List (Nat×aa)} {op:Op} {T:aa} {pos:String} {gd:Option (Nat×Bool)} (h:au P w00 N L E ⟨some d,op,ty,pos,af,gd⟩ T) (hno:IK op=false) (t:d8 P w00 N L ops gs ((d,T)::E) os E' al):d8 P w00 N L ops gs E (⟨some d,op,ty,pos,af,gd⟩::os) E' al:=
 .cons h (fun U e=>by have e':op= .alloc U:=e;rw [e'] at hno;cases hno) rfl t
theorem m7{al:List (Nat×aa)} {op:Op} {pos:String} {gd:Option (Nat×Bool)} (h:i_ ops gs ⟨some d,op,ty,pos,af,gd⟩=false) (hno:IK op=false) (t:d8 P w00 N L ops gs E os E' al):d8 P w00 N L ops gs E (⟨some d,op,ty,pos,af,gd⟩::os) E' al:=
 .skip h (fun U e=>by have e':op= .alloc U:=e;rw [e'] at hno;cases hno) t
variable {ops:Array Oper} {rest:List Oper} {t0:TypeId} {pos:String} {af:Array Edge}
theorem cE (h:GC P w00 X L E n cs Q):GR P w00 X L E n ops [] cs Q:=⟨fun a w ht=>wm (h.run a w ht)⟩
theorem cu {ty:TypeId} {s:Nat} {o:Operand} {T:aa} [ho:bD E o T] (hd:(Nat.blt s n&& !(E.map Prod.fst).elem s)=true)
 (h:∀ r,GR P w00 (r::X) ((r,T)::L) ((s, .is (.pointer (some ⟨r,0,none⟩)))::E) n ops rest cs Q):GR P w00 X L E n ops (⟨some s, .box ty o,t0,pos,af,none⟩::rest) cs Q:=⟨fun _ _ ht=>G9 ht hd fun r a w h'=>(h r).run a w h'⟩
theorem cB {U:TypeId} {s:Nat} {Z:aa} [z:cQ P U Z] (hd:(Nat.blt s n&& !(E.map Prod.fst).elem s)=true)
 (h:∀ r,GR P w00 (r::X) ((r,Z)::L) ((s, .is (.pointer (some ⟨r,0,none⟩)))::E) n ops rest cs Q):GR P w00 X L E n ops (⟨some s, .alloc U,t0,pos,af,none⟩::rest) cs Q:=⟨fun _ _ ht=>AM ht hd fun r a w h'=>(h r).run a w h'⟩
theorem cp {L':List Loc} {ty:TypeId} {s r k:Nat} {o:Operand} {T T0:aa} {ag:Bool} {k0:Nat} {ag0:Bool} [hs:ck E s (.is (.pointer (some ⟨r,0,none⟩)))] [ho:bD E o T] [hu:j8 L r T0 T L'] [z:aL T k ag] [z0:aL T0 k0 ag0] (hk:k0=k) (hi:(P.info? ty).map (·.size)=some k)
 (h:GR P w00 X L' E n ops rest cs Q):GR P w00 X L E n ops (⟨none, .store ty (.tmp s) o,t0,pos,af,none⟩::rest) cs Q:=⟨fun _ _ ht=>uu ht hk hi fun w h'=>h.run _ w h'⟩
theorem cw {s:Nat} {o:Operand} {T:aa} [ho:bD E o T] [k:jf E s E'] (hd:(Nat.blt s n&& !(E'.map Prod.fst).elem s)=true)
 (h:GR P w00 X L ((s,T)::E') n ops rest cs Q):GR P w00 X L E n ops (⟨some s, .assign o,t0,pos,af,none⟩::rest) cs Q:=⟨fun _ _ ht=>sh ht hd fun a h'=>h.run a _ h'⟩
theorem d_ {s:Nat} {o:Operand} {T:aa} [ho:bD E o T] [k:jf E s E'] (hd:(Nat.blt s n&& !(E'.map Prod.fst).elem s)=true)
 (h:GR P w00 X L ((s,T)::E') n ops rest cs Q):GR P w00 X L E n ops (⟨some s, .move o,t0,pos,af,none⟩::rest) cs Q:=⟨fun _ _ ht=>DI ht hd fun a h'=>h.run a _ h'⟩
theorem ae {s:Nat} {op:Op} {T:aa} (hst:au P w00 0 L E ⟨some s,op,t0,pos,af,none⟩ T) (hd:(Nat.blt s n&& !(E.map Prod.fst).elem s)=true)
 (h:GR P w00 X L ((s,T)::E) n ops rest cs Q):GR P w00 X L E n ops (⟨some s,op,t0,pos,af,none⟩::rest) cs Q:=⟨fun _ _ ht=>Ek ht hst.zero rfl rfl hd fun a w h'=>h.run a w h'⟩
theorem fK {s g dg:Nat} {op:Op} {T:aa} {want:Bool} (hgd:(ops[g]?).bind (·.dst)=some dg) (hl:ck E dg (.is (.bool want))) (hst:au P w00 0 L E ⟨some s,op,t0,pos,af,some (g,want)⟩ T) (hd:(Nat.blt s n&&Nat.blt dg n&& !(E.map Prod.fst).elem s)=true)
 (h:GR P w00 X L ((s,T)::E) n ops rest cs Q):GR P w00 X L E n ops (⟨some s,op,t0,pos,af,some (g,want)⟩::rest) cs Q:=⟨fun _ _ ht=>Gl ht hst.zero rfl rfl hgd hd fun a w h'=>h.run a w h'⟩
theorem jz {s g dg:Nat} {op:Op} {want b:Bool} (hgd:(ops[g]?).bind (·.dst)=some dg) (hl:ck E dg (.is (.bool b))) (hne:(b==want)=false) (hd:(Nat.blt s n&&Nat.blt dg n&& !(E.map Prod.fst).elem s)=true)
 (h:GR P w00 X L ((s, .is undef)::E) n ops rest cs Q):GR P w00 X L E n ops (⟨some s,op,t0,pos,af,some (g,want)⟩::rest) cs Q:=⟨fun _ _ ht=>En ht rfl rfl hgd hne hd fun a h'=>h.run a _ h'⟩
theorem jh {s g dg:Nat} {op:Op} {want:Bool} (hgd:(ops[g]?).bind (·.dst)=some dg) (hl:ck E dg (.is undef)) (hd:(Nat.blt s n&&Nat.blt dg n&& !(E.map Prod.fst).elem s)=true)
 (h:GR P w00 X L ((s, .is undef)::E) n ops rest cs Q):GR P w00 X L E n ops (⟨some s,op,t0,pos,af,some (g,want)⟩::rest) cs Q:=⟨fun _ _ ht=>A_ ht rfl rfl hgd hd fun a h'=>h.run a _ h'⟩
theorem dG {f:FuncId} {fn:Func} {c:Code} {Ts:List aa} {vs:List Value} {w:World} {R:Ending→World→Prop} (hf:P.funcs[f]? =some fn) (hb:fn.body=some c) (hn:fn.ntmps=n) (hl:vs.length≤n) (hX:∀ b∈X,b<w.heap.size) (h:cM X w Ts vs)
 (next:GC P w X [] (eK 0 Ts) n [c] (bodyPost P fn R)):Calls P f vs.toArray w R:=cN hf hb hn hl hX h fun _ ht=>aB ht next
end
class Dj (k:Nat) (T:aa) (A:outParam aa):Prop where
 ok:∀ {X:List Nat} {w:World} {v:Value},T.holds X w v→A.holds X w v
instance {T:aa}:Dj 0 T T:=⟨fun h=>h⟩
class q_ (E:List (Nat×aa)) (os:List Operand) (ks:List Nat) (As:outParam (List aa)):Prop where
 get:∀ {X:List Nat} {w:World} {ρ:Operand→Value},(∀ c,ρ (.const c)=c)→(∀ f,ρ (.func f)= .func (.func f) #[] #[])→(∀ p∈E, .tmp p.1∈os→p.2.holds X w (ρ (.tmp p.1)))→cM X w As (os.map ρ)
instance q_.nil {E:List (Nat×aa)}:q_ E [] [] []:=⟨fun _ _ _=>trivial⟩
instance q_.cons {E:List (Nat×aa)} {o:Operand} {os:List Operand} {k:Nat} {ks:List Nat} {T A:aa} {As:List aa} [ho:bD E o T] [a:Dj k T A] [t:q_ E os ks As]:q_ E (o::os) (k::ks) (A::As):=
 ⟨fun hc hf hs=>⟨a.ok (ho.get hc fun p hp e=>hs p hp (by rw [e];exact List.mem_cons_self)),t.get hc hf fun p hp hm=>hs p hp (List.mem_cons_of_mem _ hm)⟩⟩
class fN (T:Nat→aa):Prop where
 down:∀ {B B':Nat} {X:List Nat} {w:World} {v:Value},B'≤B→(T B).holds X w v→(T B').holds X w v
instance fN.const {T:aa}:fN fun _=>T:=⟨fun _ h=>h⟩
class sE (Ts:Nat→List aa):Prop where
 down:∀ {B B':Nat} {X:List Nat} {w:World} {vs:List Value},B'≤B→cM X w (Ts B) vs→cM X w (Ts B') vs
instance sE.nil:sE fun _=>[]:=⟨fun _ h=>h⟩
instance sE.cons {T:Nat→aa} {Ts:Nat→List aa} [h:fN T] [t:sE Ts]:sE fun B=>T B::Ts B:=⟨fun {B B' X w vs} hB hv=>by
 cases vs with
 |nil=>exact hv.elim
 |cons v vs=>exact ⟨h.down hB hv.1,t.down hB hv.2⟩⟩
instance (priority:=low) fN.tup {Ts:Nat→List aa} [t:sE Ts]:fN fun B=> .tup (Ts B):=⟨fun hB ⟨vs,e,h⟩=>⟨vs,e,t.down hB h⟩⟩
class xS (G:World→Prop):Prop where
 stab:∀ {w w':World},G w→Below w.heap.size w w'→G w'
structure bW (P:Program) (G:World→Prop) (f:FuncId) (ks:List Nat) (As:List aa) (T:Nat→aa):Prop where
 ent:aJ P f
 down:∀ {B B':Nat} {X:List Nat} {w:World} {v:Value},B'≤B→(T B).holds X w v→(T B').holds X w v
 run:∀ {X:List Nat} {w:World} {vs:List Value},G w→(∀ b∈X,b<w.heap.size)→cM X w As vs→Calls P f vs.toArray w (bj X w (T w.heap.size))
theorem cM.one{A:aa} (h:cM X w [A] vs):∃ v,vs=[v]∧A.holds X w v:=by
 cases vs with
 |nil=>exact h.elim
 |cons v vs=>
  cases vs with
  |nil=>exact ⟨v,rfl,h.1⟩
  |cons u vs=>exact h.2.elim
theorem cM.tail{A:aa} {As:List aa} (h:cM X w (A::As) vs):∃ v us,vs=v::us∧A.holds X w v∧cM X w As us:=by
 cases vs with
 |nil=>exact h.elim
 |cons v vs=>exact ⟨v,vs,rfl,h⟩
theorem cM.two{A B:aa} (h:cM X w [A,B] vs):∃ v u,vs=[v,u]∧A.holds X w v∧B.holds X w u:=by
 obtain ⟨v,us,rfl,h1,h2⟩:=h.tail
 obtain ⟨u,rfl,h3⟩:=h2.one
 exact ⟨v,u,rfl,h1,h3⟩
section
variable {P:Program} {G:World→Prop} {w00:World} {N:Nat} {L:List Loc} {E:List (Nat×aa)} {d:Nat} {t0:TypeId} {pos:String} {af:Array Edge} {gd:Option (Nat×Bool)} {ats:Array TypeId}
theorem sc {f:FuncId} {os:List Operand} {ks:List Nat} {As:List aa} {T:Nat→aa} [k:q_ E os ks As] [sg:xS G] (hG:G w00) (h:bW P G f ks As T):
 au P w00 N L E ⟨some d, .call { callee:= .value (.func f),args:=os.toArray,argTypes:=ats },t0,pos,af,gd⟩ (T w00.heap.size):=by
 constructor
 intro X ρ w hc hf hN hm hsl
 have e:=k.get (X:=X) (w:=w) hc hf fun p hp he=>hsl p hp (by simpa [Op.operands,Call.operands] using he)
 have hr:(execOp ρ ⟨some d, .call { callee:= .value (.func f),args:=os.toArray,argTypes:=ats },t0,pos,af,gd⟩).run P w= .ok (.enter f (os.map ρ).toArray) w:=by
  have hff:=hf f
  have hen:=h.ent
  clear hsl h hm hN hc e k
  go_simp
  exact hen _ _
 unfold Yields
 rw [hr]
 refine (h.run (sg.stab hG hm.below) hm.far e).mono ?_
 rintro e w' ⟨v,rfl,hT,hB⟩
 exact ⟨v,rfl,h.down hm.below.size hT,hB⟩
theorem Jr {f:FuncId} {fn:Func} {c:Code} {ks:List Nat} {As:List aa} {T:Nat→aa} {n:Nat} [dn:fN T] (hf:P.funcs[f]? =some fn) (hb:fn.body=some c) (hn:fn.ntmps=n) (hl:As.length≤n) (he:aJ P f)
 (h:∀ X w,G w→GC P w X [] (eK 0 As) n [c] (bodyPost P fn (bj X w (T w.heap.size)))):bW P G f ks As T:=
 ⟨he,dn.down,fun {X w vs} hG hX ha=>by
  refine dG hf hb hn ?_ hX ha (h X w hG)
  have:∀ {As:List aa} {vs:List Value},cM X w As vs→vs.length=As.length:=by
   intro As
   induction As with
   |nil=>intro vs h;cases vs with|nil=>rfl|cons=>exact h.elim
   |cons A As ih=>intro vs h;cases vs with|nil=>exact h.elim|cons v vs=>simp [ih h.2]
  rw [this ha]
  exact hl⟩
theorem lH {F:Prop} {f:FuncId} {ks:List Nat} {As:List aa} {T:Nat→aa} (hF:∀ {X:List Nat} {w:World} {vs:List Value},cM X w As vs→F) (he:aJ P f) [dn:fN T] (h:F→bW P G f ks As T):bW P G f ks As T:=
 ⟨he,dn.down,fun hG hX ha=>(h (hF ha)).run hG hX ha⟩
end
structure Bt (p q:Prop):Prop where
 l:p
 r:q
class Nx (g:Prop) (s:outParam Prop):Prop where
 nx:s→g
theorem nx {g s:Prop} [i:Nx g s] (h:s):g:=i.nx h
section
variable {P:Program} {w00:World} {X:List Nat} {L:List Loc} {E E':List (Nat×aa)} {n:Nat} {cs:List Code} {Q:Exit→Act→World→Prop} {x y:Code}
instance:Nx (GC P w00 X L E n (Code.seq x y::cs) Q) (GC P w00 X L E n (x::y::cs) Q):=⟨cx⟩
instance:Nx (GC P w00 X L E n (Code.skip::cs) Q) (GC P w00 X L E n cs Q):=⟨bB⟩
instance {c:Nat} [hl:ck E c (.is (.bool true))]:Nx (GC P w00 X L E n (Code.cond (.tmp c) x y::cs) Q) (GC P w00 X L E n (x::cs) Q):=⟨eB⟩
instance {c:Nat} [hl:ck E c (.is (.bool false))]:Nx (GC P w00 X L E n (Code.cond (.tmp c) x y::cs) Q) (GC P w00 X L E n (y::cs) Q):=⟨eu⟩
instance {id:Nat}:Nx (GC P w00 X L E n (Code.block id x::cs) Q) (GC P w00 X L E n [x] (Exit.inBlock id (Exit.then (CL P cs Q) Q))):=⟨cq⟩
instance {id:Nat}:Nx (GC P w00 X L E n [] (Exit.inBlock id (Exit.then (CL P cs Q) Q))) (GC P w00 X L E n cs Q):=⟨ew⟩
instance:Nx (GC P w00 X L E n [] (Exit.then (CL P cs Q) Q)) (GC P w00 X L E n cs Q):=⟨eC⟩
instance {id:Nat}:Nx (GC P w00 X L E n (Code.exit id::cs) Q) (GE w00 X L E n id Q):=⟨ep⟩
instance (priority:=low) {id id2:Nat}:Nx (GE w00 X L E n id (Exit.inBlock id2 Q)) (Bt (Nat.beq id id2=false) (GE w00 X L E n id Q)):=⟨fun h=>jt h.l h.r⟩
instance {id:Nat}:Nx (GE w00 X L E n id (Exit.inBlock id (Exit.then (CL P cs Q) Q))) (GC P w00 X L E n cs Q):=⟨jj⟩
instance {id:Nat} {K:Act→World→Prop}:Nx (GE w00 X L E n id (Exit.then K Q)) (GE w00 X L E n id Q):=⟨jl⟩
instance:Nx (GC P w00 X L E n (Code.ret::cs) Q) (GT w00 X L E n Q):=⟨ct⟩
instance {K:Act→World→Prop}:Nx (GT w00 X L E n (Exit.then K Q)) (GT w00 X L E n Q):=⟨jn⟩
instance {id:Nat}:Nx (GT w00 X L E n (Exit.inBlock id Q)) (GT w00 X L E n Q):=⟨jw⟩
instance {id:Nat} {l:List Oper}:Nx (GC P w00 X L E n (Code.region id l.toArray false::cs) Q) (GR P w00 X L E n l.toArray l cs Q):=⟨cy⟩
variable {ops:Array Oper} {rest:List Oper} {t0:TypeId} {pos:String} {af:Array Edge}
instance:Nx (GR P w00 X L E n ops [] cs Q) (GC P w00 X L E n cs Q):=⟨cE⟩
instance {ty:TypeId} {s:Nat} {o:Operand} {T:aa} [ho:bD E o T]:Nx (GR P w00 X L E n ops (⟨some s, .box ty o,t0,pos,af,none⟩::rest) cs Q)
 (Bt ((Nat.blt s n&& !(E.map Prod.fst).elem s)=true) (∀ r,GR P w00 (r::X) ((r,T)::L) ((s, .is (.pointer (some ⟨r,0,none⟩)))::E) n ops rest cs Q)):=⟨fun h=>cu h.l h.r⟩
instance {U:TypeId} {s:Nat} {Z:aa} [z:cQ P U Z]:Nx (GR P w00 X L E n ops (⟨some s, .alloc U,t0,pos,af,none⟩::rest) cs Q)
 (Bt ((Nat.blt s n&& !(E.map Prod.fst).elem s)=true) (∀ r,GR P w00 (r::X) ((r,Z)::L) ((s, .is (.pointer (some ⟨r,0,none⟩)))::E) n ops rest cs Q)):=⟨fun h=>cB h.l h.r⟩
instance (priority:=low) {L':List Loc} {ty:TypeId} {s r k:Nat} {o:Operand} {T T0:aa} {ag:Bool} {k0:Nat} {ag0:Bool} [hs:ck E s (.is (.pointer (some ⟨r,0,none⟩)))] [ho:bD E o T] [hu:j8 L r T0 T L'] [z:aL T k ag] [z0:aL T0 k0 ag0]:
 Nx (GR P w00 X L E n ops (⟨none, .store ty (.tmp s) o,t0,pos,af,none⟩::rest) cs Q) (Bt (k0=k) (Bt ((P.info? ty).map (·.size)=some k) (GR P w00 X L' E n ops rest cs Q))):=⟨fun h=>cp h.l h.r.l h.r.r⟩
instance {s:Nat} {o:Operand} {T:aa} [ho:bD E o T] [k:jf E s E']:Nx (GR P w00 X L E n ops (⟨some s, .assign o,t0,pos,af,none⟩::rest) cs Q)
 (Bt ((Nat.blt s n&& !(E'.map Prod.fst).elem s)=true) (GR P w00 X L ((s,T)::E') n ops rest cs Q)):=⟨fun h=>cw h.l h.r⟩
class EH (r:Nat→Nat) (al:List (Nat×aa)) (X:List Nat) (L:List Loc) (E:List (Nat×aa)) (X':outParam (List Nat)) (L':outParam (List Loc)) (E':outParam (List (Nat×aa))):Prop where
 ok:cf r al X=X'∧ci r al L=L'∧cm r al E=E'
instance {r:Nat→Nat}:EH r [] X L E X L E:=⟨rfl,rfl,rfl⟩
instance {r:Nat→Nat} {d:Nat} {Z:aa} {al:List (Nat×aa)} {X':List Nat} {L':List Loc} [h:EH r al X L E X' L' E']:EH r ((d,Z)::al) X L E (r d::X') ((r d,Z)::L') ((d, .is (.pointer (some ⟨r d,0,none⟩)))::E'):=
 ⟨congrArg (_:: ·) h.ok.1,congrArg (_:: ·) h.ok.2.1,congrArg (_:: ·) h.ok.2.2⟩
class uO (m:Nat) (l:List Oper) (l':outParam (List Oper)):Prop where
 ok:l.drop m=l'
instance {l:List Oper}:uO 0 l l:=⟨rfl⟩
instance {m:Nat} {o:Oper} {l l':List Oper} [h:uO m l l']:uO (m+1) (o::l) l':=⟨h.ok⟩
instance {r:Nat→Nat} {al:List (Nat×aa)} {X':List Nat} {L':List Loc} {m:Nat} {l l':List Oper} [h:EH r al X L E X' L' E'] [f:uO m l l']:
 Nx (GR P w00 (cf r al X) (ci r al L) (cm r al E) n ops (l.drop m) cs Q) (GR P w00 X' L' E' n ops l' cs Q):=⟨fun k=>by rw [h.ok.1,h.ok.2.1,h.ok.2.2,f.ok];exact k⟩
instance (priority:=low) {m:Nat} {l l':List Oper} [f:uO m l l']:Nx (GR P w00 X L E n ops (l.drop m) cs Q) (GR P w00 X L E n ops l' cs Q):=⟨fun k=>by rw [f.ok];exact k⟩
theorem aE {s g dg:Nat} {op:Op} {T:aa} {want:Bool} (hgd:(ops[g]?).bind (·.dst)=some dg) [hl:ck E dg (.is (.bool want))] (hst:au P w00 0 L E ⟨some s,op,t0,pos,af,some (g,want)⟩ T)
 (h:Bt ((Nat.blt s n&&Nat.blt dg n&& !(E.map Prod.fst).elem s)=true) (GR P w00 X L ((s,T)::E) n ops rest cs Q)):GR P w00 X L E n ops (⟨some s,op,t0,pos,af,some (g,want)⟩::rest) cs Q:=fK hgd hl hst h.l h.r
theorem aD {s g dg:Nat} {op:Op} {want b:Bool} (hgd:(ops[g]?).bind (·.dst)=some dg) [hl:ck E dg (.is (.bool b))]
 (h:Bt ((b==want)=false) (Bt ((Nat.blt s n&&Nat.blt dg n&& !(E.map Prod.fst).elem s)=true) (GR P w00 X L ((s, .is undef)::E) n ops rest cs Q))):GR P w00 X L E n ops (⟨some s,op,t0,pos,af,some (g,want)⟩::rest) cs Q:=jz hgd hl h.l h.r.l h.r.r
theorem aF {s g dg:Nat} {op:Op} {want:Bool} (hgd:(ops[g]?).bind (·.dst)=some dg) [hl:ck E dg (.is undef)]
 (h:Bt ((Nat.blt s n&&Nat.blt dg n&& !(E.map Prod.fst).elem s)=true) (GR P w00 X L ((s, .is undef)::E) n ops rest cs Q)):GR P w00 X L E n ops (⟨some s,op,t0,pos,af,some (g,want)⟩::rest) cs Q:=jh hgd hl h.l h.r
instance (priority:=high):Nx (GC P w00 X L (eK 0 []) n cs Q) (GC P w00 X L [] n cs Q):=⟨fun h=>h⟩
instance (priority:=high) {A0:aa}:Nx (GC P w00 X L (eK 0 [A0]) n cs Q) (GC P w00 X L [(0,A0)] n cs Q):=⟨fun h=>h⟩
instance (priority:=high) {A0 A1:aa}:Nx (GC P w00 X L (eK 0 [A0,A1]) n cs Q) (GC P w00 X L [(0,A0),(1,A1)] n cs Q):=⟨fun h=>h⟩
instance (priority:=high) {A0 A1 A2:aa}:Nx (GC P w00 X L (eK 0 [A0,A1,A2]) n cs Q) (GC P w00 X L [(0,A0),(1,A1),(2,A2)] n cs Q):=⟨fun h=>h⟩
instance (priority:=high) {A0 A1 A2 A3:aa}:Nx (GC P w00 X L (eK 0 [A0,A1,A2,A3]) n cs Q) (GC P w00 X L [(0,A0),(1,A1),(2,A2),(3,A3)] n cs Q):=⟨fun h=>h⟩
instance (priority:=high) {A0 A1 A2 A3 A4:aa}:Nx (GC P w00 X L (eK 0 [A0,A1,A2,A3,A4]) n cs Q) (GC P w00 X L [(0,A0),(1,A1),(2,A2),(3,A3),(4,A4)] n cs Q):=⟨fun h=>h⟩
instance (priority:=high) {A0 A1 A2 A3 A4 A5:aa}:Nx (GC P w00 X L (eK 0 [A0,A1,A2,A3,A4,A5]) n cs Q) (GC P w00 X L [(0,A0),(1,A1),(2,A2),(3,A3),(4,A4),(5,A5)] n cs Q):=⟨fun h=>h⟩
instance (priority:=high) {A0 A1 A2 A3 A4 A5 A6:aa}:Nx (GC P w00 X L (eK 0 [A0,A1,A2,A3,A4,A5,A6]) n cs Q) (GC P w00 X L [(0,A0),(1,A1),(2,A2),(3,A3),(4,A4),(5,A5),(6,A6)] n cs Q):=⟨fun h=>h⟩
instance (priority:=high) {A0 A1 A2 A3 A4 A5 A6 A7:aa}:Nx (GC P w00 X L (eK 0 [A0,A1,A2,A3,A4,A5,A6,A7]) n cs Q) (GC P w00 X L [(0,A0),(1,A1),(2,A2),(3,A3),(4,A4),(5,A5),(6,A6),(7,A7)] n cs Q):=⟨fun h=>h⟩
end
theorem cr {P:Program} {G:World→Prop} {f:FuncId} {fn:Func} {c:Code} {ks:List Nat} {As:List aa} {T:Nat→aa} {n:Nat} [dn:fN T] (hf:P.funcs[f]? =some fn) (hn:fn.ntmps=n)
 (h:∀ X w,G w→GC P w X [] (eK 0 As) n [c] (bodyPost P fn (bj X w (T w.heap.size)))) (hb:fn.body=some c:=by exact rfl) (hl:As.length≤n:=by simp) (he:aJ P f:=by exact fun _ _=>by kernel_rfl):bW P G f ks As T:=Jr hf hb hn hl he h
section
variable {P:Program} {ops:Array Oper} {Q:Exit→Act→World→Prop}
theorem uQ{o:Oper} {es ix:Nat} (ho:o.op= .extract (.tmp es) ix) (h:o.wp P a w K Q):∃ v,(∀ w,(execOp a.eval o).run P w= .ok (.value v) w)∧K (a.put o.dst v) w:=by
 have key:(∃ v,∀ w,(execOp a.eval o).run P w= .ok (.value v) w)∨(∃ s,∀ w,(execOp a.eval o).run P w= .halt (.stuck s) w):=by
  unfold execOp
  simp only [ho]
  cases a.eval (.tmp es) with
  |tuple vs=>
   simp only [Instr.extract]
   cases h:vs[ix]? with
   |some v=>exact .inl ⟨v,fun w=>by simp only [Sem.run_bind,Sem.run_pure,Result.andThen_ok]⟩
   |none=>exact .inr ⟨_,fun w=>by simp [stuck];rfl⟩
  |_=>exact .inr ⟨_,fun w=>by simp [Instr.extract,stuck];rfl⟩
 unfold Oper.wp at h
 rcases key with ⟨v,hv⟩|⟨s,hs⟩
 ·refine ⟨v,hv,?_⟩
  rw [hv w] at h
  exact h
 ·rw [hs w] at h
  exact h.elim
def l_ (ops:Array Oper) (m l:Nat):Array Oper:=ops.modify m fun o=>{ o with after:=o.after.push { on:=l,ground:= .data } }
theorem td{l:Nat} {o:Oper} (h:ops[i]? =some o):(l_ ops m l)[i]? =some (if m=i then { o with after:=o.after.push { on:=l,ground:= .data } } else o):=by
 unfold l_
 rw [Array.getElem?_modify,h]
 split<;>simp
theorem gL{l:Nat} {listed:Array Bool}:i∈Region.ready .any (l_ ops m l) listed↔i∈Region.ready .any ops listed∧(i=m→listed.getD l false=true):=by
 rw [mem_ready,mem_ready]
 cases h:ops[i]? with
 |none=>
  have:(l_ ops m l)[i]? =none:=by unfold l_;rw [Array.getElem?_modify,h];split<;>simp
  simp [this]
 |some o=>
  rw [td h]
  by_cases e:m=i
  ·subst e
   simp only [if_true,Option.some.injEq,exists_eq_left',Array.mem_push,true_implies]
   constructor
   ·rintro ⟨h0,h1⟩
    exact ⟨⟨h0,fun e he=>h1 e (.inl he)⟩,h1 _ (.inr rfl) rfl⟩
   ·rintro ⟨⟨h0,h1⟩,h2⟩
    refine ⟨h0,fun e he hb=> ?_⟩
    rcases he with he|rfl
    ·exact h1 e he hb
    ·exact h2
  ·have e':¬ i=m:=fun h=>e h.symm
   simp [e,e']
theorem xU{l:Nat} (hK:∀ a w,K a w→K' a w) (h:wpOp P (l_ ops m l) Q i K a w):wpOp P ops Q i K' a w:=by
 have hy:∀ t,yielded (l_ ops m l) t=yielded ops t:=by
  intro t
  funext g
  unfold yielded
  cases hg:ops[g]? with
  |none=>rw [show (l_ ops m l)[g]? =none by unfold l_;rw [Array.getElem?_modify,hg];split<;>simp]
  |some o=>
   rw [td hg]
   by_cases e:m=g
   ·rw [if_pos e];rfl
   ·rw [if_neg e]
 unfold wpOp at*
 cases hi:ops[i]? with
 |none=>
  rw [show (l_ ops m l)[i]? =none by unfold l_;rw [Array.getElem?_modify,hi];split<;>simp] at h
  exact hK _ _ h
 |some o=>
  rw [td hi] at h
  by_cases e:m=i
  ·rw [if_pos e] at h
   simp only [hy] at h ⊢
   have hw:Region.wanted { o with after:=o.after.push { on:=l,ground:= .data } } (yielded ops a.tmps)=Region.wanted o (yielded ops a.tmps):=rfl
   rw [hw] at h
   split
   ·rename_i hw'
    rw [if_pos hw'] at h
    exact h.imp (fun h=>Oper.wp_mono hK (show o.wp P a w K Q from h)) id
   ·rename_i hw'
    rw [if_neg hw'] at h
    exact hK _ _ h
  ·rw [if_neg e] at h
   simp only [hy] at h ⊢
   split
   ·rename_i hw'
    rw [if_pos hw'] at h
    exact h.imp (Oper.wp_mono hK) id
   ·rename_i hw'
    rw [if_neg hw'] at h
    exact hK _ _ h
theorem xE {m l es ix:Nat} {ol om:Oper} (hl:ops[l]? =some ol) (hm:ops[m]? =some om) (hne:l≠m) (he:ol.op= .extract (.tmp es) ix) (hg:ol.guard=none)
 (hfree:∀ j oj,ops[j]? =some oj→j≠l→(∀ e∈ol.after,Region.binds .any e=true→e.on≠j)→(∀ e∈oj.after,Region.binds .any e=true→e.on≠l)→ol.apart ops oj=true) (hsel:∀ (j:Nat) (o:Oper) cs b,ops[j]? =some o→o.op≠ .select cs b)
 (hdep:∀ e∈ol.after,Region.binds .any e=true→∃ e'∈om.after,Region.binds .any e'=true∧e'.on=e.on) (hQp:∀ c a w,¬ Q (.panic c) a w) (hQo:¬ LetsOut Q):
 ∀ fuel listed a w,listed.size=ops.size→wpAny P .any (l_ ops m l) Q fuel listed a w→wpAny P .any ops Q fuel listed a w:=by
 have hlr:∀ {listed:Array Bool},m∈Region.ready .any ops listed→listed.getD l true=false→l∈Region.ready .any ops listed:=by
  intro listed h h0
  rw [mem_ready] at h ⊢
  obtain ⟨_,o,ho,h1⟩:=h
  rw [hm] at ho
  injection ho with ho
  subst ho
  refine ⟨h0,ol,hl,fun e he hb=> ?_⟩
  obtain ⟨e',h2,h3,h4⟩:=hdep e he hb
  rw [←h4]
  exact h1 e' h2 h3
 have hll:∀ {listed:Array Bool},¬ listed.getD l false=true→listed.size=ops.size→listed.getD l true=false:=by
  intro listed h hs
  have hlt:l<listed.size:=by rw [hs];exact (Array.getElem?_eq_some_iff.1 hl).1
  rw [Array.getD_eq_getD_getElem?,Array.getElem?_eq_getElem hlt] at h ⊢
  simpa using h
 have hmr:∀ {listed:Array Bool},listed.size=ops.size→Region.ready .any (l_ ops m l) listed=[]→Region.ready .any ops listed=[]:=by
  intro listed hs h
  rw [List.eq_nil_iff_forall_not_mem] at h ⊢
  intro i hi
  by_cases hc:listed.getD l false=true
  ·exact h i (gL.2 ⟨hi,fun _=>hc⟩)
  ·by_cases e:i=m
   ·subst e
    exact h l (gL.2 ⟨hlr hi (hll hc hs),fun e=>absurd e hne⟩)
   ·exact h i (gL.2 ⟨hi,fun e'=>absurd e' e⟩)
 intro fuel
 induction fuel with
 |zero=>intro listed a w hs h;exact ⟨hmr hs h.1,h.2⟩
 |succ f ih=>
  intro listed a w hs h
  by_cases hc:m∈Region.ready .any ops listed∧¬ listed.getD l false=true
  ·obtain ⟨h1,h2⟩:=hc
   have hr:=hlr h1 (hll h2 hs)
   have hx:=h.2 l (gL.2 ⟨hr,fun e=>absurd e hne⟩)
   have hx:=xU (fun a w h=>ih _ a w (by simpa using hs) h) hx
   unfold wpOp at hx
   simp only [hl] at hx
   have hwt:Region.wanted ol (yielded ops a.tmps)=true:=by unfold Region.wanted;rw [hg]
   rw [if_pos hwt] at hx
   rcases hx with hx|⟨_,hx⟩
   ·obtain ⟨v,hv,hk⟩:=uQ he hx
    exact wpAny_first hl hsel (fun c a w h=>absurd h (hQp c _ w)) f listed a w (fun j oj h1 h2 h3 h4=>hfree j oj h1 h2 (fun e he hb heq=>by
     rw [mem_ready] at hr
     obtain ⟨_,o',ho',hd⟩:=hr
     rw [hl] at ho'
     injection ho' with ho'
     subst ho'
     have:=hd e he hb
     rw [heq] at this
     rw [Array.getD_eq_getD_getElem?] at this h3
     cases hx:listed[j]? with
     |none=>rw [hx] at this;cases this
     |some b=>rw [hx] at this h3;simp at this h3;rw [this] at h3;cases h3) h4) hr (.inl ⟨hwt,hv⟩) hk
   ·exact absurd hx hQo
  ·refine ⟨fun h0=>h.1 ?_,fun i hi=> ?_⟩
   ·rw [List.eq_nil_iff_forall_not_mem] at h0 ⊢
    exact fun i hi=>h0 i (gL.1 hi).1
   ·have hi':i∈Region.ready .any (l_ ops m l) listed:=gL.2 ⟨hi,fun e=>by
     subst e
     exact Classical.byContradiction fun h2=>hc ⟨hi,h2⟩⟩
    exact xU (fun a w h=>ih _ a w (by simpa using hs) h) (h.2 i hi')
def mj (K:Act→World→Prop):Exit→Act→World→Prop
 | .normal,a,w=>K a w
 |_,_,_=>False
theorem nK:¬ LetsOut (mj K):=fun ⟨_,_,h⟩=>h
theorem Oper.wp_onlyN{o:Oper} (h:o.wp P a w K (mj K')):o.wp P a w K Q:=by
 unfold Oper.wp at*
 generalize (execOp a.eval o).run P w=r at*
 cases r with
 |ok n w'=>
  cases n<;>simp only [Oper.upon] at h ⊢ <;>
   first
    |exact h
    |exact Calls.mono h (fun e w'' he=>by cases e<;>first|exact he|exact he.elim|exact absurd he nK)
 |halt x w'=>cases x<;>simp only [Oper.upon] at h ⊢ <;>exact h.elim
theorem xh{K2:Act→World→Prop} (hK:∀ a w,K a w→K2 a w) (h:wpOp P ops (mj K') i K a w):wpOp P ops Q i K2 a w:=by
 unfold wpOp at*
 cases hi:ops[i]? with
 |none=>simp only [hi] at h;exact hK _ _ h
 |some o=>
  simp only [hi] at h ⊢
  split
  ·rename_i hw
   rw [if_pos hw] at h
   rcases h with h|⟨_,h⟩
   ·exact .inl (Oper.wp_onlyN (Oper.wp_mono hK h))
   ·exact absurd h nK
  ·rename_i hw
   rw [if_neg hw] at h
   exact hK _ _ h
theorem oP {K:Act→World→Prop} (hQ:∀ a w,K a w→Q .normal a w):∀ fuel listed a w,wpAny P .any ops (mj K) fuel listed a w→wpAny P .any ops Q fuel listed a w
 |0,_,_,_,h=>⟨h.1,hQ _ _ h.2⟩
 |f+1,_,_,_,h=>⟨fun h0=>hQ _ _ (h.1 h0),fun i hi=>xh (fun a w h=>oP hQ f _ a w h) (h.2 i hi)⟩
def BU (ops:Array Oper) (m l:Nat):Bool:=
 Region.noSelect ops&& !Nat.beq l m&&
 (match ops[l]?,ops[m]? with
  |some ol,some om=>((List.range ops.size).all fun j=>Nat.beq j l || (ol.after.toList.any fun e=>Region.binds .any e&&Nat.beq e.on j) || (match ops[j]? with|some oj=>(oj.after.toList.any fun e=>Region.binds .any e&&Nat.beq e.on l) || Oper.apart ops ol oj|none=>true))&&(match ol.op with| .extract (.tmp _) _=>true|_=>false)&&(match ol.guard with|none=>true|_=>false)&&ol.after.toList.all (fun e=> !Region.binds .any e || om.after.toList.any (fun e'=>Region.binds .any e'&&Nat.beq e'.on e.on))
  |_,_=>false)
theorem vJ{l:Nat} (hc:BU ops m l=true) {fuel:Nat} {listed:Array Bool} (hs:listed.size=ops.size) (h:wpAny P .any (l_ ops m l) (mj K) fuel listed a w):wpAny P .any ops (mj K) fuel listed a w:=by
 unfold BU at hc
 simp only [Bool.and_eq_true,Bool.not_eq_true'] at hc
 obtain ⟨⟨hsel,hne⟩,hc⟩:=hc
 cases hl:ops[l]? with
 |none=>rw [hl] at hc;simp at hc
 |some ol=>
  cases hm:ops[m]? with
  |none=>rw [hl,hm] at hc;simp at hc
  |some om=>
   rw [hl,hm] at hc
   simp only [Bool.and_eq_true,List.all_eq_true,Bool.or_eq_true,Bool.not_eq_true',List.any_eq_true] at hc
   obtain ⟨⟨⟨hf,h1⟩,h2⟩,h3⟩:=hc
   obtain ⟨es,ix,he⟩:∃ es ix,ol.op= .extract (.tmp es) ix:=by
    split at h1
    ·exact ⟨_,_,by assumption⟩
    ·cases h1
   have hg:ol.guard=none:=by
    split at h2
    ·assumption
    ·cases h2
   refine xE hl hm (fun e=>by rw [e,Nat.beq_refl] at hne;cases hne) he hg (fun j oj hj hjl hnl hne=> ?_) (Region.noSelect_spec hsel) (fun e he hb=> ?_) (fun _ _ _ h=>h) nK fuel listed a w hs h
   ·have:=hf j (by simpa using (Array.getElem?_eq_some_iff.1 hj).1)
    rw [hj] at this
    simp only [Bool.or_eq_true,List.any_eq_true,Bool.and_eq_true] at this
    rcases this with (h|⟨e,h4,h5,h6⟩)|⟨e,h4,h5,h6⟩|h
    ·exact absurd (Nat.eq_of_beq_eq_true h) hjl
    ·exact absurd (Nat.eq_of_beq_eq_true h6) (hnl e (by simpa using h4) h5)
    ·exact absurd (Nat.eq_of_beq_eq_true h6) (hne e (by simpa using h4) h5)
    ·exact h
   ·rcases h3 e (by simpa using he) with h|⟨e',h4,h5,h6⟩
    ·rw [hb] at h;cases h
    ·exact ⟨e',by simpa using h4,h5,Nat.eq_of_beq_eq_true h6⟩
end
def rn:List Oper→Nat→List Nat→List Oper
 |l,_,[]=>l
 |l,m,i::is=>rn (l.modify m fun o=>{ o with after:=o.after.push { on:=i,ground:= .data } }) m is
def yC:List Oper→Nat→List Nat→Bool
 |_,_,[]=>true
 |l,m,i::is=>BU l.toArray m i&&yC (l.modify m fun o=>{ o with after:=o.after.push { on:=i,ground:= .data } }) m is
theorem sM:∀ (l:List Oper) (m:Nat) (is:List Nat),(rn l m is).length=l.length
 |_,_,[]=>rfl
 |l,m,i::is=>by unfold rn;rw [sM];simp
theorem pP {P:Program} {K:Act→World→Prop} {m:Nat}:∀ {is:List Nat} {l:List Oper} {fuel:Nat} {listed:Array Bool} {a:Act} {w:World},yC l m is=true→listed.size=l.length→wpAny P .any (rn l m is).toArray (mj K) fuel listed a w→wpAny P .any l.toArray (mj K) fuel listed a w
 |[],_,_,_,_,_,_,_,h=>h
 |i::is,l,fuel,listed,a,w,hc,hs,h=>by
  unfold yC at hc
  rw [Bool.and_eq_true] at hc
  refine vJ hc.1 (by simpa using hs) ?_
  have:=pP hc.2 (by simpa using hs) h
  unfold l_
  simpa using this
structure GZ (P:Program) (w00:World) (X:List Nat) (L:List Loc) (E:List (Nat×aa)) (n:Nat) (ops:Array Oper) (l:List Oper) (K:Act→World→Prop):Prop where
 run:∀ a w,TS w00 X L E n a w→WL P ops (mj K) l a w
section
variable {P:Program} {w00:World} {X:List Nat} {L:List Loc} {E E':List (Nat×aa)} {n:Nat} {cs:List Code} {Q:Exit→Act→World→Prop} {K:Act→World→Prop}
theorem jY {id:Nat} {l:List Oper} {al:List (Nat×aa)} (gs:List (Nat×Bool)) (us:List Nat) (m:Nat) (is:List Nat) (hl:yC l m is=true) (ht:d8 P w00 0 L (rn l m is).toArray gs E ((rn l m is).take m) E' al)
 (hc:(io (rn l m is).toArray (E'.map Prod.fst) (E.map Prod.fst) gs us n m&&cn (E'.map Prod.fst)&&cn (al.map Prod.fst)&&(al.map Prod.fst).all (fun d=> !(E'.map Prod.fst).elem d))=true)
 (hg:bG E' gs) (hu:bE E' us) (hm:P.follows .mixedOrders=true) (h:∀ r:Nat→Nat,GZ P w00 (cf r al X) (ci r al L) (cm r al E') n (rn l m is).toArray ((rn l m is).drop m) (CL P cs Q)):GC P w00 X L E n (Code.region id l.toArray true::cs) Q:=by
 refine ⟨fun a w hts=> ?_⟩
 have key:=uY (Q:=mj (CL P cs Q)) hts gs us m ht.zero hc hg hu fun r a w h'=>(h r).run a w h'
 have hsz:(rn l m is).toArray.size=l.toArray.size:=by simp [sM]
 rw [hsz] at key
 exact wp_region_any hm (oP (fun a w h=>h) _ _ _ _ (pP hl qE key))
theorem I_(h:∀ a w,TS w00 X L E n a w→K a w):GZ P w00 X L E n ops [] K:=⟨fun a w ht=>wm (h a w ht)⟩
theorem wN(h:GC P w00 X L E n cs Q):GZ P w00 X L E n ops [] (CL P cs Q):=I_ h.run
variable {ops:Array Oper} {rest:List Oper} {t0:TypeId} {pos:String} {af:Array Edge}
theorem pU {L':List Loc} {ty:TypeId} {s r k:Nat} {o:Operand} {T T0:aa} {ag:Bool} {k0:Nat} {ag0:Bool} [hs:ck E s (.is (.pointer (some ⟨r,0,none⟩)))] [ho:bD E o T] [hu:j8 L r T0 T L'] [z:aL T k ag] [z0:aL T0 k0 ag0] (hk:k0=k) (hi:(P.info? ty).map (·.size)=some k)
 (h:GZ P w00 X L' E n ops rest K):GZ P w00 X L E n ops (⟨none, .store ty (.tmp s) o,t0,pos,af,none⟩::rest) K:=⟨fun _ _ ht=>uu ht hk hi fun w h'=>h.run _ w h'⟩
theorem pZ {s:Nat} {o:Operand} {T:aa} [ho:bD E o T] [k:jf E s E'] (hd:(Nat.blt s n&& !(E'.map Prod.fst).elem s)=true)
 (h:GZ P w00 X L ((s,T)::E') n ops rest K):GZ P w00 X L E n ops (⟨some s, .assign o,t0,pos,af,none⟩::rest) K:=⟨fun _ _ ht=>sh ht hd fun a h'=>h.run a _ h'⟩
end
structure F6 (P:Program) (w00:World) (L:List Loc) (E:List (Nat×aa)) (o:Oper):Prop where
 run:∀ (X:List Nat) (n:Nat) (E1:List (Nat×aa)) (a:Act) (w:World),(∀ p∈E, .tmp p.1∈o.op.operands.toList→p∈E1)→TS w00 X L E1 n a w→∃ w2,(execOp a.eval o).run P w= .ok .skip w2∧TS w00 X L E1 n a w2
inductive qV (P:Program) (w00:World) (L:List Loc):List (Nat×aa)→List Oper→List (Nat×aa)→Prop
 |nil {E:List (Nat×aa)}:qV P w00 L E [] E
 |cons {E E':List (Nat×aa)} {o:Oper} {os:List Oper} {T:aa} {d:Nat} (h:au P w00 0 L E o T) (hd:o.dst=some d) (t:qV P w00 L ((d,T)::E) os E'):qV P w00 L E (o::os) E'
 |keep {E E':List (Nat×aa)} {o:Oper} {os:List Oper} (h:F6 P w00 L E o) (hd:o.dst=none) (t:qV P w00 L E os E'):qV P w00 L E (o::os) E'
section
variable {P:Program} {w00:World} {X:List Nat} {L:List Loc} {n:Nat} {Q:Exit→Act→World→Prop}
theorem au.more {E E':List (Nat×aa)} {o:Oper} {T:aa} (h:au P w00 0 L E o T) (hs:∀ p∈E,p∈E'):au P w00 0 L E' o T:=⟨fun X ρ w hc hf hN hm hsl=>h.run X ρ w hc hf hN hm fun p hp=>hsl p (hs p hp)⟩
theorem qV.sub{E E':List (Nat×aa)} (h:qV P w00 L E l E'):∀ p∈E,p∈E':=by
 induction h with
 |nil=>exact fun _ h=>h
 |cons _ _ _ ih=>exact fun p hp=>ih p (List.mem_cons_of_mem _ hp)
 |keep _ _ _ ih=>exact ih
theorem qV.new{E E':List (Nat×aa)} (h:qV P w00 L E l E'):∀ p∈E',p∈E∨∃ o∈l,o.dst=some p.1:=by
 induction h with
 |nil=>exact fun _ h=> .inl h
 |cons _ hd _ ih=>
  intro p hp
  rcases ih p hp with h|⟨q,h,h'⟩
  ·rcases List.mem_cons.1 h with rfl|h
   ·exact .inr ⟨_,List.mem_cons_self,hd⟩
   ·exact .inl h
  ·exact .inr ⟨q,List.mem_cons_of_mem _ h,h'⟩
 |keep _ _ _ ih=>
  intro p hp
  rcases ih p hp with h|⟨q,h,h'⟩
  ·exact .inl h
  ·exact .inr ⟨q,List.mem_cons_of_mem _ h,h'⟩
theorem qV.at{E E':List (Nat×aa)} (h:qV P w00 L E l E'):∀ o∈l,(∃ d T,o.dst=some d∧(d,T)∈E'∧au P w00 0 L E' o T)∨(o.dst=none∧F6 P w00 L E' o):=by
 induction h with
 |nil=>exact fun _ h=>by cases h
 | @cons E E' o os T d hs hd t ih=>
  intro o' ho
  rcases List.mem_cons.1 ho with rfl|ho
  ·exact .inl ⟨d,T,hd,t.sub _ List.mem_cons_self,hs.more fun p hp=>t.sub _ (List.mem_cons_of_mem _ hp)⟩
  ·exact ih o' ho
 | @keep E E' o os hk hd t ih=>
  intro o' ho
  rcases List.mem_cons.1 ho with rfl|ho
  ·exact .inr ⟨hd,⟨fun X n E1 a w h=>hk.run X n E1 a w fun p hp=>h p (t.sub _ hp)⟩⟩
  ·exact ih o' ho
def Ew (ops:Array Oper) (start:List Nat) (n m:Nat):Bool:=
 Nat.beq ops.size (m+1)&&((List.range (m+1)).all fun i=>match ops[i]? with
  |some o=>(match o.guard with|none=>true|_=>false)&&(o.after.toList.all fun e=> !Region.binds .any e || Nat.blt e.on i)&&
   (Nat.beq i m || ((o.op.operands.toList.all fun x=>match x with| .tmp s=>start.elem s || (o.after.toList.any fun e=>Region.binds .any e&&(match (ops[e.on]?).bind (·.dst) with|some d=>Nat.beq d s|none=>false))|_=>true)&&(match o.dst with|some d=>Nat.blt d n&& !start.elem d|none=>true)))
  |none=>false)&&(List.range m).all fun i=>jg ops m i
end
def aa.fv (f:FuncId) (Ts Us:List aa):aa:=⟨fun X w v=>∃ vs us:List Value,v= .func (.func f) vs.toArray us.toArray∧cM X w Ts vs∧cM X w Us us,fun ⟨vs,us,e,h1,h2⟩ hk hX=>⟨vs,us,e,h1.stable hk hX,h2.stable hk hX⟩⟩
instance {f:FuncId} {Ts Us:List aa}:aL (.fv f Ts Us) 1 false:=⟨fun {X w v} ⟨vs,us,e,_⟩=>by rw [e];exact ⟨rfl,by simp [Value.cells,Value.oneCell'],(fun h=>by cases h),fun _=>rfl⟩⟩
instance {f:FuncId} {Ts Us:List aa}:ai (.fv f Ts Us) 0 1 false (.fv f Ts Us):=⟨fun _=>rfl,fun {X w v} h=>by
 obtain ⟨h1,_,_,h4⟩:=(inferInstance:aL (.fv f Ts Us) 1 false).ok h
 have e:=h4 rfl
 refine ⟨[v],rfl,fun j u hj=>by rw [e];simpa using hj,fun u _ hu=> ?_⟩
 have:=hu rfl
 simp at this
 rw [←this]
 exact h⟩
section
variable {P:Program} {w00:World} {N:Nat} {L:List Loc} {E:List (Nat×aa)} {d:Nat} {t0:TypeId} {pos:String} {af:Array Edge} {gd:Option (Nat×Bool)} {ats:Array TypeId}
end
open Go Go.ChangeShapes Go.WideShapes Go.ChangeAt Go.RowKit Go.Deep
theorem yB {α:Type} {Q:Nat→α→Prop}:∀ {len:Nat},(∀ i,i<len→∃ x,Q i x)→∃ l:List α,l.length=len∧∀ i x,l[i]? =some x→Q i x
 |0,_=>⟨[],rfl,fun i x hx=>by simp at hx⟩
 |n+1,each=>by
  obtain ⟨l,h1,h2⟩:=yB (len:=n) (fun i hi=>each i qO)
  obtain ⟨x,g⟩:=each n qO
  refine ⟨l++[x],by simp [h1],fun i y hy=> ?_⟩
  by_cases hin:i<l.length
  ·rw [List.getElem?_append_left hin] at hy
   exact h2 i y hy
  ·have hlt:=(List.getElem?_eq_some_iff.1 hy).1
   have e:i=n:=by simp at hlt;omega
   subst e
   rw [List.getElem?_append_right qO,h1,Nat.sub_self] at hy
   obtain rfl:x=y:=by simpa using hy
   exact g
def x_ (W:World) (b:Nat):Prop:=b<W.heap.size
class bc {α:Type} (P:Program) (t:TypeId) (r:Rp α):Prop where
 size:P.cellsOf t=r.k
 ok:∀ {H:Type} {enc:TypeId×Value→H} {W:World} {fuel:Nat} {cs:List Value} {y:DataW H×List MemPlace},DataW.trod enc P W 0 (fun _=>true) true fuel t cs=some y→∃ a,r.rd W (x_ W) a cs
theorem bc.bool(hb:P.underlying t=some .bool) (hc:P.cellsOf t=1):bc P t Rp.bool:=⟨hc,fun h=>by
 obtain ⟨b,rfl,_⟩:=DataW.trod_bool hb h
 exact ⟨b,rfl⟩⟩
theorem bc.limbs{e:TypeId} (ht:P.underlying t=some (.slice e)) (he:P.underlying e=some (.int .u32)) (hc:P.cellsOf e=1) (hk:P.cellsOf t=1):bc P t Rp.limbs:=⟨hk,fun {H enc W fuel cs y} h=>by
 obtain ⟨v,rfl⟩:∃ v,cs=[v]:=by
  rcases open_ints ht he hc h with ⟨hcs,_⟩|⟨a,len,cap,zs,hcs,_⟩
  ·exact ⟨_,hcs⟩
  ·exact ⟨_,hcs⟩
 obtain ⟨A,n,c,xs,rfl,hs,hw⟩:=Dh ht he hc h
 refine ⟨xs,A,n,c,rfl,⟨hs,fun hn b hb=> ?_⟩,fun x hx=>Jn (hw x hx)⟩
 obtain ⟨b',off,x,rfl,hlt,_⟩:=hs.at_ (j:=0) hn
 injection hb with hb
 rw [←hb]
 exact hlt⟩
theorem bc.pair{α β:Type} {f0 f1:Field} {r:Rp α} {s:Rp β} (ht:P.underlying t=some (.struct #[f0,f1])) (h0:bc P f0.type r) (h1:bc P f1.type s) (o0:f0.offset=0) (o1:f1.offset=r.k) (hk:P.cellsOf t=r.k+s.k):bc P t (r.pair s):=⟨hk,fun {H enc W fuel cs y} h=>by
 obtain ⟨y0,y1,n,_,hl,g0,g1⟩:=trod_struct2 ht h
 rw [o0,h0.size,List.drop_zero] at g0
 rw [o1,h1.size,List.take_of_length_le (by rw [List.length_drop];omega)] at g1
 obtain ⟨a,ha⟩:=h0.ok g0
 obtain ⟨b,hb⟩:=h1.ok g1
 exact ⟨(a,b),cs.take r.k,cs.drop r.k,(List.take_append_drop _ _).symm,ha,hb⟩⟩
theorem bc.row{α:Type} {e:TypeId} {r:Rp α} (ht:P.underlying t=some (.slice e)) (h0:bc P e r) (hk:P.cellsOf t=1) (hp:0<r.k):bc P t r.row:=⟨hk,fun {H enc W fuel cs y} h=>by
 rcases Deep.open_slice ht h with ⟨rfl,_⟩|⟨a,len,cap,m,k,D,Pl,rfl,_,hl,hm,hmm,_,hi⟩
 ·exact ⟨[],none,0,0,rfl,rfl,Nat.le_refl _,Nat.zero_le _,fun _=>rfl,fun h=>absurd h qO⟩
 ·simp only [if_true] at hmm
  have each:∀ i,i<len→∃ (x:α) (cs':List Value),W.cells? 0 (a.add (i*r.k)) r.k=some cs'∧r.rd W (x_ W) x cs':=by
   intro i hin
   obtain ⟨cs',hcs',hy⟩:=hi i qO
   rw [h0.size] at hcs'
   obtain ⟨x,hx⟩:=h0.ok hy
   exact ⟨x,cs',hcs',hx⟩
  obtain ⟨l,hl1,hl2⟩:=yB each
  refine ⟨l,some a,len,cap,rfl,hl1,hl,hm,(fun h=>by cases h),fun hn=> ?_⟩
  obtain ⟨b,off,spot⟩:=a
  obtain ⟨x0,hx0⟩:∃ x,l[0]? =some x:=⟨_,List.getElem?_eq_getElem qO⟩
  obtain ⟨c0,hc0,hr0⟩:=hl2 0 x0 hx0
  obtain ⟨_,q1,q2⟩:=World.cells?_some hc0
  have t0:=q2 0 hp
  obtain ⟨u,hu⟩:∃ u,c0[0]? =some u:=⟨_,List.getElem?_eq_getElem (by rw [q1];exact hp)⟩
  rw [hu] at t0
  have hspot:spot=none:=by simpa [Addr.add] using World.cell?_spot t0
  subst hspot
  have hb0:=World.block_lt_of_cell? _ _ t0
  refine ⟨b,off,rfl,(by simpa [Addr.add_lit] using hb0:b<W.heap.size),fun j x hx=> ?_⟩
  obtain ⟨cs',hcs',hr⟩:=hl2 j x hx
  obtain ⟨_,p1,p2⟩:=World.cells?_some hcs'
  refine ⟨cs',fun i u hu=> ?_,hr⟩
  have hi':=(List.getElem?_eq_some_iff.1 hu).1
  have:=p2 i qO
  rw [hu] at this
  simpa [Addr.add_lit,Nat.add_assoc] using this⟩
theorem ye {α:Type} {P:Program} {t:TypeId} {fs:Array Field} {r:Rp α} (hs:P.underlying t=some (.struct fs)) (o:bc P t r) {H:Type} {enc:TypeId×Value→H} {W:World} {rr:Reach} {b0:Nat} {v:Value} {d:DataW H} {ps:List MemPlace}
 (hok:Value.okWide P W rr b0 t v) (h:DataW.Trod enc P W 0 (fun _=>true) true t v d ps):∃ a,(aa.ex r (fun y=>y=a)).holds [] W v:=by
 obtain ⟨cs,rfl,_⟩:=okWide_struct hs hok
 obtain ⟨fuel,hf⟩:=h
 obtain ⟨a,ha⟩:=o.ok hf
 exact ⟨a,a,rfl,cs.toList,by simp,r.more (S:=x_ W) (by simpa [Value.cells] using ha) fun b hb=>⟨hb,fun h=>by cases h⟩⟩
end Go.Proofs.YtpmhjieibebclaaGreatDoor
