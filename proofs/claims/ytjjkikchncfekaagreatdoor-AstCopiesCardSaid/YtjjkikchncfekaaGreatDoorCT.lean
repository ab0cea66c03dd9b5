/- A drawn region that makes variables and stores into them, while loads may come late. No program stands in it. -/
import Derived.Test.YtjjkikchncfekaaGreatDoorCS
import Derived.Test.YtjjkikchncfekaaGreatDoorCG
import Derived.Deep.DeepHandedRow
import Derived.Test.YtjjkikchncfekaaGreatDoorDD
set_option linter.unusedSimpArgs false
set_option linter.unusedVariables false
namespace Go.Proofs.YtjjkikchncfekaaGreatDoor
open Go Go.RowKit
variable {l:List Oper} {E E':List (Nat×aa)} {P:Program} {t:TypeId}
theorem pV.re {w00:World} {X X':List Nat} {L L':List Loc} {w:World} (h:pV w00 X L w) (h1:∀ b∈X',b∈X) (h2:∀ b∈X,b∈X') (h3:∀ p∈L',p∈L) (hn:(L'.map Prod.fst).Nodup):pV w00 X' L' w:=by
 refine ⟨fun p hp=> ?_,fun b hb=>h.far b (h1 b hb),hn,h.below⟩
 obtain ⟨g1,g2,v,ty,g3,g4⟩:=h.loc p (h3 p hp)
 exact ⟨h2 _ g1,g2,v,ty,p.2.stable g3 ⟨Nat.le_refl _,fun _ _ _=>rfl⟩ fun b hb _=>h1 b hb,g4⟩
theorem TS.re{w00:World} {X X':List Nat} {L L':List Loc} {n:Nat} {a:Act} {w:World} (h:TS w00 X L E n a w) (h1:∀ b∈X',b∈X) (h2:∀ b∈X,b∈X') (h3:∀ p∈L',p∈L) (hn:(L'.map Prod.fst).Nodup) (h4:∀ p∈E',p∈E):TS w00 X' L' E' n a w:=
 ⟨h.size,h.df,fun p hp=>p.2.stable (h.slots p (h4 p hp)) ⟨Nat.le_refl _,fun _ _ _=>rfl⟩ fun b hb _=>h1 b hb,h.mem.re h1 h2 h3 hn⟩
abbrev Vr:=Nat×aa×aa
inductive fQ (P:Program) (w00:World) (L:List Loc) (V:List Vr):List (Nat×aa)→List Oper→List (Nat×aa)→Prop
 |nil {E:List (Nat×aa)}:fQ P w00 L V E [] E
 |cons {E E':List (Nat×aa)} {os:List Oper} {T:aa} {d:Nat} {op:Op} {ty:TypeId} {pos:String} {af:Array Edge} {gd:Option (Nat×Bool)} (h:ay P w00 0 L E ⟨some d,op,ty,pos,af,gd⟩ T) (hv:(V.map Prod.fst).elem d=false) (t:fQ P w00 L V ((d,T)::E) os E'):fQ P w00 L V E (⟨some d,op,ty,pos,af,gd⟩::os) E'
 |alloc {E E':List (Nat×aa)} {os:List Oper} {d:Nat} {U ty:TypeId} {pos:String} {af:Array Edge} {Z T:aa} (z:cH P U Z) (hv:(d,Z,T)∈V) (t:fQ P w00 L V E os E'):fQ P w00 L V E (⟨some d, .alloc U,ty,pos,af,none⟩::os) E'
 |put {E E':List (Nat×aa)} {os:List Oper} {d x k k0:Nat} {ag ag0:Bool} {ty t0:TypeId} {pos:String} {af:Array Edge} {Z T:aa} (hv:(d,Z,T)∈V) (ho:(x,T)∈E) (z:aJ T k ag) (z0:aJ Z k0 ag0) (hk:k0=k) (hi:(P.info? ty).map (·.size)=some k) (t:fQ P w00 L V E os E'):fQ P w00 L V E (⟨none, .store ty (.tmp d) (.tmp x),t0,pos,af,none⟩::os) E'
def gL (d:Nat) (o:Oper):Bool:=match o.op,o.dst with
 | .store _ (.tmp s) _,none=>Nat.beq s d
 |_,_=>false
def ew (d:Nat) (o:Oper):Bool:=match o.op,o.dst with
 | .alloc _,some s=>Nat.beq s d
 |_,_=>false
inductive IY (P:Program) (w00:World) (L:List Loc) (V:List Vr) (E:List (Nat×aa)) (o:Oper):Prop
 |step (d:Nat) (T:aa) (hd:o.dst=some d) (hT:(d,T)∈E) (hv:(V.map Prod.fst).elem d=false) (h:ay P w00 0 L E o T)
 |alloc (d:Nat) (U:TypeId) (Z T:aa) (hd:o.dst=some d) (ho:o.op= .alloc U) (z:cH P U Z) (hv:(d,Z,T)∈V)
 |put (d x k k0:Nat) (ag ag0:Bool) (ty t0:TypeId) (pos:String) (af:Array Edge) (Z T:aa) (e:o=⟨none, .store ty (.tmp d) (.tmp x),t0,pos,af,none⟩) (hv:(d,Z,T)∈V) (ho:(x,T)∈E) (z:aJ T k ag) (z0:aJ Z k0 ag0) (hk:k0=k) (hi:(P.info? ty).map (·.size)=some k)
section
variable {P:Program} {w00:World} {X:List Nat} {L:List Loc} {n:Nat} {Q:Exit→Act→World→Prop} {V:List Vr}
theorem fQ.sub(h:fQ P w00 L V E l E'):∀ p∈E,p∈E':=by
 induction h with
 |nil=>exact fun _ h=>h
 |cons _ _ _ ih=>exact fun p hp=>ih p (List.mem_cons_of_mem _ hp)
 |alloc _ _ _ ih=>exact ih
 |put _ _ _ _ _ _ _ ih=>exact ih
theorem fQ.new(h:fQ P w00 L V E l E'):∀ p∈E',p∈E∨∃ o∈l,o.dst=some p.1:=by
 induction h with
 |nil=>exact fun _ h=> .inl h
 |cons _ _ _ ih=>
  intro p hp
  rcases ih p hp with h|⟨q,h,h'⟩
  ·rcases List.mem_cons.1 h with rfl|h
   ·exact .inr ⟨_,List.mem_cons_self,rfl⟩
   ·exact .inl h
  ·exact .inr ⟨q,List.mem_cons_of_mem _ h,h'⟩
 |alloc _ _ _ ih=>
  intro p hp
  rcases ih p hp with h|⟨q,h,h'⟩
  ·exact .inl h
  ·exact .inr ⟨q,List.mem_cons_of_mem _ h,h'⟩
 |put _ _ _ _ _ _ _ ih=>
  intro p hp
  rcases ih p hp with h|⟨q,h,h'⟩
  ·exact .inl h
  ·exact .inr ⟨q,List.mem_cons_of_mem _ h,h'⟩
theorem fQ.at(h:fQ P w00 L V E l E'):∀ o∈l,IY P w00 L V E' o:=by
 induction h with
 |nil=>exact fun _ h=>by cases h
 | @cons E E' os T d op ty pos af gd hs hv t ih=>
  intro o' ho
  rcases List.mem_cons.1 ho with rfl|ho
  ·exact .step d T rfl (t.sub _ List.mem_cons_self) hv (hs.more fun p hp=>t.sub _ (List.mem_cons_of_mem _ hp))
  ·exact ih o' ho
 | @alloc E E' os d U ty pos af Z T z hv t ih=>
  intro o' ho
  rcases List.mem_cons.1 ho with rfl|ho
  ·exact .alloc d U Z T rfl rfl z hv
  ·exact ih o' ho
 | @put E E' os d x k k0 ag ag0 ty t0 pos af Z T hv hx z z0 hk hi t ih=>
  intro o' ho
  rcases List.mem_cons.1 ho with rfl|ho
  ·exact .put d x k k0 ag ag0 ty t0 pos af Z T rfl hv (t.sub _ hx) z z0 hk hi
  ·exact ih o' ho
theorem xl {r:Nat} {T T':aa}:∀ (c1 c2:List Loc),mB (c1++(r,T)::c2) r T T' (c1++(r,T')::c2)
 |[],_=> .here
 |_::c1,c2=> .there (xl c1 c2)
def done (l:List Oper) (listed:Array Bool) (p:Oper→Bool):Prop:=∃ (i:Nat) (o:Oper),l[i]? =some o∧listed.getD i false=true∧p o=true
abbrev JK:=List (Nat×Nat×aa)
structure Jl (w00:World) (X:List Nat) (L:List Loc) (V:List Vr) (E0 E':List (Nat×aa)) (l:List Oper) (n:Nat) (listed:Array Bool) (a:Act) (w:World):Prop where
 ok:∃ (cur:JK) (E1:List (Nat×aa)),(∀ p∈E1,p∈E')∧(∀ p∈E',(p.1∈E0.map Prod.fst∨done l listed fun o=>o.dst==some p.1)→p∈E1)∧
  TS w00 (cur.map (fun c=>c.2.1)++X) (cur.map (fun c=>(c.2.1,c.2.2))++L) (cur.map (fun c=>(c.1,aa.is (.pointer (some ⟨c.2.1,0,none⟩))))++E1) n a w∧
  (∀ c∈cur,∃ v∈V,v.1=c.1∧done l listed (ew v.1)∧((done l listed (gL v.1)∧c.2.2=v.2.2)∨(¬ done l listed (gL v.1)∧c.2.2=v.2.1)))∧
  (∀ v∈V,done l listed (ew v.1)→∃ c∈cur,c.1=v.1)∧(cur.map Prod.fst).Nodup∧(∀ v∈V,done l listed (gL v.1)→done l listed (ew v.1))
theorem BI{listed:Array Bool} {p:Oper→Bool} {i:Nat} {o:Oper} (ho:l[i]? =some o) (hi:i<listed.size):done l (listed.setIfInBounds i true) p↔(done l listed p∨p o=true):=by
 constructor
 ·rintro ⟨j,oj,h1,h2,h3⟩
  by_cases hji:i=j
  ·subst hji
   rw [ho] at h1
   injection h1 with h1
   subst h1
   exact .inr h3
  ·rw [getD_set_ne false hji] at h2
   exact .inl ⟨j,oj,h1,h2,h3⟩
 ·rintro (⟨j,oj,h1,h2,h3⟩|h)
  ·by_cases hji:i=j
   ·subst hji
    exact ⟨i,oj,h1,by simp [Array.getD_eq_getD_getElem?,hi],h3⟩
   ·exact ⟨j,oj,h1,by rw [getD_set_ne false hji];exact h2,h3⟩
  ·exact ⟨i,o,ho,by simp [Array.getD_eq_getD_getElem?,hi],h⟩
theorem vd {α β:Type} {f:α→β}:∀ {l:List α},l.Nodup→(∀ x∈l,∀ y∈l,f x=f y→x=y)→(l.map f).Nodup
 |[],_,_=>List.nodup_nil
 |x::l,h,hf=>by
  rw [List.nodup_cons] at h
  rw [List.map_cons,List.nodup_cons]
  refine ⟨fun hx=> ?_,vd h.2 fun y hy z hz=>hf y (List.mem_cons_of_mem _ hy) z (List.mem_cons_of_mem _ hz)⟩
  obtain ⟨y,hy,e⟩:=List.mem_map.1 hx
  have:=hf x List.mem_cons_self y (List.mem_cons_of_mem _ hy) e.symm
  exact h.1 (this▸hy)
theorem gV {α β:Type} {l:List (α×β)} (h:(l.map Prod.fst).Nodup) {x y:α×β} (hx:x∈l) (hy:y∈l) (e:x.1=y.1):x=y:=by
 induction l with
 |nil=>cases hx
 |cons z l ih=>
  rw [List.map_cons,List.nodup_cons] at h
  rcases List.mem_cons.1 hx with h1|h1<;>rcases List.mem_cons.1 hy with h2|h2
  ·rw [h1,h2]
  ·exact absurd (by rw [←h1,e];exact List.mem_map_of_mem h2) h.1
  ·exact absurd (by rw [←h2,←e];exact List.mem_map_of_mem h1) h.1
  ·exact ih h.2 h1 h2
def zw (l:List Oper) (m:Nat) (V:List Nat):Bool:=V.all fun d=>(l.take m).any (ew d)&&((List.range m).all fun i=>(List.range m).all fun j=>Nat.beq i j || match l[i]?,l[j]? with
 |some o,some o'=> !(ew d o&&ew d o')&& !(gL d o&&gL d o')
 |_,_=>true)
theorem rn{m:Nat} {V:List Nat} (h:zw l m V=true) {d:Nat} (hd:d∈V) {i j:Nat} {o o':Oper} (hi:i<m) (hj:j<m) (ho:l[i]? =some o) (ho':l[j]? =some o'):(ew d o=true→ew d o'=true→i=j)∧(gL d o=true→gL d o'=true→i=j):=by
 unfold zw at h
 have h1:=(Bool.and_eq_true _ _▸List.all_eq_true.1 h d hd:_∧_).2
 have h2:=List.all_eq_true.1 (List.all_eq_true.1 h1 i (List.mem_range.2 hi)) j (List.mem_range.2 hj)
 rw [ho,ho'] at h2
 simp only [Bool.or_eq_true,Bool.and_eq_true,Bool.not_eq_true'] at h2
 rcases h2 with h2|⟨h2,h3⟩
 ·exact ⟨fun _ _=>Nat.eq_of_beq_eq_true h2,fun _ _=>Nat.eq_of_beq_eq_true h2⟩
 ·refine ⟨fun a b=> ?_,fun a b=> ?_⟩
  ·rw [a,b] at h2;cases h2
  ·rw [a,b] at h3;cases h3
theorem AH{m:Nat} {V:List Nat} (h:zw l m V=true) {d:Nat} (hd:d∈V):(l.take m).any (ew d)=true:=by
 unfold zw at h
 exact (Bool.and_eq_true _ _▸List.all_eq_true.1 h d hd:_∧_).1
end
section
variable {P:Program} {w00:World} {X:List Nat} {L:List Loc} {n:Nat} {Q:Exit→Act→World→Prop} {V:List Vr}
abbrev vC (c:Nat×Nat×aa):Nat×aa:=(c.1,aa.is (.pointer (some ⟨c.2.1,0,none⟩)))
theorem EZ {l:List Oper} {E E':List (Nat×aa)} {m:Nat} (ht:fQ P w00 L V E (l.take m) E') (hc:(DL l.toArray (E.map Prod.fst) n m&&cn (E'.map Prod.fst++V.map Prod.fst))=true) (hcv:zw l m (V.map Prod.fst)=true)
 (hns:∀ v∈V,(l.take m).any (gL v.1)=true∨v.2.2=v.2.1)
 (hfin:∀ (r:Nat→Nat) a w,TS w00 (V.map (fun v=>r v.1)++X) (V.map (fun v=>(r v.1,v.2.2))++L) (V.map (fun v=>(v.1,aa.is (.pointer (some ⟨r v.1,0,none⟩))))++E') n a w→WL P l.toArray Q (l.drop m) a w):
 ∀ (fuel:Nat) (listed:Array Bool) (a:Act) (w:World),listed.size=l.length→listed.getD m true=false→fp listed.toList≤fuel→Jl w00 X L V E E' l n listed a w→wpAny P .any l.toArray Q fuel listed a w:=by
 rw [Bool.and_eq_true] at hc
 obtain ⟨hc,hdis⟩:=hc
 have hndA:=dF hdis
 have hnd:(E'.map Prod.fst).Nodup:=(List.nodup_append.1 hndA).1
 have hndV:(V.map Prod.fst).Nodup:=(List.nodup_append.1 hndA).2.1
 have hEV:∀ s,s∈E'.map Prod.fst→s∈V.map Prod.fst→False:=fun s h1 h2=>(List.nodup_append.1 hndA).2.2 s h1 s h2 rfl
 unfold DL at hc
 simp only [Bool.and_eq_true,List.all_eq_true,List.mem_range] at hc
 obtain ⟨⟨hsz,hall⟩,hw⟩:=hc
 have hsz:l.length=m+1:=by have:=Nat.eq_of_beq_eq_true hsz;simpa using this
 have hat:∀ i,i<m+1→∃ o,l[i]? =some o∧o.guard=none∧(∀ e∈o.after.toList,Region.binds .any e=true→e.on<i)∧(i<m→(∀ s, .tmp s∈o.op.operands.toList→s∈E.map Prod.fst∨∃ e∈o.after.toList,Region.binds .any e=true∧∃ oe,l[e.on]? =some oe∧oe.dst=some s)∧∀ d,o.dst=some d→d<n∧d ∉ E.map Prod.fst):=by
  intro i hi
  obtain ⟨o,ho⟩:∃ o,l[i]? =some o:=⟨_,List.getElem?_eq_getElem qO⟩
  have h:=hall i hi
  rw [show l.toArray[i]? =some o by simpa using ho] at h
  simp only [Bool.and_eq_true,List.all_eq_true,Bool.or_eq_true,Bool.not_eq_true'] at h
  obtain ⟨⟨h1,h2⟩,h3⟩:=h
  refine ⟨o,ho,?_,fun e he hb=> ?_,fun him=> ?_⟩
  ·split at h1
   ·assumption
   ·cases h1
  ·rcases h2 e he with h|h
   ·rw [hb] at h;cases h
   ·rwa [Nat.blt_eq] at h
  ·rcases h3 with h3|⟨h3,h4⟩
   ·have:=Nat.eq_of_beq_eq_true h3;omega
   ·refine ⟨fun s hs=> ?_,fun d hd=> ?_⟩
    ·have:=h3 _ hs
     simp only [Bool.or_eq_true,List.any_eq_true,Bool.and_eq_true] at this
     rcases this with h|⟨e,he,hb,hd⟩
     ·exact .inl (by simpa using h)
     ·refine .inr ⟨e,he,hb,?_⟩
      cases hoe:l[e.on]? with
      |none=>rw [show l.toArray[e.on]? =none by simpa using hoe] at hd;simp at hd
      |some oe=>
       rw [show l.toArray[e.on]? =some oe by simpa using hoe,Option.bind_some] at hd
       cases hdo:oe.dst with
       |none=>rw [hdo] at hd;simp at hd
       |some d=>rw [hdo] at hd;exact ⟨oe,rfl,by rw [hdo,Nat.eq_of_beq_eq_true hd]⟩
    ·rw [hd] at h4
     simp only [Bool.and_eq_true,Bool.not_eq_true'] at h4
     exact ⟨by have:=h4.1;rwa [Nat.blt_eq] at this,by simpa using h4.2⟩
 have hlt:∀ {i:Nat} {listed:Array Bool},listed.size=l.length→i<m+1→¬ listed.getD i false=true→listed.getD i true=false:=by
  intro i listed hs hi h
  rw [Array.getD_eq_getD_getElem?,Array.getElem?_eq_getElem qO] at h ⊢
  simpa using h
 have hrd:∀ {listed:Array Bool},listed.size=l.length→(∃ i,i<m+1∧¬ listed.getD i false=true)→Region.ready .any l.toArray listed≠[]:=by
  intro listed hs ⟨i,hi,hn⟩
  induction i using Nat.strongRecOn with
  |_ i ih=>
   obtain ⟨o,ho,_,he,_⟩:=hat i hi
   by_cases hd:∃ e∈o.after.toList,Region.binds .any e=true∧¬ listed.getD e.on false=true
   ·obtain ⟨e,h1,h2,h3⟩:=hd
    exact ih e.on (he e h1 h2) (by have:=he e h1 h2;omega) h3
   ·intro h0
    have:i∈Region.ready .any l.toArray listed:=mem_ready.2 ⟨hlt hs hi hn,o,by simpa using ho,fun e h1 h2=>Classical.byContradiction fun h3=>hd ⟨e,by simpa using h1,h2,h3⟩⟩
    rw [h0] at this
    cases this
 intro fuel
 induction fuel with
 |zero=>
  intro listed a w hs hm hf _
  have:=gu _ _ (gW qO hm)
  omega
 |succ f ih=>
  intro listed a w hs hm hf ⟨cur,E1,hsub,hav,hts,hcur,hvar,hcn,hpa⟩
  have hmn:¬ listed.getD m false=true:=fun h=>by
   rw [Array.getD_eq_getD_getElem?,Array.getElem?_eq_getElem qO] at h hm
   simp at h hm
   rw [h] at hm
   cases hm
  refine ⟨fun h0=>absurd h0 (hrd hs ⟨m,by omega,hmn⟩),fun i hi=> ?_⟩
  have hi0:=hi
  rw [mem_ready] at hi
  obtain ⟨hun,o,ho,hdep⟩:=hi
  have ho:l[i]? =some o:=by simpa using ho
  have him:i<m+1:=by have:=(List.getElem?_eq_some_iff.1 ho).1;omega
  obtain ⟨o',ho',hg,hed,hfr⟩:=hat i him
  rw [ho] at ho'
  injection ho' with ho'
  subst ho'
  have hwt:Region.wanted o (yielded l.toArray a.tmps)=true:=by unfold Region.wanted;rw [hg]
  have hopen:fp (listed.setIfInBounds i true).toList≤f:=by
   have:=gp _ _ (gW qO hun)
   rw [Array.toList_setIfInBounds]
   omega
  have hils:i<listed.size:=qO
  have hnl:¬ listed.getD i false=true:=fun h=>by
   rw [Array.getD_eq_getD_getElem?,Array.getElem?_eq_getElem hils] at h hun
   simp at h hun
   rw [h] at hun;cases hun
  have hfront:∀ {j:Nat} {oj:Oper},l[j]? =some oj→listed.getD j false=true→j<m:=by
   intro j oj h1 h2
   have h3:=(List.getElem?_eq_some_iff.1 h1).1
   rcases Nat.lt_or_ge j m with h|h
   ·exact h
   ·have:j=m:=qO
    rw [this] at h2
    exact absurd h2 hmn
  rcases Nat.lt_or_eq_of_le (Nat.le_of_lt_succ him) with hlm|rfl
  ·obtain ⟨hops,hdst⟩:=hfr hlm
   have hm':(listed.setIfInBounds i true).getD m true=false:=by rw [getD_set_ne true qO];exact hm
   have hin:∀ p∈E', .tmp p.1∈o.op.operands.toList→p∈E1:=by
    intro p hp hpo
    refine hav p hp ?_
    rcases hops _ hpo with h|⟨e,he,hb,oe,hoe,hd⟩
    ·exact .inl h
    ·exact .inr ⟨e.on,oe,hoe,hdep e (by simpa using he) hb,by show (oe.dst==some p.1)=true;rw [hd];exact beq_self_eq_true _⟩
   have hof:o∈l.take m:=List.mem_iff_getElem?.2 ⟨i,by rw [List.getElem?_take,if_pos hlm];exact ho⟩
   have hD:∀ p,done l (listed.setIfInBounds i true) p↔(done l listed p∨p o=true):=fun p=>BI ho hils
   have hLn:(L.map Prod.fst).Nodup:=by
    have:=hts.mem.nodup
    rw [List.map_append,List.nodup_append] at this
    exact this.2.1
   have hcv':∀ c∈cur,c.1∈V.map Prod.fst:=fun c hc=>by
    obtain ⟨v,hv,e,_⟩:=hcur c hc
    rw [←e];exact List.mem_map_of_mem hv
   unfold wpOp
   simp only [show l.toArray[i]? =some o by simpa using ho]
   rw [if_pos hwt]
   left
   rcases ht.at o hof with ⟨d,T,hd,hdT,hdV,hst⟩|⟨d,U,Z,T,hd,hop,z,hv⟩|⟨d,x,k,k0,ag,ag0,ty,t0,pos,af,Z,T,e,hv,hx,z,z0,hk,hi'⟩
   ·obtain ⟨hdn,_⟩:=hdst d hd
    have hdV':d ∉ V.map Prod.fst:=by
     intro h
     rw [List.elem_eq_mem,decide_eq_false_iff_not] at hdV
     exact hdV h
    have hno:∀ s,s∈V.map Prod.fst→ew s o=false∧gL s o=false:=by
     intro s hs'
     refine ⟨?_,?_⟩
     ·unfold ew
      rw [hd]
      split
      ·rename_i h1 h2
       injection h2 with h2
       rw [Bool.eq_false_iff]
       intro hb
       have:=Nat.eq_of_beq_eq_true hb
       exact hdV' (by rw [h2,this];exact hs')
      ·rfl
     ·unfold gL
      rw [hd]
      split
      ·rename_i h1 h2;cases h2
      ·rfl
    have hy:=hst.run _ a.eval w (fun _=>rfl) (fun _=>rfl) (Nat.zero_le _) (hts.mem.re (fun _ h=>h) (fun _ h=>h) (fun p hp=>List.mem_append_right _ hp) hLn) fun p hp hpo=>hts.slots p (List.mem_append_right _ (hin p hp hpo))
    refine Oper.wp_mono (fun a' w' h=> ?_) hy.wp
    obtain ⟨v,rfl,hT,hB⟩:=h
    rw [hd]
    refine ih _ _ _ (by simpa using hs) hm' hopen ⟨cur,(d,T)::E1.filter (fun p=> !Nat.beq p.1 d),fun p hp=> ?_,fun p hp hx=> ?_,?_,fun c hc=> ?_,fun v hv hx=> ?_,hcn,fun v hv hx=> ?_⟩
    ·rcases List.mem_cons.1 hp with rfl|hp
     ·exact hdT
     ·exact hsub p ((List.mem_filter.1 hp).1)
    ·by_cases hpd:p.1=d
     ·have:p=(d,T):=gV hnd hp hdT hpd
      rw [this]
      exact List.mem_cons_self
     ·refine List.mem_cons_of_mem _ (List.mem_filter.2 ⟨hav p hp ?_,?_⟩)
      ·rcases hx with hx|hx
       ·exact .inl hx
       ·rcases (hD _).1 hx with hx|hx
        ·exact .inr hx
        ·rw [hd] at hx
         have hx:d=p.1:=by simpa using hx
         exact absurd hx.symm hpd
      ·rw [Bool.not_eq_true',Bool.eq_false_iff]
       exact fun h=>hpd (Nat.eq_of_beq_eq_true h)
    ·have h1:=(hts.sub (E':=cur.map vC++E1.filter (fun p=> !Nat.beq p.1 d)) fun p hp=>by
      rcases List.mem_append.1 hp with hp|hp
      ·exact List.mem_append_left _ hp
      ·exact List.mem_append_right _ (List.mem_filter.1 hp).1).new (s:=d) (by
      rw [Bool.eq_false_iff]
      intro hx
      have hx':=List.elem_iff.1 hx
      rw [List.map_append,List.mem_append] at hx'
      rcases hx' with hx'|hx'
      ·rw [List.map_map] at hx'
       obtain ⟨c,hc,e⟩:=List.mem_map.1 hx'
       have e:c.1=d:=e
       exact hdV' (e▸hcv' c hc)
      ·obtain ⟨q,hq,rfl⟩:=List.mem_map.1 hx'
       have:=(List.mem_filter.1 hq).2
       rw [Nat.beq_refl] at this
       cases this) hdn hT hB
     refine h1.sub fun p hp=> ?_
     rcases List.mem_append.1 hp with hp|hp
     ·exact List.mem_cons_of_mem _ (List.mem_append_left _ hp)
     ·rcases List.mem_cons.1 hp with rfl|hp
      ·exact List.mem_cons_self
      ·exact List.mem_cons_of_mem _ (List.mem_append_right _ hp)
    ·obtain ⟨v,hv,e,h1,h2⟩:=hcur c hc
     have hvs:v.1∈V.map Prod.fst:=List.mem_map_of_mem hv
     refine ⟨v,hv,e,(hD _).2 (.inl h1),?_⟩
     rcases h2 with ⟨h2,h3⟩|⟨h2,h3⟩
     ·exact .inl ⟨(hD _).2 (.inl h2),h3⟩
     ·refine .inr ⟨fun h=> ?_,h3⟩
      rcases (hD _).1 h with h|h
      ·exact h2 h
      ·rw [(hno _ hvs).2] at h;cases h
    ·have hvs:v.1∈V.map Prod.fst:=List.mem_map_of_mem hv
     rcases (hD _).1 hx with h|h
     ·exact hvar v hv h
     ·rw [(hno _ hvs).1] at h;cases h
    ·have hvs:v.1∈V.map Prod.fst:=List.mem_map_of_mem hv
     rcases (hD _).1 hx with h|h
     ·exact (hD _).2 (.inl (hpa v hv h))
     ·rw [(hno _ hvs).2] at h;cases h
   ·obtain ⟨hdn,_⟩:=hdst d hd
    have hvs:d∈V.map Prod.fst:=List.mem_map_of_mem (f:=Prod.fst) hv
    have hal:ew d o=true:=by unfold ew;rw [hop,hd];exact Nat.beq_refl d
    have hnp:∀ s,gL s o=false:=fun s=>by unfold gL;rw [hop]
    have hna:¬ done l listed (ew d):=fun ⟨j,oj,h1,h2,h3⟩=>by
     have:=(rn hcv hvs (hfront h1 h2) hlm h1 ho).1 h3 hal
     rw [this] at h2
     exact hnl h2
    have hnpd:¬ done l listed (gL d):=fun h=>hna (hpa _ hv h)
    have hcd:∀ c∈cur,c.1≠d:=fun c hc e=>by
     obtain ⟨v,_,e2,h1,_⟩:=hcur c hc
     rw [e2,e] at h1
     exact hna h1
    obtain ⟨v0,hz1,hz2⟩:=z.ok
    unfold Oper.wp
    rw [hz2 o a.eval w hop,Oper.upon_value,hd]
    have hfresh:=hts.fresh (s:=d) (T:=Z) (v:=v0) (ty:=U) (by
     rw [Bool.eq_false_iff]
     intro hx
     have hx':=List.elem_iff.1 hx
     rw [List.map_append,List.mem_append] at hx'
     rcases hx' with hx'|hx'
     ·rw [List.map_map] at hx'
      obtain ⟨c,hc,e⟩:=List.mem_map.1 hx'
      exact hcd c hc e
     ·obtain ⟨q,hq,e⟩:=List.mem_map.1 hx'
      exact hEV d (e▸List.mem_map_of_mem (hsub q hq)) hvs) hdn fun w' X' _ _=>hz1 _ _
    have hallv:∀ v∈V,ew v.1 o=true→v=(d,Z,T):=fun v hv' h=>by
     unfold ew at h
     rw [hop,hd] at h
     exact gV hndV hv' hv (Nat.eq_of_beq_eq_true h).symm
    refine ih _ _ _ (by simpa using hs) hm' hopen ⟨(d,w.heap.size,Z)::cur,E1,hsub,fun p hp hx=> ?_,hfresh,fun c hc=> ?_,fun v hv' hx=> ?_,?_,fun v hv' hx=> ?_⟩
    ·refine hav p hp (hx.imp id fun hx=> ?_)
     rcases (hD _).1 hx with hx|hx
     ·exact hx
     ·rw [hd] at hx
      have hx:d=p.1:=by simpa using hx
      exact absurd hvs fun h=>hEV d (hx▸List.mem_map_of_mem hp) h
    ·rcases List.mem_cons.1 hc with rfl|hc
     ·refine ⟨_,hv,rfl,(hD _).2 (.inr hal), .inr ⟨fun h=> ?_,rfl⟩⟩
      rcases (hD _).1 h with h|h
      ·exact hnpd h
      ·rw [hnp] at h;cases h
     ·obtain ⟨v,hv',e,h1,h2⟩:=hcur c hc
      refine ⟨v,hv',e,(hD _).2 (.inl h1),?_⟩
      rcases h2 with ⟨h2,h3⟩|⟨h2,h3⟩
      ·exact .inl ⟨(hD _).2 (.inl h2),h3⟩
      ·refine .inr ⟨fun h=> ?_,h3⟩
       rcases (hD _).1 h with h|h
       ·exact h2 h
       ·rw [hnp] at h;cases h
    ·rcases (hD _).1 hx with h|h
     ·obtain ⟨c,hc,e⟩:=hvar v hv' h
      exact ⟨c,List.mem_cons_of_mem _ hc,e⟩
     ·exact ⟨_,List.mem_cons_self,by rw [hallv v hv' h]⟩
    ·rw [List.map_cons,List.nodup_cons]
     refine ⟨fun h=> ?_,hcn⟩
     obtain ⟨c,hc,e⟩:=List.mem_map.1 h
     exact hcd c hc e
    ·rcases (hD _).1 hx with h|h
     ·exact (hD _).2 (.inl (hpa v hv' h))
     ·rw [hnp] at h;cases h
   ·subst e
    have hvs:d∈V.map Prod.fst:=List.mem_map_of_mem (f:=Prod.fst) hv
    have hpd:gL d (⟨none, .store ty (.tmp d) (.tmp x),t0,pos,af,none⟩:Oper)=true:=Nat.beq_refl d
    have hna:∀ s,ew s (⟨none, .store ty (.tmp d) (.tmp x),t0,pos,af,none⟩:Oper)=false:=fun s=>rfl
    have hps:∀ s,gL s (⟨none, .store ty (.tmp d) (.tmp x),t0,pos,af,none⟩:Oper)=true→s=d:=fun s h=>(Nat.eq_of_beq_eq_true h).symm
    have hnpd:¬ done l listed (gL d):=fun ⟨j,oj,h1,h2,h3⟩=>by
     have:=(rn hcv hvs (hfront h1 h2) hlm h1 ho).2 h3 hpd
     rw [this] at h2
     exact hnl h2
    have hald:done l listed (ew d):=by
     rcases hops d qI with h|⟨e,he,hb,oe,hoe,hd⟩
     ·obtain ⟨q,hq,e⟩:=List.mem_map.1 h
      exact absurd hvs fun h'=>hEV d (e▸List.mem_map_of_mem (ht.sub q hq)) h'
     ·have hli:=hdep e (by simpa using he) hb
      have hem:=hfront hoe hli
      refine ⟨e.on,oe,hoe,hli,?_⟩
      rcases ht.at oe (List.mem_iff_getElem?.2 ⟨e.on,by rw [List.getElem?_take,if_pos hem];exact hoe⟩) with ⟨d2,T2,hd2,_,hdV2,_⟩|⟨d2,U2,Z2,T2,hd2,hop2,_,_⟩|⟨d2,x2,_,_,_,_,_,_,_,_,_,_,e2,_⟩
      ·rw [hd] at hd2
       injection hd2 with hd2
       subst hd2
       rw [List.elem_eq_mem,decide_eq_false_iff_not] at hdV2
       exact absurd hvs hdV2
      ·unfold ew
       rw [hop2,hd]
       exact Nat.beq_refl d
      ·rw [e2] at hd;cases hd
    obtain ⟨c,hcm,hcd⟩:=hvar _ hv hald
    obtain ⟨r,T0,rfl⟩:∃ r T0,c=(d,r,T0):=⟨c.2.1,c.2.2,by have hcd:c.1=d:=hcd;rw [←hcd]⟩
    have hT0:T0=Z:=by
     obtain ⟨v,hv',e,_,h2⟩:=hcur _ hcm
     have:=gV hndV hv' hv e
     subst this
     rcases h2 with ⟨h2,_⟩|⟨_,h3⟩
     ·exact absurd h2 hnpd
     ·exact h3
    subst hT0
    obtain ⟨c1,c2,rfl⟩:=List.append_of_mem hcm
    have hxin:(x,T)∈E1:=hin _ hx qI
    obtain ⟨w2,hr,hts2⟩:=An (P:=P) (ops:= #[]) (rest:=[]) (Q:=fun _ _ w=>TS w00 ((c1++(d,r,T0)::c2).map (fun c=>c.2.1)++X) (c1.map (fun c=>(c.2.1,c.2.2))++(r,T)::(c2.map (fun c=>(c.2.1,c.2.2))++L)) ((c1++(d,r,T0)::c2).map vC++E1) n a w) (t0:=t0) (pos:=pos) (af:=af) (ty:=ty) (s:=d) (r:=r) (o:= .tmp x) (T:=T) (T0:=T0) (L':=c1.map (fun c=>(c.2.1,c.2.2))++(r,T)::(c2.map (fun c=>(c.2.1,c.2.2))++L)) (hs:=⟨List.mem_append_left _ (List.mem_map_of_mem (f:=vC) hcm)⟩) (ho:=⟨fun _ hsl=>hsl _ (List.mem_append_right _ hxin) rfl⟩) (hu:=⟨by
     rw [List.map_append,List.map_cons,List.append_assoc]
     exact xl _ _⟩) (z:=z) (z0:=z0) hts hk hi' fun w h=>vm h
    have hts2:=hts2.out
    unfold wpList at hts2
    unfold Oper.wp
    rw [hr,Oper.upon_skip]
    have hcn2:((c1++(d,r,T)::c2).map Prod.fst).Nodup:=by simpa using hcn
    have hd1:∀ c∈c1++c2,c.1≠d:=fun c hc e=>by
     have hh:((c1++(d,r,T)::c2).map Prod.fst).Nodup:=hcn2
     rw [List.map_append,List.map_cons] at hh
     rw [List.nodup_append,List.nodup_cons] at hh
     rcases List.mem_append.1 hc with hc|hc
     ·exact hh.2.2 c.1 (List.mem_map_of_mem hc) d List.mem_cons_self e
     ·exact hh.2.1.1 (show d∈_ from e▸List.mem_map_of_mem hc)
    refine ih _ _ _ (by simpa using hs) hm' hopen ⟨c1++(d,r,T)::c2,E1,hsub,fun p hp hx=> ?_,?_,fun c hc=> ?_,fun v hv' hx=> ?_,hcn2,fun v hv' hx=> ?_⟩
    ·refine hav p hp (hx.imp id fun hx=> ?_)
     rcases (hD _).1 hx with hx|hx
     ·exact hx
     ·cases hx
    ·have e1:(c1++(d,r,T)::c2).map (fun c=>c.2.1)=(c1++(d,r,T0)::c2).map (fun c=>c.2.1):=by simp
     have e2:(c1++(d,r,T)::c2).map vC=(c1++(d,r,T0)::c2).map vC:=by simp
     have e3:(c1++(d,r,T)::c2).map (fun c=>(c.2.1,c.2.2))++L=c1.map (fun c=>(c.2.1,c.2.2))++(r,T)::(c2.map (fun c=>(c.2.1,c.2.2))++L):=by simp
     show TS w00 ((c1++(d,r,T)::c2).map (fun c=>c.2.1)++X) ((c1++(d,r,T)::c2).map (fun c=>(c.2.1,c.2.2))++L) ((c1++(d,r,T)::c2).map vC++E1) n a w2
     rw [e1,e2,e3]
     exact hts2
    ·rcases List.mem_append.1 hc with hc'|hc'
     ·obtain ⟨v,hv',e,h1,h2⟩:=hcur c (List.mem_append_left _ hc')
      refine ⟨v,hv',e,(hD _).2 (.inl h1),?_⟩
      rcases h2 with ⟨h2,h3⟩|⟨h2,h3⟩
      ·exact .inl ⟨(hD _).2 (.inl h2),h3⟩
      ·refine .inr ⟨fun h=> ?_,h3⟩
       rcases (hD _).1 h with h|h
       ·exact h2 h
       ·exact hd1 c (List.mem_append_left _ hc') (e▸hps _ h)
     ·rcases List.mem_cons.1 hc' with rfl|hc'
      ·exact ⟨_,hv,rfl,(hD _).2 (.inl hald), .inl ⟨(hD _).2 (.inr hpd),rfl⟩⟩
      ·obtain ⟨v,hv',e,h1,h2⟩:=hcur c (List.mem_append_right _ (List.mem_cons_of_mem _ hc'))
       refine ⟨v,hv',e,(hD _).2 (.inl h1),?_⟩
       rcases h2 with ⟨h2,h3⟩|⟨h2,h3⟩
       ·exact .inl ⟨(hD _).2 (.inl h2),h3⟩
       ·refine .inr ⟨fun h=> ?_,h3⟩
        rcases (hD _).1 h with h|h
        ·exact h2 h
        ·exact hd1 c (List.mem_append_right _ hc') (e▸hps _ h)
    ·rcases (hD _).1 hx with h|h
     ·obtain ⟨c,hc,e⟩:=hvar v hv' h
      rcases List.mem_append.1 hc with hc|hc
      ·exact ⟨c,List.mem_append_left _ hc,e⟩
      ·rcases List.mem_cons.1 hc with rfl|hc
       ·exact ⟨_,List.mem_append_right _ List.mem_cons_self,e⟩
       ·exact ⟨c,List.mem_append_right _ (List.mem_cons_of_mem _ hc),e⟩
     ·cases h
    ·rcases (hD _).1 hx with h|h
     ·exact (hD _).2 (.inl (hpa v hv' h))
     ·rw [hps _ h]
      exact (hD _).2 (.inl hald)
  ·have hal:∀ j,j<i→listed.getD j false=true:=by
    intro j hj
    obtain ⟨o2,ho2,e,he,hb,heon⟩:=fL (hw j hj)
    rw [show l.toArray[i]? =some o by simpa using ho] at ho2
    injection ho2 with ho2
    subst ho2
    rw [←heon]
    exact hdep e (by simpa using he) hb
   have hany:∀ (p:Oper→Bool),(l.take i).any p=true→done l listed p:=fun p hp=>by
    obtain ⟨q,hq,hpq⟩:=List.any_eq_true.1 hp
    obtain ⟨j,hj⟩:=List.mem_iff_getElem?.1 hq
    rw [List.getElem?_take] at hj
    split at hj
    ·exact ⟨j,q,hj,hal j qL,hpq⟩
    ·cases hj
   have hE1:∀ p∈E',p∈E1:=fun p hp=>by
    refine hav p hp ?_
    rcases ht.new p hp with h|⟨q,hq,hqd⟩
    ·exact .inl (List.mem_map.2 ⟨p,h,rfl⟩)
    ·exact .inr (hany _ (List.any_eq_true.2 ⟨q,hq,by show (q.dst==some p.1)=true;rw [hqd];exact beq_self_eq_true _⟩))
   have hex:∀ v∈V,∃ c∈cur,c.1=v.1∧c.2.2=v.2.2:=fun v hv=>by
    obtain ⟨c,hc,e⟩:=hvar v hv (hany _ (AH hcv (List.mem_map_of_mem hv)))
    refine ⟨c,hc,e,?_⟩
    obtain ⟨v',hv',e',_,h2⟩:=hcur c hc
    have:v'=v:=gV hndV hv' hv (e'.trans e)
    subst this
    rcases h2 with ⟨_,h3⟩|⟨h2,h3⟩
    ·exact h3
    ·rcases hns v' hv' with h|h
     ·exact absurd (hany _ h) h2
     ·rw [h3,h]
   obtain ⟨r,hr⟩:∃ r:Nat→Nat,∀ v∈V,(v.1,r v.1,v.2.2)∈cur:=by
    refine ⟨fun s=>((cur.find? fun c=>c.1==s).map (fun c=>c.2.1)).getD 0,fun v hv=> ?_⟩
    obtain ⟨c,hc,e,e2⟩:=hex v hv
    cases hf:cur.find? (fun c=>c.1==v.1) with
    |none=>
     have:=List.find?_eq_none.1 hf c hc
     rw [e] at this
     simp at this
    |some c'=>
     have h1:=List.mem_of_find?_eq_some hf
     have h2:=List.find?_some hf
     have h2:c'.1=v.1:=by simpa using h2
     have:c'=c:=gV hcn h1 hc (h2.trans e.symm)
     subst this
     have e3:(v.1,c'.2.1,v.2.2)=c':=by rw [←e,←e2]
     dsimp only
     rw [hf]
     simp only [Option.map_some,Option.getD_some]
     rw [e3]
     exact hc
   have hadn:(cur.map (fun c=>c.2.1)).Nodup∧(∀ c∈cur,∀ p∈L,c.2.1≠p.1)∧(L.map Prod.fst).Nodup:=by
    have h:=hts.mem.nodup
    rw [List.map_append,List.nodup_append,List.map_map] at h
    refine ⟨h.1,fun c hc p hp=> ?_,h.2.1⟩
    exact h.2.2 _ (List.mem_map_of_mem (f:=Prod.fst ∘ fun c:Nat×Nat×aa=>(c.2.1,c.2.2)) hc) _ (List.mem_map_of_mem (f:=Prod.fst) hp)
   have hadu:∀ c∈cur,∀ c'∈cur,c.2.1=c'.2.1→c=c':=by
    intro c hc c' hc' e
    have h:=hadn.1
    clear hadn hr hex hE1 hvar hcur hts hcn hpa hav
    induction cur with
    |nil=>cases hc
    |cons b cur ih2=>
     rw [List.map_cons,List.nodup_cons] at h
     rcases List.mem_cons.1 hc with h1|h1<;>rcases List.mem_cons.1 hc' with h2|h2
     ·rw [h1,h2]
     ·exact absurd (by rw [←h1,e];exact List.mem_map_of_mem (f:=fun c:Nat×Nat×aa=>c.2.1) h2) h.1
     ·exact absurd (by rw [←h2,←e];exact List.mem_map_of_mem (f:=fun c:Nat×Nat×aa=>c.2.1) h1) h.1
     ·exact ih2 h1 h2 h.2
   have hVn:V.Nodup:=by
    have:=hndV
    rw [List.Nodup,List.pairwise_map] at this
    exact this.imp fun h e=>h (by rw [e])
   have hTS:TS w00 (V.map (fun v=>r v.1)++X) (V.map (fun v=>(r v.1,v.2.2))++L) (V.map (fun v=>(v.1,aa.is (.pointer (some ⟨r v.1,0,none⟩))))++E') n a w:=by
    refine hts.re (fun b hb=> ?_) (fun b hb=> ?_) (fun p hp=> ?_) ?_ fun p hp=> ?_
    ·rcases List.mem_append.1 hb with hb|hb
     ·obtain ⟨v,hv,rfl⟩:=List.mem_map.1 hb
      exact List.mem_append_left _ (List.mem_map_of_mem (f:=fun c:Nat×Nat×aa=>c.2.1) (hr v hv))
     ·exact List.mem_append_right _ hb
    ·rcases List.mem_append.1 hb with hb|hb
     ·obtain ⟨c,hc,rfl⟩:=List.mem_map.1 hb
      obtain ⟨v,hv,e,_⟩:=hcur c hc
      have:=gV hcn (hr v hv) hc e
      refine List.mem_append_left _ ?_
      rw [←this]
      exact List.mem_map_of_mem (f:=fun v:Vr=>r v.1) hv
     ·exact List.mem_append_right _ hb
    ·rcases List.mem_append.1 hp with hp|hp
     ·obtain ⟨v,hv,rfl⟩:=List.mem_map.1 hp
      exact List.mem_append_left _ (List.mem_map_of_mem (f:=fun c:Nat×Nat×aa=>(c.2.1,c.2.2)) (hr v hv))
     ·exact List.mem_append_right _ hp
    ·rw [List.map_append,List.map_map,List.nodup_append]
     refine ⟨vd hVn fun v hv v' hv' e=> ?_,hadn.2.2,fun b hb b' hb' e=> ?_⟩
     ·have e2:=hadu _ (hr v hv) _ (hr v' hv') e
      have e3:v.1=v'.1:=congrArg (fun c:Nat×Nat×aa=>c.1) e2
      exact gV hndV hv hv' e3
     ·obtain ⟨v,hv,rfl⟩:=List.mem_map.1 hb
      obtain ⟨p,hp,rfl⟩:=List.mem_map.1 hb'
      exact hadn.2.1 _ (hr v hv) p hp e
    ·rcases List.mem_append.1 hp with hp|hp
     ·obtain ⟨v,hv,rfl⟩:=List.mem_map.1 hp
      exact List.mem_append_left _ (List.mem_map_of_mem (f:=vC) (hr v hv))
     ·exact List.mem_append_right _ (hE1 p hp)
   have hlast:=(hfin r a w hTS).out
   have hdr:l.drop i=[o]:=by
    rw [List.drop_eq_getElem_cons qO,List.drop_eq_nil_of_le qO]
    congr 1
    rw [List.getElem?_eq_getElem qO] at ho
    injection ho
   rw [hdr] at hlast
   unfold wpOp
   simp only [show l.toArray[i]? =some o by simpa using ho]
   unfold wpList at hlast
   rw [if_pos hwt] at hlast ⊢
   refine hlast.imp (Oper.wp_mono fun a' w' h=> ?_) id
   unfold wpList at h
   refine wpAny_done ?_ h _
   rw [List.eq_nil_iff_forall_not_mem]
   intro j hj
   rw [mem_ready] at hj
   obtain ⟨h1,oj,h2,_⟩:=hj
   have hjl:=(Array.getElem?_eq_some_iff.1 h2).1
   have hjl:j<i+1:=by rw [←hsz];simpa using hjl
   by_cases hji:i=j
   ·subst hji
    simp [show i<listed.size by omega] at h1
   ·rw [getD_set_ne true hji] at h1
    have:=hal j qO
    rw [Array.getD_eq_getD_getElem?,Array.getElem?_eq_getElem qO] at h1 this
    simp at h1 this
    rw [h1] at this
    cases this
theorem sR {E E':List (Nat×aa)} {cs:List Code} {id:Nat} {l:List Oper} (m:Nat) (V:List Vr) (ht:fQ P w00 L V E (l.take m) E') (hc:(DL l.toArray (E.map Prod.fst) n m&&cn (E'.map Prod.fst++V.map Prod.fst))=true) (hcv:zw l m (V.map Prod.fst)=true)
 (hns:∀ v∈V,(l.take m).any (gL v.1)=true∨v.2.2=v.2.1) (hm:P.follows .mixedOrders=true)
 (h:∀ r:Nat→Nat,GR P w00 (V.map (fun v=>r v.1)++X) (V.map (fun v=>(r v.1,v.2.2))++L) (V.map (fun v=>(v.1,aa.is (.pointer (some ⟨r v.1,0,none⟩))))++E') n l.toArray (l.drop m) cs Q):GC P w00 X L E n (Code.region id l.toArray true::cs) Q:=by
 refine ⟨fun a w hts=> ?_⟩
 have hb:Below w.heap.size w w.drew:=(Below.refl _ _).drew
 have hts':TS w00 X L E n a w.drew:=⟨hts.size,hts.df,fun p hp=>p.2.stable (hts.slots p hp) (Below.keeps hb _) fun _ h _=>h,hts.mem.same hb⟩
 have hsz:l.length=m+1:=by
  have:=hc
  unfold DL at this
  simp only [Bool.and_eq_true] at this
  have:=Nat.eq_of_beq_eq_true this.1.1.1
  simpa using this
 have hnd:(E'.map Prod.fst).Nodup:=(List.nodup_append.1 (dF (by rw [Bool.and_eq_true] at hc;exact hc.2))).1
 have hnone:∀ p,¬ done l (Array.replicate l.toArray.size false) p:=fun p ⟨i,o,_,h2,_⟩=>by
  rw [Array.getD_eq_getD_getElem?] at h2
  cases h:(Array.replicate l.toArray.size false)[i]? with
  |none=>rw [h] at h2;cases h2
  |some b=>
   have:=Array.mem_of_getElem? h
   simp at this
   rw [h,this.2] at h2
   cases h2
 refine wp_region_any hm (EZ ht hc hcv hns (fun r a w h'=>(h r).run a w h') _ _ _ _ qE ?_ (by simpa using jx l.toArray.size) ⟨[],E,ht.sub,fun p hp hx=> ?_,hts',(fun _ h=>by cases h),fun v _ h=>absurd h (hnone _),List.nodup_nil,fun v _ h=>absurd h (hnone _)⟩)
 ·rw [Array.getD_eq_getD_getElem?,Array.getElem?_replicate,if_pos (by simp;omega)]
  rfl
 ·rcases hx with hx|hx
  ·obtain ⟨q,hq,hqp⟩:=List.mem_map.1 hx
   have:p=q:=gV hnd hp (ht.sub q hq) hqp.symm
   rw [this];exact hq
  ·exact absurd hx (hnone _)
end
section
variable {P:Program} {w00:World} {N:Nat} {L:List Loc} {E:List (Nat×aa)} {d:Nat} {t0:TypeId} {pos:String} {af:Array Edge} {gd:Option (Nat×Bool)}
end
instance:eP Tryz.prog 132 1 false:=⟨⟨_,Tryz.underlying132,rfl⟩,by kernel_rfl⟩
instance:ca Tryz.prog 132 25:=⟨⟨_,Tryz.underlying132,by kernel_rfl⟩⟩
open Go Go.ChangeShapes Go.WideShapes Go.ChangeAt Go.RowKit
theorem Fz {a b:Bool} (h1:a=true) (h2:b=true):(a&&b)=true:=by rw [h1,h2];rfl
theorem Al{s:List TypeId} {v:TypeId} (h:v∈P.grow s):v∈s∨∃ u∈s,v∈P.partsOf u:=by
 unfold Program.grow at h
 rw [List.mem_eraseDups] at h
 rcases List.mem_append.1 h with h|h
 ·exact .inl h
 ·obtain ⟨u,hu,hv⟩:=List.mem_flatMap.1 h
  exact .inr ⟨u,hu,hv⟩
theorem qu {P:Program} {p:TypeId→Prop} (hp:∀ u,p u→∀ v∈P.partsOf u,p v):∀ (n:Nat) {s:List TypeId},(∀ u∈s,p u)→∀ u∈P.grown n s,p u
 |0,_,h=>h
 |n+1,s,h=>qu hp n fun u hu=>by
  rcases Al hu with hu|⟨v,hv,hu⟩
  ·exact h u hu
  ·exact hp v (h v hv) u hu
theorem uk{p:TypeId→Prop} (hp:∀ u,p u→∀ v∈P.partsOf u,p v) (ht:p t):∀ u∈P.book t,p u:=qu hp _ fun u hu=>by
 rw [List.mem_singleton] at hu;subst hu;exact ht
theorem AI(L:List TypeId) (h:(L.contains t&&L.all fun u=>(P.partsOf u).all fun v=>L.contains v&&Nat.blt (L.idxOf u) (L.idxOf v))=true):P.loopsFrom t=false:=by
 rw [Bool.and_eq_true] at h
 obtain ⟨h0,h⟩:=h
 have hL:∀ u∈L,∀ v∈P.partsOf u,v∈L∧L.idxOf u<L.idxOf v:=fun u hu v hv=>by
  have:=List.all_eq_true.1 (List.all_eq_true.1 h u hu) v hv
  rw [Bool.and_eq_true] at this
  exact ⟨by simpa using this.1,by simpa [Nat.blt_eq] using this.2⟩
 have hin:∀ u∈P.book t,u∈L:=uk (fun u hu v hv=>(hL u hu v hv).1) (by simpa using h0)
 unfold Program.loopsFrom
 rw [List.any_eq_false]
 intro u hu
 rw [Bool.not_eq_true,List.any_eq_false]
 intro v hv hc
 have hc:u∈P.book v:=by simpa using hc
 obtain ⟨h1,h2⟩:=hL u (hin u hu) v hv
 have:=uk (P:=P) (p:=fun x=>x∈L∧L.idxOf v≤L.idxOf x) (fun x hx y hy=>⟨(hL x hx.1 y hy).1,Nat.le_of_lt (Nat.lt_of_le_of_lt hx.2 (hL x hx.1 y hy).2)⟩) ⟨h1,Nat.le_refl _⟩ u hc
 omega
theorem yK(h:P.loopsFrom t=false) {b:Bool} {l:List TypeId} (hb:b=false) (hl:l=[t]):(b==l.any (P.loopsFrom ·))=true:=by
 subst hb hl
 simp [h]
theorem sm:Tryz.prog.loopsFrom 32=false:=AI [32,30,65,63,127,62,125,61,123,60,121,59,119,29,28,84,5,3,22,79,27,25,23,117,4,9] qK
end Go.Proofs.YtjjkikchncfekaaGreatDoor
