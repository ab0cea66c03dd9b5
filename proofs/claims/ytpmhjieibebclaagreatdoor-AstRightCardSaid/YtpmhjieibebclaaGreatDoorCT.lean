/- A drawn region that makes variables and stores into them, while loads may come late. No program stands in it. -/
import Derived.Test.YtpmhjieibebclaaGreatDoorCS
import Derived.Test.YtpmhjieibebclaaGreatDoorCG
import Derived.Deep.DeepHandedRow
import Derived.Test.YtpmhjieibebclaaGreatDoorDD
set_option maxHeartbeats 4000000
set_option maxRecDepth 20000
set_option synthInstance.maxHeartbeats 400000
set_option synthInstance.maxSize 4000
set_option linter.unusedSimpArgs false
set_option linter.unusedVariables false
namespace Go.Proofs.YtpmhjieibebclaaGreatDoor
open Go Go.RowKit
variable {l:List Oper} {E E':List (Nat×aa)} {P:Program} {i:Nat} {t:TypeId}
theorem vM.re {w00:World} {X X':List Nat} {L L':List Loc} {w:World} (h:vM w00 X L w) (h1:∀ b∈X',b∈X) (h2:∀ b∈X,b∈X') (h3:∀ p∈L',p∈L) (hn:(L'.map Prod.fst).Nodup):vM w00 X' L' w:=by
 refine ⟨fun p hp=> ?_,fun b hb=>h.far b (h1 b hb),hn,h.below⟩
 obtain ⟨g1,g2,v,ty,g3,g4⟩:=h.loc p (h3 p hp)
 exact ⟨h2 _ g1,g2,v,ty,p.2.stable g3 ⟨Nat.le_refl _,fun _ _ _=>rfl⟩ fun b hb _=>h1 b hb,g4⟩
theorem TS.re{w00:World} {X X':List Nat} {L L':List Loc} {n:Nat} {a:Act} {w:World} (h:TS w00 X L E n a w) (h1:∀ b∈X',b∈X) (h2:∀ b∈X,b∈X') (h3:∀ p∈L',p∈L) (hn:(L'.map Prod.fst).Nodup) (h4:∀ p∈E',p∈E):TS w00 X' L' E' n a w:=
 ⟨h.size,h.df,fun p hp=>p.2.stable (h.slots p (h4 p hp)) ⟨Nat.le_refl _,fun _ _ _=>rfl⟩ fun b hb _=>h1 b hb,h.mem.re h1 h2 h3 hn⟩
abbrev Vr:=Nat×aa×aa
inductive eR (P:Program) (w00:World) (L:List Loc) (V:List Vr):List (Nat×aa)→List Oper→List (Nat×aa)→Prop
 |nil {E:List (Nat×aa)}:eR P w00 L V E [] E
 |cons {E E':List (Nat×aa)} {os:List Oper} {T:aa} {d:Nat} {op:Op} {ty:TypeId} {pos:String} {af:Array Edge} {gd:Option (Nat×Bool)} (h:au P w00 0 L E ⟨some d,op,ty,pos,af,gd⟩ T) (hv:(V.map Prod.fst).elem d=false) (t:eR P w00 L V ((d,T)::E) os E'):eR P w00 L V E (⟨some d,op,ty,pos,af,gd⟩::os) E'
 |alloc {E E':List (Nat×aa)} {os:List Oper} {d:Nat} {U ty:TypeId} {pos:String} {af:Array Edge} {Z T:aa} (z:cQ P U Z) (hv:(d,Z,T)∈V) (t:eR P w00 L V E os E'):eR P w00 L V E (⟨some d, .alloc U,ty,pos,af,none⟩::os) E'
 |put {E E':List (Nat×aa)} {os:List Oper} {d x k k0:Nat} {ag ag0:Bool} {ty t0:TypeId} {pos:String} {af:Array Edge} {Z T:aa} (hv:(d,Z,T)∈V) (ho:(x,T)∈E) (z:aL T k ag) (z0:aL Z k0 ag0) (hk:k0=k) (hi:(P.info? ty).map (·.size)=some k) (t:eR P w00 L V E os E'):eR P w00 L V E (⟨none, .store ty (.tmp d) (.tmp x),t0,pos,af,none⟩::os) E'
def g6 (d:Nat) (o:Oper):Bool:=match o.op,o.dst with
 | .store _ (.tmp s) _,none=>Nat.beq s d
 |_,_=>false
def eT (d:Nat) (o:Oper):Bool:=match o.op,o.dst with
 | .alloc _,some s=>Nat.beq s d
 |_,_=>false
inductive Jk (P:Program) (w00:World) (L:List Loc) (V:List Vr) (E:List (Nat×aa)) (o:Oper):Prop
 |step (d:Nat) (T:aa) (hd:o.dst=some d) (hT:(d,T)∈E) (hv:(V.map Prod.fst).elem d=false) (h:au P w00 0 L E o T)
 |alloc (d:Nat) (U:TypeId) (Z T:aa) (hd:o.dst=some d) (ho:o.op= .alloc U) (z:cQ P U Z) (hv:(d,Z,T)∈V)
 |put (d x k k0:Nat) (ag ag0:Bool) (ty t0:TypeId) (pos:String) (af:Array Edge) (Z T:aa) (e:o=⟨none, .store ty (.tmp d) (.tmp x),t0,pos,af,none⟩) (hv:(d,Z,T)∈V) (ho:(x,T)∈E) (z:aL T k ag) (z0:aL Z k0 ag0) (hk:k0=k) (hi:(P.info? ty).map (·.size)=some k)
section
variable {P:Program} {w00:World} {X:List Nat} {L:List Loc} {n:Nat} {Q:Exit→Act→World→Prop} {V:List Vr}
theorem eR.sub(h:eR P w00 L V E l E'):∀ p∈E,p∈E':=by
 induction h with
 |nil=>exact fun _ h=>h
 |cons _ _ _ ih=>exact fun p hp=>ih p (List.mem_cons_of_mem _ hp)
 |alloc _ _ _ ih=>exact ih
 |put _ _ _ _ _ _ _ ih=>exact ih
theorem eR.new(h:eR P w00 L V E l E'):∀ p∈E',p∈E∨∃ o∈l,o.dst=some p.1:=by
 induction h with
 |nil=>exact fun _ h=> .inl h
 |cons _ _ _ ih=>
  intro p hp
  rcases ih p hp with h|⟨q,h,h'⟩
  ·rcases List.mem_cons.1 h with rfl|h
   ·exact .inr ⟨_,List.mem_cons_self,rfl⟩
   ·exact .inl h
  ·exact .inr ⟨q,List.mem_cons_of_mem _ h,h'⟩
 |alloc _ _ _ ih=>
  intro p hp
  rcases ih p hp with h|⟨q,h,h'⟩
  ·exact .inl h
  ·exact .inr ⟨q,List.mem_cons_of_mem _ h,h'⟩
 |put _ _ _ _ _ _ _ ih=>
  intro p hp
  rcases ih p hp with h|⟨q,h,h'⟩
  ·exact .inl h
  ·exact .inr ⟨q,List.mem_cons_of_mem _ h,h'⟩
theorem eR.at(h:eR P w00 L V E l E'):∀ o∈l,Jk P w00 L V E' o:=by
 induction h with
 |nil=>exact fun _ h=>by cases h
 | @cons E E' os T d op ty pos af gd hs hv t ih=>
  intro o' ho
  rcases List.mem_cons.1 ho with rfl|ho
  ·exact .step d T rfl (t.sub _ List.mem_cons_self) hv (hs.more fun p hp=>t.sub _ (List.mem_cons_of_mem _ hp))
  ·exact ih o' ho
 | @alloc E E' os d U ty pos af Z T z hv t ih=>
  intro o' ho
  rcases List.mem_cons.1 ho with rfl|ho
  ·exact .alloc d U Z T rfl rfl z hv
  ·exact ih o' ho
 | @put E E' os d x k k0 ag ag0 ty t0 pos af Z T hv hx z z0 hk hi t ih=>
  intro o' ho
  rcases List.mem_cons.1 ho with rfl|ho
  ·exact .put d x k k0 ag ag0 ty t0 pos af Z T rfl hv (t.sub _ hx) z z0 hk hi
  ·exact ih o' ho
theorem x5 {r:Nat} {T T':aa}:∀ (c1 c2:List Loc),m9 (c1++(r,T)::c2) r T T' (c1++(r,T')::c2)
 |[],_=> .here
 |_::c1,c2=> .there (x5 c1 c2)
def done (l:List Oper) (listed:Array Bool) (p:Oper→Bool):Prop:=∃ (i:Nat) (o:Oper),l[i]? =some o∧listed.getD i false=true∧p o=true
abbrev JX:=List (Nat×Nat×aa)
structure JF (w00:World) (X:List Nat) (L:List Loc) (V:List Vr) (E0 E':List (Nat×aa)) (l:List Oper) (n:Nat) (listed:Array Bool) (a:Act) (w:World):Prop where
 ok:∃ (cur:JX) (E1:List (Nat×aa)),(∀ p∈E1,p∈E')∧(∀ p∈E',(p.1∈E0.map Prod.fst∨done l listed fun o=>o.dst==some p.1)→p∈E1)∧
  TS w00 (cur.map (fun c=>c.2.1)++X) (cur.map (fun c=>(c.2.1,c.2.2))++L) (cur.map (fun c=>(c.1,aa.is (.pointer (some ⟨c.2.1,0,none⟩))))++E1) n a w∧
  (∀ c∈cur,∃ v∈V,v.1=c.1∧done l listed (eT v.1)∧((done l listed (g6 v.1)∧c.2.2=v.2.2)∨(¬ done l listed (g6 v.1)∧c.2.2=v.2.1)))∧
  (∀ v∈V,done l listed (eT v.1)→∃ c∈cur,c.1=v.1)∧(cur.map Prod.fst).Nodup∧(∀ v∈V,done l listed (g6 v.1)→done l listed (eT v.1))
theorem CM{listed:Array Bool} {p:Oper→Bool} {o:Oper} (ho:l[i]? =some o) (hi:i<listed.size):done l (listed.setIfInBounds i true) p↔(done l listed p∨p o=true):=by
 constructor
 ·rintro ⟨j,oj,h1,h2,h3⟩
  by_cases hji:i=j
  ·subst hji
   rw [ho] at h1
   injection h1 with h1
   subst h1
   exact .inr h3
  ·rw [getD_set_ne false hji] at h2
   exact .inl ⟨j,oj,h1,h2,h3⟩
 ·rintro (⟨j,oj,h1,h2,h3⟩|h)
  ·by_cases hji:i=j
   ·subst hji
    exact ⟨i,oj,h1,by simp [Array.getD_eq_getD_getElem?,hi],h3⟩
   ·exact ⟨j,oj,h1,by rw [getD_set_ne false hji];exact h2,h3⟩
  ·exact ⟨i,o,ho,by simp [Array.getD_eq_getD_getElem?,hi],h⟩
theorem wa {α β:Type} {f:α→β}:∀ {l:List α},l.Nodup→(∀ x∈l,∀ y∈l,f x=f y→x=y)→(l.map f).Nodup
 |[],_,_=>List.nodup_nil
 |x::l,h,hf=>by
  rw [List.nodup_cons] at h
  rw [List.map_cons,List.nodup_cons]
  refine ⟨fun hx=> ?_,wa h.2 fun y hy z hz=>hf y (List.mem_cons_of_mem _ hy) z (List.mem_cons_of_mem _ hz)⟩
  obtain ⟨y,hy,e⟩:=List.mem_map.1 hx
  have:=hf x List.mem_cons_self y (List.mem_cons_of_mem _ hy) e.symm
  exact h.1 (this▸hy)
theorem ii {α β:Type} {l:List (α×β)} (h:(l.map Prod.fst).Nodup) {x y:α×β} (hx:x∈l) (hy:y∈l) (e:x.1=y.1):x=y:=by
 induction l with
 |nil=>cases hx
 |cons z l ih=>
  rw [List.map_cons,List.nodup_cons] at h
  rcases List.mem_cons.1 hx with h1|h1<;>rcases List.mem_cons.1 hy with h2|h2
  ·rw [h1,h2]
  ·exact absurd (by rw [←h1,e];exact List.mem_map_of_mem h2) h.1
  ·exact absurd (by rw [←h2,←e];exact List.mem_map_of_mem h1) h.1
  ·exact ih h.2 h1 h2
def z5 (l:List Oper) (m:Nat) (V:List Nat):Bool:=V.all fun d=>(l.take m).any (eT d)&&((List.range m).all fun i=>(List.range m).all fun j=>Nat.beq i j || match l[i]?,l[j]? with
 |some o,some o'=> !(eT d o&&eT d o')&& !(g6 d o&&g6 d o')
 |_,_=>true)
theorem sL{m:Nat} {V:List Nat} (h:z5 l m V=true) {d:Nat} (hd:d∈V) {j:Nat} {o o':Oper} (hi:i<m) (hj:j<m) (ho:l[i]? =some o) (ho':l[j]? =some o'):(eT d o=true→eT d o'=true→i=j)∧(g6 d o=true→g6 d o'=true→i=j):=by
 unfold z5 at h
 have h1:=(Bool.and_eq_true _ _▸List.all_eq_true.1 h d hd:_∧_).2
 have h2:=List.all_eq_true.1 (List.all_eq_true.1 h1 i (List.mem_range.2 hi)) j (List.mem_range.2 hj)
 rw [ho,ho'] at h2
 simp only [Bool.or_eq_true,Bool.and_eq_true,Bool.not_eq_true'] at h2
 rcases h2 with h2|⟨h2,h3⟩
 ·exact ⟨fun _ _=>Nat.eq_of_beq_eq_true h2,fun _ _=>Nat.eq_of_beq_eq_true h2⟩
 ·refine ⟨fun a b=> ?_,fun a b=> ?_⟩
  ·rw [a,b] at h2;cases h2
  ·rw [a,b] at h3;cases h3
theorem BJ{m:Nat} {V:List Nat} (h:z5 l m V=true) {d:Nat} (hd:d∈V):(l.take m).any (eT d)=true:=by
 unfold z5 at h
 exact (Bool.and_eq_true _ _▸List.all_eq_true.1 h d hd:_∧_).1
end
section
variable {P:Program} {w00:World} {X:List Nat} {L:List Loc} {n:Nat} {Q:Exit→Act→World→Prop} {V:List Vr}
abbrev wD (c:Nat×Nat×aa):Nat×aa:=(c.1,aa.is (.pointer (some ⟨c.2.1,0,none⟩)))
theorem Fv {l:List Oper} {E E':List (Nat×aa)} {m:Nat} (ht:eR P w00 L V E (l.take m) E') (hc:(Ew l.toArray (E.map Prod.fst) n m&&cn (E'.map Prod.fst++V.map Prod.fst))=true) (hcv:z5 l m (V.map Prod.fst)=true)
 (hns:∀ v∈V,(l.take m).any (g6 v.1)=true∨v.2.2=v.2.1)
 (hfin:∀ (r:Nat→Nat) a w,TS w00 (V.map (fun v=>r v.1)++X) (V.map (fun v=>(r v.1,v.2.2))++L) (V.map (fun v=>(v.1,aa.is (.pointer (some ⟨r v.1,0,none⟩))))++E') n a w→WL P l.toArray Q (l.drop m) a w):
 ∀ (fuel:Nat) (listed:Array Bool) (a:Act) (w:World),listed.size=l.length→listed.getD m true=false→fJ listed.toList≤fuel→JF w00 X L V E E' l n listed a w→wpAny P .any l.toArray Q fuel listed a w:=by
 rw [Bool.and_eq_true] at hc
 obtain ⟨hc,hdis⟩:=hc
 have hndA:=dM hdis
 have hnd:(E'.map Prod.fst).Nodup:=(List.nodup_append.1 hndA).1
 have hndV:(V.map Prod.fst).Nodup:=(List.nodup_append.1 hndA).2.1
 have hEV:∀ s,s∈E'.map Prod.fst→s∈V.map Prod.fst→False:=fun s h1 h2=>(List.nodup_append.1 hndA).2.2 s h1 s h2 rfl
 unfold Ew at hc
 simp only [Bool.and_eq_true,List.all_eq_true,List.mem_range] at hc
 obtain ⟨⟨hsz,hall⟩,hw⟩:=hc
 have hsz:l.length=m+1:=by have:=Nat.eq_of_beq_eq_true hsz;simpa using this
 have hat:∀ i,i<m+1→∃ o,l[i]? =some o∧o.guard=none∧(∀ e∈o.after.toList,Region.binds .any e=true→e.on<i)∧(i<m→(∀ s, .tmp s∈o.op.operands.toList→s∈E.map Prod.fst∨∃ e∈o.after.toList,Region.binds .any e=true∧∃ oe,l[e.on]? =some oe∧oe.dst=some s)∧∀ d,o.dst=some d→d<n∧d ∉ E.map Prod.fst):=by
  intro i hi
  obtain ⟨o,ho⟩:∃ o,l[i]? =some o:=⟨_,List.getElem?_eq_getElem qO⟩
  have h:=hall i hi
  rw [show l.toArray[i]? =some o by simpa using ho] at h
  simp only [Bool.and_eq_true,List.all_eq_true,Bool.or_eq_true,Bool.not_eq_true'] at h
  obtain ⟨⟨h1,h2⟩,h3⟩:=h
  refine ⟨o,ho,?_,fun e he hb=> ?_,fun him=> ?_⟩
  ·split at h1
   ·assumption
   ·cases h1
  ·rcases h2 e he with h|h
   ·rw [hb] at h;cases h
   ·rwa [Nat.blt_eq] at h
  ·rcases h3 with h3|⟨h3,h4⟩
   ·have:=Nat.eq_of_beq_eq_true h3;omega
   ·refine ⟨fun s hs=> ?_,fun d hd=> ?_⟩
    ·have:=h3 _ hs
     simp only [Bool.or_eq_true,List.any_eq_true,Bool.and_eq_true] at this
     rcases this with h|⟨e,he,hb,hd⟩
     ·exact .inl (by simpa using h)
     ·refine .inr ⟨e,he,hb,?_⟩
      cases hoe:l[e.on]? with
      |none=>rw [show l.toArray[e.on]? =none by simpa using hoe] at hd;simp at hd
      |some oe=>
       rw [show l.toArray[e.on]? =some oe by simpa using hoe,Option.bind_some] at hd
       cases hdo:oe.dst with
       |none=>rw [hdo] at hd;simp at hd
       |some d=>rw [hdo] at hd;exact ⟨oe,rfl,by rw [hdo,Nat.eq_of_beq_eq_true hd]⟩
    ·rw [hd] at h4
     simp only [Bool.and_eq_true,Bool.not_eq_true'] at h4
     exact ⟨by have:=h4.1;rwa [Nat.blt_eq] at this,by simpa using h4.2⟩
 have hlt:∀ {i:Nat} {listed:Array Bool},listed.size=l.length→i<m+1→¬ listed.getD i false=true→listed.getD i true=false:=by
  intro i listed hs hi h
  rw [Array.getD_eq_getD_getElem?,Array.getElem?_eq_getElem qO] at h ⊢
  simpa using h
 have hrd:∀ {listed:Array Bool},listed.size=l.length→(∃ i,i<m+1∧¬ listed.getD i false=true)→Region.ready .any l.toArray listed≠[]:=by
  intro listed hs ⟨i,hi,hn⟩
  induction i using Nat.strongRecOn with
  |_ i ih=>
   obtain ⟨o,ho,_,he,_⟩:=hat i hi
   by_cases hd:∃ e∈o.after.toList,Region.binds .any e=true∧¬ listed.getD e.on false=true
   ·obtain ⟨e,h1,h2,h3⟩:=hd
    exact ih e.on (he e h1 h2) (by have:=he e h1 h2;omega) h3
   ·intro h0
    have:i∈Region.ready .any l.toArray listed:=mem_ready.2 ⟨hlt hs hi hn,o,by simpa using ho,fun e h1 h2=>Classical.byContradiction fun h3=>hd ⟨e,by simpa using h1,h2,h3⟩⟩
    rw [h0] at this
    cases this
 intro fuel
 induction fuel with
 |zero=>
  intro listed a w hs hm hf _
  have:=gJ _ _ (ik qO hm)
  omega
 |succ f ih=>
  intro listed a w hs hm hf ⟨cur,E1,hsub,hav,hts,hcur,hvar,hcn,hpa⟩
  have hmn:¬ listed.getD m false=true:=fun h=>by
   rw [Array.getD_eq_getD_getElem?,Array.getElem?_eq_getElem qO] at h hm
   simp at h hm
   rw [h] at hm
   cases hm
  refine ⟨fun h0=>absurd h0 (hrd hs ⟨m,by omega,hmn⟩),fun i hi=> ?_⟩
  have hi0:=hi
  rw [mem_ready] at hi
  obtain ⟨hun,o,ho,hdep⟩:=hi
  have ho:l[i]? =some o:=by simpa using ho
  have him:i<m+1:=by have:=(List.getElem?_eq_some_iff.1 ho).1;omega
  obtain ⟨o',ho',hg,hed,hfr⟩:=hat i him
  rw [ho] at ho'
  injection ho' with ho'
  subst ho'
  have hwt:Region.wanted o (yielded l.toArray a.tmps)=true:=by unfold Region.wanted;rw [hg]
  have hopen:fJ (listed.setIfInBounds i true).toList≤f:=by
   have:=gH _ _ (ik qO hun)
   rw [Array.toList_setIfInBounds]
   omega
  have hils:i<listed.size:=qO
  have hnl:¬ listed.getD i false=true:=fun h=>by
   rw [Array.getD_eq_getD_getElem?,Array.getElem?_eq_getElem hils] at h hun
   simp at h hun
   rw [h] at hun;cases hun
  have hfront:∀ {j:Nat} {oj:Oper},l[j]? =some oj→listed.getD j false=true→j<m:=by
   intro j oj h1 h2
   have h3:=(List.getElem?_eq_some_iff.1 h1).1
   rcases Nat.lt_or_ge j m with h|h
   ·exact h
   ·have:j=m:=qO
    rw [this] at h2
    exact absurd h2 hmn
  rcases Nat.lt_or_eq_of_le (Nat.le_of_lt_succ him) with hlm|rfl
  ·obtain ⟨hops,hdst⟩:=hfr hlm
   have hm':(listed.setIfInBounds i true).getD m true=false:=by rw [getD_set_ne true qO];exact hm
   have hin:∀ p∈E', .tmp p.1∈o.op.operands.toList→p∈E1:=by
    intro p hp hpo
    refine hav p hp ?_
    rcases hops _ hpo with h|⟨e,he,hb,oe,hoe,hd⟩
    ·exact .inl h
    ·exact .inr ⟨e.on,oe,hoe,hdep e (by simpa using he) hb,by show (oe.dst==some p.1)=true;rw [hd];exact beq_self_eq_true _⟩
   have hof:o∈l.take m:=List.mem_iff_getElem?.2 ⟨i,by rw [List.getElem?_take,if_pos hlm];exact ho⟩
   have hD:∀ p,done l (listed.setIfInBounds i true) p↔(done l listed p∨p o=true):=fun p=>CM ho hils
   have hLn:(L.map Prod.fst).Nodup:=by
    have:=hts.mem.nodup
    rw [List.map_append,List.nodup_append] at this
    exact this.2.1
   have hcv':∀ c∈cur,c.1∈V.map Prod.fst:=fun c hc=>by
    obtain ⟨v,hv,e,_⟩:=hcur c hc
    rw [←e];exact List.mem_map_of_mem hv
   unfold wpOp
   simp only [show l.toArray[i]? =some o by simpa using ho]
   rw [if_pos hwt]
   left
   rcases ht.at o hof with ⟨d,T,hd,hdT,hdV,hst⟩|⟨d,U,Z,T,hd,hop,z,hv⟩|⟨d,x,k,k0,ag,ag0,ty,t0,pos,af,Z,T,e,hv,hx,z,z0,hk,hi'⟩
   ·obtain ⟨hdn,_⟩:=hdst d hd
    have hdV':d ∉ V.map Prod.fst:=by
     intro h
     rw [List.elem_eq_mem,decide_eq_false_iff_not] at hdV
     exact hdV h
    have hno:∀ s,s∈V.map Prod.fst→eT s o=false∧g6 s o=false:=by
     intro s hs'
     refine ⟨?_,?_⟩
     ·unfold eT
      rw [hd]
      split
      ·rename_i h1 h2
       injection h2 with h2
       rw [Bool.eq_false_iff]
       intro hb
       have:=Nat.eq_of_beq_eq_true hb
       exact hdV' (by rw [h2,this];exact hs')
      ·rfl
     ·unfold g6
      rw [hd]
      split
      ·rename_i h1 h2;cases h2
      ·rfl
    have hy:=hst.run _ a.eval w (fun _=>rfl) (fun _=>rfl) (Nat.zero_le _) (hts.mem.re (fun _ h=>h) (fun _ h=>h) (fun p hp=>List.mem_append_right _ hp) hLn) fun p hp hpo=>hts.slots p (List.mem_append_right _ (hin p hp hpo))
    refine Oper.wp_mono (fun a' w' h=> ?_) hy.wp
    obtain ⟨v,rfl,hT,hB⟩:=h
    rw [hd]
    refine ih _ _ _ (by simpa using hs) hm' hopen ⟨cur,(d,T)::E1.filter (fun p=> !Nat.beq p.1 d),fun p hp=> ?_,fun p hp hx=> ?_,?_,fun c hc=> ?_,fun v hv hx=> ?_,hcn,fun v hv hx=> ?_⟩
    ·rcases List.mem_cons.1 hp with rfl|hp
     ·exact hdT
     ·exact hsub p ((List.mem_filter.1 hp).1)
    ·by_cases hpd:p.1=d
     ·have:p=(d,T):=ii hnd hp hdT hpd
      rw [this]
      exact List.mem_cons_self
     ·refine List.mem_cons_of_mem _ (List.mem_filter.2 ⟨hav p hp ?_,?_⟩)
      ·rcases hx with hx|hx
       ·exact .inl hx
       ·rcases (hD _).1 hx with hx|hx
        ·exact .inr hx
        ·rw [hd] at hx
         have hx:d=p.1:=by simpa using hx
         exact absurd hx.symm hpd
      ·rw [Bool.not_eq_true',Bool.eq_false_iff]
       exact fun h=>hpd (Nat.eq_of_beq_eq_true h)
    ·have h1:=(hts.sub (E':=cur.map wD++E1.filter (fun p=> !Nat.beq p.1 d)) fun p hp=>by
      rcases List.mem_append.1 hp with hp|hp
      ·exact List.mem_append_left _ hp
      ·exact List.mem_append_right _ (List.mem_filter.1 hp).1).new (s:=d) (by
      rw [Bool.eq_false_iff]
      intro hx
      have hx':=List.elem_iff.1 hx
      rw [List.map_append,List.mem_append] at hx'
      rcases hx' with hx'|hx'
      ·rw [List.map_map] at hx'
       obtain ⟨c,hc,e⟩:=List.mem_map.1 hx'
       have e:c.1=d:=e
       exact hdV' (e▸hcv' c hc)
      ·obtain ⟨q,hq,rfl⟩:=List.mem_map.1 hx'
       have:=(List.mem_filter.1 hq).2
       rw [Nat.beq_refl] at this
       cases this) hdn hT hB
     refine h1.sub fun p hp=> ?_
     rcases List.mem_append.1 hp with hp|hp
     ·exact List.mem_cons_of_mem _ (List.mem_append_left _ hp)
     ·rcases List.mem_cons.1 hp with rfl|hp
      ·exact List.mem_cons_self
      ·exact List.mem_cons_of_mem _ (List.mem_append_right _ hp)
    ·obtain ⟨v,hv,e,h1,h2⟩:=hcur c hc
     have hvs:v.1∈V.map Prod.fst:=List.mem_map_of_mem hv
     refine ⟨v,hv,e,(hD _).2 (.inl h1),?_⟩
     rcases h2 with ⟨h2,h3⟩|⟨h2,h3⟩
     ·exact .inl ⟨(hD _).2 (.inl h2),h3⟩
     ·refine .inr ⟨fun h=> ?_,h3⟩
      rcases (hD _).1 h with h|h
      ·exact h2 h
      ·rw [(hno _ hvs).2] at h;cases h
    ·have hvs:v.1∈V.map Prod.fst:=List.mem_map_of_mem hv
     rcases (hD _).1 hx with h|h
     ·exact hvar v hv h
     ·rw [(hno _ hvs).1] at h;cases h
    ·have hvs:v.1∈V.map Prod.fst:=List.mem_map_of_mem hv
     rcases (hD _).1 hx with h|h
     ·exact (hD _).2 (.inl (hpa v hv h))
     ·rw [(hno _ hvs).2] at h;cases h
   ·obtain ⟨hdn,_⟩:=hdst d hd
    have hvs:d∈V.map Prod.fst:=List.mem_map_of_mem (f:=Prod.fst) hv
    have hal:eT d o=true:=by unfold eT;rw [hop,hd];exact Nat.beq_refl d
    have hnp:∀ s,g6 s o=false:=fun s=>by unfold g6;rw [hop]
    have hna:¬ done l listed (eT d):=fun ⟨j,oj,h1,h2,h3⟩=>by
     have:=(sL hcv hvs (hfront h1 h2) hlm h1 ho).1 h3 hal
     rw [this] at h2
     exact hnl h2
    have hnpd:¬ done l listed (g6 d):=fun h=>hna (hpa _ hv h)
    have hcd:∀ c∈cur,c.1≠d:=fun c hc e=>by
     obtain ⟨v,_,e2,h1,_⟩:=hcur c hc
     rw [e2,e] at h1
     exact hna h1
    obtain ⟨v0,hz1,hz2⟩:=z.ok
    unfold Oper.wp
    rw [hz2 o a.eval w hop,Oper.upon_value,hd]
    have hfresh:=hts.fresh (s:=d) (T:=Z) (v:=v0) (ty:=U) (by
     rw [Bool.eq_false_iff]
     intro hx
     have hx':=List.elem_iff.1 hx
     rw [List.map_append,List.mem_append] at hx'
     rcases hx' with hx'|hx'
     ·rw [List.map_map] at hx'
      obtain ⟨c,hc,e⟩:=List.mem_map.1 hx'
      exact hcd c hc e
     ·obtain ⟨q,hq,e⟩:=List.mem_map.1 hx'
      exact hEV d (e▸List.mem_map_of_mem (hsub q hq)) hvs) hdn fun w' X' _ _=>hz1 _ _
    have hallv:∀ v∈V,eT v.1 o=true→v=(d,Z,T):=fun v hv' h=>by
     unfold eT at h
     rw [hop,hd] at h
     exact ii hndV hv' hv (Nat.eq_of_beq_eq_true h).symm
    refine ih _ _ _ (by simpa using hs) hm' hopen ⟨(d,w.heap.size,Z)::cur,E1,hsub,fun p hp hx=> ?_,hfresh,fun c hc=> ?_,fun v hv' hx=> ?_,?_,fun v hv' hx=> ?_⟩
    ·refine hav p hp (hx.imp id fun hx=> ?_)
     rcases (hD _).1 hx with hx|hx
     ·exact hx
     ·rw [hd] at hx
      have hx:d=p.1:=by simpa using hx
      exact absurd hvs fun h=>hEV d (hx▸List.mem_map_of_mem hp) h
    ·rcases List.mem_cons.1 hc with rfl|hc
     ·refine ⟨_,hv,rfl,(hD _).2 (.inr hal), .inr ⟨fun h=> ?_,rfl⟩⟩
      rcases (hD _).1 h with h|h
      ·exact hnpd h
      ·rw [hnp] at h;cases h
     ·obtain ⟨v,hv',e,h1,h2⟩:=hcur c hc
      refine ⟨v,hv',e,(hD _).2 (.inl h1),?_⟩
      rcases h2 with ⟨h2,h3⟩|⟨h2,h3⟩
      ·exact .inl ⟨(hD _).2 (.inl h2),h3⟩
      ·refine .inr ⟨fun h=> ?_,h3⟩
       rcases (hD _).1 h with h|h
       ·exact h2 h
       ·rw [hnp] at h;cases h
    ·rcases (hD _).1 hx with h|h
     ·obtain ⟨c,hc,e⟩:=hvar v hv' h
      exact ⟨c,List.mem_cons_of_mem _ hc,e⟩
     ·exact ⟨_,List.mem_cons_self,by rw [hallv v hv' h]⟩
    ·rw [List.map_cons,List.nodup_cons]
     refine ⟨fun h=> ?_,hcn⟩
     obtain ⟨c,hc,e⟩:=List.mem_map.1 h
     exact hcd c hc e
    ·rcases (hD _).1 hx with h|h
     ·exact (hD _).2 (.inl (hpa v hv' h))
     ·rw [hnp] at h;cases h
   ·subst e
    have hvs:d∈V.map Prod.fst:=List.mem_map_of_mem (f:=Prod.fst) hv
    have hpd:g6 d (⟨none, .store ty (.tmp d) (.tmp x),t0,pos,af,none⟩:Oper)=true:=Nat.beq_refl d
    have hna:∀ s,eT s (⟨none, .store ty (.tmp d) (.tmp x),t0,pos,af,none⟩:Oper)=false:=fun s=>rfl
    have hps:∀ s,g6 s (⟨none, .store ty (.tmp d) (.tmp x),t0,pos,af,none⟩:Oper)=true→s=d:=fun s h=>(Nat.eq_of_beq_eq_true h).symm
    have hnpd:¬ done l listed (g6 d):=fun ⟨j,oj,h1,h2,h3⟩=>by
     have:=(sL hcv hvs (hfront h1 h2) hlm h1 ho).2 h3 hpd
     rw [this] at h2
     exact hnl h2
    have hald:done l listed (eT d):=by
     rcases hops d qI with h|⟨e,he,hb,oe,hoe,hd⟩
     ·obtain ⟨q,hq,e⟩:=List.mem_map.1 h
      exact absurd hvs fun h'=>hEV d (e▸List.mem_map_of_mem (ht.sub q hq)) h'
     ·have hli:=hdep e (by simpa using he) hb
      have hem:=hfront hoe hli
      refine ⟨e.on,oe,hoe,hli,?_⟩
      rcases ht.at oe (List.mem_iff_getElem?.2 ⟨e.on,by rw [List.getElem?_take,if_pos hem];exact hoe⟩) with ⟨d2,T2,hd2,_,hdV2,_⟩|⟨d2,U2,Z2,T2,hd2,hop2,_,_⟩|⟨d2,x2,_,_,_,_,_,_,_,_,_,_,e2,_⟩
      ·rw [hd] at hd2
       injection hd2 with hd2
       subst hd2
       rw [List.elem_eq_mem,decide_eq_false_iff_not] at hdV2
       exact absurd hvs hdV2
      ·unfold eT
       rw [hop2,hd]
       exact Nat.beq_refl d
      ·rw [e2] at hd;cases hd
    obtain ⟨c,hcm,hcd⟩:=hvar _ hv hald
    obtain ⟨r,T0,rfl⟩:∃ r T0,c=(d,r,T0):=⟨c.2.1,c.2.2,by have hcd:c.1=d:=hcd;rw [←hcd]⟩
    have hT0:T0=Z:=by
     obtain ⟨v,hv',e,_,h2⟩:=hcur _ hcm
     have:=ii hndV hv' hv e
     subst this
     rcases h2 with ⟨h2,_⟩|⟨_,h3⟩
     ·exact absurd h2 hnpd
     ·exact h3
    subst hT0
    obtain ⟨c1,c2,rfl⟩:=List.append_of_mem hcm
    have hxin:(x,T)∈E1:=hin _ hx qI
    obtain ⟨w2,hr,hts2⟩:=Be (P:=P) (ops:= #[]) (rest:=[]) (Q:=fun _ _ w=>TS w00 ((c1++(d,r,T0)::c2).map (fun c=>c.2.1)++X) (c1.map (fun c=>(c.2.1,c.2.2))++(r,T)::(c2.map (fun c=>(c.2.1,c.2.2))++L)) ((c1++(d,r,T0)::c2).map wD++E1) n a w) (t0:=t0) (pos:=pos) (af:=af) (ty:=ty) (s:=d) (r:=r) (o:= .tmp x) (T:=T) (T0:=T0) (L':=c1.map (fun c=>(c.2.1,c.2.2))++(r,T)::(c2.map (fun c=>(c.2.1,c.2.2))++L)) (hs:=⟨List.mem_append_left _ (List.mem_map_of_mem (f:=wD) hcm)⟩) (ho:=⟨fun _ hsl=>hsl _ (List.mem_append_right _ hxin) rfl⟩) (hu:=⟨by
     rw [List.map_append,List.map_cons,List.append_assoc]
     exact x5 _ _⟩) (z:=z) (z0:=z0) hts hk hi' fun w h=>wm h
    have hts2:=hts2.out
    unfold wpList at hts2
    unfold Oper.wp
    rw [hr,Oper.upon_skip]
    have hcn2:((c1++(d,r,T)::c2).map Prod.fst).Nodup:=by simpa using hcn
    have hd1:∀ c∈c1++c2,c.1≠d:=fun c hc e=>by
     have hh:((c1++(d,r,T)::c2).map Prod.fst).Nodup:=hcn2
     rw [List.map_append,List.map_cons] at hh
     rw [List.nodup_append,List.nodup_cons] at hh
     rcases List.mem_append.1 hc with hc|hc
     ·exact hh.2.2 c.1 (List.mem_map_of_mem hc) d List.mem_cons_self e
     ·exact hh.2.1.1 (show d∈_ from e▸List.mem_map_of_mem hc)
    refine ih _ _ _ (by simpa using hs) hm' hopen ⟨c1++(d,r,T)::c2,E1,hsub,fun p hp hx=> ?_,?_,fun c hc=> ?_,fun v hv' hx=> ?_,hcn2,fun v hv' hx=> ?_⟩
    ·refine hav p hp (hx.imp id fun hx=> ?_)
     rcases (hD _).1 hx with hx|hx
     ·exact hx
     ·cases hx
    ·have e1:(c1++(d,r,T)::c2).map (fun c=>c.2.1)=(c1++(d,r,T0)::c2).map (fun c=>c.2.1):=by simp
     have e2:(c1++(d,r,T)::c2).map wD=(c1++(d,r,T0)::c2).map wD:=by simp
     have e3:(c1++(d,r,T)::c2).map (fun c=>(c.2.1,c.2.2))++L=c1.map (fun c=>(c.2.1,c.2.2))++(r,T)::(c2.map (fun c=>(c.2.1,c.2.2))++L):=by simp
     show TS w00 ((c1++(d,r,T)::c2).map (fun c=>c.2.1)++X) ((c1++(d,r,T)::c2).map (fun c=>(c.2.1,c.2.2))++L) ((c1++(d,r,T)::c2).map wD++E1) n a w2
     rw [e1,e2,e3]
     exact hts2
    ·rcases List.mem_append.1 hc with hc'|hc'
     ·obtain ⟨v,hv',e,h1,h2⟩:=hcur c (List.mem_append_left _ hc')
      refine ⟨v,hv',e,(hD _).2 (.inl h1),?_⟩
      rcases h2 with ⟨h2,h3⟩|⟨h2,h3⟩
      ·exact .inl ⟨(hD _).2 (.inl h2),h3⟩
      ·refine .inr ⟨fun h=> ?_,h3⟩
       rcases (hD _).1 h with h|h
       ·exact h2 h
       ·exact hd1 c (List.mem_append_left _ hc') (e▸hps _ h)
     ·rcases List.mem_cons.1 hc' with rfl|hc'
      ·exact ⟨_,hv,rfl,(hD _).2 (.inl hald), .inl ⟨(hD _).2 (.inr hpd),rfl⟩⟩
      ·obtain ⟨v,hv',e,h1,h2⟩:=hcur c (List.mem_append_right _ (List.mem_cons_of_mem _ hc'))
       refine ⟨v,hv',e,(hD _).2 (.inl h1),?_⟩
       rcases h2 with ⟨h2,h3⟩|⟨h2,h3⟩
       ·exact .inl ⟨(hD _).2 (.inl h2),h3⟩
       ·refine .inr ⟨fun h=> ?_,h3⟩
        rcases (hD _).1 h with h|h
        ·exact h2 h
        ·exact hd1 c (List.mem_append_right _ hc') (e▸hps _ h)
    ·rcases (hD _).1 hx with h|h
     ·obtain ⟨c,hc,e⟩:=hvar v hv' h
      rcases List.mem_append.1 hc with hc|hc
      ·exact ⟨c,List.mem_append_left _ hc,e⟩
      ·rcases List.mem_cons.1 hc with rfl|hc
       ·exact ⟨_,List.mem_append_right _ List.mem_cons_self,e⟩
       ·exact ⟨c,List.mem_append_right _ (List.mem_cons_of_mem _ hc),e⟩
     ·cases h
    ·rcases (hD _).1 hx with h|h
     ·exact (hD _).2 (.inl (hpa v hv' h))
     ·rw [hps _ h]
      exact (hD _).2 (.inl hald)
  ·have hal:∀ j,j<i→listed.getD j false=true:=by
    intro j hj
    obtain ⟨o2,ho2,e,he,hb,heon⟩:=fY (hw j hj)
    rw [show l.toArray[i]? =some o by simpa using ho] at ho2
    injection ho2 with ho2
    subst ho2
    rw [←heon]
    exact hdep e (by simpa using he) hb
   have hany:∀ (p:Oper→Bool),(l.take i).any p=true→done l listed p:=fun p hp=>by
    obtain ⟨q,hq,hpq⟩:=List.any_eq_true.1 hp
    obtain ⟨j,hj⟩:=List.mem_iff_getElem?.1 hq
    rw [List.getElem?_take] at hj
    split at hj
    ·exact ⟨j,q,hj,hal j qL,hpq⟩
    ·cases hj
   have hE1:∀ p∈E',p∈E1:=fun p hp=>by
    refine hav p hp ?_
    rcases ht.new p hp with h|⟨q,hq,hqd⟩
    ·exact .inl (List.mem_map.2 ⟨p,h,rfl⟩)
    ·exact .inr (hany _ (List.any_eq_true.2 ⟨q,hq,by show (q.dst==some p.1)=true;rw [hqd];exact beq_self_eq_true _⟩))
   have hex:∀ v∈V,∃ c∈cur,c.1=v.1∧c.2.2=v.2.2:=fun v hv=>by
    obtain ⟨c,hc,e⟩:=hvar v hv (hany _ (BJ hcv (List.mem_map_of_mem hv)))
    refine ⟨c,hc,e,?_⟩
    obtain ⟨v',hv',e',_,h2⟩:=hcur c hc
    have:v'=v:=ii hndV hv' hv (e'.trans e)
    subst this
    rcases h2 with ⟨_,h3⟩|⟨h2,h3⟩
    ·exact h3
    ·rcases hns v' hv' with h|h
     ·exact absurd (hany _ h) h2
     ·rw [h3,h]
   obtain ⟨r,hr⟩:∃ r:Nat→Nat,∀ v∈V,(v.1,r v.1,v.2.2)∈cur:=by
    refine ⟨fun s=>((cur.find? fun c=>c.1==s).map (fun c=>c.2.1)).getD 0,fun v hv=> ?_⟩
    obtain ⟨c,hc,e,e2⟩:=hex v hv
    cases hf:cur.find? (fun c=>c.1==v.1) with
    |none=>
     have:=List.find?_eq_none.1 hf c hc
     rw [e] at this
     simp at this
    |some c'=>
     have h1:=List.mem_of_find?_eq_some hf
     have h2:=List.find?_some hf
     have h2:c'.1=v.1:=by simpa using h2
     have:c'=c:=ii hcn h1 hc (h2.trans e.symm)
     subst this
     have e3:(v.1,c'.2.1,v.2.2)=c':=by rw [←e,←e2]
     dsimp only
     rw [hf]
     simp only [Option.map_some,Option.getD_some]
     rw [e3]
     exact hc
   have hadn:(cur.map (fun c=>c.2.1)).Nodup∧(∀ c∈cur,∀ p∈L,c.2.1≠p.1)∧(L.map Prod.fst).Nodup:=by
    have h:=hts.mem.nodup
    rw [List.map_append,List.nodup_append,List.map_map] at h
    refine ⟨h.1,fun c hc p hp=> ?_,h.2.1⟩
    exact h.2.2 _ (List.mem_map_of_mem (f:=Prod.fst ∘ fun c:Nat×Nat×aa=>(c.2.1,c.2.2)) hc) _ (List.mem_map_of_mem (f:=Prod.fst) hp)
   have hadu:∀ c∈cur,∀ c'∈cur,c.2.1=c'.2.1→c=c':=by
    intro c hc c' hc' e
    have h:=hadn.1
    clear hadn hr hex hE1 hvar hcur hts hcn hpa hav
    induction cur with
    |nil=>cases hc
    |cons b cur ih2=>
     rw [List.map_cons,List.nodup_cons] at h
     rcases List.mem_cons.1 hc with h1|h1<;>rcases List.mem_cons.1 hc' with h2|h2
     ·rw [h1,h2]
     ·exact absurd (by rw [←h1,e];exact List.mem_map_of_mem (f:=fun c:Nat×Nat×aa=>c.2.1) h2) h.1
     ·exact absurd (by rw [←h2,←e];exact List.mem_map_of_mem (f:=fun c:Nat×Nat×aa=>c.2.1) h1) h.1
     ·exact ih2 h1 h2 h.2
   have hVn:V.Nodup:=by
    have:=hndV
    rw [List.Nodup,List.pairwise_map] at this
    exact this.imp fun h e=>h (by rw [e])
   have hTS:TS w00 (V.map (fun v=>r v.1)++X) (V.map (fun v=>(r v.1,v.2.2))++L) (V.map (fun v=>(v.1,aa.is (.pointer (some ⟨r v.1,0,none⟩))))++E') n a w:=by
    refine hts.re (fun b hb=> ?_) (fun b hb=> ?_) (fun p hp=> ?_) ?_ fun p hp=> ?_
    ·rcases List.mem_append.1 hb with hb|hb
     ·obtain ⟨v,hv,rfl⟩:=List.mem_map.1 hb
      exact List.mem_append_left _ (List.mem_map_of_mem (f:=fun c:Nat×Nat×aa=>c.2.1) (hr v hv))
     ·exact List.mem_append_right _ hb
    ·rcases List.mem_append.1 hb with hb|hb
     ·obtain ⟨c,hc,rfl⟩:=List.mem_map.1 hb
      obtain ⟨v,hv,e,_⟩:=hcur c hc
      have:=ii hcn (hr v hv) hc e
      refine List.mem_append_left _ ?_
      rw [←this]
      exact List.mem_map_of_mem (f:=fun v:Vr=>r v.1) hv
     ·exact List.mem_append_right _ hb
    ·rcases List.mem_append.1 hp with hp|hp
     ·obtain ⟨v,hv,rfl⟩:=List.mem_map.1 hp
      exact List.mem_append_left _ (List.mem_map_of_mem (f:=fun c:Nat×Nat×aa=>(c.2.1,c.2.2)) (hr v hv))
     ·exact List.mem_append_right _ hp
    ·rw [List.map_append,List.map_map,List.nodup_append]
     refine ⟨wa hVn fun v hv v' hv' e=> ?_,hadn.2.2,fun b hb b' hb' e=> ?_⟩
     ·have e2:=hadu _ (hr v hv) _ (hr v' hv') e
      have e3:v.1=v'.1:=congrArg (fun c:Nat×Nat×aa=>c.1) e2
      exact ii hndV hv hv' e3
     ·obtain ⟨v,hv,rfl⟩:=List.mem_map.1 hb
      obtain ⟨p,hp,rfl⟩:=List.mem_map.1 hb'
      exact hadn.2.1 _ (hr v hv) p hp e
    ·rcases List.mem_append.1 hp with hp|hp
     ·obtain ⟨v,hv,rfl⟩:=List.mem_map.1 hp
      exact List.mem_append_left _ (List.mem_map_of_mem (f:=wD) (hr v hv))
     ·exact List.mem_append_right _ (hE1 p hp)
   have hlast:=(hfin r a w hTS).out
   have hdr:l.drop i=[o]:=by
    rw [List.drop_eq_getElem_cons qO,List.drop_eq_nil_of_le qO]
    congr 1
    rw [List.getElem?_eq_getElem qO] at ho
    injection ho
   rw [hdr] at hlast
   unfold wpOp
   simp only [show l.toArray[i]? =some o by simpa using ho]
   unfold wpList at hlast
   rw [if_pos hwt] at hlast ⊢
   refine hlast.imp (Oper.wp_mono fun a' w' h=> ?_) id
   unfold wpList at h
   refine wpAny_done ?_ h _
   rw [List.eq_nil_iff_forall_not_mem]
   intro j hj
   rw [mem_ready] at hj
   obtain ⟨h1,oj,h2,_⟩:=hj
   have hjl:=(Array.getElem?_eq_some_iff.1 h2).1
   have hjl:j<i+1:=by rw [←hsz];simpa using hjl
   by_cases hji:i=j
   ·subst hji
    simp [show i<listed.size by omega] at h1
   ·rw [getD_set_ne true hji] at h1
    have:=hal j qO
    rw [Array.getD_eq_getD_getElem?,Array.getElem?_eq_getElem qO] at h1 this
    simp at h1 this
    rw [h1] at this
    cases this
theorem pM {E E':List (Nat×aa)} {cs:List Code} {id:Nat} {l:List Oper} (m:Nat) (V:List Vr) (ht:eR P w00 L V E (l.take m) E') (hc:(Ew l.toArray (E.map Prod.fst) n m&&cn (E'.map Prod.fst++V.map Prod.fst))=true) (hcv:z5 l m (V.map Prod.fst)=true)
 (hns:∀ v∈V,(l.take m).any (g6 v.1)=true∨v.2.2=v.2.1) (hm:P.follows .mixedOrders=true)
 (h:∀ r:Nat→Nat,GR P w00 (V.map (fun v=>r v.1)++X) (V.map (fun v=>(r v.1,v.2.2))++L) (V.map (fun v=>(v.1,aa.is (.pointer (some ⟨r v.1,0,none⟩))))++E') n l.toArray (l.drop m) cs Q):GC P w00 X L E n (Code.region id l.toArray true::cs) Q:=by
 refine ⟨fun a w hts=> ?_⟩
 have hb:Below w.heap.size w w.drew:=(Below.refl _ _).drew
 have hts':TS w00 X L E n a w.drew:=⟨hts.size,hts.df,fun p hp=>p.2.stable (hts.slots p hp) (Below.keeps hb _) fun _ h _=>h,hts.mem.same hb⟩
 have hsz:l.length=m+1:=by
  have:=hc
  unfold Ew at this
  simp only [Bool.and_eq_true] at this
  have:=Nat.eq_of_beq_eq_true this.1.1.1
  simpa using this
 have hnd:(E'.map Prod.fst).Nodup:=(List.nodup_append.1 (dM (by rw [Bool.and_eq_true] at hc;exact hc.2))).1
 have hnone:∀ p,¬ done l (Array.replicate l.toArray.size false) p:=fun p ⟨i,o,_,h2,_⟩=>by
  rw [Array.getD_eq_getD_getElem?] at h2
  cases h:(Array.replicate l.toArray.size false)[i]? with
  |none=>rw [h] at h2;cases h2
  |some b=>
   have:=Array.mem_of_getElem? h
   simp at this
   rw [h,this.2] at h2
   cases h2
 refine wp_region_any hm (Fv ht hc hcv hns (fun r a w h'=>(h r).run a w h') _ _ _ _ qE ?_ (by simpa using jG l.toArray.size) ⟨[],E,ht.sub,fun p hp hx=> ?_,hts',(fun _ h=>by cases h),fun v _ h=>absurd h (hnone _),List.nodup_nil,fun v _ h=>absurd h (hnone _)⟩)
 ·rw [Array.getD_eq_getD_getElem?,Array.getElem?_replicate,if_pos (by simp;omega)]
  rfl
 ·rcases hx with hx|hx
  ·obtain ⟨q,hq,hqp⟩:=List.mem_map.1 hx
   have:p=q:=ii hnd hp (ht.sub q hq) hqp.symm
   rw [this];exact hq
  ·exact absurd hx (hnone _)
end
def BM (e p y a:Int):Prop:=(e=2∨e=3)∧1≤p∧p≤11∧0≤a∧ -1≤y
theorem fk {α:Type} {p:α→Bool} {most:Nat}:∀ {l:List α} {i:Nat},((brk p most i l).2=0∨(brk p most i l).2=2∨(brk p most i l).2=3)∧0≤(brk p most i l).1
 |[],_=>⟨.inl rfl,Int.le_refl _⟩
 |x::l,i=>by
  by_cases h:i=most
  ·rw [ft h];exact ⟨.inr (.inr rfl),by show (0:Int)≤(i:Int);omega⟩
  ·cases hp:p x
   ·rw [fy h hp];exact ⟨.inr (.inl rfl),by show (0:Int)≤(i:Int);omega⟩
   ·rw [fS h hp];exact fk
theorem BL (d:aj):((lc d).2=0∨(lc d).2=2∨(lc d).2=3)∧0≤(lc d).1:=by
 unfold lc
 cases h:decide (0≤fz 0 (dR d))
 ·exact ⟨.inl rfl,Int.le_refl _⟩
 ·exact ⟨.inr (.inl rfl),of_decide_eq_true h⟩
theorem pQ {yr:Int} (hy: -1≤yr):∀ {l:List (Int×Int×Int)},(∀ x∈l,1≤x.1∧x.1≤11∧(x.2.2=0∨x.2.2=2∨x.2.2=3)∧0≤x.2.1)→(dw yr l).2=0∨BM (dw yr l).2 (dw yr l).1.1 (dw yr l).1.2.1 (dw yr l).1.2.2
 |[],_=> .inl rfl
 |(p,a,e)::t,h=>by
  rw [iO]
  cases he:(e==0)
  ·obtain ⟨h1,h2,h3,h4⟩:=h _ List.mem_cons_self
   have he:e≠0:=fun e0=>by rw [e0] at he;cases he
   exact .inr ⟨h3.resolve_left he,h1,h2,h4,hy⟩
  ·exact pQ hy fun x hx=>h x (List.mem_cons_of_mem _ hx)
theorem vx (d:aj):∀ x∈dC d,1≤x.1∧x.1≤11∧(x.2.2=0∨x.2.2=2∨x.2.2=3)∧0≤x.2.1:=by
 unfold dC
 exact all_cons ⟨by dsimp only;omega,by dsimp only;omega,fk⟩ (all_cons ⟨by dsimp only;omega,by dsimp only;omega,fk⟩ (all_cons ⟨by dsimp only;omega,by dsimp only;omega,BL d⟩ (all_cons ⟨by dsimp only;omega,by dsimp only;omega,fk⟩ (all_cons ⟨by dsimp only;omega,by dsimp only;omega,fk⟩ (all_cons ⟨by dsimp only;omega,by dsimp only;omega,fk⟩ all_nil)))))
theorem vP (y:aX):∀ x∈dp y,1≤x.1∧x.1≤11∧(x.2.2=0∨x.2.2=2∨x.2.2=3)∧0≤x.2.1:=by
 unfold dp
 exact all_cons ⟨by dsimp only;omega,by dsimp only;omega,fk⟩ (all_cons ⟨by dsimp only;omega,by dsimp only;omega,fk⟩ (all_cons ⟨by dsimp only;omega,by dsimp only;omega,fk⟩ (all_cons ⟨by dsimp only;omega,by dsimp only;omega,fk⟩ (all_cons ⟨by dsimp only;omega,by dsimp only;omega,fk⟩ all_nil))))
theorem ue:∀ {l:List aX} {i:Nat},(kB i l).2=0∨BM (kB i l).2 (kB i l).1.1 (kB i l).1.2.1 (kB i l).1.2.2
 |[],_=> .inl rfl
 |y::t,i=>by
  rw [jK]
  cases h:((dw (i:Int) (dp y)).2==0)
  ·exact pQ qO (vP y)
  ·exact ue
theorem xr (d:aj):(bK d).2=0∨BM (bK d).2 (bK d).1.1 (bK d).1.2.1 (bK d).1.2.2:=by
 unfold bK
 cases h:((dw (-1) (dC d)).2==0)
 ·exact pQ qD (vx d)
 ·exact ue
theorem qP {yr:Int}:∀ {l:List (Int×Int×Int)},(dw yr l).2=0→∀ x∈l,x.2.2=0
 |[],_=>all_nil
 |(p,a,e)::t,h=>by
  rw [iO] at h
  cases he:(e==0)
  ·rw [he] at h
   have h:e=0:=h
   rw [h] at he;cases he
  ·rw [he] at h
   exact all_cons (eq_of_beq he) (qP h)
theorem ve:∀ {l:List aX} {i:Nat},(kB i l).2=0→∀ y∈l,∀ x∈dp y,x.2.2=0
 |[],_,_=>all_nil
 |y::t,i,h=>by
  rw [jK] at h
  cases he:((dw (i:Int) (dp y)).2==0)
  ·rw [he] at h
   have h:(dw (i:Int) (dp y)).2=0:=h
   rw [h] at he;cases he
  ·rw [he] at h
   exact all_cons (qP (eq_of_beq he)) (ve h)
theorem wG {d:aj} (h:(bK d).2=0):(∀ x∈dC d,x.2.2=0)∧∀ y∈d.2.2.2.2.2.2.2.2.2.2.2.2,∀ x∈dp y,x.2.2=0:=by
 unfold bK at h
 cases he:((dw (-1) (dC d)).2==0)
 ·rw [he] at h
  have h:(dw (-1) (dC d)).2=0:=h
  rw [h] at he;cases he
 ·rw [he] at h
  exact ⟨qP (eq_of_beq he),ve h⟩
theorem Bh {d:aj} (h:(lc d).2=0):lc d=(0,0):=by
 unfold lc at h ⊢
 cases hd:decide (0≤fz 0 (dR d))
 ·rfl
 ·rw [hd] at h;cases h
theorem mC{α:Type} {p:α→Bool} {most:Nat} {l:List α} (h:(brk p most i l).2=0):brk p most i l=(0,0):=Prod.ext (t6 h) h
theorem nF {α:Type} {p:α→Bool} {most j:Nat} {l:List α} (h:(brk p most 0 l).2=0):brk p most 0 (l.take j)=(0,0):=by
 obtain ⟨h1,h2⟩:=(wT (Nat.zero_le _)).1 h
 exact mC ((wT (Nat.zero_le _)).2 ⟨fun x hx=>h1 x (List.mem_of_mem_take hx),by rw [List.length_take];omega⟩)
theorem uh {y:aX} (h:∀ x∈dp y,x.2.2=0):∀ x∈dp y,x.2=(0,0):=by
 unfold dp at h ⊢
 simp only [List.forall_mem_cons] at h
 exact all_cons (mC h.1) (all_cons (mC h.2.1) (all_cons (mC h.2.2.1) (all_cons (mC h.2.2.2.1) (all_cons (mC h.2.2.2.2.1) all_nil))))
def qe (d:aj) (jb jc je jy:Nat):aj:=(d.1,d.2.1,(d.2.2.1).take jb,d.2.2.2.1,d.2.2.2.2.1,d.2.2.2.2.2.1,d.2.2.2.2.2.2.1,d.2.2.2.2.2.2.2.1,d.2.2.2.2.2.2.2.2.1,d.2.2.2.2.2.2.2.2.2.1,(d.2.2.2.2.2.2.2.2.2.2.1).take jc,(d.2.2.2.2.2.2.2.2.2.2.2.1).take je,(d.2.2.2.2.2.2.2.2.2.2.2.2).take jy)
theorem iZ {d:aj} (h:(bK d).2=0) (jb jc je jy:Nat):bK (qe d jb jc je jy)=((0,0,0),0):=by
 obtain ⟨h1,h2⟩:=wG h
 unfold dC at h1
 simp only [List.forall_mem_cons] at h1
 refine sH ?_ fun y hy=>uh (h2 y (List.mem_of_mem_take hy))
 unfold dC
 refine all_cons (mC h1.1) (all_cons (nF h1.2.1) (all_cons ?_ (all_cons (nF h1.2.2.2.1) (all_cons (nF h1.2.2.2.2.1) (all_cons (nF h1.2.2.2.2.2.1) all_nil)))))
 exact Bh (d:=d) h1.2.2.1
theorem nt {d:aj} (h:nf d) (jb jc je jy:Nat):nf (qe d jb jc je jy):=
 ⟨h.thr,h.cap,h.int,h.flo,fun x hx=>h.brk x (List.mem_of_mem_take hx),fun x hx=>h.cls x (List.mem_of_mem_take hx),fun x hx=>h.yrs x (List.mem_of_mem_take hx)⟩
section
variable {P:Program} {w00:World} {N:Nat} {L:List Loc} {E:List (Nat×aa)} {d:Nat} {t0:TypeId} {pos:String} {af:Array Edge} {gd:Option (Nat×Bool)}
theorem E7 {α:Type} {r:Rp α} {l:List α} {o o1:Operand} {ty:TypeId} {z:Int} {k:Nat} [ho:bD E o (.rw r tt l)] [hi:bD E o1 (.is (.int .i64 z))] [ht:cP P ty k] (hz:0≤z∧z≤(l.length:Int)):au P w00 N L E ⟨some d, .slice ty o none (some o1) none,t0,pos,af,gd⟩ (.rw r tt (l.take z.toNat)):=by
 constructor
 intro X ρ w hc _ hN hm hsl
 obtain ⟨_,A,n,c,e,h1,h2,h3,h4,h5⟩:=ho.get (X:=X) (w:=w) hc fun p hp e=>hsl p hp qS
 have e1:ρ o= .slice A n c:=by simpa using e
 have e2:ρ o1= .int .i64 z:=hi.get (X:=X) (w:=w) hc fun p hp e=>hsl p hp qS
 obtain ⟨el,hu,hsz⟩:=ht.ok
 have hel:P.underlying ty=some (.slice (P.elem ty)):=by
  have:P.elem ty=el:=by unfold Program.elem;rw [hu]
  rw [this];exact hu
 have hze:(sizeOf (P.elem ty)).run P w= .ok k w:=by
  have:P.elem ty=el:=by unfold Program.elem;rw [hu]
  rw [this]
  cases hq:P.info? el with
  |none=>rw [hq] at hsz;cases hsz
  |some q=>
   rw [hq] at hsz
   have:q.size=k:=by simpa using hsz
   simp [sizeOf,typeInfo,hq,this]
 have hrun:(execOp ρ ⟨some d, .slice ty o none (some o1) none,t0,pos,af,gd⟩).run P w= .ok (.value (.slice (if c=0 then A else A.map (·.add 0)) z.toNat c)) w:=by
  unfold execOp
  simp only [Option.map_none,Option.map_some,e1,e2,Sem.run_bind,run_sliceAt_slice w ty _ _ _ _ hel,run_slice_h w ty A n c hel .i64 z hz.1 qO,hze,Result.andThen_ok,Sem.run_pure,sliced,Nat.zero_mul,Nat.sub_zero]
 unfold Yields
 rw [hrun]
 refine ⟨⟨fun _ _=>trivial,_,z.toNat,c,rfl,by rw [List.length_take];omega,by omega,h3,fun hA=> ?_,fun hn=> ?_⟩,Below.refl _ _⟩
 ·by_cases hc0:c=0
  ·exact hc0
  ·rw [if_neg hc0] at hA
   refine h4 ?_
   cases A with
   |none=>rfl
   |some a=>cases hA
 ·obtain ⟨b,off,rfl,hb,hcl⟩:=h5 qO
  refine ⟨b,off,?_,hb,fun j a ha=> ?_⟩
  ·have:((⟨b,off,none⟩:Addr).add 0)=⟨b,off,none⟩:=Addr.add_mid b off 0
   by_cases hc0:c=0
   ·rw [if_pos hc0]
   ·rw [if_neg hc0];simp [this]
  ·rw [List.getElem?_take] at ha
   split at ha
   ·exact hcl j a ha
   ·cases ha
theorem va {α:Type} {r:Rp α} {p:α→Prop} {l:List α} {a:α} {o oi:Operand} {ty:TypeId} {z:Int} {k:Nat} [ho:bD E o (.rw r p l)] [hi:bD E oi (.is (.int .i64 z))] [kc:KC r k] [ht:cP P ty k] (ha:0≤z∧l[z.toNat]? =some a):au P w00 N L E ⟨some d, .indexAddr ty o oi,t0,pos,af,gd⟩ (.pe r p a):=by
 have e:z=(z.toNat:Int):=qO
 exact gW (hi:=⟨fun hc hs=>by
  have:=hi.get hc hs
  rw [e] at this
  exact this⟩) ha.2
end
instance:fw Tryz.prog 53 1 false:=⟨⟨_,Tryz.underlying53,rfl⟩,by kernel_rfl⟩
instance:cP Tryz.prog 53 25:=⟨⟨_,Tryz.underlying53,by kernel_rfl⟩⟩
theorem rh:pp Tryz.prog 53 32 25:=⟨Tryz.underlying53,by
 have h:((Tryz.prog.info? 32).bind (·.zero)).map (fun z=>z.cells.size)=some 25:=by kernel_rfl
 have h2:(Tryz.prog.info? 32).map (·.size)=some 25:=by kernel_rfl
 cases hi:Tryz.prog.info? 32 with
 |none=>rw [hi] at h;cases h
 |some i=>
 cases hz:i.zero with
 |none=>simp [hi,hz] at h
 |some z=>
 simp [hi,hz] at h
 simp [hi] at h2
 exact ⟨i,z,rfl,hz,h2,h⟩⟩
theorem uJ {p:Prop} (h:p:=by first|exact gW (by assumption)|exact fO|exact jE|exact iA|exact sP (r:=ab) rh rfl (by decide) (by decide) (by decide)|exact E7 (by assumption)|exact EE (by assumption)|exact GV (by assumption)|exact va ⟨by decide,rfl⟩|exact dt|exact dE|exact du|exact bm|exact fi|exact eI|exact eH|exact lm|exact lk|exact bO (b:=true) (u:=false) rfl|exact bO (b:=false) (u:=true) rfl|exact bO rfl|exact jT (by first|assumption|rfl)|exact nq (by first|assumption|rfl)|exact mN (by first|assumption|rfl)|exact l7 (by first|assumption|rfl)|exact dh (by assumption)|exact dA|exact d8.nil|exact bG.nil|exact bE.nil|exact sc trivial kF|exact sc hE hR|exact sc hE qh|exact sc hE g1|exact sc hE g2|exact sc hE g3|exact sc hE g4|exact Cv.rfl'):p:=h
theorem Ey {d:aj}:bW Tryz.prog cK 4 [0] [.ra ab d] (fun _=> .is (.bool true)):=by
 have kF:=F0 (d:=d)
 cases hF:gG d
 ·rw [hF] at kF
  have hR:=qh
  refine Jr Tryz.func4 rfl Tryz.ntmps4 qE (fun _ _=>by kernel_rfl) fun X w hE=> ?_
  simp only [eK,Nat.zero_add,Nat.reduceAdd]
  repeat' first|kernel_rfl|apply cx|apply cy|apply cE|apply az|apply aW|refine @bG.cons _ _ _ _ inferInstance ?_|refine @bE.cons _ _ _ inferInstance ?_|apply cu|apply cB|apply co|apply cA|apply cp|apply cw|refine fK rfl inferInstance uJ qK ?_|refine jz rfl inferInstance rfl qK ?_|refine jh rfl inferInstance qK ?_|apply ae|apply bB|apply eB|apply eu|apply ct|refine aQ rfl ?_|apply eC|exact uJ|(intro _;simp only[cf,ci,cm,List.map,List.cons_append,List.nil_append])|intro _
 rw [hF] at kF
 obtain ⟨hcnt,hfew⟩:=xT hF
 have hR:=j2 hfew
 rcases xr d with h0|ht
 rotate_left
 ·obtain ⟨he,hp1,hp2,ha,hy⟩:=ht
  generalize hq:bK d=q at*
  have e1:decide ((1:Int)≤q.1.1)=true:=decide_eq_true hp1
  have e2:decide (q.1.1≤(11:Int))=true:=decide_eq_true hp2
  have e3:decide ((0:Int)≤q.1.2.2)=true:=decide_eq_true ha
  have e4:decide ((-1:Int)≤q.1.2.1)=true:=decide_eq_true hy
  rcases he with he|he
  ·rw [he] at hR
   refine Jr Tryz.func4 rfl Tryz.ntmps4 qE (fun _ _=>by kernel_rfl) fun X w hE=> ?_
   simp only [eK,Nat.zero_add,Nat.reduceAdd]
   repeat' first|kernel_rfl|apply cx|apply cy|apply cE|apply az|apply aW|refine @bG.cons _ _ _ _ inferInstance ?_|refine @bE.cons _ _ _ inferInstance ?_|apply cu|apply cB|apply co|apply cA|apply cp|apply cw|refine fK rfl inferInstance uJ qK ?_|refine jz rfl inferInstance rfl qK ?_|refine jh rfl inferInstance qK ?_|apply ae|apply bB|apply eB|apply eu|apply ct|refine aQ rfl ?_|apply eC|exact uJ|(intro _;simp only[cf,ci,cm,List.map,List.cons_append,List.nil_append])|intro _
  ·rw [he] at hR
   refine Jr Tryz.func4 rfl Tryz.ntmps4 qE (fun _ _=>by kernel_rfl) fun X w hE=> ?_
   simp only [eK,Nat.zero_add,Nat.reduceAdd]
   repeat' first|kernel_rfl|apply cx|apply cy|apply cE|apply az|apply aW|refine @bG.cons _ _ _ _ inferInstance ?_|refine @bE.cons _ _ _ inferInstance ?_|apply cu|apply cB|apply co|apply cA|apply cp|apply cw|refine fK rfl inferInstance uJ qK ?_|refine jz rfl inferInstance rfl qK ?_|refine jh rfl inferInstance qK ?_|apply ae|apply bB|apply eB|apply eu|apply ct|refine aQ rfl ?_|apply eC|exact uJ|(intro _;simp only[cf,ci,cm,List.map,List.cons_append,List.nil_append])|intro _
 ·have hz:bK d=((0,0,0),0):=by
   have:=iZ h0 (d.2.2.1).length (d.2.2.2.2.2.2.2.2.2.2.1).length (d.2.2.2.2.2.2.2.2.2.2.2.1).length (d.2.2.2.2.2.2.2.2.2.2.2.2).length
   unfold qe at this
   simp only [List.take_length] at this
   exact this
  rw [hz] at hR
  obtain ⟨ny,hny⟩:∃ n,n=(d.2.2.2.2.2.2.2.2.2.2.2.2).length:=⟨_,rfl⟩
  have wy:IntKind.i64.wrap (((d.2.2.2.2.2.2.2.2.2.2.2.2).length:Int) - 1)=((d.2.2.2.2.2.2.2.2.2.2.2.2).length:Int) - 1:=by
   rw [IntKind.wrap_i64]
   have:=hcnt.ys
   omega
  have my:max (0:Int) (((d.2.2.2.2.2.2.2.2.2.2.2.2).length:Int) - 1)=(((d.2.2.2.2.2.2.2.2.2.2.2.2).length - 1:Nat):Int):=qO
  have zy:0≤(((d.2.2.2.2.2.2.2.2.2.2.2.2).length - 1:Nat):Int)∧(((d.2.2.2.2.2.2.2.2.2.2.2.2).length - 1:Nat):Int)≤((d.2.2.2.2.2.2.2.2.2.2.2.2).length:Int):=⟨by omega,by omega⟩
  obtain ⟨ne,hne⟩:∃ n,n=(d.2.2.2.2.2.2.2.2.2.2.2.1).length:=⟨_,rfl⟩
  have we:IntKind.i64.wrap (((d.2.2.2.2.2.2.2.2.2.2.2.1).length:Int) - 1)=((d.2.2.2.2.2.2.2.2.2.2.2.1).length:Int) - 1:=by
   rw [IntKind.wrap_i64]
   have:=hcnt.en
   omega
  have me:max (0:Int) (((d.2.2.2.2.2.2.2.2.2.2.2.1).length:Int) - 1)=(((d.2.2.2.2.2.2.2.2.2.2.2.1).length - 1:Nat):Int):=qO
  have ze:0≤(((d.2.2.2.2.2.2.2.2.2.2.2.1).length - 1:Nat):Int)∧(((d.2.2.2.2.2.2.2.2.2.2.2.1).length - 1:Nat):Int)≤((d.2.2.2.2.2.2.2.2.2.2.2.1).length:Int):=⟨by omega,by omega⟩
  obtain ⟨nc,hnc⟩:∃ n,n=(d.2.2.2.2.2.2.2.2.2.2.1).length:=⟨_,rfl⟩
  have wc:IntKind.i64.wrap (((d.2.2.2.2.2.2.2.2.2.2.1).length:Int) - 1)=((d.2.2.2.2.2.2.2.2.2.2.1).length:Int) - 1:=by
   rw [IntKind.wrap_i64]
   have:=hcnt.cl
   omega
  have mc:max (0:Int) (((d.2.2.2.2.2.2.2.2.2.2.1).length:Int) - 1)=(((d.2.2.2.2.2.2.2.2.2.2.1).length - 1:Nat):Int):=qO
  have zc:0≤(((d.2.2.2.2.2.2.2.2.2.2.1).length - 1:Nat):Int)∧(((d.2.2.2.2.2.2.2.2.2.2.1).length - 1:Nat):Int)≤((d.2.2.2.2.2.2.2.2.2.2.1).length:Int):=⟨by omega,by omega⟩
  obtain ⟨nb,hnb⟩:∃ n,n=(d.2.2.1).length:=⟨_,rfl⟩
  have wb:IntKind.i64.wrap (((d.2.2.1).length:Int) - 1)=((d.2.2.1).length:Int) - 1:=by
   rw [IntKind.wrap_i64]
   have:=hcnt.br
   omega
  have mb:max (0:Int) (((d.2.2.1).length:Int) - 1)=(((d.2.2.1).length - 1:Nat):Int):=qO
  have zb:0≤(((d.2.2.1).length - 1:Nat):Int)∧(((d.2.2.1).length - 1:Nat):Int)≤((d.2.2.1).length:Int):=⟨by omega,by omega⟩
  have g1:=j2 (nt hfew ((d.2.2.1).length) ((d.2.2.2.2.2.2.2.2.2.2.1).length) ((d.2.2.2.2.2.2.2.2.2.2.2.1).length) ((((d.2.2.2.2.2.2.2.2.2.2.2.2).length - 1:Nat):Int).toNat))
  rw [iZ h0] at g1
  unfold qe at g1
  simp only [List.take_length] at g1
  have g2:=j2 (nt hfew ((d.2.2.1).length) ((d.2.2.2.2.2.2.2.2.2.2.1).length) ((((d.2.2.2.2.2.2.2.2.2.2.2.1).length - 1:Nat):Int).toNat) ((d.2.2.2.2.2.2.2.2.2.2.2.2).length))
  rw [iZ h0] at g2
  unfold qe at g2
  simp only [List.take_length] at g2
  have g3:=j2 (nt hfew ((d.2.2.1).length) ((((d.2.2.2.2.2.2.2.2.2.2.1).length - 1:Nat):Int).toNat) ((d.2.2.2.2.2.2.2.2.2.2.2.1).length) ((d.2.2.2.2.2.2.2.2.2.2.2.2).length))
  rw [iZ h0] at g3
  unfold qe at g3
  simp only [List.take_length] at g3
  have g4:=j2 (nt hfew ((((d.2.2.1).length - 1:Nat):Int).toNat) ((d.2.2.2.2.2.2.2.2.2.2.1).length) ((d.2.2.2.2.2.2.2.2.2.2.2.1).length) ((d.2.2.2.2.2.2.2.2.2.2.2.2).length))
  rw [iZ h0] at g4
  unfold qe at g4
  simp only [List.take_length] at g4
  refine Jr Tryz.func4 rfl Tryz.ntmps4 qE (fun _ _=>by kernel_rfl) fun X w hE=> ?_
  simp only [eK,Nat.zero_add,Nat.reduceAdd]
  repeat' first|kernel_rfl|(apply pM (id:=7) 19 [(6, .ra ab eo, .ra ab d),(7, .ra ab eo, .ra ab d),(8, .ra ab eo, .ra ab d),(9, .ra ab eo, .ra ab eo)];(focus repeat' first|exact eR.nil|(apply eR.alloc (d:=6) (Z:= .ra ab eo) (T:= .ra ab d) (hv:= .head _);(focus infer_instance))|(apply eR.put (d:=6) (x:=65) (Z:= .ra ab eo) (T:= .ra ab d) (k:=25) (k0:=25) (ag:=true) (ag0:=true) (hv:= .head _) (ho:=ck.mem) (z:=inferInstance) (z0:=inferInstance) (hk:=rfl);(focus kernel_rfl))|(apply eR.alloc (d:=7) (Z:= .ra ab eo) (T:= .ra ab d) (hv:= .tail _ (.head _));(focus infer_instance))|(apply eR.put (d:=7) (x:=68) (Z:= .ra ab eo) (T:= .ra ab d) (k:=25) (k0:=25) (ag:=true) (ag0:=true) (hv:= .tail _ (.head _)) (ho:=ck.mem) (z:=inferInstance) (z0:=inferInstance) (hk:=rfl);(focus kernel_rfl))|(apply eR.alloc (d:=8) (Z:= .ra ab eo) (T:= .ra ab d) (hv:= .tail _ (.tail _ (.head _)));(focus infer_instance))|(apply eR.put (d:=8) (x:=71) (Z:= .ra ab eo) (T:= .ra ab d) (k:=25) (k0:=25) (ag:=true) (ag0:=true) (hv:= .tail _ (.tail _ (.head _))) (ho:=ck.mem) (z:=inferInstance) (z0:=inferInstance) (hk:=rfl);(focus kernel_rfl))|(apply eR.alloc (d:=9) (Z:= .ra ab eo) (T:= .ra ab eo) (hv:= .tail _ (.tail _ (.tail _ (.head _))));(focus infer_instance))|apply eR.cons|exact dt|exact va ⟨by decide,rfl⟩|exact fO|kernel_rfl);(focus kernel_rfl);(focus kernel_rfl);(focus (intro v hv;simp only [List.mem_cons,List.not_mem_nil,or_false] at hv;rcases hv with rfl|rfl|rfl|rfl;exact .inl rfl;exact .inl rfl;exact .inl rfl;exact .inr rfl));(focus kernel_rfl);intro r;simp only[List.map,List.cons_append,List.nil_append])|(refine vm ?_)|apply cx|apply cy|apply cE|apply az|apply aW|refine @bG.cons _ _ _ _ inferInstance ?_|refine @bE.cons _ _ _ inferInstance ?_|apply cu|apply cB|apply co|apply cA|apply cp|apply cw|refine fK rfl inferInstance uJ qK ?_|refine jz rfl inferInstance rfl qK ?_|refine jh rfl inferInstance qK ?_|apply ae|apply bB|apply eB|apply eu|apply ct|refine aQ rfl ?_|apply eC|exact uJ|(intro _;simp only[cf,ci,cm,List.map,List.cons_append,List.nil_append])|intro _
theorem AZ {P1:aj→Prop}:bW Tryz.prog cK 4 [0] [.ex ab P1] (fun _=> .is (.bool true)):=⟨fun _ _=>by kernel_rfl,fN.const.down,fun hG hX h=>by
 obtain ⟨u,rfl,y,_,h⟩:=h.one
 exact Ey.run hG hX ⟨h,trivial⟩⟩
open Go Go.ChangeShapes Go.WideShapes Go.ChangeAt Go.RowKit
theorem yv {a b:Bool} (h1:a=true) (h2:b=true):(a&&b)=true:=by rw [h1,h2];rfl
theorem Bb{s:List TypeId} {v:TypeId} (h:v∈P.grow s):v∈s∨∃ u∈s,v∈P.partsOf u:=by
 unfold Program.grow at h
 rw [List.mem_eraseDups] at h
 rcases List.mem_append.1 h with h|h
 ·exact .inl h
 ·obtain ⟨u,hu,hv⟩:=List.mem_flatMap.1 h
  exact .inr ⟨u,hu,hv⟩
theorem rQ {P:Program} {p:TypeId→Prop} (hp:∀ u,p u→∀ v∈P.partsOf u,p v):∀ (n:Nat) {s:List TypeId},(∀ u∈s,p u)→∀ u∈P.grown n s,p u
 |0,_,h=>h
 |n+1,s,h=>rQ hp n fun u hu=>by
  rcases Bb hu with hu|⟨v,hv,hu⟩
  ·exact h u hu
  ·exact hp v (h v hv) u hu
theorem uZ{p:TypeId→Prop} (hp:∀ u,p u→∀ v∈P.partsOf u,p v) (ht:p t):∀ u∈P.book t,p u:=rQ hp _ fun u hu=>by
 rw [List.mem_singleton] at hu;subst hu;exact ht
theorem BK(L:List TypeId) (h:(L.contains t&&L.all fun u=>(P.partsOf u).all fun v=>L.contains v&&Nat.blt (L.idxOf u) (L.idxOf v))=true):P.loopsFrom t=false:=by
 rw [Bool.and_eq_true] at h
 obtain ⟨h0,h⟩:=h
 have hL:∀ u∈L,∀ v∈P.partsOf u,v∈L∧L.idxOf u<L.idxOf v:=fun u hu v hv=>by
  have:=List.all_eq_true.1 (List.all_eq_true.1 h u hu) v hv
  rw [Bool.and_eq_true] at this
  exact ⟨by simpa using this.1,by simpa [Nat.blt_eq] using this.2⟩
 have hin:∀ u∈P.book t,u∈L:=uZ (fun u hu v hv=>(hL u hu v hv).1) (by simpa using h0)
 unfold Program.loopsFrom
 rw [List.any_eq_false]
 intro u hu
 rw [Bool.not_eq_true,List.any_eq_false]
 intro v hv hc
 have hc:u∈P.book v:=by simpa using hc
 obtain ⟨h1,h2⟩:=hL u (hin u hu) v hv
 have:=uZ (P:=P) (p:=fun x=>x∈L∧L.idxOf v≤L.idxOf x) (fun x hx y hy=>⟨(hL x hx.1 y hy).1,Nat.le_of_lt (Nat.lt_of_le_of_lt hx.2 (hL x hx.1 y hy).2)⟩) ⟨h1,Nat.le_refl _⟩ u hc
 omega
theorem sf(h:P.loopsFrom t=false) {b:Bool} {l:List TypeId} (hb:b=false) (hl:l=[t]):(b==l.any (P.loopsFrom ·))=true:=by
 subst hb hl
 simp [h]
theorem m4:Tryz.prog.loopsFrom 32=false:=BK [32,30,60,58,108,57,106,56,104,55,102,54,100,29,28,76,5,3,22,72,27,25,23,115,4,9] qK
end Go.Proofs.YtpmhjieibebclaaGreatDoor
