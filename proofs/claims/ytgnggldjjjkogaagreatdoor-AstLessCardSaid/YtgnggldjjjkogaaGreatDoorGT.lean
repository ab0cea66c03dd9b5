/- A drawn region that makes variables and stores into them, while loads may come late. No program stands in it. -/
import Derived.Test.YtgnggldjjjkogaaGreatDoorGS
import Derived.Test.YtgnggldjjjkogaaGreatDoorGG
import Derived.Deep.DeepHandedRow
import Derived.Test.YtgnggldjjjkogaaGreatDoorFrame
set_option maxHeartbeats 4000000
set_option maxRecDepth 20000
set_option synthInstance.maxHeartbeats 400000
set_option synthInstance.maxSize 4000
set_option linter.unusedSimpArgs false
set_option linter.unusedVariables false
namespace Go.Proofs.YtgnggldjjjkogaaGreatDoor
open Go Go.RowKit
theorem Mem.re {w00:World} {X X':List Nat} {L L':List Loc} {w:World} (h:Mem w00 X L w) (h1:∀ b∈X',b∈X) (h2:∀ b∈X,b∈X') (h3:∀ p∈L',p∈L) (hn:(L'.map Prod.fst).Nodup):Mem w00 X' L' w:=by
 refine ⟨fun p hp=> ?_,fun b hb=>h.far b (h1 b hb),hn,h.below⟩
 obtain ⟨g1,g2,v,ty,g3,g4⟩:=h.loc p (h3 p hp)
 exact ⟨h2 _ g1,g2,v,ty,p.2.stable g3 ⟨Nat.le_refl _,fun _ _ _=>rfl⟩ fun b hb _=>h1 b hb,g4⟩
theorem TS.re {w00:World} {X X':List Nat} {L L':List Loc} {E E':List (Nat×VTy)} {n:Nat} {a:Act} {w:World} (h:TS w00 X L E n a w) (h1:∀ b∈X',b∈X) (h2:∀ b∈X,b∈X') (h3:∀ p∈L',p∈L) (hn:(L'.map Prod.fst).Nodup) (h4:∀ p∈E',p∈E):TS w00 X' L' E' n a w:=
 ⟨h.size,h.df,fun p hp=>p.2.stable (h.slots p (h4 p hp)) ⟨Nat.le_refl _,fun _ _ _=>rfl⟩ fun b hb _=>h1 b hb,h.mem.re h1 h2 h3 hn⟩
abbrev Vr:=Nat×VTy×VTy
inductive OpsV (P:Program) (w00:World) (L:List Loc) (V:List Vr):List (Nat×VTy)→List Oper→List (Nat×VTy)→Prop
 |nil {E:List (Nat×VTy)}:OpsV P w00 L V E [] E
 |cons {E E':List (Nat×VTy)} {os:List Oper} {T:VTy} {d:Nat} {op:Op} {ty:TypeId} {pos:String} {af:Array Edge} {gd:Option (Nat×Bool)} (h:StepT P w00 0 L E ⟨some d,op,ty,pos,af,gd⟩ T) (hv:(V.map Prod.fst).elem d=false) (t:OpsV P w00 L V ((d,T)::E) os E'):OpsV P w00 L V E (⟨some d,op,ty,pos,af,gd⟩::os) E'
 |alloc {E E':List (Nat×VTy)} {os:List Oper} {d:Nat} {U ty:TypeId} {pos:String} {af:Array Edge} {Z T:VTy} (z:ZeroC P U Z) (hv:(d,Z,T)∈V) (t:OpsV P w00 L V E os E'):OpsV P w00 L V E (⟨some d, .alloc U,ty,pos,af,none⟩::os) E'
 |put {E E':List (Nat×VTy)} {os:List Oper} {d x k k0:Nat} {ag ag0:Bool} {ty t0:TypeId} {pos:String} {af:Array Edge} {Z T:VTy} (hv:(d,Z,T)∈V) (ho:(x,T)∈E) (z:SizeV T k ag) (z0:SizeV Z k0 ag0) (hk:k0=k) (hi:(P.info? ty).map (·.size)=some k) (t:OpsV P w00 L V E os E'):OpsV P w00 L V E (⟨none, .store ty (.tmp d) (.tmp x),t0,pos,af,none⟩::os) E'
def putsB (d:Nat) (o:Oper):Bool:=match o.op,o.dst with
 | .store _ (.tmp s) _,none=>Nat.beq s d
 |_,_=>false
def allocB (d:Nat) (o:Oper):Bool:=match o.op,o.dst with
 | .alloc _,some s=>Nat.beq s d
 |_,_=>false
inductive KindV (P:Program) (w00:World) (L:List Loc) (V:List Vr) (E:List (Nat×VTy)) (o:Oper):Prop
 |step (d:Nat) (T:VTy) (hd:o.dst=some d) (hT:(d,T)∈E) (hv:(V.map Prod.fst).elem d=false) (h:StepT P w00 0 L E o T)
 |alloc (d:Nat) (U:TypeId) (Z T:VTy) (hd:o.dst=some d) (ho:o.op= .alloc U) (z:ZeroC P U Z) (hv:(d,Z,T)∈V)
 |put (d x k k0:Nat) (ag ag0:Bool) (ty t0:TypeId) (pos:String) (af:Array Edge) (Z T:VTy) (e:o=⟨none, .store ty (.tmp d) (.tmp x),t0,pos,af,none⟩) (hv:(d,Z,T)∈V) (ho:(x,T)∈E) (z:SizeV T k ag) (z0:SizeV Z k0 ag0) (hk:k0=k) (hi:(P.info? ty).map (·.size)=some k)
section
variable {P:Program} {w00:World} {X:List Nat} {L:List Loc} {n:Nat} {Q:Exit→Act→World→Prop} {V:List Vr}
theorem OpsV.sub {E E':List (Nat×VTy)} {l:List Oper} (h:OpsV P w00 L V E l E'):∀ p∈E,p∈E':=by
 induction h with
 |nil=>exact fun _ h=>h
 |cons _ _ _ ih=>exact fun p hp=>ih p (List.mem_cons_of_mem _ hp)
 |alloc _ _ _ ih=>exact ih
 |put _ _ _ _ _ _ _ ih=>exact ih
theorem OpsV.new {E E':List (Nat×VTy)} {l:List Oper} (h:OpsV P w00 L V E l E'):∀ p∈E',p∈E∨∃ o∈l,o.dst=some p.1:=by
 induction h with
 |nil=>exact fun _ h=> .inl h
 |cons _ _ _ ih=>
  intro p hp
  rcases ih p hp with h|⟨q,h,h'⟩
  ·rcases List.mem_cons.1 h with rfl|h
   ·exact .inr ⟨_,List.mem_cons_self,rfl⟩
   ·exact .inl h
  ·exact .inr ⟨q,List.mem_cons_of_mem _ h,h'⟩
 |alloc _ _ _ ih=>
  intro p hp
  rcases ih p hp with h|⟨q,h,h'⟩
  ·exact .inl h
  ·exact .inr ⟨q,List.mem_cons_of_mem _ h,h'⟩
 |put _ _ _ _ _ _ _ ih=>
  intro p hp
  rcases ih p hp with h|⟨q,h,h'⟩
  ·exact .inl h
  ·exact .inr ⟨q,List.mem_cons_of_mem _ h,h'⟩
theorem OpsV.at {E E':List (Nat×VTy)} {l:List Oper} (h:OpsV P w00 L V E l E'):∀ o∈l,KindV P w00 L V E' o:=by
 induction h with
 |nil=>exact fun _ h=>by cases h
 | @cons E E' os T d op ty pos af gd hs hv t ih=>
  intro o' ho
  rcases List.mem_cons.1 ho with rfl|ho
  ·exact .step d T rfl (t.sub _ List.mem_cons_self) hv (hs.more fun p hp=>t.sub _ (List.mem_cons_of_mem _ hp))
  ·exact ih o' ho
 | @alloc E E' os d U ty pos af Z T z hv t ih=>
  intro o' ho
  rcases List.mem_cons.1 ho with rfl|ho
  ·exact .alloc d U Z T rfl rfl z hv
  ·exact ih o' ho
 | @put E E' os d x k k0 ag ag0 ty t0 pos af Z T hv hx z z0 hk hi t ih=>
  intro o' ho
  rcases List.mem_cons.1 ho with rfl|ho
  ·exact .put d x k k0 ag ag0 ty t0 pos af Z T rfl hv (t.sub _ hx) z z0 hk hi
  ·exact ih o' ho
theorem upd_mid {r:Nat} {T T':VTy}:∀ (c1 c2:List Loc),UpdL (c1++(r,T)::c2) r T T' (c1++(r,T')::c2)
 |[],_=> .here
 |_::c1,c2=> .there (upd_mid c1 c2)
def done (l:List Oper) (listed:Array Bool) (p:Oper→Bool):Prop:=∃ (i:Nat) (o:Oper),l[i]? =some o∧listed.getD i false=true∧p o=true
abbrev Cur:=List (Nat×Nat×VTy)
structure InvV (w00:World) (X:List Nat) (L:List Loc) (V:List Vr) (E0 E':List (Nat×VTy)) (l:List Oper) (n:Nat) (listed:Array Bool) (a:Act) (w:World):Prop where
 ok:∃ (cur:Cur) (E1:List (Nat×VTy)),(∀ p∈E1,p∈E')∧(∀ p∈E',(p.1∈E0.map Prod.fst∨done l listed fun o=>o.dst==some p.1)→p∈E1)∧
  TS w00 (cur.map (fun c=>c.2.1)++X) (cur.map (fun c=>(c.2.1,c.2.2))++L) (cur.map (fun c=>(c.1,VTy.is (.pointer (some ⟨c.2.1,0,none⟩))))++E1) n a w∧
  (∀ c∈cur,∃ v∈V,v.1=c.1∧done l listed (allocB v.1)∧((done l listed (putsB v.1)∧c.2.2=v.2.2)∨(¬ done l listed (putsB v.1)∧c.2.2=v.2.1)))∧
  (∀ v∈V,done l listed (allocB v.1)→∃ c∈cur,c.1=v.1)∧(cur.map Prod.fst).Nodup∧(∀ v∈V,done l listed (putsB v.1)→done l listed (allocB v.1))
theorem done_set {l:List Oper} {listed:Array Bool} {p:Oper→Bool} {i:Nat} {o:Oper} (ho:l[i]? =some o) (hi:i<listed.size):done l (listed.setIfInBounds i true) p↔(done l listed p∨p o=true):=by
 constructor
 ·rintro ⟨j,oj,h1,h2,h3⟩
  by_cases hji:i=j
  ·subst hji
   rw [ho] at h1
   injection h1 with h1
   subst h1
   exact .inr h3
  ·rw [getD_set_ne false hji] at h2
   exact .inl ⟨j,oj,h1,h2,h3⟩
 ·rintro (⟨j,oj,h1,h2,h3⟩|h)
  ·by_cases hji:i=j
   ·subst hji
    exact ⟨i,oj,h1,by simp [Array.getD_eq_getD_getElem?,hi],h3⟩
   ·exact ⟨j,oj,h1,by rw [getD_set_ne false hji];exact h2,h3⟩
  ·exact ⟨i,o,ho,by simp [Array.getD_eq_getD_getElem?,hi],h⟩
theorem nodup_on {α β:Type} {f:α→β}:∀ {l:List α},l.Nodup→(∀ x∈l,∀ y∈l,f x=f y→x=y)→(l.map f).Nodup
 |[],_,_=>List.nodup_nil
 |x::l,h,hf=>by
  rw [List.nodup_cons] at h
  rw [List.map_cons,List.nodup_cons]
  refine ⟨fun hx=> ?_,nodup_on h.2 fun y hy z hz=>hf y (List.mem_cons_of_mem _ hy) z (List.mem_cons_of_mem _ hz)⟩
  obtain ⟨y,hy,e⟩:=List.mem_map.1 hx
  have:=hf x List.mem_cons_self y (List.mem_cons_of_mem _ hy) e.symm
  exact h.1 (this▸hy)
theorem uniq_fst {α β:Type} {l:List (α×β)} (h:(l.map Prod.fst).Nodup) {x y:α×β} (hx:x∈l) (hy:y∈l) (e:x.1=y.1):x=y:=by
 induction l with
 |nil=>cases hx
 |cons z l ih=>
  rw [List.map_cons,List.nodup_cons] at h
  rcases List.mem_cons.1 hx with h1|h1<;>rcases List.mem_cons.1 hy with h2|h2
  ·rw [h1,h2]
  ·exact absurd (by rw [←h1,e];exact List.mem_map_of_mem h2) h.1
  ·exact absurd (by rw [←h2,←e];exact List.mem_map_of_mem h1) h.1
  ·exact ih h.2 h1 h2
def chkV (l:List Oper) (m:Nat) (V:List Nat):Bool:=V.all fun d=>(l.take m).any (allocB d)&&((List.range m).all fun i=>(List.range m).all fun j=>Nat.beq i j || match l[i]?,l[j]? with
 |some o,some o'=> !(allocB d o&&allocB d o')&& !(putsB d o&&putsB d o')
 |_,_=>true)
theorem chkV_uniq {l:List Oper} {m:Nat} {V:List Nat} (h:chkV l m V=true) {d:Nat} (hd:d∈V) {i j:Nat} {o o':Oper} (hi:i<m) (hj:j<m) (ho:l[i]? =some o) (ho':l[j]? =some o'):(allocB d o=true→allocB d o'=true→i=j)∧(putsB d o=true→putsB d o'=true→i=j):=by
 unfold chkV at h
 have h1:=(Bool.and_eq_true _ _▸List.all_eq_true.1 h d hd:_∧_).2
 have h2:=List.all_eq_true.1 (List.all_eq_true.1 h1 i (List.mem_range.2 hi)) j (List.mem_range.2 hj)
 rw [ho,ho'] at h2
 simp only [Bool.or_eq_true,Bool.and_eq_true,Bool.not_eq_true'] at h2
 rcases h2 with h2|⟨h2,h3⟩
 ·exact ⟨fun _ _=>Nat.eq_of_beq_eq_true h2,fun _ _=>Nat.eq_of_beq_eq_true h2⟩
 ·refine ⟨fun a b=> ?_,fun a b=> ?_⟩
  ·rw [a,b] at h2;cases h2
  ·rw [a,b] at h3;cases h3
theorem chkV_has {l:List Oper} {m:Nat} {V:List Nat} (h:chkV l m V=true) {d:Nat} (hd:d∈V):(l.take m).any (allocB d)=true:=by
 unfold chkV at h
 exact (Bool.and_eq_true _ _▸List.all_eq_true.1 h d hd:_∧_).1
end
section
variable {P:Program} {w00:World} {X:List Nat} {L:List Loc} {n:Nat} {Q:Exit→Act→World→Prop} {V:List Vr}
abbrev ptrV (c:Nat×Nat×VTy):Nat×VTy:=(c.1,VTy.is (.pointer (some ⟨c.2.1,0,none⟩)))
theorem wpAny_V {l:List Oper} {E E':List (Nat×VTy)} {m:Nat} (ht:OpsV P w00 L V E (l.take m) E') (hc:(chkJ l.toArray (E.map Prod.fst) n m&&distinctB (E'.map Prod.fst++V.map Prod.fst))=true) (hcv:chkV l m (V.map Prod.fst)=true)
 (hns:∀ v∈V,(l.take m).any (putsB v.1)=true∨v.2.2=v.2.1)
 (hfin:∀ (r:Nat→Nat) a w,TS w00 (V.map (fun v=>r v.1)++X) (V.map (fun v=>(r v.1,v.2.2))++L) (V.map (fun v=>(v.1,VTy.is (.pointer (some ⟨r v.1,0,none⟩))))++E') n a w→WL P l.toArray Q (l.drop m) a w):
 ∀ (fuel:Nat) (listed:Array Bool) (a:Act) (w:World),listed.size=l.length→listed.getD m true=false→openN listed.toList≤fuel→InvV w00 X L V E E' l n listed a w→wpAny P .any l.toArray Q fuel listed a w:=by
 rw [Bool.and_eq_true] at hc
 obtain ⟨hc,hdis⟩:=hc
 have hndA:=nodup_of_distinctB hdis
 have hnd:(E'.map Prod.fst).Nodup:=(List.nodup_append.1 hndA).1
 have hndV:(V.map Prod.fst).Nodup:=(List.nodup_append.1 hndA).2.1
 have hEV:∀ s,s∈E'.map Prod.fst→s∈V.map Prod.fst→False:=fun s h1 h2=>(List.nodup_append.1 hndA).2.2 s h1 s h2 rfl
 unfold chkJ at hc
 simp only [Bool.and_eq_true,List.all_eq_true,List.mem_range] at hc
 obtain ⟨⟨hsz,hall⟩,hw⟩:=hc
 have hsz:l.length=m+1:=by have:=Nat.eq_of_beq_eq_true hsz;simpa using this
 have hat:∀ i,i<m+1→∃ o,l[i]? =some o∧o.guard=none∧(∀ e∈o.after.toList,Region.binds .any e=true→e.on<i)∧(i<m→(∀ s, .tmp s∈o.op.operands.toList→s∈E.map Prod.fst∨∃ e∈o.after.toList,Region.binds .any e=true∧∃ oe,l[e.on]? =some oe∧oe.dst=some s)∧∀ d,o.dst=some d→d<n∧d ∉ E.map Prod.fst):=by
  intro i hi
  obtain ⟨o,ho⟩:∃ o,l[i]? =some o:=⟨_,List.getElem?_eq_getElem (by omega)⟩
  have h:=hall i hi
  rw [show l.toArray[i]? =some o by simpa using ho] at h
  simp only [Bool.and_eq_true,List.all_eq_true,Bool.or_eq_true,Bool.not_eq_true'] at h
  obtain ⟨⟨h1,h2⟩,h3⟩:=h
  refine ⟨o,ho,?_,fun e he hb=> ?_,fun him=> ?_⟩
  ·split at h1
   ·assumption
   ·cases h1
  ·rcases h2 e he with h|h
   ·rw [hb] at h;cases h
   ·rwa [Nat.blt_eq] at h
  ·rcases h3 with h3|⟨h3,h4⟩
   ·have:=Nat.eq_of_beq_eq_true h3;omega
   ·refine ⟨fun s hs=> ?_,fun d hd=> ?_⟩
    ·have:=h3 _ hs
     simp only [Bool.or_eq_true,List.any_eq_true,Bool.and_eq_true] at this
     rcases this with h|⟨e,he,hb,hd⟩
     ·exact .inl (by simpa using h)
     ·refine .inr ⟨e,he,hb,?_⟩
      cases hoe:l[e.on]? with
      |none=>rw [show l.toArray[e.on]? =none by simpa using hoe] at hd;simp at hd
      |some oe=>
       rw [show l.toArray[e.on]? =some oe by simpa using hoe,Option.bind_some] at hd
       cases hdo:oe.dst with
       |none=>rw [hdo] at hd;simp at hd
       |some d=>rw [hdo] at hd;exact ⟨oe,rfl,by rw [hdo,Nat.eq_of_beq_eq_true hd]⟩
    ·rw [hd] at h4
     simp only [Bool.and_eq_true,Bool.not_eq_true'] at h4
     exact ⟨by have:=h4.1;rwa [Nat.blt_eq] at this,by simpa using h4.2⟩
 have hlt:∀ {i:Nat} {listed:Array Bool},listed.size=l.length→i<m+1→¬ listed.getD i false=true→listed.getD i true=false:=by
  intro i listed hs hi h
  rw [Array.getD_eq_getD_getElem?,Array.getElem?_eq_getElem (by omega)] at h ⊢
  simpa using h
 have hrd:∀ {listed:Array Bool},listed.size=l.length→(∃ i,i<m+1∧¬ listed.getD i false=true)→Region.ready .any l.toArray listed≠[]:=by
  intro listed hs ⟨i,hi,hn⟩
  induction i using Nat.strongRecOn with
  |_ i ih=>
   obtain ⟨o,ho,_,he,_⟩:=hat i hi
   by_cases hd:∃ e∈o.after.toList,Region.binds .any e=true∧¬ listed.getD e.on false=true
   ·obtain ⟨e,h1,h2,h3⟩:=hd
    exact ih e.on (he e h1 h2) (by have:=he e h1 h2;omega) h3
   ·intro h0
    have:i∈Region.ready .any l.toArray listed:=mem_ready.2 ⟨hlt hs hi hn,o,by simpa using ho,fun e h1 h2=>Classical.byContradiction fun h3=>hd ⟨e,by simpa using h1,h2,h3⟩⟩
    rw [h0] at this
    cases this
 intro fuel
 induction fuel with
 |zero=>
  intro listed a w hs hm hf _
  have:=openN_pos _ _ (openN_at (by omega) hm)
  omega
 |succ f ih=>
  intro listed a w hs hm hf ⟨cur,E1,hsub,hav,hts,hcur,hvar,hcn,hpa⟩
  have hmn:¬ listed.getD m false=true:=fun h=>by
   rw [Array.getD_eq_getD_getElem?,Array.getElem?_eq_getElem (by omega)] at h hm
   simp at h hm
   rw [h] at hm
   cases hm
  refine ⟨fun h0=>absurd h0 (hrd hs ⟨m,by omega,hmn⟩),fun i hi=> ?_⟩
  have hi0:=hi
  rw [mem_ready] at hi
  obtain ⟨hun,o,ho,hdep⟩:=hi
  have ho:l[i]? =some o:=by simpa using ho
  have him:i<m+1:=by have:=(List.getElem?_eq_some_iff.1 ho).1;omega
  obtain ⟨o',ho',hg,hed,hfr⟩:=hat i him
  rw [ho] at ho'
  injection ho' with ho'
  subst ho'
  have hwt:Region.wanted o (yielded l.toArray a.tmps)=true:=by unfold Region.wanted;rw [hg]
  have hopen:openN (listed.setIfInBounds i true).toList≤f:=by
   have:=openN_set _ _ (openN_at (by omega) hun)
   rw [Array.toList_setIfInBounds]
   omega
  have hils:i<listed.size:=by omega
  have hnl:¬ listed.getD i false=true:=fun h=>by
   rw [Array.getD_eq_getD_getElem?,Array.getElem?_eq_getElem hils] at h hun
   simp at h hun
   rw [h] at hun;cases hun
  have hfront:∀ {j:Nat} {oj:Oper},l[j]? =some oj→listed.getD j false=true→j<m:=by
   intro j oj h1 h2
   have h3:=(List.getElem?_eq_some_iff.1 h1).1
   rcases Nat.lt_or_ge j m with h|h
   ·exact h
   ·have:j=m:=by omega
    rw [this] at h2
    exact absurd h2 hmn
  rcases Nat.lt_or_eq_of_le (Nat.le_of_lt_succ him) with hlm|rfl
  ·obtain ⟨hops,hdst⟩:=hfr hlm
   have hm':(listed.setIfInBounds i true).getD m true=false:=by rw [getD_set_ne true (by omega)];exact hm
   have hin:∀ p∈E', .tmp p.1∈o.op.operands.toList→p∈E1:=by
    intro p hp hpo
    refine hav p hp ?_
    rcases hops _ hpo with h|⟨e,he,hb,oe,hoe,hd⟩
    ·exact .inl h
    ·exact .inr ⟨e.on,oe,hoe,hdep e (by simpa using he) hb,by show (oe.dst==some p.1)=true;rw [hd];exact beq_self_eq_true _⟩
   have hof:o∈l.take m:=List.mem_iff_getElem?.2 ⟨i,by rw [List.getElem?_take,if_pos hlm];exact ho⟩
   have hD:∀ p,done l (listed.setIfInBounds i true) p↔(done l listed p∨p o=true):=fun p=>done_set ho hils
   have hLn:(L.map Prod.fst).Nodup:=by
    have:=hts.mem.nodup
    rw [List.map_append,List.nodup_append] at this
    exact this.2.1
   have hcv':∀ c∈cur,c.1∈V.map Prod.fst:=fun c hc=>by
    obtain ⟨v,hv,e,_⟩:=hcur c hc
    rw [←e];exact List.mem_map_of_mem hv
   unfold wpOp
   simp only [show l.toArray[i]? =some o by simpa using ho]
   rw [if_pos hwt]
   left
   rcases ht.at o hof with ⟨d,T,hd,hdT,hdV,hst⟩|⟨d,U,Z,T,hd,hop,z,hv⟩|⟨d,x,k,k0,ag,ag0,ty,t0,pos,af,Z,T,e,hv,hx,z,z0,hk,hi'⟩
   ·obtain ⟨hdn,_⟩:=hdst d hd
    have hdV':d ∉ V.map Prod.fst:=by
     intro h
     rw [List.elem_eq_mem,decide_eq_false_iff_not] at hdV
     exact hdV h
    have hno:∀ s,s∈V.map Prod.fst→allocB s o=false∧putsB s o=false:=by
     intro s hs'
     refine ⟨?_,?_⟩
     ·unfold allocB
      rw [hd]
      split
      ·rename_i h1 h2
       injection h2 with h2
       rw [Bool.eq_false_iff]
       intro hb
       have:=Nat.eq_of_beq_eq_true hb
       exact hdV' (by rw [h2,this];exact hs')
      ·rfl
     ·unfold putsB
      rw [hd]
      split
      ·rename_i h1 h2;cases h2
      ·rfl
    have hy:=hst.run _ a.eval w (fun _=>rfl) (fun _=>rfl) (Nat.zero_le _) (hts.mem.re (fun _ h=>h) (fun _ h=>h) (fun p hp=>List.mem_append_right _ hp) hLn) fun p hp hpo=>hts.slots p (List.mem_append_right _ (hin p hp hpo))
    refine Oper.wp_mono (fun a' w' h=> ?_) hy.wp
    obtain ⟨v,rfl,hT,hB⟩:=h
    rw [hd]
    refine ih _ _ _ (by simpa using hs) hm' hopen ⟨cur,(d,T)::E1.filter (fun p=> !Nat.beq p.1 d),fun p hp=> ?_,fun p hp hx=> ?_,?_,fun c hc=> ?_,fun v hv hx=> ?_,hcn,fun v hv hx=> ?_⟩
    ·rcases List.mem_cons.1 hp with rfl|hp
     ·exact hdT
     ·exact hsub p ((List.mem_filter.1 hp).1)
    ·by_cases hpd:p.1=d
     ·have:p=(d,T):=uniq_fst hnd hp hdT hpd
      rw [this]
      exact List.mem_cons_self
     ·refine List.mem_cons_of_mem _ (List.mem_filter.2 ⟨hav p hp ?_,?_⟩)
      ·rcases hx with hx|hx
       ·exact .inl hx
       ·rcases (hD _).1 hx with hx|hx
        ·exact .inr hx
        ·rw [hd] at hx
         have hx:d=p.1:=by simpa using hx
         exact absurd hx.symm hpd
      ·rw [Bool.not_eq_true',Bool.eq_false_iff]
       exact fun h=>hpd (Nat.eq_of_beq_eq_true h)
    ·have h1:=(hts.sub (E':=cur.map ptrV++E1.filter (fun p=> !Nat.beq p.1 d)) fun p hp=>by
      rcases List.mem_append.1 hp with hp|hp
      ·exact List.mem_append_left _ hp
      ·exact List.mem_append_right _ (List.mem_filter.1 hp).1).new (s:=d) (by
      rw [Bool.eq_false_iff]
      intro hx
      have hx':=List.elem_iff.1 hx
      rw [List.map_append,List.mem_append] at hx'
      rcases hx' with hx'|hx'
      ·rw [List.map_map] at hx'
       obtain ⟨c,hc,e⟩:=List.mem_map.1 hx'
       have e:c.1=d:=e
       exact hdV' (e▸hcv' c hc)
      ·obtain ⟨q,hq,rfl⟩:=List.mem_map.1 hx'
       have:=(List.mem_filter.1 hq).2
       rw [Nat.beq_refl] at this
       cases this) hdn hT hB
     refine h1.sub fun p hp=> ?_
     rcases List.mem_append.1 hp with hp|hp
     ·exact List.mem_cons_of_mem _ (List.mem_append_left _ hp)
     ·rcases List.mem_cons.1 hp with rfl|hp
      ·exact List.mem_cons_self
      ·exact List.mem_cons_of_mem _ (List.mem_append_right _ hp)
    ·obtain ⟨v,hv,e,h1,h2⟩:=hcur c hc
     have hvs:v.1∈V.map Prod.fst:=List.mem_map_of_mem hv
     refine ⟨v,hv,e,(hD _).2 (.inl h1),?_⟩
     rcases h2 with ⟨h2,h3⟩|⟨h2,h3⟩
     ·exact .inl ⟨(hD _).2 (.inl h2),h3⟩
     ·refine .inr ⟨fun h=> ?_,h3⟩
      rcases (hD _).1 h with h|h
      ·exact h2 h
      ·rw [(hno _ hvs).2] at h;cases h
    ·have hvs:v.1∈V.map Prod.fst:=List.mem_map_of_mem hv
     rcases (hD _).1 hx with h|h
     ·exact hvar v hv h
     ·rw [(hno _ hvs).1] at h;cases h
    ·have hvs:v.1∈V.map Prod.fst:=List.mem_map_of_mem hv
     rcases (hD _).1 hx with h|h
     ·exact (hD _).2 (.inl (hpa v hv h))
     ·rw [(hno _ hvs).2] at h;cases h
   ·obtain ⟨hdn,_⟩:=hdst d hd
    have hvs:d∈V.map Prod.fst:=List.mem_map_of_mem (f:=Prod.fst) hv
    have hal:allocB d o=true:=by unfold allocB;rw [hop,hd];exact Nat.beq_refl d
    have hnp:∀ s,putsB s o=false:=fun s=>by unfold putsB;rw [hop]
    have hna:¬ done l listed (allocB d):=fun ⟨j,oj,h1,h2,h3⟩=>by
     have:=(chkV_uniq hcv hvs (hfront h1 h2) hlm h1 ho).1 h3 hal
     rw [this] at h2
     exact hnl h2
    have hnpd:¬ done l listed (putsB d):=fun h=>hna (hpa _ hv h)
    have hcd:∀ c∈cur,c.1≠d:=fun c hc e=>by
     obtain ⟨v,_,e2,h1,_⟩:=hcur c hc
     rw [e2,e] at h1
     exact hna h1
    obtain ⟨v0,hz1,hz2⟩:=z.ok
    unfold Oper.wp
    rw [hz2 o a.eval w hop,Oper.upon_value,hd]
    have hfresh:=hts.fresh (s:=d) (T:=Z) (v:=v0) (ty:=U) (by
     rw [Bool.eq_false_iff]
     intro hx
     have hx':=List.elem_iff.1 hx
     rw [List.map_append,List.mem_append] at hx'
     rcases hx' with hx'|hx'
     ·rw [List.map_map] at hx'
      obtain ⟨c,hc,e⟩:=List.mem_map.1 hx'
      exact hcd c hc e
     ·obtain ⟨q,hq,e⟩:=List.mem_map.1 hx'
      exact hEV d (e▸List.mem_map_of_mem (hsub q hq)) hvs) hdn fun w' X' _ _=>hz1 _ _
    have hallv:∀ v∈V,allocB v.1 o=true→v=(d,Z,T):=fun v hv' h=>by
     unfold allocB at h
     rw [hop,hd] at h
     exact uniq_fst hndV hv' hv (Nat.eq_of_beq_eq_true h).symm
    refine ih _ _ _ (by simpa using hs) hm' hopen ⟨(d,w.heap.size,Z)::cur,E1,hsub,fun p hp hx=> ?_,hfresh,fun c hc=> ?_,fun v hv' hx=> ?_,?_,fun v hv' hx=> ?_⟩
    ·refine hav p hp (hx.imp id fun hx=> ?_)
     rcases (hD _).1 hx with hx|hx
     ·exact hx
     ·rw [hd] at hx
      have hx:d=p.1:=by simpa using hx
      exact absurd hvs fun h=>hEV d (hx▸List.mem_map_of_mem hp) h
    ·rcases List.mem_cons.1 hc with rfl|hc
     ·refine ⟨_,hv,rfl,(hD _).2 (.inr hal), .inr ⟨fun h=> ?_,rfl⟩⟩
      rcases (hD _).1 h with h|h
      ·exact hnpd h
      ·rw [hnp] at h;cases h
     ·obtain ⟨v,hv',e,h1,h2⟩:=hcur c hc
      refine ⟨v,hv',e,(hD _).2 (.inl h1),?_⟩
      rcases h2 with ⟨h2,h3⟩|⟨h2,h3⟩
      ·exact .inl ⟨(hD _).2 (.inl h2),h3⟩
      ·refine .inr ⟨fun h=> ?_,h3⟩
       rcases (hD _).1 h with h|h
       ·exact h2 h
       ·rw [hnp] at h;cases h
    ·rcases (hD _).1 hx with h|h
     ·obtain ⟨c,hc,e⟩:=hvar v hv' h
      exact ⟨c,List.mem_cons_of_mem _ hc,e⟩
     ·exact ⟨_,List.mem_cons_self,by rw [hallv v hv' h]⟩
    ·rw [List.map_cons,List.nodup_cons]
     refine ⟨fun h=> ?_,hcn⟩
     obtain ⟨c,hc,e⟩:=List.mem_map.1 h
     exact hcd c hc e
    ·rcases (hD _).1 hx with h|h
     ·exact (hD _).2 (.inl (hpa v hv' h))
     ·rw [hnp] at h;cases h
   ·subst e
    have hvs:d∈V.map Prod.fst:=List.mem_map_of_mem (f:=Prod.fst) hv
    have hpd:putsB d (⟨none, .store ty (.tmp d) (.tmp x),t0,pos,af,none⟩:Oper)=true:=Nat.beq_refl d
    have hna:∀ s,allocB s (⟨none, .store ty (.tmp d) (.tmp x),t0,pos,af,none⟩:Oper)=false:=fun s=>rfl
    have hps:∀ s,putsB s (⟨none, .store ty (.tmp d) (.tmp x),t0,pos,af,none⟩:Oper)=true→s=d:=fun s h=>(Nat.eq_of_beq_eq_true h).symm
    have hnpd:¬ done l listed (putsB d):=fun ⟨j,oj,h1,h2,h3⟩=>by
     have:=(chkV_uniq hcv hvs (hfront h1 h2) hlm h1 ho).2 h3 hpd
     rw [this] at h2
     exact hnl h2
    have hald:done l listed (allocB d):=by
     rcases hops d (by simp [Op.operands]) with h|⟨e,he,hb,oe,hoe,hd⟩
     ·obtain ⟨q,hq,e⟩:=List.mem_map.1 h
      exact absurd hvs fun h'=>hEV d (e▸List.mem_map_of_mem (ht.sub q hq)) h'
     ·have hli:=hdep e (by simpa using he) hb
      have hem:=hfront hoe hli
      refine ⟨e.on,oe,hoe,hli,?_⟩
      rcases ht.at oe (List.mem_iff_getElem?.2 ⟨e.on,by rw [List.getElem?_take,if_pos hem];exact hoe⟩) with ⟨d2,T2,hd2,_,hdV2,_⟩|⟨d2,U2,Z2,T2,hd2,hop2,_,_⟩|⟨d2,x2,_,_,_,_,_,_,_,_,_,_,e2,_⟩
      ·rw [hd] at hd2
       injection hd2 with hd2
       subst hd2
       rw [List.elem_eq_mem,decide_eq_false_iff_not] at hdV2
       exact absurd hvs hdV2
      ·unfold allocB
       rw [hop2,hd]
       exact Nat.beq_refl d
      ·rw [e2] at hd;cases hd
    obtain ⟨c,hcm,hcd⟩:=hvar _ hv hald
    obtain ⟨r,T0,rfl⟩:∃ r T0,c=(d,r,T0):=⟨c.2.1,c.2.2,by have hcd:c.1=d:=hcd;rw [←hcd]⟩
    have hT0:T0=Z:=by
     obtain ⟨v,hv',e,_,h2⟩:=hcur _ hcm
     have:=uniq_fst hndV hv' hv e
     subst this
     rcases h2 with ⟨h2,_⟩|⟨_,h3⟩
     ·exact absurd h2 hnpd
     ·exact h3
    subst hT0
    obtain ⟨c1,c2,rfl⟩:=List.append_of_mem hcm
    have hxin:(x,T)∈E1:=hin _ hx (by simp [Op.operands])
    obtain ⟨w2,hr,hts2⟩:=dl_store (P:=P) (ops:= #[]) (rest:=[]) (Q:=fun _ _ w=>TS w00 ((c1++(d,r,T0)::c2).map (fun c=>c.2.1)++X) (c1.map (fun c=>(c.2.1,c.2.2))++(r,T)::(c2.map (fun c=>(c.2.1,c.2.2))++L)) ((c1++(d,r,T0)::c2).map ptrV++E1) n a w) (t0:=t0) (pos:=pos) (af:=af) (ty:=ty) (s:=d) (r:=r) (o:= .tmp x) (T:=T) (T0:=T0) (L':=c1.map (fun c=>(c.2.1,c.2.2))++(r,T)::(c2.map (fun c=>(c.2.1,c.2.2))++L)) (hs:=⟨List.mem_append_left _ (List.mem_map_of_mem (f:=ptrV) hcm)⟩) (ho:=⟨fun _ hsl=>hsl _ (List.mem_append_right _ hxin) rfl⟩) (hu:=⟨by
     rw [List.map_append,List.map_cons,List.append_assoc]
     exact upd_mid _ _⟩) (z:=z) (z0:=z0) hts hk hi' fun w h=>wl_nil h
    have hts2:=hts2.out
    unfold wpList at hts2
    unfold Oper.wp
    rw [hr,Oper.upon_skip]
    have hcn2:((c1++(d,r,T)::c2).map Prod.fst).Nodup:=by simpa using hcn
    have hd1:∀ c∈c1++c2,c.1≠d:=fun c hc e=>by
     have hh:((c1++(d,r,T)::c2).map Prod.fst).Nodup:=hcn2
     rw [List.map_append,List.map_cons] at hh
     rw [List.nodup_append,List.nodup_cons] at hh
     rcases List.mem_append.1 hc with hc|hc
     ·exact hh.2.2 c.1 (List.mem_map_of_mem hc) d List.mem_cons_self e
     ·exact hh.2.1.1 (show d∈_ from e▸List.mem_map_of_mem hc)
    refine ih _ _ _ (by simpa using hs) hm' hopen ⟨c1++(d,r,T)::c2,E1,hsub,fun p hp hx=> ?_,?_,fun c hc=> ?_,fun v hv' hx=> ?_,hcn2,fun v hv' hx=> ?_⟩
    ·refine hav p hp (hx.imp id fun hx=> ?_)
     rcases (hD _).1 hx with hx|hx
     ·exact hx
     ·cases hx
    ·have e1:(c1++(d,r,T)::c2).map (fun c=>c.2.1)=(c1++(d,r,T0)::c2).map (fun c=>c.2.1):=by simp
     have e2:(c1++(d,r,T)::c2).map ptrV=(c1++(d,r,T0)::c2).map ptrV:=by simp
     have e3:(c1++(d,r,T)::c2).map (fun c=>(c.2.1,c.2.2))++L=c1.map (fun c=>(c.2.1,c.2.2))++(r,T)::(c2.map (fun c=>(c.2.1,c.2.2))++L):=by simp
     show TS w00 ((c1++(d,r,T)::c2).map (fun c=>c.2.1)++X) ((c1++(d,r,T)::c2).map (fun c=>(c.2.1,c.2.2))++L) ((c1++(d,r,T)::c2).map ptrV++E1) n a w2
     rw [e1,e2,e3]
     exact hts2
    ·rcases List.mem_append.1 hc with hc'|hc'
     ·obtain ⟨v,hv',e,h1,h2⟩:=hcur c (List.mem_append_left _ hc')
      refine ⟨v,hv',e,(hD _).2 (.inl h1),?_⟩
      rcases h2 with ⟨h2,h3⟩|⟨h2,h3⟩
      ·exact .inl ⟨(hD _).2 (.inl h2),h3⟩
      ·refine .inr ⟨fun h=> ?_,h3⟩
       rcases (hD _).1 h with h|h
       ·exact h2 h
       ·exact hd1 c (List.mem_append_left _ hc') (e▸hps _ h)
     ·rcases List.mem_cons.1 hc' with rfl|hc'
      ·exact ⟨_,hv,rfl,(hD _).2 (.inl hald), .inl ⟨(hD _).2 (.inr hpd),rfl⟩⟩
      ·obtain ⟨v,hv',e,h1,h2⟩:=hcur c (List.mem_append_right _ (List.mem_cons_of_mem _ hc'))
       refine ⟨v,hv',e,(hD _).2 (.inl h1),?_⟩
       rcases h2 with ⟨h2,h3⟩|⟨h2,h3⟩
       ·exact .inl ⟨(hD _).2 (.inl h2),h3⟩
       ·refine .inr ⟨fun h=> ?_,h3⟩
        rcases (hD _).1 h with h|h
        ·exact h2 h
        ·exact hd1 c (List.mem_append_right _ hc') (e▸hps _ h)
    ·rcases (hD _).1 hx with h|h
     ·obtain ⟨c,hc,e⟩:=hvar v hv' h
      rcases List.mem_append.1 hc with hc|hc
      ·exact ⟨c,List.mem_append_left _ hc,e⟩
      ·rcases List.mem_cons.1 hc with rfl|hc
       ·exact ⟨_,List.mem_append_right _ List.mem_cons_self,e⟩
       ·exact ⟨c,List.mem_append_right _ (List.mem_cons_of_mem _ hc),e⟩
     ·cases h
    ·rcases (hD _).1 hx with h|h
     ·exact (hD _).2 (.inl (hpa v hv' h))
     ·rw [hps _ h]
      exact (hD _).2 (.inl hald)
  ·have hal:∀ j,j<i→listed.getD j false=true:=by
    intro j hj
    obtain ⟨o2,ho2,e,he,hb,heon⟩:=waitsB_spec (hw j hj)
    rw [show l.toArray[i]? =some o by simpa using ho] at ho2
    injection ho2 with ho2
    subst ho2
    rw [←heon]
    exact hdep e (by simpa using he) hb
   have hany:∀ (p:Oper→Bool),(l.take i).any p=true→done l listed p:=fun p hp=>by
    obtain ⟨q,hq,hpq⟩:=List.any_eq_true.1 hp
    obtain ⟨j,hj⟩:=List.mem_iff_getElem?.1 hq
    rw [List.getElem?_take] at hj
    split at hj
    ·exact ⟨j,q,hj,hal j (by assumption),hpq⟩
    ·cases hj
   have hE1:∀ p∈E',p∈E1:=fun p hp=>by
    refine hav p hp ?_
    rcases ht.new p hp with h|⟨q,hq,hqd⟩
    ·exact .inl (List.mem_map.2 ⟨p,h,rfl⟩)
    ·exact .inr (hany _ (List.any_eq_true.2 ⟨q,hq,by show (q.dst==some p.1)=true;rw [hqd];exact beq_self_eq_true _⟩))
   have hex:∀ v∈V,∃ c∈cur,c.1=v.1∧c.2.2=v.2.2:=fun v hv=>by
    obtain ⟨c,hc,e⟩:=hvar v hv (hany _ (chkV_has hcv (List.mem_map_of_mem hv)))
    refine ⟨c,hc,e,?_⟩
    obtain ⟨v',hv',e',_,h2⟩:=hcur c hc
    have:v'=v:=uniq_fst hndV hv' hv (e'.trans e)
    subst this
    rcases h2 with ⟨_,h3⟩|⟨h2,h3⟩
    ·exact h3
    ·rcases hns v' hv' with h|h
     ·exact absurd (hany _ h) h2
     ·rw [h3,h]
   obtain ⟨r,hr⟩:∃ r:Nat→Nat,∀ v∈V,(v.1,r v.1,v.2.2)∈cur:=by
    refine ⟨fun s=>((cur.find? fun c=>c.1==s).map (fun c=>c.2.1)).getD 0,fun v hv=> ?_⟩
    obtain ⟨c,hc,e,e2⟩:=hex v hv
    cases hf:cur.find? (fun c=>c.1==v.1) with
    |none=>
     have:=List.find?_eq_none.1 hf c hc
     rw [e] at this
     simp at this
    |some c'=>
     have h1:=List.mem_of_find?_eq_some hf
     have h2:=List.find?_some hf
     have h2:c'.1=v.1:=by simpa using h2
     have:c'=c:=uniq_fst hcn h1 hc (h2.trans e.symm)
     subst this
     have e3:(v.1,c'.2.1,v.2.2)=c':=by rw [←e,←e2]
     dsimp only
     rw [hf]
     simp only [Option.map_some,Option.getD_some]
     rw [e3]
     exact hc
   have hadn:(cur.map (fun c=>c.2.1)).Nodup∧(∀ c∈cur,∀ p∈L,c.2.1≠p.1)∧(L.map Prod.fst).Nodup:=by
    have h:=hts.mem.nodup
    rw [List.map_append,List.nodup_append,List.map_map] at h
    refine ⟨h.1,fun c hc p hp=> ?_,h.2.1⟩
    exact h.2.2 _ (List.mem_map_of_mem (f:=Prod.fst ∘ fun c:Nat×Nat×VTy=>(c.2.1,c.2.2)) hc) _ (List.mem_map_of_mem (f:=Prod.fst) hp)
   have hadu:∀ c∈cur,∀ c'∈cur,c.2.1=c'.2.1→c=c':=by
    intro c hc c' hc' e
    have h:=hadn.1
    clear hadn hr hex hE1 hvar hcur hts hcn hpa hav
    induction cur with
    |nil=>cases hc
    |cons b cur ih2=>
     rw [List.map_cons,List.nodup_cons] at h
     rcases List.mem_cons.1 hc with h1|h1<;>rcases List.mem_cons.1 hc' with h2|h2
     ·rw [h1,h2]
     ·exact absurd (by rw [←h1,e];exact List.mem_map_of_mem (f:=fun c:Nat×Nat×VTy=>c.2.1) h2) h.1
     ·exact absurd (by rw [←h2,←e];exact List.mem_map_of_mem (f:=fun c:Nat×Nat×VTy=>c.2.1) h1) h.1
     ·exact ih2 h1 h2 h.2
   have hVn:V.Nodup:=by
    have:=hndV
    rw [List.Nodup,List.pairwise_map] at this
    exact this.imp fun h e=>h (by rw [e])
   have hTS:TS w00 (V.map (fun v=>r v.1)++X) (V.map (fun v=>(r v.1,v.2.2))++L) (V.map (fun v=>(v.1,VTy.is (.pointer (some ⟨r v.1,0,none⟩))))++E') n a w:=by
    refine hts.re (fun b hb=> ?_) (fun b hb=> ?_) (fun p hp=> ?_) ?_ fun p hp=> ?_
    ·rcases List.mem_append.1 hb with hb|hb
     ·obtain ⟨v,hv,rfl⟩:=List.mem_map.1 hb
      exact List.mem_append_left _ (List.mem_map_of_mem (f:=fun c:Nat×Nat×VTy=>c.2.1) (hr v hv))
     ·exact List.mem_append_right _ hb
    ·rcases List.mem_append.1 hb with hb|hb
     ·obtain ⟨c,hc,rfl⟩:=List.mem_map.1 hb
      obtain ⟨v,hv,e,_⟩:=hcur c hc
      have:=uniq_fst hcn (hr v hv) hc e
      refine List.mem_append_left _ ?_
      rw [←this]
      exact List.mem_map_of_mem (f:=fun v:Vr=>r v.1) hv
     ·exact List.mem_append_right _ hb
    ·rcases List.mem_append.1 hp with hp|hp
     ·obtain ⟨v,hv,rfl⟩:=List.mem_map.1 hp
      exact List.mem_append_left _ (List.mem_map_of_mem (f:=fun c:Nat×Nat×VTy=>(c.2.1,c.2.2)) (hr v hv))
     ·exact List.mem_append_right _ hp
    ·rw [List.map_append,List.map_map,List.nodup_append]
     refine ⟨nodup_on hVn fun v hv v' hv' e=> ?_,hadn.2.2,fun b hb b' hb' e=> ?_⟩
     ·have e2:=hadu _ (hr v hv) _ (hr v' hv') e
      have e3:v.1=v'.1:=congrArg (fun c:Nat×Nat×VTy=>c.1) e2
      exact uniq_fst hndV hv hv' e3
     ·obtain ⟨v,hv,rfl⟩:=List.mem_map.1 hb
      obtain ⟨p,hp,rfl⟩:=List.mem_map.1 hb'
      exact hadn.2.1 _ (hr v hv) p hp e
    ·rcases List.mem_append.1 hp with hp|hp
     ·obtain ⟨v,hv,rfl⟩:=List.mem_map.1 hp
      exact List.mem_append_left _ (List.mem_map_of_mem (f:=ptrV) (hr v hv))
     ·exact List.mem_append_right _ (hE1 p hp)
   have hlast:=(hfin r a w hTS).out
   have hdr:l.drop i=[o]:=by
    rw [List.drop_eq_getElem_cons (by omega),List.drop_eq_nil_of_le (by omega)]
    congr 1
    rw [List.getElem?_eq_getElem (by omega)] at ho
    injection ho
   rw [hdr] at hlast
   unfold wpOp
   simp only [show l.toArray[i]? =some o by simpa using ho]
   unfold wpList at hlast
   rw [if_pos hwt] at hlast ⊢
   refine hlast.imp (Oper.wp_mono fun a' w' h=> ?_) id
   unfold wpList at h
   refine wpAny_done ?_ h _
   rw [List.eq_nil_iff_forall_not_mem]
   intro j hj
   rw [mem_ready] at hj
   obtain ⟨h1,oj,h2,_⟩:=hj
   have hjl:=(Array.getElem?_eq_some_iff.1 h2).1
   have hjl:j<i+1:=by rw [←hsz];simpa using hjl
   by_cases hji:i=j
   ·subst hji
    simp [show i<listed.size by omega] at h1
   ·rw [getD_set_ne true hji] at h1
    have:=hal j (by omega)
    rw [Array.getD_eq_getD_getElem?,Array.getElem?_eq_getElem (by omega)] at h1 this
    simp at h1 this
    rw [h1] at this
    cases this
theorem g_drawV {E E':List (Nat×VTy)} {cs:List Code} {id:Nat} {l:List Oper} (m:Nat) (V:List Vr) (ht:OpsV P w00 L V E (l.take m) E') (hc:(chkJ l.toArray (E.map Prod.fst) n m&&distinctB (E'.map Prod.fst++V.map Prod.fst))=true) (hcv:chkV l m (V.map Prod.fst)=true)
 (hns:∀ v∈V,(l.take m).any (putsB v.1)=true∨v.2.2=v.2.1) (hm:P.follows .mixedOrders=true)
 (h:∀ r:Nat→Nat,GR P w00 (V.map (fun v=>r v.1)++X) (V.map (fun v=>(r v.1,v.2.2))++L) (V.map (fun v=>(v.1,VTy.is (.pointer (some ⟨r v.1,0,none⟩))))++E') n l.toArray (l.drop m) cs Q):GC P w00 X L E n (Code.region id l.toArray true::cs) Q:=by
 refine ⟨fun a w hts=> ?_⟩
 have hb:Below w.heap.size w w.drew:=(Below.refl _ _).drew
 have hts':TS w00 X L E n a w.drew:=⟨hts.size,hts.df,fun p hp=>p.2.stable (hts.slots p hp) (Below.keeps hb _) fun _ h _=>h,hts.mem.same hb⟩
 have hsz:l.length=m+1:=by
  have:=hc
  unfold chkJ at this
  simp only [Bool.and_eq_true] at this
  have:=Nat.eq_of_beq_eq_true this.1.1.1
  simpa using this
 have hnd:(E'.map Prod.fst).Nodup:=(List.nodup_append.1 (nodup_of_distinctB (by rw [Bool.and_eq_true] at hc;exact hc.2))).1
 have hnone:∀ p,¬ done l (Array.replicate l.toArray.size false) p:=fun p ⟨i,o,_,h2,_⟩=>by
  rw [Array.getD_eq_getD_getElem?] at h2
  cases h:(Array.replicate l.toArray.size false)[i]? with
  |none=>rw [h] at h2;cases h2
  |some b=>
   have:=Array.mem_of_getElem? h
   simp at this
   rw [h,this.2] at h2
   cases h2
 refine wp_region_any hm (wpAny_V ht hc hcv hns (fun r a w h'=>(h r).run a w h') _ _ _ _ (by simp) ?_ (by simpa using openN_rep l.toArray.size) ⟨[],E,ht.sub,fun p hp hx=> ?_,hts',(fun _ h=>by cases h),fun v _ h=>absurd h (hnone _),List.nodup_nil,fun v _ h=>absurd h (hnone _)⟩)
 ·rw [Array.getD_eq_getD_getElem?,Array.getElem?_replicate,if_pos (by simp;omega)]
  rfl
 ·rcases hx with hx|hx
  ·obtain ⟨q,hq,hqp⟩:=List.mem_map.1 hx
   have:p=q:=uniq_fst hnd hp (ht.sub q hq) hqp.symm
   rw [this];exact hq
  ·exact absurd hx (hnone _)
end
def tellB (e p y a:Int):Prop:=(e=2∨e=3)∧1≤p∧p≤11∧0≤a∧ -1≤y
theorem brk_tell {α:Type} {p:α→Bool} {most:Nat}:∀ {l:List α} {i:Nat},((brk p most i l).2=0∨(brk p most i l).2=2∨(brk p most i l).2=3)∧0≤(brk p most i l).1
 |[],_=>⟨.inl rfl,Int.le_refl _⟩
 |x::l,i=>by
  by_cases h:i=most
  ·rw [brk_most h];exact ⟨.inr (.inr rfl),by show (0:Int)≤(i:Int);omega⟩
  ·cases hp:p x
   ·rw [brk_bad h hp];exact ⟨.inr (.inl rfl),by show (0:Int)≤(i:Int);omega⟩
   ·rw [brk_go h hp];exact brk_tell
theorem law_tell (d:TyFiling):((lawB d).2=0∨(lawB d).2=2∨(lawB d).2=3)∧0≤(lawB d).1:=by
 unfold lawB
 cases h:decide (0≤idxF 0 (keptL d))
 ·exact ⟨.inl rfl,Int.le_refl _⟩
 ·exact ⟨.inr (.inl rfl),of_decide_eq_true h⟩
theorem fst_tell {yr:Int} (hy: -1≤yr):∀ {l:List (Int×Int×Int)},(∀ x∈l,1≤x.1∧x.1≤11∧(x.2.2=0∨x.2.2=2∨x.2.2=3)∧0≤x.2.1)→(fstB yr l).2=0∨tellB (fstB yr l).2 (fstB yr l).1.1 (fstB yr l).1.2.1 (fstB yr l).1.2.2
 |[],_=> .inl rfl
 |(p,a,e)::t,h=>by
  rw [fstB_cons]
  cases he:(e==0)
  ·obtain ⟨h1,h2,h3,h4⟩:=h _ List.mem_cons_self
   have he:e≠0:=fun e0=>by rw [e0] at he;cases he
   exact .inr ⟨h3.resolve_left he,h1,h2,h4,hy⟩
  ·exact fst_tell hy fun x hx=>h x (List.mem_cons_of_mem _ hx)
theorem partsF_tell (d:TyFiling):∀ x∈partsF d,1≤x.1∧x.1≤11∧(x.2.2=0∨x.2.2=2∨x.2.2=3)∧0≤x.2.1:=by
 unfold partsF
 exact all_cons ⟨by dsimp only;omega,by dsimp only;omega,brk_tell⟩ (all_cons ⟨by dsimp only;omega,by dsimp only;omega,brk_tell⟩ (all_cons ⟨by dsimp only;omega,by dsimp only;omega,law_tell d⟩ (all_cons ⟨by dsimp only;omega,by dsimp only;omega,brk_tell⟩ (all_cons ⟨by dsimp only;omega,by dsimp only;omega,brk_tell⟩ (all_cons ⟨by dsimp only;omega,by dsimp only;omega,brk_tell⟩ all_nil)))))
theorem partsY_tell (y:TyYear):∀ x∈partsY y,1≤x.1∧x.1≤11∧(x.2.2=0∨x.2.2=2∨x.2.2=3)∧0≤x.2.1:=by
 unfold partsY
 exact all_cons ⟨by dsimp only;omega,by dsimp only;omega,brk_tell⟩ (all_cons ⟨by dsimp only;omega,by dsimp only;omega,brk_tell⟩ (all_cons ⟨by dsimp only;omega,by dsimp only;omega,brk_tell⟩ (all_cons ⟨by dsimp only;omega,by dsimp only;omega,brk_tell⟩ (all_cons ⟨by dsimp only;omega,by dsimp only;omega,brk_tell⟩ all_nil))))
theorem yrs_tell:∀ {l:List TyYear} {i:Nat},(yrsB i l).2=0∨tellB (yrsB i l).2 (yrsB i l).1.1 (yrsB i l).1.2.1 (yrsB i l).1.2.2
 |[],_=> .inl rfl
 |y::t,i=>by
  rw [yrsB_cons]
  cases h:((fstB (i:Int) (partsY y)).2==0)
  ·exact fst_tell (by omega) (partsY_tell y)
  ·exact yrs_tell
theorem right_tell (d:TyFiling):(rightB d).2=0∨tellB (rightB d).2 (rightB d).1.1 (rightB d).1.2.1 (rightB d).1.2.2:=by
 unfold rightB
 cases h:((fstB (-1) (partsF d)).2==0)
 ·exact fst_tell (by decide) (partsF_tell d)
 ·exact yrs_tell
theorem fst_none {yr:Int}:∀ {l:List (Int×Int×Int)},(fstB yr l).2=0→∀ x∈l,x.2.2=0
 |[],_=>all_nil
 |(p,a,e)::t,h=>by
  rw [fstB_cons] at h
  cases he:(e==0)
  ·rw [he] at h
   have h:e=0:=h
   rw [h] at he;cases he
  ·rw [he] at h
   exact all_cons (eq_of_beq he) (fst_none h)
theorem yrs_none:∀ {l:List TyYear} {i:Nat},(yrsB i l).2=0→∀ y∈l,∀ x∈partsY y,x.2.2=0
 |[],_,_=>all_nil
 |y::t,i,h=>by
  rw [yrsB_cons] at h
  cases he:((fstB (i:Int) (partsY y)).2==0)
  ·rw [he] at h
   have h:(fstB (i:Int) (partsY y)).2=0:=h
   rw [h] at he;cases he
  ·rw [he] at h
   exact all_cons (fst_none (eq_of_beq he)) (yrs_none h)
theorem right_none {d:TyFiling} (h:(rightB d).2=0):(∀ x∈partsF d,x.2.2=0)∧∀ y∈d.2.2.2.2.2.2.2.2.2.2.2.2,∀ x∈partsY y,x.2.2=0:=by
 unfold rightB at h
 cases he:((fstB (-1) (partsF d)).2==0)
 ·rw [he] at h
  have h:(fstB (-1) (partsF d)).2=0:=h
  rw [h] at he;cases he
 ·rw [he] at h
  exact ⟨fst_none (eq_of_beq he),yrs_none h⟩
theorem law_zero {d:TyFiling} (h:(lawB d).2=0):lawB d=(0,0):=by
 unfold lawB at h ⊢
 cases hd:decide (0≤idxF 0 (keptL d))
 ·rfl
 ·rw [hd] at h;cases h
theorem brk_eq {α:Type} {p:α→Bool} {most i:Nat} {l:List α} (h:(brk p most i l).2=0):brk p most i l=(0,0):=Prod.ext (brk_zero h) h
theorem brk_take {α:Type} {p:α→Bool} {most j:Nat} {l:List α} (h:(brk p most 0 l).2=0):brk p most 0 (l.take j)=(0,0):=by
 obtain ⟨h1,h2⟩:=(brk_ok (Nat.zero_le _)).1 h
 exact brk_eq ((brk_ok (Nat.zero_le _)).2 ⟨fun x hx=>h1 x (List.mem_of_mem_take hx),by rw [List.length_take];omega⟩)
theorem partsY_zero {y:TyYear} (h:∀ x∈partsY y,x.2.2=0):∀ x∈partsY y,x.2=(0,0):=by
 unfold partsY at h ⊢
 simp only [List.forall_mem_cons] at h
 exact all_cons (brk_eq h.1) (all_cons (brk_eq h.2.1) (all_cons (brk_eq h.2.2.1) (all_cons (brk_eq h.2.2.2.1) (all_cons (brk_eq h.2.2.2.2.1) all_nil))))
def lessD (d:TyFiling) (jb jc je jy:Nat):TyFiling:=(d.1,d.2.1,(d.2.2.1).take jb,d.2.2.2.1,d.2.2.2.2.1,d.2.2.2.2.2.1,d.2.2.2.2.2.2.1,d.2.2.2.2.2.2.2.1,d.2.2.2.2.2.2.2.2.1,d.2.2.2.2.2.2.2.2.2.1,(d.2.2.2.2.2.2.2.2.2.2.1).take jc,(d.2.2.2.2.2.2.2.2.2.2.2.1).take je,(d.2.2.2.2.2.2.2.2.2.2.2.2).take jy)
theorem right_less {d:TyFiling} (h:(rightB d).2=0) (jb jc je jy:Nat):rightB (lessD d jb jc je jy)=((0,0,0),0):=by
 obtain ⟨h1,h2⟩:=right_none h
 unfold partsF at h1
 simp only [List.forall_mem_cons] at h1
 refine right_all ?_ fun y hy=>partsY_zero (h2 y (List.mem_of_mem_take hy))
 unfold partsF
 refine all_cons (brk_eq h1.1) (all_cons (brk_take h1.2.1) (all_cons ?_ (all_cons (brk_take h1.2.2.2.1) (all_cons (brk_take h1.2.2.2.2.1) (all_cons (brk_take h1.2.2.2.2.2.1) all_nil)))))
 exact law_zero (d:=d) h1.2.2.1
theorem few_less {d:TyFiling} (h:FewF d) (jb jc je jy:Nat):FewF (lessD d jb jc je jy):=
 ⟨h.thr,h.cap,h.int,h.flo,fun x hx=>h.brk x (List.mem_of_mem_take hx),fun x hx=>h.cls x (List.mem_of_mem_take hx),fun x hx=>h.yrs x (List.mem_of_mem_take hx)⟩
section
variable {P:Program} {w00:World} {N:Nat} {L:List Loc} {E:List (Nat×VTy)} {d:Nat} {t0:TypeId} {pos:String} {af:Array Edge} {gd:Option (Nat×Bool)}
theorem st_sliR {α:Type} {r:Rp α} {l:List α} {o o1:Operand} {ty:TypeId} {z:Int} {k:Nat} [ho:OpC E o (.rw r tt l)] [hi:OpC E o1 (.is (.int .i64 z))] [ht:SliceC P ty k] (hz:0≤z∧z≤(l.length:Int)):StepT P w00 N L E ⟨some d, .slice ty o none (some o1) none,t0,pos,af,gd⟩ (.rw r tt (l.take z.toNat)):=by
 constructor
 intro X ρ w hc _ hN hm hsl
 obtain ⟨_,A,n,c,e,h1,h2,h3,h4,h5⟩:=ho.get (X:=X) (w:=w) hc fun p hp e=>hsl p hp (by simp [Op.operands,e])
 have e1:ρ o= .slice A n c:=by simpa using e
 have e2:ρ o1= .int .i64 z:=hi.get (X:=X) (w:=w) hc fun p hp e=>hsl p hp (by simp [Op.operands,e])
 obtain ⟨el,hu,hsz⟩:=ht.ok
 have hel:P.underlying ty=some (.slice (P.elem ty)):=by
  have:P.elem ty=el:=by unfold Program.elem;rw [hu]
  rw [this];exact hu
 have hze:(sizeOf (P.elem ty)).run P w= .ok k w:=by
  have:P.elem ty=el:=by unfold Program.elem;rw [hu]
  rw [this]
  cases hq:P.info? el with
  |none=>rw [hq] at hsz;cases hsz
  |some q=>
   rw [hq] at hsz
   have:q.size=k:=by simpa using hsz
   simp [sizeOf,typeInfo,hq,this]
 have hrun:(execOp ρ ⟨some d, .slice ty o none (some o1) none,t0,pos,af,gd⟩).run P w= .ok (.value (.slice (if c=0 then A else A.map (·.add 0)) z.toNat c)) w:=by
  unfold execOp
  simp only [Option.map_none,Option.map_some,e1,e2,Sem.run_bind,run_sliceAt_slice w ty _ _ _ _ hel,run_slice_h w ty A n c hel .i64 z hz.1 (by omega),hze,Result.andThen_ok,Sem.run_pure,sliced,Nat.zero_mul,Nat.sub_zero]
 unfold Yields
 rw [hrun]
 refine ⟨⟨fun _ _=>trivial,_,z.toNat,c,rfl,by rw [List.length_take];omega,by omega,h3,fun hA=> ?_,fun hn=> ?_⟩,Below.refl _ _⟩
 ·by_cases hc0:c=0
  ·exact hc0
  ·rw [if_neg hc0] at hA
   refine h4 ?_
   cases A with
   |none=>rfl
   |some a=>cases hA
 ·obtain ⟨b,off,rfl,hb,hcl⟩:=h5 (by omega)
  refine ⟨b,off,?_,hb,fun j a ha=> ?_⟩
  ·have:((⟨b,off,none⟩:Addr).add 0)=⟨b,off,none⟩:=Addr.add_mid b off 0
   by_cases hc0:c=0
   ·rw [if_pos hc0]
   ·rw [if_neg hc0];simp [this]
  ·rw [List.getElem?_take] at ha
   split at ha
   ·exact hcl j a ha
   ·cases ha
theorem st_idxRc {α:Type} {r:Rp α} {p:α→Prop} {l:List α} {a:α} {o oi:Operand} {ty:TypeId} {z:Int} {k:Nat} [ho:OpC E o (.rw r p l)] [hi:OpC E oi (.is (.int .i64 z))] [kc:KC r k] [ht:SliceC P ty k] (ha:0≤z∧l[z.toNat]? =some a):StepT P w00 N L E ⟨some d, .indexAddr ty o oi,t0,pos,af,gd⟩ (.pe r p a):=by
 have e:z=(z.toNat:Int):=by omega
 exact st_idxR (hi:=⟨fun hc hs=>by
  have:=hi.get hc hs
  rw [e] at this
  exact this⟩) ha.2
end
instance:TyC Tryz.prog 61 1 false:=⟨⟨_,Tryz.underlying61,rfl⟩,by kernel_rfl⟩
instance:SliceC Tryz.prog 61 25:=⟨⟨_,Tryz.underlying61,by kernel_rfl⟩⟩
theorem els_astFiling:ElS Tryz.prog 61 41 25:=⟨Tryz.underlying61,by
 have h:((Tryz.prog.info? 41).bind (·.zero)).map (fun z=>z.cells.size)=some 25:=by kernel_rfl
 have h2:(Tryz.prog.info? 41).map (·.size)=some 25:=by kernel_rfl
 cases hi:Tryz.prog.info? 41 with
 |none=>rw [hi] at h;cases h
 |some i=>
 cases hz:i.zero with
 |none=>simp [hi,hz] at h
 |some z=>
 simp [hi,hz] at h
 simp [hi] at h2
 exact ⟨i,z,rfl,hz,h2,h⟩⟩
theorem l8_less {d:TyFiling}:Ctr Tryz.prog Tab 7 [0] [.ra rpFiling d] (fun _=> .is (.bool true)):=by
 have kF:=c_Few (d:=d)
 cases hF:fewA d
 ·rw [hF] at kF
  have hR:=l8_works
  refine ctr Tryz.func7 rfl Tryz.ntmps7 (by simp) (fun _ _=>by kernel_rfl) fun X w hE=> ?_
  simp only [argE,Nat.zero_add,Nat.reduceAdd]
  repeat' first|kernel_rfl|apply g_seq|apply g_reg|apply g_nil|apply o_all|apply o_go|exact OpsT.nil|exact GuardC.nil|exact UndefC.nil|refine @GuardC.cons _ _ _ _ inferInstance ?_|refine @UndefC.cons _ _ _ inferInstance ?_|apply g_box|apply g_all|apply g_stf|apply g_stw|apply g_sto|apply g_asg|refine g_run rfl inferInstance (by first|exact st_loadR|exact st_loadS|exact sc trivial kF|exact sc hE hR|exact sc hE l8_works|exact sc hE g1|exact sc hE g2|exact sc hE g3|exact sc hE g4|exact st_move'|exact st_load'|exact st_fieldAddr'|exact st_eq' (by first|assumption|rfl)|exact st_leq' (by first|assumption|rfl)|exact st_geq' (by first|assumption|rfl)|exact st_loadE') (by kernel_rfl) ?_|refine g_sk rfl inferInstance rfl (by kernel_rfl) ?_|refine g_un rfl inferInstance (by kernel_rfl) ?_|apply g_st|apply g_skip|apply g_ct|apply g_cf|apply g_ret|refine r_1 rfl ?_|apply g_cl|exact st_idxR (by assumption)|exact st_loadR|exact st_loadS|exact st_len'|exact sc trivial kF|exact sc hE hR|exact sc hE l8_works|exact st_rowS (r:=rpFiling) els_astFiling rfl (by decide) (by decide) (by decide)|exact st_sliR (by assumption)|exact st_sub2 (by assumption)|exact st_max (by assumption)|exact st_idxRc ⟨by decide,rfl⟩|exact sc hE g1|exact sc hE g2|exact sc hE g3|exact sc hE g4|exact st_move'|exact st_assign'|exact st_load'|exact st_fieldAddr'|exact st_extract'|exact st_and_t'|exact st_and_f'|exact st_or_f'|exact st_or_t'|exact st_not' (b:=true) (u:=false) rfl|exact st_not' (b:=false) (u:=true) rfl|exact st_not' rfl|exact st_eq' (by first|assumption|rfl)|exact st_neq' (by first|assumption|rfl)|exact st_leq' (by first|assumption|rfl)|exact st_geq' (by first|assumption|rfl)|exact st_len'|exact st_indexAddr' (by assumption)|exact st_loadE'|exact Cv.rfl'|(intro _;simp only[newX,newL,ptrs,List.map,List.cons_append,List.nil_append])|intro _
 rw [hF] at kF
 obtain ⟨hcnt,hfew⟩:=fewA_of hF
 have hR:=c_Right hfew
 rcases right_tell d with h0|ht
 rotate_left
 ·obtain ⟨he,hp1,hp2,ha,hy⟩:=ht
  generalize hq:rightB d=q at*
  have e1:decide ((1:Int)≤q.1.1)=true:=decide_eq_true hp1
  have e2:decide (q.1.1≤(11:Int))=true:=decide_eq_true hp2
  have e3:decide ((0:Int)≤q.1.2.2)=true:=decide_eq_true ha
  have e4:decide ((-1:Int)≤q.1.2.1)=true:=decide_eq_true hy
  rcases he with he|he
  ·rw [he] at hR
   refine ctr Tryz.func7 rfl Tryz.ntmps7 (by simp) (fun _ _=>by kernel_rfl) fun X w hE=> ?_
   simp only [argE,Nat.zero_add,Nat.reduceAdd]
   repeat' first|kernel_rfl|apply g_seq|apply g_reg|apply g_nil|apply o_all|apply o_go|exact OpsT.nil|exact GuardC.nil|exact UndefC.nil|refine @GuardC.cons _ _ _ _ inferInstance ?_|refine @UndefC.cons _ _ _ inferInstance ?_|apply g_box|apply g_all|apply g_stf|apply g_stw|apply g_sto|apply g_asg|refine g_run rfl inferInstance (by first|exact st_loadR|exact st_loadS|exact sc trivial kF|exact sc hE hR|exact sc hE l8_works|exact sc hE g1|exact sc hE g2|exact sc hE g3|exact sc hE g4|exact st_move'|exact st_load'|exact st_fieldAddr'|exact st_eq' (by first|assumption|rfl)|exact st_leq' (by first|assumption|rfl)|exact st_geq' (by first|assumption|rfl)|exact st_loadE') (by kernel_rfl) ?_|refine g_sk rfl inferInstance rfl (by kernel_rfl) ?_|refine g_un rfl inferInstance (by kernel_rfl) ?_|apply g_st|apply g_skip|apply g_ct|apply g_cf|apply g_ret|refine r_1 rfl ?_|apply g_cl|exact st_idxR (by assumption)|exact st_loadR|exact st_loadS|exact st_len'|exact sc trivial kF|exact sc hE hR|exact sc hE l8_works|exact st_rowS (r:=rpFiling) els_astFiling rfl (by decide) (by decide) (by decide)|exact st_sliR (by assumption)|exact st_sub2 (by assumption)|exact st_max (by assumption)|exact st_idxRc ⟨by decide,rfl⟩|exact sc hE g1|exact sc hE g2|exact sc hE g3|exact sc hE g4|exact st_move'|exact st_assign'|exact st_load'|exact st_fieldAddr'|exact st_extract'|exact st_and_t'|exact st_and_f'|exact st_or_f'|exact st_or_t'|exact st_not' (b:=true) (u:=false) rfl|exact st_not' (b:=false) (u:=true) rfl|exact st_not' rfl|exact st_eq' (by first|assumption|rfl)|exact st_neq' (by first|assumption|rfl)|exact st_leq' (by first|assumption|rfl)|exact st_geq' (by first|assumption|rfl)|exact st_len'|exact st_indexAddr' (by assumption)|exact st_loadE'|exact Cv.rfl'|(intro _;simp only[newX,newL,ptrs,List.map,List.cons_append,List.nil_append])|intro _
  ·rw [he] at hR
   refine ctr Tryz.func7 rfl Tryz.ntmps7 (by simp) (fun _ _=>by kernel_rfl) fun X w hE=> ?_
   simp only [argE,Nat.zero_add,Nat.reduceAdd]
   repeat' first|kernel_rfl|apply g_seq|apply g_reg|apply g_nil|apply o_all|apply o_go|exact OpsT.nil|exact GuardC.nil|exact UndefC.nil|refine @GuardC.cons _ _ _ _ inferInstance ?_|refine @UndefC.cons _ _ _ inferInstance ?_|apply g_box|apply g_all|apply g_stf|apply g_stw|apply g_sto|apply g_asg|refine g_run rfl inferInstance (by first|exact st_loadR|exact st_loadS|exact sc trivial kF|exact sc hE hR|exact sc hE l8_works|exact sc hE g1|exact sc hE g2|exact sc hE g3|exact sc hE g4|exact st_move'|exact st_load'|exact st_fieldAddr'|exact st_eq' (by first|assumption|rfl)|exact st_leq' (by first|assumption|rfl)|exact st_geq' (by first|assumption|rfl)|exact st_loadE') (by kernel_rfl) ?_|refine g_sk rfl inferInstance rfl (by kernel_rfl) ?_|refine g_un rfl inferInstance (by kernel_rfl) ?_|apply g_st|apply g_skip|apply g_ct|apply g_cf|apply g_ret|refine r_1 rfl ?_|apply g_cl|exact st_idxR (by assumption)|exact st_loadR|exact st_loadS|exact st_len'|exact sc trivial kF|exact sc hE hR|exact sc hE l8_works|exact st_rowS (r:=rpFiling) els_astFiling rfl (by decide) (by decide) (by decide)|exact st_sliR (by assumption)|exact st_sub2 (by assumption)|exact st_max (by assumption)|exact st_idxRc ⟨by decide,rfl⟩|exact sc hE g1|exact sc hE g2|exact sc hE g3|exact sc hE g4|exact st_move'|exact st_assign'|exact st_load'|exact st_fieldAddr'|exact st_extract'|exact st_and_t'|exact st_and_f'|exact st_or_f'|exact st_or_t'|exact st_not' (b:=true) (u:=false) rfl|exact st_not' (b:=false) (u:=true) rfl|exact st_not' rfl|exact st_eq' (by first|assumption|rfl)|exact st_neq' (by first|assumption|rfl)|exact st_leq' (by first|assumption|rfl)|exact st_geq' (by first|assumption|rfl)|exact st_len'|exact st_indexAddr' (by assumption)|exact st_loadE'|exact Cv.rfl'|(intro _;simp only[newX,newL,ptrs,List.map,List.cons_append,List.nil_append])|intro _
 ·have hz:rightB d=((0,0,0),0):=by
   have:=right_less h0 (d.2.2.1).length (d.2.2.2.2.2.2.2.2.2.2.1).length (d.2.2.2.2.2.2.2.2.2.2.2.1).length (d.2.2.2.2.2.2.2.2.2.2.2.2).length
   unfold lessD at this
   simp only [List.take_length] at this
   exact this
  rw [hz] at hR
  obtain ⟨ny,hny⟩:∃ n,n=(d.2.2.2.2.2.2.2.2.2.2.2.2).length:=⟨_,rfl⟩
  have wy:IntKind.i64.wrap (((d.2.2.2.2.2.2.2.2.2.2.2.2).length:Int) - 1)=((d.2.2.2.2.2.2.2.2.2.2.2.2).length:Int) - 1:=by
   rw [IntKind.wrap_i64]
   have:=hcnt.ys
   omega
  have my:max (0:Int) (((d.2.2.2.2.2.2.2.2.2.2.2.2).length:Int) - 1)=(((d.2.2.2.2.2.2.2.2.2.2.2.2).length - 1:Nat):Int):=by omega
  have zy:0≤(((d.2.2.2.2.2.2.2.2.2.2.2.2).length - 1:Nat):Int)∧(((d.2.2.2.2.2.2.2.2.2.2.2.2).length - 1:Nat):Int)≤((d.2.2.2.2.2.2.2.2.2.2.2.2).length:Int):=⟨by omega,by omega⟩
  obtain ⟨ne,hne⟩:∃ n,n=(d.2.2.2.2.2.2.2.2.2.2.2.1).length:=⟨_,rfl⟩
  have we:IntKind.i64.wrap (((d.2.2.2.2.2.2.2.2.2.2.2.1).length:Int) - 1)=((d.2.2.2.2.2.2.2.2.2.2.2.1).length:Int) - 1:=by
   rw [IntKind.wrap_i64]
   have:=hcnt.en
   omega
  have me:max (0:Int) (((d.2.2.2.2.2.2.2.2.2.2.2.1).length:Int) - 1)=(((d.2.2.2.2.2.2.2.2.2.2.2.1).length - 1:Nat):Int):=by omega
  have ze:0≤(((d.2.2.2.2.2.2.2.2.2.2.2.1).length - 1:Nat):Int)∧(((d.2.2.2.2.2.2.2.2.2.2.2.1).length - 1:Nat):Int)≤((d.2.2.2.2.2.2.2.2.2.2.2.1).length:Int):=⟨by omega,by omega⟩
  obtain ⟨nc,hnc⟩:∃ n,n=(d.2.2.2.2.2.2.2.2.2.2.1).length:=⟨_,rfl⟩
  have wc:IntKind.i64.wrap (((d.2.2.2.2.2.2.2.2.2.2.1).length:Int) - 1)=((d.2.2.2.2.2.2.2.2.2.2.1).length:Int) - 1:=by
   rw [IntKind.wrap_i64]
   have:=hcnt.cl
   omega
  have mc:max (0:Int) (((d.2.2.2.2.2.2.2.2.2.2.1).length:Int) - 1)=(((d.2.2.2.2.2.2.2.2.2.2.1).length - 1:Nat):Int):=by omega
  have zc:0≤(((d.2.2.2.2.2.2.2.2.2.2.1).length - 1:Nat):Int)∧(((d.2.2.2.2.2.2.2.2.2.2.1).length - 1:Nat):Int)≤((d.2.2.2.2.2.2.2.2.2.2.1).length:Int):=⟨by omega,by omega⟩
  obtain ⟨nb,hnb⟩:∃ n,n=(d.2.2.1).length:=⟨_,rfl⟩
  have wb:IntKind.i64.wrap (((d.2.2.1).length:Int) - 1)=((d.2.2.1).length:Int) - 1:=by
   rw [IntKind.wrap_i64]
   have:=hcnt.br
   omega
  have mb:max (0:Int) (((d.2.2.1).length:Int) - 1)=(((d.2.2.1).length - 1:Nat):Int):=by omega
  have zb:0≤(((d.2.2.1).length - 1:Nat):Int)∧(((d.2.2.1).length - 1:Nat):Int)≤((d.2.2.1).length:Int):=⟨by omega,by omega⟩
  have g1:=c_Right (few_less hfew ((d.2.2.1).length) ((d.2.2.2.2.2.2.2.2.2.2.1).length) ((d.2.2.2.2.2.2.2.2.2.2.2.1).length) ((((d.2.2.2.2.2.2.2.2.2.2.2.2).length - 1:Nat):Int).toNat))
  rw [right_less h0] at g1
  unfold lessD at g1
  simp only [List.take_length] at g1
  have g2:=c_Right (few_less hfew ((d.2.2.1).length) ((d.2.2.2.2.2.2.2.2.2.2.1).length) ((((d.2.2.2.2.2.2.2.2.2.2.2.1).length - 1:Nat):Int).toNat) ((d.2.2.2.2.2.2.2.2.2.2.2.2).length))
  rw [right_less h0] at g2
  unfold lessD at g2
  simp only [List.take_length] at g2
  have g3:=c_Right (few_less hfew ((d.2.2.1).length) ((((d.2.2.2.2.2.2.2.2.2.2.1).length - 1:Nat):Int).toNat) ((d.2.2.2.2.2.2.2.2.2.2.2.1).length) ((d.2.2.2.2.2.2.2.2.2.2.2.2).length))
  rw [right_less h0] at g3
  unfold lessD at g3
  simp only [List.take_length] at g3
  have g4:=c_Right (few_less hfew ((((d.2.2.1).length - 1:Nat):Int).toNat) ((d.2.2.2.2.2.2.2.2.2.2.1).length) ((d.2.2.2.2.2.2.2.2.2.2.2.1).length) ((d.2.2.2.2.2.2.2.2.2.2.2.2).length))
  rw [right_less h0] at g4
  unfold lessD at g4
  simp only [List.take_length] at g4
  refine ctr Tryz.func7 rfl Tryz.ntmps7 (by simp) (fun _ _=>by kernel_rfl) fun X w hE=> ?_
  simp only [argE,Nat.zero_add,Nat.reduceAdd]
  repeat' first|kernel_rfl|(apply g_drawV (id:=7) 19 [(6, .ra rpFiling z0Filing, .ra rpFiling d),(7, .ra rpFiling z0Filing, .ra rpFiling d),(8, .ra rpFiling z0Filing, .ra rpFiling d),(9, .ra rpFiling z0Filing, .ra rpFiling z0Filing)];(focus repeat' first|exact OpsV.nil|(apply OpsV.alloc (d:=6) (Z:= .ra rpFiling z0Filing) (T:= .ra rpFiling d) (hv:= .head _);(focus infer_instance))|(apply OpsV.put (d:=6) (x:=65) (Z:= .ra rpFiling z0Filing) (T:= .ra rpFiling d) (k:=25) (k0:=25) (ag:=true) (ag0:=true) (hv:= .head _) (ho:=Look.mem) (z:=inferInstance) (z0:=inferInstance) (hk:=rfl);(focus kernel_rfl))|(apply OpsV.alloc (d:=7) (Z:= .ra rpFiling z0Filing) (T:= .ra rpFiling d) (hv:= .tail _ (.head _));(focus infer_instance))|(apply OpsV.put (d:=7) (x:=68) (Z:= .ra rpFiling z0Filing) (T:= .ra rpFiling d) (k:=25) (k0:=25) (ag:=true) (ag0:=true) (hv:= .tail _ (.head _)) (ho:=Look.mem) (z:=inferInstance) (z0:=inferInstance) (hk:=rfl);(focus kernel_rfl))|(apply OpsV.alloc (d:=8) (Z:= .ra rpFiling z0Filing) (T:= .ra rpFiling d) (hv:= .tail _ (.tail _ (.head _)));(focus infer_instance))|(apply OpsV.put (d:=8) (x:=71) (Z:= .ra rpFiling z0Filing) (T:= .ra rpFiling d) (k:=25) (k0:=25) (ag:=true) (ag0:=true) (hv:= .tail _ (.tail _ (.head _))) (ho:=Look.mem) (z:=inferInstance) (z0:=inferInstance) (hk:=rfl);(focus kernel_rfl))|(apply OpsV.alloc (d:=9) (Z:= .ra rpFiling z0Filing) (T:= .ra rpFiling z0Filing) (hv:= .tail _ (.tail _ (.tail _ (.head _))));(focus infer_instance))|apply OpsV.cons|exact st_move'|exact st_idxRc ⟨by decide,rfl⟩|exact st_loadR|kernel_rfl);(focus kernel_rfl);(focus kernel_rfl);(focus (intro v hv;simp only [List.mem_cons,List.not_mem_nil,or_false] at hv;rcases hv with rfl|rfl|rfl|rfl;exact .inl rfl;exact .inl rfl;exact .inl rfl;exact .inr rfl));(focus kernel_rfl);intro r;simp only[List.map,List.cons_append,List.nil_append])|(refine g_stR ?_)|apply g_seq|apply g_reg|apply g_nil|apply o_all|apply o_go|exact OpsT.nil|exact GuardC.nil|exact UndefC.nil|refine @GuardC.cons _ _ _ _ inferInstance ?_|refine @UndefC.cons _ _ _ inferInstance ?_|apply g_box|apply g_all|apply g_stf|apply g_stw|apply g_sto|apply g_asg|refine g_run rfl inferInstance (by first|exact st_loadR|exact st_loadS|exact sc trivial kF|exact sc hE hR|exact sc hE l8_works|exact sc hE g1|exact sc hE g2|exact sc hE g3|exact sc hE g4|exact st_move'|exact st_load'|exact st_fieldAddr'|exact st_eq' (by first|assumption|rfl)|exact st_leq' (by first|assumption|rfl)|exact st_geq' (by first|assumption|rfl)|exact st_loadE') (by kernel_rfl) ?_|refine g_sk rfl inferInstance rfl (by kernel_rfl) ?_|refine g_un rfl inferInstance (by kernel_rfl) ?_|apply g_st|apply g_skip|apply g_ct|apply g_cf|apply g_ret|refine r_1 rfl ?_|apply g_cl|exact st_idxR (by assumption)|exact st_loadR|exact st_loadS|exact st_len'|exact sc trivial kF|exact sc hE hR|exact sc hE l8_works|exact st_rowS (r:=rpFiling) els_astFiling rfl (by decide) (by decide) (by decide)|exact st_sliR (by assumption)|exact st_sub2 (by assumption)|exact st_max (by assumption)|exact st_idxRc ⟨by decide,rfl⟩|exact sc hE g1|exact sc hE g2|exact sc hE g3|exact sc hE g4|exact st_move'|exact st_assign'|exact st_load'|exact st_fieldAddr'|exact st_extract'|exact st_and_t'|exact st_and_f'|exact st_or_f'|exact st_or_t'|exact st_not' (b:=true) (u:=false) rfl|exact st_not' (b:=false) (u:=true) rfl|exact st_not' rfl|exact st_eq' (by first|assumption|rfl)|exact st_neq' (by first|assumption|rfl)|exact st_leq' (by first|assumption|rfl)|exact st_geq' (by first|assumption|rfl)|exact st_len'|exact st_indexAddr' (by assumption)|exact st_loadE'|exact Cv.rfl'|(intro _;simp only[newX,newL,ptrs,List.map,List.cons_append,List.nil_append])|intro _
theorem l8_lessZ {P1:TyFiling→Prop}:Ctr Tryz.prog Tab 7 [0] [.ex rpFiling P1] (fun _=> .is (.bool true)):=⟨fun _ _=>by kernel_rfl,DownC.const.down,fun hG hX h=>by
 obtain ⟨u,rfl,y,_,h⟩:=h.one
 exact l8_less.run hG hX ⟨h,trivial⟩⟩
open Go Go.ChangeShapes Go.WideShapes Go.ChangeAt Go.RowKit
theorem and_i {a b:Bool} (h1:a=true) (h2:b=true):(a&&b)=true:=by rw [h1,h2];rfl
theorem grow_mem {P:Program} {s:List TypeId} {v:TypeId} (h:v∈P.grow s):v∈s∨∃ u∈s,v∈P.partsOf u:=by
 unfold Program.grow at h
 rw [List.mem_eraseDups] at h
 rcases List.mem_append.1 h with h|h
 ·exact .inl h
 ·obtain ⟨u,hu,hv⟩:=List.mem_flatMap.1 h
  exact .inr ⟨u,hu,hv⟩
theorem grown_inv {P:Program} {p:TypeId→Prop} (hp:∀ u,p u→∀ v∈P.partsOf u,p v):∀ (n:Nat) {s:List TypeId},(∀ u∈s,p u)→∀ u∈P.grown n s,p u
 |0,_,h=>h
 |n+1,s,h=>grown_inv hp n fun u hu=>by
  rcases grow_mem hu with hu|⟨v,hv,hu⟩
  ·exact h u hu
  ·exact hp v (h v hv) u hu
theorem book_inv {P:Program} {p:TypeId→Prop} (hp:∀ u,p u→∀ v∈P.partsOf u,p v) {t:TypeId} (ht:p t):∀ u∈P.book t,p u:=grown_inv hp _ fun u hu=>by
 rw [List.mem_singleton] at hu;subst hu;exact ht
theorem loops_no {P:Program} {t:TypeId} (L:List TypeId) (h:(L.contains t&&L.all fun u=>(P.partsOf u).all fun v=>L.contains v&&Nat.blt (L.idxOf u) (L.idxOf v))=true):P.loopsFrom t=false:=by
 rw [Bool.and_eq_true] at h
 obtain ⟨h0,h⟩:=h
 have hL:∀ u∈L,∀ v∈P.partsOf u,v∈L∧L.idxOf u<L.idxOf v:=fun u hu v hv=>by
  have:=List.all_eq_true.1 (List.all_eq_true.1 h u hu) v hv
  rw [Bool.and_eq_true] at this
  exact ⟨by simpa using this.1,by simpa [Nat.blt_eq] using this.2⟩
 have hin:∀ u∈P.book t,u∈L:=book_inv (fun u hu v hv=>(hL u hu v hv).1) (by simpa using h0)
 unfold Program.loopsFrom
 rw [List.any_eq_false]
 intro u hu
 rw [Bool.not_eq_true,List.any_eq_false]
 intro v hv hc
 have hc:u∈P.book v:=by simpa using hc
 obtain ⟨h1,h2⟩:=hL u (hin u hu) v hv
 have:=book_inv (P:=P) (p:=fun x=>x∈L∧L.idxOf v≤L.idxOf x) (fun x hx y hy=>⟨(hL x hx.1 y hy).1,Nat.le_of_lt (Nat.lt_of_le_of_lt hx.2 (hL x hx.1 y hy).2)⟩) ⟨h1,Nat.le_refl _⟩ u hc
 omega
theorem loops_one {P:Program} {t:TypeId} (h:P.loopsFrom t=false) {b:Bool} {l:List TypeId} (hb:b=false) (hl:l=[t]):(b==l.any (P.loopsFrom ·))=true:=by
 subst hb hl
 simp [h]
theorem noLoopFiling:Tryz.prog.loopsFrom 41=false:=loops_no [41,39,92,90,155,89,153,88,151,87,149,86,147,38,37,102,5,3,36,98,26,24,22,76,4,9] (by kernel_rfl)
end Go.Proofs.YtgnggldjjjkogaaGreatDoor
