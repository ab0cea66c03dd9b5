/- What stays when an answer is written over: what stands in older blocks; answers in new blocks; what is left of them. The steps over package rat that say that answers are new. -/
import Derived.Test.YtpmhjieibebclaaGreatDoorCJ
import Derived.Test.YtpmhjieibebclaaGreatDoorCH
import Derived.Test.YtpmhjieibebclaaGreatDoorCE
import Derived.Test.YtpmhjieibebclaaGreatDoorCG
set_option linter.unusedSimpArgs false
set_option linter.unusedVariables false
namespace Go.Proofs.YtpmhjieibebclaaGreatDoor
open Go Go.RowKit
variable {w w':World} {X:List Nat} {B c n b:Nat} {e:TypeId} {v:Value} {A:Option Addr} {l:List Oper} {ks:List (Option (Nat×Bool))} {T:aa}
def above (B:Nat) (w:World):List Nat:=(List.range w.heap.size).filter (fun b=>decide (B≤b))
theorem eF:b∈above B w↔b<w.heap.size∧B≤b:=by simp [above]
def aa.und (B:Nat) (T:aa):aa:=⟨fun X w v=>B≤w.heap.size∧T.holds (X++above B w) w v,fun ⟨hB,h⟩ hk hX=>⟨Nat.le_trans hB hk.size,T.stable h ⟨hk.size,fun b hb hx=>hk.block b hb (fun h=>hx (List.mem_append_left _ h))⟩ (fun b hb hlt=>by
 rcases List.mem_append.1 hb with hb|hb
 ·exact List.mem_append_left _ (hX b hb hlt)
 ·exact List.mem_append_right _ (eF.2 ⟨hlt,(eF.1 hb).2⟩))⟩⟩
theorem ei(h:(aa.und B T).holds X w v):T.holds X w v:=T.stable h.2 (gr.rfl' _ _) (fun _ hb _=>List.mem_append_left _ hb)
instance {B k:Nat} {ag:Bool} {T:aa} [z:aL T k ag]:aL (.und B T) k ag:=⟨fun h=>z.ok (ei h)⟩
instance {B off k:Nat} {ag:Bool} {T T':aa} [p:ai T off k ag T']:ai (.und B T) off k ag (.und B T'):=⟨p.one,fun {X w v} h=>by
 obtain ⟨hB,h⟩:=h
 obtain ⟨cs,h1,h2,h3⟩:=p.ok h
 exact ⟨cs,h1,h2,fun u hu hu'=>⟨hB,h3 u hu hu'⟩⟩⟩
instance {B L:Nat} {q:Rat} {T:aa} [a:mq T q L]:mq (.und B T) q L:=⟨fun h=>a.ok (ei h)⟩
instance {B:Nat} {x:aR} {T:aa} [a:Ht T x]:Ht (.und B T) x:=⟨fun h=>a.ok (ei h)⟩
instance {B L:Nat} {q:Rat} {T:aa} [a:BD T q L]:BD (.und B T) q L:=⟨fun h=>a.ok (ei h)⟩
class Dv (T:aa) (x:outParam aR) (L:outParam Nat):Prop where
 ok:∀ {X w v},T.holds X w v→(aa.qx x L).holds X w v
instance {x:aR} {L:Nat}:Dv (.qx x L) x L:=⟨fun h=>h⟩
instance {B L:Nat} {x:aR} {T:aa} [a:Dv T x L]:Dv (.und B T) x L:=⟨fun h=>a.ok (ei h)⟩
class Ja (L:List Loc) (B:outParam Nat):Prop where
 ok:∀ {w00:World} {X:List Nat} {w:World},vM w00 X L w→B≤w.heap.size
instance Ja.here {L:List Loc} {r B:Nat} {T:aa}:Ja ((r, .und B T)::L) B:=⟨fun h=>by obtain ⟨_,_,v,ty,h1,_⟩:=h.loc _ List.mem_cons_self;exact h1.1⟩
instance (priority:=low) Ja.there {L:List Loc} {p:Loc} {B:Nat} [k:Ja L B]:Ja (p::L) B:=⟨fun h=>k.ok ⟨fun p hp=>h.loc p (List.mem_cons_of_mem _ hp),h.far,by have:=h.nodup;rw [List.map_cons,List.nodup_cons] at this;exact this.2,h.below⟩⟩
def Sh (B:Nat) (X:List Nat) (w:World) (A:Option Addr) (n:Nat):Prop:=
 n≤9223372036854775807∧(0<n→∃ b off cs,A=some ⟨b,off,none⟩∧b<w.heap.size∧b ∉ X∧B≤b∧w.heap[b]? =some (.cells cs 115 (0,0))∧off+n≤cs.size)
def aa.jk (B:Nat):aa:=⟨fun X w v=>∃ s A n c s2 A2 n2 c2,v= .agg #[.bool s, .slice A n c, .bool s2, .slice A2 n2 c2]∧Sh B X w A n∧Sh B X w A2 n2,fun {X X' w w' v} ⟨s,A,n,c,s2,A2,n2,c2,e,h1,h2⟩ hk hX=>by
 have key:∀ {A:Option Addr} {n:Nat},Sh B X w A n→Sh B X' w' A n:=fun {A n} h=>⟨h.1,fun hn=>by
  obtain ⟨b,off,cs,e,g1,g2,g3,g4,g5⟩:=h.2 hn
  exact ⟨b,off,cs,e,Nat.lt_of_lt_of_le g1 hk.size,fun hb=>g2 (hX b hb g1),g3,(hk.block b g1 g2).trans g4,g5⟩⟩
 exact ⟨s,A,n,c,s2,A2,n2,c2,e,key h1,key h2⟩⟩
instance {B:Nat}:aL (.jk B) 4 true:=⟨fun {X w v} ⟨s,A,n,c,s2,A2,n2,c2,e,h1,h2⟩=>by rw [e];exact ⟨rfl,by simp [Value.cells,Value.oneCell'],fun _=>rfl,fun h=>by cases h⟩⟩
instance {B:Nat}:ai (.jk B) 0 4 true (.jk B):= .whole inferInstance
theorem FZ{xs:List Int} (h:Ce .u32 w (Ih B X w) A n c xs):Sh B X w A n:=by
 refine ⟨h.1.lenMax,fun hn=> ?_⟩
 obtain ⟨b,off,x,rfl,_,_,hc⟩:=h.1.at_ (j:=n - 1) qO
 obtain ⟨g1,g2,cs,g3⟩:=h.2 hn b rfl
 refine ⟨b,off,cs,rfl,g1.1,g1.2,g2,g3,?_⟩
 unfold World.cell? at hc
 simp only [g3] at hc
 have:=(Array.getElem?_eq_some_iff.1 (show cs[off+(n - 1)]? =some _ from by simpa using hc)).1
 omega
theorem u7{p:aR→Prop} (h:(aa.nw p B).holds X w v):(aa.jk B).holds X w v:=by
 obtain ⟨x,hp,cs,rfl,c1,c2,rfl,h1,h2⟩:=h
 obtain ⟨A,n,c,rfl,s1,_⟩:=b9.1 h1
 obtain ⟨A2,n2,c2,rfl,s2,_⟩:=b9.1 h2
 exact ⟨x.1.1,A,n,c,x.2.1,A2,n2,c2,rfl,FZ s1,FZ s2⟩
structure Sp (B:Nat) (X:List Nat) (w w':World):Prop where
 os:w'.os=w.os
 tape:w'.tape=w.tape
 output:w'.output=w.output
 size:w.heap.size≤w'.heap.size
 block:∀ b,b<w.heap.size→w'.heap[b]? =w.heap[b]? ∨(B≤b∧b ∉ X∧∃ cs cs':Array Value,w.heap[b]? =some (.cells cs 115 (0,0))∧w'.heap[b]? =some (.cells cs' 115 (0,0))∧cs'.size=cs.size)
theorem Sp.refl (B:Nat) (X:List Nat) (w:World):Sp B X w w:=⟨rfl,rfl,rfl,Nat.le_refl _,fun _ _=> .inl rfl⟩
theorem Sp.alloc {B:Nat} {X:List Nat} {w w':World} (h:Sp B X w w') (o:Obj):Sp B X w (w'.alloc o):=by
 refine ⟨h.os,h.tape,h.output,Nat.le_trans h.size qE,fun b hb=> ?_⟩
 rw [Below.heap_alloc _ _ _ (Nat.lt_of_lt_of_le hb h.size)]
 exact h.block b hb
theorem Sp.cells{cs:Array Value} (h:Sp B X w w') (hb:b<w.heap.size) (hc:w.heap[b]? =some (.cells cs 115 (0,0))):∃ cs':Array Value,w'.heap[b]? =some (.cells cs' 115 (0,0))∧cs'.size=cs.size:=by
 rcases h.block b hb with e|⟨_,_,c0,c1,e0,e1,e2⟩
 ·exact ⟨cs,e.trans hc,rfl⟩
 ·rw [hc] at e0
  injection e0 with e0
  injection e0 with e0
  subst e0
  exact ⟨c1,e1,e2⟩
theorem pk{j:Nat} {cs:Array Value} {t:TypeId} {f:Nat×Nat} (v:Value) (h:w.heap[b]? =some (.cells cs t f)):(w.setCell ⟨b,j,none⟩ v).heap[b]? =some (.cells (cs.setIfInBounds j v) t f):=by
 simp only [World.setCell,Array.getElem?_modify,h]
 simp
theorem Sp.set{j:Nat} {cs:Array Value} (h:Sp B X w w') (hb:b<w.heap.size) (hB:B≤b) (hX:b ∉ X) (hc:w.heap[b]? =some (.cells cs 115 (0,0))) (v:Value):Sp B X w (w'.setCell ⟨b,j,none⟩ v):=by
 refine ⟨h.os,h.tape,h.output,Nat.le_trans h.size (by simp [World.setCell]),fun i hi=> ?_⟩
 by_cases e:i=b
 ·subst e
  obtain ⟨c1,e1,e2⟩:=h.cells hi hc
  exact .inr ⟨hB,hX,cs,_,hc,pk v e1,by simp [e2]⟩
 ·rw [Below.heap_setCell _ _ _ _ e]
  exact h.block i hi
theorem Sh.sp(h:Sh B X w A n) (hs:Sp B X w w'):Sh B X w' A n:=⟨h.1,fun hn=>by
 obtain ⟨b,off,cs,e,g1,g2,g3,g4,g5⟩:=h.2 hn
 obtain ⟨c1,e1,e2⟩:=hs.cells g1 g4
 exact ⟨b,off,c1,e,Nat.lt_of_lt_of_le g1 hs.size,g2,g3,e1,by omega⟩⟩
theorem Sh.at(h:Sh B X w A n) (hs:Sp B X w w') {k:Nat} (hk:k<n):∃ b off cs x,A=some ⟨b,off,none⟩∧b<w.heap.size∧B≤b∧b ∉ X∧w.heap[b]? =some (.cells cs 115 (0,0))∧w'.cell? ⟨b,off+k,none⟩=some x∧w'.frozen? ⟨b,off+k,none⟩=false:=by
 obtain ⟨b,off,cs,e,g1,g2,g3,g4,g5⟩:=h.2 qO
 obtain ⟨c1,e1,e2⟩:=hs.cells g1 g4
 have hlt:off+k<c1.size:=qO
 refine ⟨b,off,cs,c1[off+k],e,g1,g3,g2,g4,?_,?_⟩
 ·unfold World.cell?
  simp [e1,hlt]
 ·unfold World.frozen?
  simp [e1]
section
variable {w00:World} {N:Nat} {L:List Loc} {E:List (Nat×aa)} {d:Nat} {t0:TypeId} {pos:String} {af:Array Edge} {gd:Option (Nat×Bool)} {ats:Array TypeId}
end
section
variable {P:Program} {w00:World} {N:Nat} {L:List Loc} {E:List (Nat×aa)} {d:Nat} {t0:TypeId} {pos:String} {af:Array Edge} {gd:Option (Nat×Bool)} {ats:Array TypeId}
end
section
variable {w00:World} {N:Nat} {L:List Loc} {E:List (Nat×aa)} {d:Nat} {t0:TypeId} {pos:String} {af:Array Edge} {gd:Option (Nat×Bool)} {ats:Array TypeId}
theorem zi {o0:Operand} {T0:aa} {x:aR} {L0:Nat} [bD E o0 T0] [a0:Dv T0 x L0] (hE:cK w00) (hb:L0≤90):au Tryz.prog w00 N L E ⟨some d, .call { callee:= .value (.func 75),args:= #[o0],argTypes:=ats },t0,pos,af,gd⟩ (.is (.bool (jB x))):=
 pm Cz fun X w v0 hX _ hB h0=>Cm (hE.below hB) hX (a0.ok h0) hb
theorem y5 {o0:Operand} {T0:aa} {x:aR} {L0:Nat} [bD E o0 T0] [a0:Dv T0 x L0] (hb:L0≤1000):au Tryz.prog w00 N L E ⟨some d, .call { callee:= .value (.func 110),args:= #[o0],argTypes:=ats },t0,pos,af,gd⟩ (.is (.bool (jB x))):=
 pm uE fun X w v0 hX _ _ h0=>vV hX (a0.ok h0) hb
end
class lw (B:Nat) (T:aa) (T':outParam aa):Prop where
 ok:∀ {X:List Nat} {w w':World} {v:Value},T.holds X w v→Sp B X w w'→T'.holds X w' v
instance {B:Nat} {c:Value}:lw B (.is c) (.is c):=⟨fun h _=>h⟩
instance {B:Nat} {T:aa}:lw B (.und B T) (.und B T):=⟨fun {X w w' v} ⟨hB,h⟩ hs=>⟨Nat.le_trans hB hs.size,T.stable h ⟨hs.size,fun b hb hx=>by
 rcases hs.block b hb with e|⟨g,_⟩
 ·exact e
 ·exact absurd (List.mem_append_right _ (eF.2 ⟨hb,g⟩)) hx⟩ (fun b hb hlt=>by
 rcases List.mem_append.1 hb with hb|hb
 ·exact List.mem_append_left _ hb
 ·exact List.mem_append_right _ (eF.2 ⟨hlt,(eF.1 hb).2⟩))⟩⟩
instance lw.jk {B:Nat}:lw B (.jk B) (.jk B):=⟨fun {X w w' v} ⟨s,A,n,c,s2,A2,n2,c2,e,h1,h2⟩ hs=>⟨s,A,n,c,s2,A2,n2,c2,e,h1.sp hs,h2.sp hs⟩⟩
instance {B:Nat} {p:aR→Prop}:lw B (.nw p B) (.jk B):=⟨fun h hs=>lw.jk.ok (u7 h) hs⟩
instance {B L:Nat} {q:Rat}:lw B (.qn q L B) (.jk B):=⟨fun h hs=>lw.jk.ok (u7 h) hs⟩
instance {B L:Nat} {q:Rat}:lw B (.qg q L B) (.jk B):=⟨fun h hs=>lw.jk.ok (u7 h) hs⟩
class uM (B:Nat) (L:List Loc) (L':outParam (List Loc)):Prop where
 keys:L'.map Prod.fst=L.map Prod.fst
 ok:∀ p∈L',∃ T,(p.1,T)∈L∧∀ {X:List Nat} {w w':World} {v:Value},T.holds X w v→Sp B X w w'→p.2.holds X w' v
instance uM.nil {B:Nat}:uM B [] []:=⟨rfl,fun _ h=>by cases h⟩
instance uM.cons {B r:Nat} {L L':List Loc} {T T':aa} [a:lw B T T'] [k:uM B L L']:uM B ((r,T)::L) ((r,T')::L'):=⟨by rw [List.map_cons,List.map_cons,k.keys],fun p hp=>by
 rcases List.mem_cons.1 hp with rfl|hp
 ·exact ⟨T,List.mem_cons_self,a.ok⟩
 ·obtain ⟨U,h1,h2⟩:=k.ok p hp
  exact ⟨U,List.mem_cons_of_mem _ h1,h2⟩⟩
class JO (T:aa) (B:Nat):Prop where
 ok:∀ {X w v},T.holds X w v→(aa.jk B).holds X w v
instance {B:Nat}:JO (.jk B) B:=⟨fun h=>h⟩
instance {B L:Nat} {q:Rat}:JO (.qn q L B) B:=⟨u7⟩
instance {B L:Nat} {q:Rat}:JO (.qg q L B) B:=⟨u7⟩
section
variable {w00 w:World} {X:List Nat} {L L':List Loc} {E E':List (Nat×aa)} {n:Nat} {a:Act} {Q:Exit→Act→World→Prop} {ops:Array Oper} {rest:List Oper}
end
def kD (e:TypeId) (X:List Nat) (w:World) (b:Nat):Prop:=cU X w b∧∃ cs t f,w.heap[b]? =some (.cells cs t f)∧t≠e
theorem kD.mono{X':List Nat} (hk:gr X w w') (hX:∀ b∈X',b<w.heap.size→b∈X) (b:Nat) (h:kD e X w b):kD e X' w' b:=by
 obtain ⟨h1,cs,t,f,h3,h4⟩:=h
 exact ⟨cU.mono hk hX b h1,cs,t,f,(hk.block b h1.1 h1.2).trans h3,h4⟩
theorem Rp.upK{α:Type} (r:Rp α) {X':List Nat} {a:α} {cs:List Value} (h:r.rd w (kD e X w) a cs) (hk:gr X w w') (hX:∀ b∈X',b<w.heap.size→b∈X):r.rd w' (kD e X' w') a cs:=
 r.more (r.keep h fun b hb=>hk.block b hb.1.1 hb.1.2) (kD.mono hk hX)
theorem Rp.unK{α:Type} (r:Rp α) {a:α} {cs:List Value} (h:r.rd w (kD e X w) a cs):r.rd w (cU X w) a cs:=r.more h fun _ hb=>hb.1
theorem cS.same{sz:Nat} {vs:List Value} (h:cS sz e w B A n c vs) (hk:∀ g,fh A=some g→w'.heap[g]? =w.heap[g]?):cS sz e w' B A n c vs:=by
 refine ⟨h.1,?_⟩
 rcases h.2 with h1|⟨g,cap,cur,h1,h2,h3,h4⟩
 ·exact .inl h1
 ·refine .inr ⟨g,cap,cur,h1,h2,(hk g ?_).trans h3,h4⟩
  injection h1 with h1
  rw [h1];rfl
theorem cS.type{sz:Nat} {vs:List Value} (h:cS sz e w B A n c vs) {g:Nat} (hg:fh A=some g):∃ cur,w.heap[g]? =some (.cells cur e (0,0)):=by
 rcases h.2 with ⟨h1,_⟩|⟨g',cap,cur,h1,h2,h3,h4⟩
 ·injection h1 with h1
  rw [h1] at hg;cases hg
 ·injection h1 with h1
  rw [h1] at hg
  injection hg with hg
  subst hg
  exact ⟨cur,h3⟩
def aa.kx {α:Type} (r:Rp α) (e:TypeId) (p:α→Prop) (a:α):aa:=⟨fun X w v=>p a∧∃ cs:List Value,v= .agg cs.toArray∧r.rd w (kD e X w) a cs,fun ⟨hp,cs,e,h⟩ hk hX=>⟨hp,cs,e,r.upK h hk hX⟩⟩
def aa.r1 {α:Type} (r:Rp α) (e:TypeId) (p:α→Prop) (a:α):aa:=⟨fun X w v=>p a∧∃ b o cs,v= .slice (some ⟨b,o,none⟩) 1 1∧cU X w b∧w.rangeAt b o cs∧r.rd w (kD e X w) a cs,
 fun ⟨hp,b,o,cs,e,hb,h1,h2⟩ hk hX=>⟨hp,b,o,cs,e,cU.mono hk hX b hb,gu h1 (hk.block b hb.1 hb.2),r.upK h2 hk hX⟩⟩
def aa.ow {α:Type} (r:Rp α) (e:TypeId) (p:α→Prop) (B:Nat) (l:List α):aa:=⟨fun X w v=>∃ (A:Option Addr) (c:Nat) (ps:List (α×List Value)),v= .slice A l.length c∧ps.map Prod.fst=l∧(∀ q∈ps,p q.1∧r.rd w (kD e X w) q.1 q.2)∧cS r.k e w B A l.length c (ps.flatMap Prod.snd)∧(∀ g,fh A=some g→cU X w g)∧(l=[]→A=none),
 fun ⟨A,c,ps,h1,h2,h3,h4,h5,h6⟩ hk hX=>⟨A,c,ps,h1,h2,fun q hq=>⟨(h3 q hq).1,r.upK (h3 q hq).2 hk hX⟩,h4.same fun g hg=>hk.block g (h5 g hg).1 (h5 g hg).2,fun g hg=>cU.mono hk hX g (h5 g hg),h6⟩⟩
instance {α:Type} {r:Rp α} {e:TypeId} {p:α→Prop} {B:Nat} {l:List α}:aL (.ow r e p B l) 1 false:=⟨fun {X w v} ⟨A,c,ps,h1,_⟩=>by rw [h1];exact ⟨rfl,by simp [Value.cells,Value.oneCell'],(fun h=>by cases h),fun _=>rfl⟩⟩
theorem iX {α:Type} {k:Nat}:∀ {ps:List (α×List Value)} (hl:∀ q∈ps,q.2.length=k) {j i:Nat} {q:α×List Value} {u:Value},ps[j]? =some q→q.2[i]? =some u→(ps.flatMap Prod.snd)[j*k+i]? =some u
 |[],_,_,_,_,_,h,_=>by simp at h
 |q0::ps,hl,0,i,q,u,h,hu=>by
  have e:q0=q:=by simpa using h
  subst e
  rw [List.flatMap_cons,Nat.zero_mul,Nat.zero_add,List.getElem?_append_left (List.getElem?_eq_some_iff.1 hu).1]
  exact hu
 |q0::ps,hl,j+1,i,q,u,h,hu=>by
  have h0:=hl q0 List.mem_cons_self
  rw [List.flatMap_cons,List.getElem?_append_right (by rw [h0,Nat.succ_mul];omega),h0]
  have:=iX (fun q hq=>hl q (List.mem_cons_of_mem _ hq)) (show ps[j]? =some q by simpa using h) hu
  rw [show (j+1)*k+i - k=j*k+i by rw [Nat.succ_mul];omega]
  exact this
theorem F9{α:Type} {r:Rp α} {p:α→Prop} {l:List α} (h:(aa.ow r e p B l).holds X w v):(aa.rw r p l).holds X w v:=by
 obtain ⟨A,c,ps,rfl,rfl,h3,h4,h5,_⟩:=h
 refine ⟨fun a ha=> ?_,A,_,c,rfl,rfl,?_⟩
 ·obtain ⟨q,hq,rfl⟩:=List.mem_map.1 ha
  exact (h3 q hq).1
 ·obtain ⟨g1,g2,g3,g4,g5⟩:=h4.sl
  refine ⟨g2,g3,g4,fun hn=> ?_⟩
  obtain ⟨b,off,rfl,hb,hc⟩:=g5 hn
  refine ⟨b,off,rfl,h5 b rfl,fun j a ha=> ?_⟩
  rw [List.getElem?_map] at ha
  cases hq:ps[j]? with
  |none=>rw [hq] at ha;cases ha
  |some q=>
   rw [hq] at ha
   obtain rfl:q.1=a:=by simpa using ha
   refine ⟨q.2,fun i u hu=> ?_,r.unK (h3 q (List.mem_of_getElem? hq)).2⟩
   have:=hc (j*r.k+i) u (iX (fun q hq=>r.len (h3 q hq).2) hq hu)
   rw [Nat.add_assoc]
   exact this
structure Ch (B:Nat) (X:List Nat) (w w':World):Prop where
 os:w'.os=w.os
 tape:w'.tape=w.tape
 output:w'.output=w.output
 size:w.heap.size≤w'.heap.size
 block:∀ b,b<w.heap.size→w'.heap[b]? =w.heap[b]? ∨(B≤b∧b ∉ X)
class mo (B:Nat) (T:aa):Prop where
 ok:∀ {X:List Nat} {w w':World} {v:Value},T.holds X w v→Ch B X w w'→T.holds X w' v
instance {B:Nat} {c:Value}:mo B (.is c):=⟨fun h _=>h⟩
instance {B:Nat} {T:aa}:mo B (.und B T):=⟨fun {X w w' v} ⟨hB,h⟩ hs=>⟨Nat.le_trans hB hs.size,T.stable h ⟨hs.size,fun b hb hx=>by
 rcases hs.block b hb with e|⟨g,_⟩
 ·exact e
 ·exact absurd (List.mem_append_right _ (eF.2 ⟨hb,g⟩)) hx⟩ (fun b hb hlt=>by
 rcases List.mem_append.1 hb with hb|hb
 ·exact List.mem_append_left _ hb
 ·exact List.mem_append_right _ (eF.2 ⟨hlt,(eF.1 hb).2⟩))⟩⟩
class mw (B:Nat) (L:List Loc):Prop where
 ok:∀ p∈L,∀ {X:List Nat} {w w':World} {v:Value},p.2.holds X w v→Ch B X w w'→p.2.holds X w' v
instance mw.nil {B:Nat}:mw B []:=⟨fun _ h=>by cases h⟩
instance mw.cons {B r:Nat} {L:List Loc} {T:aa} [a:mo B T] [k:mw B L]:mw B ((r,T)::L):=⟨fun p hp=>by
 rcases List.mem_cons.1 hp with rfl|hp
 ·exact a.ok
 ·exact k.ok p hp⟩
section
variable {P:Program} {w00 w:World} {X:List Nat} {L:List Loc} {E E0:List (Nat×aa)} {n:Nat} {a:Act} {Q:Exit→Act→World→Prop} {ops:Array Oper} {rest:List Oper}
theorem TS.ch(h:TS w00 X L E n a w) (hs:Ch B X w w') (hB:w00.heap.size≤B) [kL:mw B L] [kE:mw B E]:TS w00 X L E n a w':=by
 refine ⟨h.size,h.df,fun p hp=>kE.ok p hp (h.slots p hp) hs,⟨fun p hp=> ?_,fun b hb=>Nat.lt_of_lt_of_le (h.mem.far b hb) hs.size,h.mem.nodup,?_⟩⟩
 ·obtain ⟨g1,g2,v,ty,g3,g4⟩:=h.mem.loc p hp
  refine ⟨g1,g2,v,ty,kL.ok p hp g3 hs,?_⟩
  rcases hs.block p.1 (h.mem.far _ g1) with e|⟨_,g⟩
  ·exact e.trans g4
  ·exact absurd g1 g
 ·refine h.mem.below.trans ⟨hs.os,hs.tape,hs.output,hs.size,fun b hb=> ?_⟩
  rcases hs.block b (Nat.lt_of_lt_of_le hb h.mem.below.size) with e|⟨g,_⟩
  ·exact e
  ·omega
theorem TS.cast{s:Nat} {T':aa} (h:TS w00 X L ((s,T)::E) n a w) (hT:∀ X w v,T.holds X w v→T'.holds X w v):TS w00 X L ((s,T')::E) n a w:=⟨h.size,h.df,fun p hp=>by
 rcases List.mem_cons.1 hp with rfl|hp
 ·exact hT _ _ _ (h.slots _ List.mem_cons_self)
 ·exact h.slots p (List.mem_cons_of_mem _ hp),h.mem⟩
end
abbrev aa.kq (x:aR) (L:Nat):aa:= .kx Rp.frac 38 (b6 L) x
abbrev aa.kn (x:fa) (L:Nat):aa:= .kx Rp.num 38 (fun y=>y.2.length≤L) x
abbrev aa.kr (x:aR) (L:Nat):aa:= .r1 Rp.frac 38 (b6 L) x
theorem t9{α:Type} {r:Rp α} {p:α→Prop} {a:α} (h:(aa.kx r e p a).holds X w v):(aa.ex r (fun y=>y=a∧p y)).holds X w v:=by
 obtain ⟨hp,cs,rfl,h⟩:=h
 exact ⟨a,⟨rfl,hp⟩,cs,rfl,r.unK h⟩
instance {α:Type} {r:Rp α} {e:TypeId} {p:α→Prop} {a:α}:aL (.kx r e p a) r.k true:=⟨fun h=>(inferInstance:aL (.ex r _) r.k true).ok (t9 h)⟩
instance {α:Type} {r:Rp α} {e:TypeId} {p:α→Prop} {a:α}:aL (.r1 r e p a) 1 false:=⟨fun {X w v} ⟨_,b,o,cs,h,_⟩=>by rw [h];exact ⟨rfl,by simp [Value.cells,Value.oneCell'],(fun h=>by cases h),fun _=>rfl⟩⟩
instance {e:TypeId} {p:aR→Prop} {x:aR}:aL (.kx Rp.frac e p x) 4 true:=inferInstanceAs (aL (.kx Rp.frac e p x) Rp.frac.k true)
class Hy {α:outParam Type} (T:aa) (r:outParam (Rp α)) (p:outParam (α→Prop)) (l:outParam (List α)):Prop where
 ok:∀ {X w v},T.holds X w v→(aa.rw r p l).holds X w v
instance {α:Type} {r:Rp α} {p:α→Prop} {l:List α}:Hy (.rw r p l) r p l:=⟨fun h=>h⟩
instance {α:Type} {r:Rp α} {p:α→Prop} {l:List α} {T:aa} {B:Nat} [a:Hy T r p l]:Hy (.und B T) r p l:=⟨fun h=>a.ok (ei h)⟩
instance {α:Type} {r:Rp α} {e:TypeId} {p:α→Prop} {B:Nat} {l:List α}:Hy (.ow r e p B l) r p l:=⟨F9⟩
instance {p:aR→Prop} {x:aR}:Ht (.el Rp.frac p x) x:=⟨fun ⟨y,h,g⟩=>⟨y,h.1,g⟩⟩
theorem Fc{l:List aR} {p p':aR→Prop} (h:(aa.rw Rp.frac p l).holds X w v) (hp:∀ x∈l,p' x):(aa.rw Rp.frac p' l).holds X w v:=⟨hp,h.2⟩
section
variable {w00:World} {N:Nat} {L:List Loc} {E:List (Nat×aa)} {d:Nat} {t0:TypeId} {pos:String} {af:Array Edge} {gd:Option (Nat×Bool)} {ats:Array TypeId}
end
theorem bH.type{k:IntKind} {xs:List Int} (h:bH k e w B A n c xs) {g:Nat} (hg:fh A=some g):∃ cur,w.heap[g]? =some (.cells cur e (0,0)):=by
 rcases h.2 with ⟨h1,_⟩|⟨g',cap,cur,h1,h2,h3,h4⟩
 ·injection h1 with h1
  rw [h1] at hg;cases hg
 ·injection h1 with h1
  rw [h1] at hg
  injection hg with hg
  subst hg
  exact ⟨cur,h3⟩
section
variable {w00:World} {N:Nat} {L:List Loc} {E:List (Nat×aa)} {d:Nat} {t0:TypeId} {pos:String} {af:Array Edge} {gd:Option (Nat×Bool)} {ats:Array TypeId}
end
section
variable {w00:World} {N:Nat} {L:List Loc} {E:List (Nat×aa)} {d:Nat} {t0:TypeId} {pos:String} {af:Array Edge} {gd:Option (Nat×Bool)} {ats:Array TypeId}
class JI (T:aa) (y:outParam aR) (K:outParam Nat):Prop where
 ok:∀ {X w v},T.holds X w v→(aa.kr y K).holds X w v
instance {y:aR} {K:Nat}:JI (.kr y K) y K:=⟨fun h=>h⟩
instance {y:aR} {K B:Nat} {T:aa} [a:JI T y K]:JI (.und B T) y K:=⟨fun h=>a.ok (ei h)⟩
end
instance {L:Nat} {l:List aR}:Hy (.rq L l) Rp.frac (b6 L) l:=⟨fun h=>h⟩
instance {B L:Nat} {qs:List Rat} {T:aa} [a:Jz T qs L]:Jz (.und B T) qs L:=⟨fun h=>a.ok (ei h)⟩
def aa.nany:aa:=aa.ex Rp.num (fun _=>True)
def aa.qany:aa:=aa.ex Rp.frac (fun _=>True)
def aa.rany (n:Nat):aa:=⟨fun X w v=>∃ l:List aR,l.length=n∧(aa.rw Rp.frac (fun _=>True) l).holds X w v,fun ⟨l,e,h⟩ hk hX=>⟨l,e,(aa.rw Rp.frac (fun _=>True) l).stable h hk hX⟩⟩
class Ji (T:aa):Prop where
 ok:∀ {X w v},T.holds X w v→aa.nany.holds X w v
theorem Fb{p:fa→Prop} (h:(aa.ex Rp.num p).holds X w v):aa.nany.holds X w v:=⟨h.choose,trivial,h.choose_spec.2⟩
instance:Ji .nany:=⟨fun h=>h⟩
instance {N:Int} {L:Nat}:Ji (.nc N L):=⟨Fb⟩
class Hq (T:aa):Prop where
 ok:∀ {X w v},T.holds X w v→aa.qany.holds X w v
theorem yk{p:aR→Prop} (h:(aa.ex Rp.frac p).holds X w v):aa.qany.holds X w v:=⟨h.choose,trivial,h.choose_spec.2⟩
instance:Hq .qany:=⟨fun h=>h⟩
instance {q:Rat} {L:Nat}:Hq (.qc q L):=⟨yk⟩
instance {p:aR→Prop} {x:aR}:Hq (.el Rp.frac p x):=⟨yk⟩
class GH (T:aa):Prop where
 ok:∀ {X w v},T.holds X w v→∃ n,(aa.rany n).holds X w v
instance {n:Nat}:GH (.rany n):=⟨fun h=>⟨n,h⟩⟩
instance {qs:List Rat} {L:Nat}:GH (.rv qs L):=⟨fun ⟨l,_,h⟩=>⟨l.length,l,rfl,Fc (p:=b6 L) h fun _ _=>trivial⟩⟩
instance:GH (.is (.slice none 0 0)):=⟨fun {X w v} h=>⟨0,[],rfl,by
 obtain rfl:v=_:=h
 exact ⟨(fun _ h=>by cases h),none,0,0,rfl,rfl,Nat.le_refl _,Nat.zero_le _,fun _=>rfl,fun h=>absurd h qO⟩⟩⟩
section
variable {w00:World} {N:Nat} {L:List Loc} {E:List (Nat×aa)} {d:Nat} {t0:TypeId} {pos:String} {af:Array Edge} {gd:Option (Nat×Bool)} {ats:Array TypeId}
end
section
variable {w00:World} {N:Nat} {L:List Loc} {E:List (Nat×aa)} {d:Nat} {t0:TypeId} {pos:String} {af:Array Edge} {gd:Option (Nat×Bool)} {ats:Array TypeId}
end
section
variable {w00:World} {N:Nat} {L:List Loc} {E:List (Nat×aa)} {d:Nat} {t0:TypeId} {pos:String} {af:Array Edge} {gd:Option (Nat×Bool)} {ats:Array TypeId}
end
theorem yK:bc Tryz.prog 25 Rp.num:=bc.pair Tryz.underlying25 (bc.bool Tryz.underlying4 qK) (bc.limbs Tryz.underlying23 Tryz.underlying115 qK qK) rfl rfl qK
theorem fD:bc Tryz.prog 27 Rp.frac:=bc.pair Tryz.underlying27 yK yK rfl rfl qK
theorem qr{P:Program} {f:FuncId} {args:Array Value} (h:Calls P f args w (bj X w (.is (.bool true)))):Calls P f args w fun e w'=>e= .returned (.bool true)∧Below w.heap.size w w':=
 h.mono fun _ _ ⟨_,h1,h2,h3⟩=>⟨by rw [h1,show _=_ from h2],h3⟩
structure ma where
 slot:Nat
 bnd:Nat
 ty:(Nat→Nat)→aa
def ma.at (β:Nat→Nat) (e:ma):Nat×aa:=(e.slot,e.ty β)
def IL (β:Nat→Nat) (c:Nat):Prop:=∀ i,i<c→β i≤β (i+1)
def ma.ok (e:ma):Prop:=∀ β β':Nat→Nat,(∀ i,i≤e.bnd→β i=β' i)→e.ty β=e.ty β'
def ma.fix (d:Nat) (T:aa):ma:=⟨d,0,fun _=>T⟩
def ma.cal (d c:Nat) (T:Nat→aa):ma:=⟨d,c+1,fun β=> .und (β (c+1)) (T (β c))⟩
inductive mB (P:Program) (w00:World) (L:List Loc):Nat→List ma→List Oper→List ma→List (Option (Nat×Bool))→Prop
 |nil {c:Nat} {F:List ma}:mB P w00 L c F [] F []
 |step {c:Nat} {F F':List ma} {o:Oper} {os:List Oper} {ks:List (Option (Nat×Bool))} {d:Nat} {T:aa} (h:∀ β,au P w00 0 L (F.map (ma.at β)) o T) (hd:o.dst=some d) (t:mB P w00 L c (ma.fix d T::F) os F' ks):mB P w00 L c F (o::os) F' (none::ks)
 |call {c:Nat} {F F':List ma} {o:Oper} {os:List Oper} {ks:List (Option (Nat×Bool))} {d:Nat} {T:Nat→aa} (h:∀ β,au P w00 (β c) L (F.map (ma.at β)) o (T (β c))) (hd:o.dst=some d) (t:mB P w00 L (c+1) (ma.cal d c T::F) os F' ks):mB P w00 L c F (o::os) F' (some (c,true)::ks)
 |dep {c:Nat} {F F':List ma} {o:Oper} {os:List Oper} {ks:List (Option (Nat×Bool))} {d:Nat} {T:(Nat→Nat)→aa} (h:∀ β,IL β (c+1)→au P w00 0 L (F.map (ma.at β)) o (T β)) (ho:∀ β β':Nat→Nat,(∀ i,i≤c+1→β i=β' i)→T β=T β') (hd:o.dst=some d) (t:mB P w00 L (c+1) (⟨d,c+1,T⟩::F) os F' ks):mB P w00 L (c+1) F (o::os) F' (some (c,false)::ks)
section
variable {P:Program} {w00:World} {X:List Nat} {L:List Loc} {n:Nat} {Q:Exit→Act→World→Prop}
def JY (P:Program) (w00:World) (L:List Loc) (F:List ma) (o:Oper):Option (Nat×Bool)→Prop
 |none=>∃ d T,o.dst=some d∧ma.fix d T∈F∧∀ β,au P w00 0 L (F.map (ma.at β)) o T
 |some (c,true)=>∃ d T,o.dst=some d∧ma.cal d c T∈F∧∀ β,au P w00 (β c) L (F.map (ma.at β)) o (T (β c))
 |some (c,false)=>∃ d T,o.dst=some d∧(⟨d,c+1,T⟩:ma)∈F∧(∀ β β':Nat→Nat,(∀ i,i≤c+1→β i=β' i)→T β=T β')∧∀ β,IL β (c+1)→au P w00 0 L (F.map (ma.at β)) o (T β)
theorem au.moreN{N:Nat} {E E':List (Nat×aa)} {o:Oper} (h:au P w00 N L E o T) (hs:∀ p∈E,p∈E'):au P w00 N L E' o T:=⟨fun X ρ w hc hf hN hm hsl=>h.run X ρ w hc hf hN hm fun p hp=>hsl p (hs p hp)⟩
theorem xB {F F':List ma} (h:∀ e∈F,e∈F') (β:Nat→Nat):∀ p∈F.map (ma.at β),p∈F'.map (ma.at β):=fun p hp=>by
 obtain ⟨e,he,rfl⟩:=List.mem_map.1 hp
 exact List.mem_map.2 ⟨e,h e he,rfl⟩
theorem mB.sub{F F':List ma} (h:mB P w00 L c F l F' ks):∀ e∈F,e∈F':=by
 induction h with
 |nil=>exact fun _ h=>h
 |step _ _ _ ih=>exact fun p hp=>ih p (List.mem_cons_of_mem _ hp)
 |call _ _ _ ih=>exact fun p hp=>ih p (List.mem_cons_of_mem _ hp)
 |dep _ _ _ _ ih=>exact fun p hp=>ih p (List.mem_cons_of_mem _ hp)
theorem mB.len{F F':List ma} (h:mB P w00 L c F l F' ks):ks.length=l.length:=by
 induction h with
 |nil=>rfl
 |step _ _ _ ih=>simp [ih]
 |call _ _ _ ih=>simp [ih]
 |dep _ _ _ _ ih=>simp [ih]
theorem mB.new{F F':List ma} (h:mB P w00 L c F l F' ks):∀ e∈F',e∈F∨∃ o∈l,o.dst=some e.slot:=by
 induction h with
 |nil=>exact fun _ h=> .inl h
 |step _ hd _ ih=>
  intro p hp
  rcases ih p hp with h|⟨q,h,h'⟩
  ·rcases List.mem_cons.1 h with rfl|h
   ·exact .inr ⟨_,List.mem_cons_self,hd⟩
   ·exact .inl h
  ·exact .inr ⟨q,List.mem_cons_of_mem _ h,h'⟩
 |call _ hd _ ih=>
  intro p hp
  rcases ih p hp with h|⟨q,h,h'⟩
  ·rcases List.mem_cons.1 h with rfl|h
   ·exact .inr ⟨_,List.mem_cons_self,hd⟩
   ·exact .inl h
  ·exact .inr ⟨q,List.mem_cons_of_mem _ h,h'⟩
 |dep _ _ hd _ ih=>
  intro p hp
  rcases ih p hp with h|⟨q,h,h'⟩
  ·rcases List.mem_cons.1 h with rfl|h
   ·exact .inr ⟨_,List.mem_cons_self,hd⟩
   ·exact .inl h
  ·exact .inr ⟨q,List.mem_cons_of_mem _ h,h'⟩
theorem mB.at{F F':List ma} (h:mB P w00 L c F l F' ks):∀ (i:Nat) (o:Oper) (k:Option (Nat×Bool)),l[i]? =some o→ks[i]? =some k→JY P w00 L F' o k:=by
 induction h with
 |nil=>intro i o k h;simp at h
 | @step c F F' o os ks d T hs hd t ih=>
  intro i o' k h1 h2
  cases i with
  |zero=>
   obtain rfl:o=o':=by simpa using h1
   obtain rfl:none=k:=by simpa using h2
   exact ⟨d,T,hd,t.sub _ List.mem_cons_self,fun β=>(hs β).moreN (xB (fun e he=>t.sub e (List.mem_cons_of_mem _ he)) β)⟩
  |succ i=>exact ih i o' k (by simpa using h1) (by simpa using h2)
 | @call c F F' o os ks d T hs hd t ih=>
  intro i o' k h1 h2
  cases i with
  |zero=>
   obtain rfl:o=o':=by simpa using h1
   obtain rfl:some (c,true)=k:=by simpa using h2
   exact ⟨d,T,hd,t.sub _ List.mem_cons_self,fun β=>(hs β).moreN (xB (fun e he=>t.sub e (List.mem_cons_of_mem _ he)) β)⟩
  |succ i=>exact ih i o' k (by simpa using h1) (by simpa using h2)
 | @dep c F F' o os ks d T hs ho hd t ih=>
  intro i o' k h1 h2
  cases i with
  |zero=>
   obtain rfl:o=o':=by simpa using h1
   obtain rfl:some (c,false)=k:=by simpa using h2
   exact ⟨d,T,hd,t.sub _ List.mem_cons_self,ho,fun β hu=>(hs β hu).moreN (xB (fun e he=>t.sub e (List.mem_cons_of_mem _ he)) β)⟩
  |succ i=>exact ih i o' k (by simpa using h1) (by simpa using h2)
end
end Go.Proofs.YtpmhjieibebclaaGreatDoor
