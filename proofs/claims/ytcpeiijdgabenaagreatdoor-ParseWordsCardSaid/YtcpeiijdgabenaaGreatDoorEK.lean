/- What stays when an answer is written over: what stands in older blocks; answers in new blocks; what is left of them. The steps over package rat that say that answers are new. -/
import Derived.Test.YtcpeiijdgabenaaGreatDoorEJ
import Derived.Test.YtcpeiijdgabenaaGreatDoorEH
import Derived.Test.YtcpeiijdgabenaaGreatDoorEE
import Derived.Test.YtcpeiijdgabenaaGreatDoorEG
set_option maxRecDepth 20000
set_option linter.unusedSimpArgs false
set_option linter.unusedVariables false
namespace Go.Proofs.YtcpeiijdgabenaaGreatDoor
open Go Go.RowKit
variable {w w':World} {X:List Nat} {B n b c:Nat} {e:TypeId} {v:Value} {A:Option Addr} {T:ai}
def above (B:Nat) (w:World):List Nat:=(List.range w.heap.size).filter (fun b=>decide (B≤b))
theorem di:b∈above B w↔b<w.heap.size∧B≤b:=by simp [above]
def ai.und (B:Nat) (T:ai):ai:=⟨fun X w v=>B≤w.heap.size∧T.holds (X++above B w) w v,fun ⟨hB,h⟩ hk hX=>⟨Nat.le_trans hB hk.size,T.stable h ⟨hk.size,fun b hb hx=>hk.block b hb (fun h=>hx (List.mem_append_left _ h))⟩ (fun b hb hlt=>by
 rcases List.mem_append.1 hb with hb|hb
 ·exact List.mem_append_left _ (hX b hb hlt)
 ·exact List.mem_append_right _ (di.2 ⟨hlt,(di.1 hb).2⟩))⟩⟩
theorem eN(h:(ai.und B T).holds X w v):T.holds X w v:=T.stable h.2 (fV.rfl' _ _) (fun _ hb _=>List.mem_append_left _ hb)
instance {B k:Nat} {ag:Bool} {T:ai} [z:bi T k ag]:bi (.und B T) k ag:=⟨fun h=>z.ok (eN h)⟩
instance {B off k:Nat} {ag:Bool} {T T':ai} [p:az T off k ag T']:az (.und B T) off k ag (.und B T'):=⟨p.one,fun {X w v} h=>by
 obtain ⟨hB,h⟩:=h
 obtain ⟨cs,h1,h2,h3⟩:=p.ok h
 exact ⟨cs,h1,h2,fun u hu hu'=>⟨hB,h3 u hu hu'⟩⟩⟩
instance {B L:Nat} {q:Rat} {T:ai} [a:qV T q L]:qV (.und B T) q L:=⟨fun h=>a.ok (eN h)⟩
instance {B:Nat} {x:bA} {T:ai} [a:Gc T x]:Gc (.und B T) x:=⟨fun h=>a.ok (eN h)⟩
instance {B L:Nat} {q:Rat} {T:ai} [a:zk T q L]:zk (.und B T) q L:=⟨fun h=>a.ok (eN h)⟩
class Fx (T:ai) (x:outParam bA) (L:outParam Nat):Prop where
 ok:∀ {X w v},T.holds X w v→(ai.qx x L).holds X w v
instance {x:bA} {L:Nat}:Fx (.qx x L) x L:=⟨fun h=>h⟩
instance {B L:Nat} {x:bA} {T:ai} [a:Fx T x L]:Fx (.und B T) x L:=⟨fun h=>a.ok (eN h)⟩
class Ia (L:List Loc) (B:outParam Nat):Prop where
 ok:∀ {w00:World} {X:List Nat} {w:World},kO w00 X L w→B≤w.heap.size
instance Ia.here {L:List Loc} {r B:Nat} {T:ai}:Ia ((r, .und B T)::L) B:=⟨fun h=>by obtain ⟨_,_,v,ty,h1,_⟩:=h.loc _ List.mem_cons_self;exact h1.1⟩
instance (priority:=low) Ia.there {L:List Loc} {p:Loc} {B:Nat} [k:Ia L B]:Ia (p::L) B:=⟨fun h=>k.ok ⟨fun p hp=>h.loc p (List.mem_cons_of_mem _ hp),h.far,by have:=h.nodup;rw [List.map_cons,List.nodup_cons] at this;exact this.2,h.below⟩⟩
def Sh (B:Nat) (X:List Nat) (w:World) (A:Option Addr) (n:Nat):Prop:=
 n≤9223372036854775807∧(0<n→∃ b off cs,A=some ⟨b,off,none⟩∧b<w.heap.size∧b ∉ X∧B≤b∧w.heap[b]? =some (.cells cs 128 (0,0))∧off+n≤cs.size)
def ai.jk (B:Nat):ai:=⟨fun X w v=>∃ s A n c s2 A2 n2 c2,v= .agg #[.bool s, .slice A n c, .bool s2, .slice A2 n2 c2]∧Sh B X w A n∧Sh B X w A2 n2,fun {X X' w w' v} ⟨s,A,n,c,s2,A2,n2,c2,e,h1,h2⟩ hk hX=>by
 have key:∀ {A:Option Addr} {n:Nat},Sh B X w A n→Sh B X' w' A n:=fun {A n} h=>⟨h.1,fun hn=>by
  obtain ⟨b,off,cs,e,g1,g2,g3,g4,g5⟩:=h.2 hn
  exact ⟨b,off,cs,e,Nat.lt_of_lt_of_le g1 hk.size,fun hb=>g2 (hX b hb g1),g3,(hk.block b g1 g2).trans g4,g5⟩⟩
 exact ⟨s,A,n,c,s2,A2,n2,c2,e,key h1,key h2⟩⟩
instance {B:Nat}:bi (.jk B) 4 true:=⟨fun {X w v} ⟨s,A,n,c,s2,A2,n2,c2,e,h1,h2⟩=>by rw [e];exact ⟨rfl,by simp [Value.cells,Value.oneCell'],fun _=>rfl,fun h=>by cases h⟩⟩
instance {B:Nat}:az (.jk B) 0 4 true (.jk B):= .whole inferInstance
theorem EL{xs:List Int} (h:Av .u32 w (GA B X w) A n c xs):Sh B X w A n:=by
 refine ⟨h.1.lenMax,fun hn=> ?_⟩
 obtain ⟨b,off,x,rfl,_,_,hc⟩:=h.1.at_ (j:=n - 1) qO
 obtain ⟨g1,g2,cs,g3⟩:=h.2 hn b rfl
 refine ⟨b,off,cs,rfl,g1.1,g1.2,g2,g3,?_⟩
 unfold World.cell? at hc
 simp only [g3] at hc
 have:=(Array.getElem?_eq_some_iff.1 (show cs[off+(n - 1)]? =some _ from by simpa using hc)).1
 omega
theorem uR{p:bA→Prop} (h:(ai.nw p B).holds X w v):(ai.jk B).holds X w v:=by
 obtain ⟨x,hp,cs,rfl,c1,c2,rfl,h1,h2⟩:=h
 obtain ⟨A,n,c,rfl,s1,_⟩:=dc.1 h1
 obtain ⟨A2,n2,c2,rfl,s2,_⟩:=dc.1 h2
 exact ⟨x.1.1,A,n,c,x.2.1,A2,n2,c2,rfl,EL s1,EL s2⟩
structure Sp (B:Nat) (X:List Nat) (w w':World):Prop where
 os:w'.os=w.os
 tape:w'.tape=w.tape
 output:w'.output=w.output
 size:w.heap.size≤w'.heap.size
 block:∀ b,b<w.heap.size→w'.heap[b]? =w.heap[b]? ∨(B≤b∧b ∉ X∧∃ cs cs':Array Value,w.heap[b]? =some (.cells cs 128 (0,0))∧w'.heap[b]? =some (.cells cs' 128 (0,0))∧cs'.size=cs.size)
theorem Sp.refl (B:Nat) (X:List Nat) (w:World):Sp B X w w:=⟨rfl,rfl,rfl,Nat.le_refl _,fun _ _=> .inl rfl⟩
theorem Sp.alloc {B:Nat} {X:List Nat} {w w':World} (h:Sp B X w w') (o:Obj):Sp B X w (w'.alloc o):=by
 refine ⟨h.os,h.tape,h.output,Nat.le_trans h.size qE,fun b hb=> ?_⟩
 rw [Below.heap_alloc _ _ _ (Nat.lt_of_lt_of_le hb h.size)]
 exact h.block b hb
theorem Sp.cells{cs:Array Value} (h:Sp B X w w') (hb:b<w.heap.size) (hc:w.heap[b]? =some (.cells cs 128 (0,0))):∃ cs':Array Value,w'.heap[b]? =some (.cells cs' 128 (0,0))∧cs'.size=cs.size:=by
 rcases h.block b hb with e|⟨_,_,c0,c1,e0,e1,e2⟩
 ·exact ⟨cs,e.trans hc,rfl⟩
 ·rw [hc] at e0
  injection e0 with e0
  injection e0 with e0
  subst e0
  exact ⟨c1,e1,e2⟩
theorem kC{j:Nat} {cs:Array Value} {t:TypeId} {f:Nat×Nat} (v:Value) (h:w.heap[b]? =some (.cells cs t f)):(w.setCell ⟨b,j,none⟩ v).heap[b]? =some (.cells (cs.setIfInBounds j v) t f):=by
 simp only [World.setCell,Array.getElem?_modify,h]
 simp
theorem Sp.set{j:Nat} {cs:Array Value} (h:Sp B X w w') (hb:b<w.heap.size) (hB:B≤b) (hX:b ∉ X) (hc:w.heap[b]? =some (.cells cs 128 (0,0))) (v:Value):Sp B X w (w'.setCell ⟨b,j,none⟩ v):=by
 refine ⟨h.os,h.tape,h.output,Nat.le_trans h.size (by simp [World.setCell]),fun i hi=> ?_⟩
 by_cases e:i=b
 ·subst e
  obtain ⟨c1,e1,e2⟩:=h.cells hi hc
  exact .inr ⟨hB,hX,cs,_,hc,kC v e1,by simp [e2]⟩
 ·rw [Below.heap_setCell _ _ _ _ e]
  exact h.block i hi
theorem Sh.sp(h:Sh B X w A n) (hs:Sp B X w w'):Sh B X w' A n:=⟨h.1,fun hn=>by
 obtain ⟨b,off,cs,e,g1,g2,g3,g4,g5⟩:=h.2 hn
 obtain ⟨c1,e1,e2⟩:=hs.cells g1 g4
 exact ⟨b,off,c1,e,Nat.lt_of_lt_of_le g1 hs.size,g2,g3,e1,by omega⟩⟩
theorem Sh.at(h:Sh B X w A n) (hs:Sp B X w w') {k:Nat} (hk:k<n):∃ b off cs x,A=some ⟨b,off,none⟩∧b<w.heap.size∧B≤b∧b ∉ X∧w.heap[b]? =some (.cells cs 128 (0,0))∧w'.cell? ⟨b,off+k,none⟩=some x∧w'.frozen? ⟨b,off+k,none⟩=false:=by
 obtain ⟨b,off,cs,e,g1,g2,g3,g4,g5⟩:=h.2 qO
 obtain ⟨c1,e1,e2⟩:=hs.cells g1 g4
 have hlt:off+k<c1.size:=qO
 refine ⟨b,off,cs,c1[off+k],e,g1,g3,g2,g4,?_,?_⟩
 ·unfold World.cell?
  simp [e1,hlt]
 ·unfold World.frozen?
  simp [e1]
section
variable {w00:World} {N:Nat} {L:List Loc} {E:List (Nat×ai)} {d:Nat} {t0:TypeId} {pos:String} {af:Array Edge} {gd:Option (Nat×Bool)} {ats:Array TypeId}
end
section
variable {P:Program} {w00:World} {N:Nat} {L:List Loc} {E:List (Nat×ai)} {d:Nat} {t0:TypeId} {pos:String} {af:Array Edge} {gd:Option (Nat×Bool)} {ats:Array TypeId}
end
section
variable {w00:World} {N:Nat} {L:List Loc} {E:List (Nat×ai)} {d:Nat} {t0:TypeId} {pos:String} {af:Array Edge} {gd:Option (Nat×Bool)} {ats:Array TypeId}
theorem ip {o0 o1:Operand} {x y:Bool} {t1:TypeId} {u:Bool} [h0:b_ E o0 (.is (.bool x))] [h1:b_ E o1 (.is (.bool y))] (hu:(x != y)=u):aR Tryz.prog w00 N L E ⟨some d, .binOp .neq 4 o0 o1 t1,t0,pos,af,gd⟩ (.is (.bool u)):=by
 constructor
 intro X ρ w hc _ hN hm hsl
 have e0:ρ o0= .bool x:=h0.get (X:=X) (w:=w) hc fun p hp e=>hsl p hp qS
 have e1:ρ o1= .bool y:=h1.get (X:=X) (w:=w) hc fun p hp e=>hsl p hp qS
 clear hc hsl h0 h1
 unfold Yields
 have hb:=Tryz.underlying4
 subst hu
 cases x<;>cases y<;>go_simp<;>exact ⟨rfl,Below.refl _ _⟩
theorem gu {o0:Operand} {T0:ai} {x:bA} {L0:Nat} [b_ E o0 T0] [a0:Fx T0 x L0] (hE:g9 w00) (hb:L0≤90):aR Tryz.prog w00 N L E ⟨some d, .call { callee:= .value (.func 212),args:= #[o0],argTypes:=ats },t0,pos,af,gd⟩ (.is (.bool (pO x))):=
 vL AZ fun X w v0 hX _ hB h0=>AH (hE.below hB) hX (a0.ok h0) hb
end
class lg (B:Nat) (T:ai) (T':outParam ai):Prop where
 ok:∀ {X:List Nat} {w w':World} {v:Value},T.holds X w v→Sp B X w w'→T'.holds X w' v
instance {B:Nat} {c:Value}:lg B (.is c) (.is c):=⟨fun h _=>h⟩
instance {B:Nat} {T:ai}:lg B (.und B T) (.und B T):=⟨fun {X w w' v} ⟨hB,h⟩ hs=>⟨Nat.le_trans hB hs.size,T.stable h ⟨hs.size,fun b hb hx=>by
 rcases hs.block b hb with e|⟨g,_⟩
 ·exact e
 ·exact absurd (List.mem_append_right _ (di.2 ⟨hb,g⟩)) hx⟩ (fun b hb hlt=>by
 rcases List.mem_append.1 hb with hb|hb
 ·exact List.mem_append_left _ hb
 ·exact List.mem_append_right _ (di.2 ⟨hlt,(di.1 hb).2⟩))⟩⟩
instance lg.jk {B:Nat}:lg B (.jk B) (.jk B):=⟨fun {X w w' v} ⟨s,A,n,c,s2,A2,n2,c2,e,h1,h2⟩ hs=>⟨s,A,n,c,s2,A2,n2,c2,e,h1.sp hs,h2.sp hs⟩⟩
instance {B:Nat} {p:bA→Prop}:lg B (.nw p B) (.jk B):=⟨fun h hs=>lg.jk.ok (uR h) hs⟩
instance {B L:Nat} {q:Rat}:lg B (.qn q L B) (.jk B):=⟨fun h hs=>lg.jk.ok (uR h) hs⟩
instance {B L:Nat} {q:Rat}:lg B (.qg q L B) (.jk B):=⟨fun h hs=>lg.jk.ok (uR h) hs⟩
class uG (B:Nat) (L:List Loc) (L':outParam (List Loc)):Prop where
 keys:L'.map Prod.fst=L.map Prod.fst
 ok:∀ p∈L',∃ T,(p.1,T)∈L∧∀ {X:List Nat} {w w':World} {v:Value},T.holds X w v→Sp B X w w'→p.2.holds X w' v
instance uG.nil {B:Nat}:uG B [] []:=⟨rfl,fun _ h=>by cases h⟩
instance uG.cons {B r:Nat} {L L':List Loc} {T T':ai} [a:lg B T T'] [k:uG B L L']:uG B ((r,T)::L) ((r,T')::L'):=⟨by rw [List.map_cons,List.map_cons,k.keys],fun p hp=>by
 rcases List.mem_cons.1 hp with rfl|hp
 ·exact ⟨T,List.mem_cons_self,a.ok⟩
 ·obtain ⟨U,h1,h2⟩:=k.ok p hp
  exact ⟨U,List.mem_cons_of_mem _ h1,h2⟩⟩
class I6 (T:ai) (B:Nat):Prop where
 ok:∀ {X w v},T.holds X w v→(ai.jk B).holds X w v
instance {B:Nat}:I6 (.jk B) B:=⟨fun h=>h⟩
instance {B L:Nat} {q:Rat}:I6 (.qn q L B) B:=⟨uR⟩
instance {B L:Nat} {q:Rat}:I6 (.qg q L B) B:=⟨uR⟩
section
variable {w00 w:World} {X:List Nat} {L L':List Loc} {E E':List (Nat×ai)} {n:Nat} {a:Act} {Q:Exit→Act→World→Prop} {ops:Array Oper} {rest:List Oper}
end
def i0 (e:TypeId) (X:List Nat) (w:World) (b:Nat):Prop:=cZ X w b∧∃ cs t f,w.heap[b]? =some (.cells cs t f)∧t≠e
theorem i0.mono{X':List Nat} (hk:fV X w w') (hX:∀ b∈X',b<w.heap.size→b∈X) (b:Nat) (h:i0 e X w b):i0 e X' w' b:=by
 obtain ⟨h1,cs,t,f,h3,h4⟩:=h
 exact ⟨cZ.mono hk hX b h1,cs,t,f,(hk.block b h1.1 h1.2).trans h3,h4⟩
theorem Rp.upK{α:Type} (r:Rp α) {X':List Nat} {a:α} {cs:List Value} (h:r.rd w (i0 e X w) a cs) (hk:fV X w w') (hX:∀ b∈X',b<w.heap.size→b∈X):r.rd w' (i0 e X' w') a cs:=
 r.more (r.keep h fun b hb=>hk.block b hb.1.1 hb.1.2) (i0.mono hk hX)
theorem Rp.unK{α:Type} (r:Rp α) {a:α} {cs:List Value} (h:r.rd w (i0 e X w) a cs):r.rd w (cZ X w) a cs:=r.more h fun _ hb=>hb.1
theorem dt.same{sz:Nat} {vs:List Value} (h:dt sz e w B A n c vs) (hk:∀ g,fC A=some g→w'.heap[g]? =w.heap[g]?):dt sz e w' B A n c vs:=by
 refine ⟨h.1,?_⟩
 rcases h.2 with h1|⟨g,cap,cur,h1,h2,h3,h4⟩
 ·exact .inl h1
 ·refine .inr ⟨g,cap,cur,h1,h2,(hk g ?_).trans h3,h4⟩
  injection h1 with h1
  rw [h1];rfl
theorem dt.type{sz:Nat} {vs:List Value} (h:dt sz e w B A n c vs) {g:Nat} (hg:fC A=some g):∃ cur,w.heap[g]? =some (.cells cur e (0,0)):=by
 rcases h.2 with ⟨h1,_⟩|⟨g',cap,cur,h1,h2,h3,h4⟩
 ·injection h1 with h1
  rw [h1] at hg;cases hg
 ·injection h1 with h1
  rw [h1] at hg
  injection hg with hg
  subst hg
  exact ⟨cur,h3⟩
def ai.kx {α:Type} (r:Rp α) (e:TypeId) (p:α→Prop) (a:α):ai:=⟨fun X w v=>p a∧∃ cs:List Value,v= .agg cs.toArray∧r.rd w (i0 e X w) a cs,fun ⟨hp,cs,e,h⟩ hk hX=>⟨hp,cs,e,r.upK h hk hX⟩⟩
def ai.r1 {α:Type} (r:Rp α) (e:TypeId) (p:α→Prop) (a:α):ai:=⟨fun X w v=>p a∧∃ b o cs,v= .slice (some ⟨b,o,none⟩) 1 1∧cZ X w b∧w.rangeAt b o cs∧r.rd w (i0 e X w) a cs,
 fun ⟨hp,b,o,cs,e,hb,h1,h2⟩ hk hX=>⟨hp,b,o,cs,e,cZ.mono hk hX b hb,iK h1 (hk.block b hb.1 hb.2),r.upK h2 hk hX⟩⟩
def ai.ow {α:Type} (r:Rp α) (e:TypeId) (p:α→Prop) (B:Nat) (l:List α):ai:=⟨fun X w v=>∃ (A:Option Addr) (c:Nat) (ps:List (α×List Value)),v= .slice A l.length c∧ps.map Prod.fst=l∧(∀ q∈ps,p q.1∧r.rd w (i0 e X w) q.1 q.2)∧dt r.k e w B A l.length c (ps.flatMap Prod.snd)∧(∀ g,fC A=some g→cZ X w g)∧(l=[]→A=none),
 fun ⟨A,c,ps,h1,h2,h3,h4,h5,h6⟩ hk hX=>⟨A,c,ps,h1,h2,fun q hq=>⟨(h3 q hq).1,r.upK (h3 q hq).2 hk hX⟩,h4.same fun g hg=>hk.block g (h5 g hg).1 (h5 g hg).2,fun g hg=>cZ.mono hk hX g (h5 g hg),h6⟩⟩
instance {α:Type} {r:Rp α} {e:TypeId} {p:α→Prop} {B:Nat} {l:List α}:bi (.ow r e p B l) 1 false:=⟨fun {X w v} ⟨A,c,ps,h1,_⟩=>by rw [h1];exact ⟨rfl,by simp [Value.cells,Value.oneCell'],(fun h=>by cases h),fun _=>rfl⟩⟩
theorem wO{α:Type} {r:Rp α} {p:α→Prop} (h:(ai.is (.slice none 0 0)).holds X w v):(ai.ow r e p B []).holds X w v:=by
 obtain rfl:v=_:=h
 exact ⟨none,0,[],rfl,rfl,(fun _ h=>by cases h),dt.nil,(fun g hg=>by cases hg),fun _=>rfl⟩
theorem j0 {α:Type} {k:Nat}:∀ {ps:List (α×List Value)} (hl:∀ q∈ps,q.2.length=k) {j i:Nat} {q:α×List Value} {u:Value},ps[j]? =some q→q.2[i]? =some u→(ps.flatMap Prod.snd)[j*k+i]? =some u
 |[],_,_,_,_,_,h,_=>by simp at h
 |q0::ps,hl,0,i,q,u,h,hu=>by
  have e:q0=q:=by simpa using h
  subst e
  rw [List.flatMap_cons,Nat.zero_mul,Nat.zero_add,List.getElem?_append_left (List.getElem?_eq_some_iff.1 hu).1]
  exact hu
 |q0::ps,hl,j+1,i,q,u,h,hu=>by
  have h0:=hl q0 List.mem_cons_self
  rw [List.flatMap_cons,List.getElem?_append_right (by rw [h0,Nat.succ_mul];omega),h0]
  have:=j0 (fun q hq=>hl q (List.mem_cons_of_mem _ hq)) (show ps[j]? =some q by simpa using h) hu
  rw [show (j+1)*k+i - k=j*k+i by rw [Nat.succ_mul];omega]
  exact this
theorem EX{α:Type} {r:Rp α} {p:α→Prop} {l:List α} (h:(ai.ow r e p B l).holds X w v):(ai.rw r p l).holds X w v:=by
 obtain ⟨A,c,ps,rfl,rfl,h3,h4,h5,_⟩:=h
 refine ⟨fun a ha=> ?_,A,_,c,rfl,rfl,?_⟩
 ·obtain ⟨q,hq,rfl⟩:=List.mem_map.1 ha
  exact (h3 q hq).1
 ·obtain ⟨g1,g2,g3,g4,g5⟩:=h4.sl
  refine ⟨g2,g3,g4,fun hn=> ?_⟩
  obtain ⟨b,off,rfl,hb,hc⟩:=g5 hn
  refine ⟨b,off,rfl,h5 b rfl,fun j a ha=> ?_⟩
  rw [List.getElem?_map] at ha
  cases hq:ps[j]? with
  |none=>rw [hq] at ha;cases ha
  |some q=>
   rw [hq] at ha
   obtain rfl:q.1=a:=by simpa using ha
   refine ⟨q.2,fun i u hu=> ?_,r.unK (h3 q (List.mem_of_getElem? hq)).2⟩
   have:=hc (j*r.k+i) u (j0 (fun q hq=>r.len (h3 q hq).2) hq hu)
   rw [Nat.add_assoc]
   exact this
structure Ch (B:Nat) (X:List Nat) (w w':World):Prop where
 os:w'.os=w.os
 tape:w'.tape=w.tape
 output:w'.output=w.output
 size:w.heap.size≤w'.heap.size
 block:∀ b,b<w.heap.size→w'.heap[b]? =w.heap[b]? ∨(B≤b∧b ∉ X)
class li (B:Nat) (T:ai):Prop where
 ok:∀ {X:List Nat} {w w':World} {v:Value},T.holds X w v→Ch B X w w'→T.holds X w' v
instance {B:Nat} {c:Value}:li B (.is c):=⟨fun h _=>h⟩
instance {B:Nat} {T:ai}:li B (.und B T):=⟨fun {X w w' v} ⟨hB,h⟩ hs=>⟨Nat.le_trans hB hs.size,T.stable h ⟨hs.size,fun b hb hx=>by
 rcases hs.block b hb with e|⟨g,_⟩
 ·exact e
 ·exact absurd (List.mem_append_right _ (di.2 ⟨hb,g⟩)) hx⟩ (fun b hb hlt=>by
 rcases List.mem_append.1 hb with hb|hb
 ·exact List.mem_append_left _ hb
 ·exact List.mem_append_right _ (di.2 ⟨hlt,(di.1 hb).2⟩))⟩⟩
class ki (B:Nat) (L:List Loc):Prop where
 ok:∀ p∈L,∀ {X:List Nat} {w w':World} {v:Value},p.2.holds X w v→Ch B X w w'→p.2.holds X w' v
instance ki.nil {B:Nat}:ki B []:=⟨fun _ h=>by cases h⟩
instance ki.cons {B r:Nat} {L:List Loc} {T:ai} [a:li B T] [k:ki B L]:ki B ((r,T)::L):=⟨fun p hp=>by
 rcases List.mem_cons.1 hp with rfl|hp
 ·exact a.ok
 ·exact k.ok p hp⟩
section
variable {P:Program} {w00 w:World} {X:List Nat} {L:List Loc} {E E0:List (Nat×ai)} {n:Nat} {a:Act} {Q:Exit→Act→World→Prop} {ops:Array Oper} {rest:List Oper}
theorem TS.ch(h:TS w00 X L E n a w) (hs:Ch B X w w') (hB:w00.heap.size≤B) [kL:ki B L] [kE:ki B E]:TS w00 X L E n a w':=by
 refine ⟨h.size,h.df,fun p hp=>kE.ok p hp (h.slots p hp) hs,⟨fun p hp=> ?_,fun b hb=>Nat.lt_of_lt_of_le (h.mem.far b hb) hs.size,h.mem.nodup,?_⟩⟩
 ·obtain ⟨g1,g2,v,ty,g3,g4⟩:=h.mem.loc p hp
  refine ⟨g1,g2,v,ty,kL.ok p hp g3 hs,?_⟩
  rcases hs.block p.1 (h.mem.far _ g1) with e|⟨_,g⟩
  ·exact e.trans g4
  ·exact absurd g1 g
 ·refine h.mem.below.trans ⟨hs.os,hs.tape,hs.output,hs.size,fun b hb=> ?_⟩
  rcases hs.block b (Nat.lt_of_lt_of_le hb h.mem.below.size) with e|⟨g,_⟩
  ·exact e
  ·omega
theorem TS.cast{s:Nat} {T':ai} (h:TS w00 X L ((s,T)::E) n a w) (hT:∀ X w v,T.holds X w v→T'.holds X w v):TS w00 X L ((s,T')::E) n a w:=⟨h.size,h.df,fun p hp=>by
 rcases List.mem_cons.1 hp with rfl|hp
 ·exact hT _ _ _ (h.slots _ List.mem_cons_self)
 ·exact h.slots p (List.mem_cons_of_mem _ hp),h.mem⟩
end
abbrev ai.kq (x:bA) (L:Nat):ai:= .kx Rp.frac 28 (lN L) x
abbrev ai.kn (x:gp) (L:Nat):ai:= .kx Rp.num 28 (fun y=>y.2.length≤L) x
abbrev ai.kr (x:bA) (L:Nat):ai:= .r1 Rp.frac 28 (lN L) x
theorem tX{α:Type} {r:Rp α} {p:α→Prop} {a:α} (h:(ai.kx r e p a).holds X w v):(ai.ex r (fun y=>y=a∧p y)).holds X w v:=by
 obtain ⟨hp,cs,rfl,h⟩:=h
 exact ⟨a,⟨rfl,hp⟩,cs,rfl,r.unK h⟩
instance {α:Type} {r:Rp α} {e:TypeId} {p:α→Prop} {a:α}:bi (.kx r e p a) r.k true:=⟨fun h=>(inferInstance:bi (.ex r _) r.k true).ok (tX h)⟩
instance {α:Type} {r:Rp α} {e:TypeId} {p:α→Prop} {a:α}:bi (.r1 r e p a) 1 false:=⟨fun {X w v} ⟨_,b,o,cs,h,_⟩=>by rw [h];exact ⟨rfl,by simp [Value.cells,Value.oneCell'],(fun h=>by cases h),fun _=>rfl⟩⟩
instance {e:TypeId} {p:bA→Prop} {x:bA}:bi (.kx Rp.frac e p x) 4 true:=inferInstanceAs (bi (.kx Rp.frac e p x) Rp.frac.k true)
class EM {α:outParam Type} (T:ai) (r:outParam (Rp α)) (p:outParam (α→Prop)) (l:outParam (List α)):Prop where
 ok:∀ {X w v},T.holds X w v→(ai.rw r p l).holds X w v
instance {α:Type} {r:Rp α} {p:α→Prop} {l:List α}:EM (.rw r p l) r p l:=⟨fun h=>h⟩
instance {α:Type} {r:Rp α} {p:α→Prop} {l:List α} {T:ai} {B:Nat} [a:EM T r p l]:EM (.und B T) r p l:=⟨fun h=>a.ok (eN h)⟩
instance {α:Type} {r:Rp α} {e:TypeId} {p:α→Prop} {B:Nat} {l:List α}:EM (.ow r e p B l) r p l:=⟨EX⟩
instance {p:bA→Prop} {x:bA}:Gc (.el Rp.frac p x) x:=⟨fun ⟨y,h,g⟩=>⟨y,h.1,g⟩⟩
theorem DX{l:List bA} {p p':bA→Prop} (h:(ai.rw Rp.frac p l).holds X w v) (hp:∀ x∈l,p' x):(ai.rw Rp.frac p' l).holds X w v:=⟨hp,h.2⟩
section
variable {w00:World} {N:Nat} {L:List Loc} {E:List (Nat×ai)} {d:Nat} {t0:TypeId} {pos:String} {af:Array Edge} {gd:Option (Nat×Bool)} {ats:Array TypeId}
theorem js{α:Type} {r:Rp α} {p:α→Prop} {l:List α} {s k:Nat} {ty:TypeId} [ho:ce E s T] [aw:EM T r p l] [ht:cO Tryz.prog ty k]:aR Tryz.prog w00 N L E ⟨some d, .call { callee:= .builtin .len,args:= #[.tmp s],argTypes:= #[ty] },t0,pos,af,gd⟩ (.is (.int .i64 l.length)):=by
 constructor
 intro X ρ w hc _ hN hm hsl
 obtain ⟨_,A,n,c,e,h⟩:=aw.ok (hsl _ ho.mem qJ)
 have e1:ρ (.tmp s)= .slice A n c:=by simpa using e
 obtain ⟨el,hu,_⟩:=ht.ok
 have hl:=h.1
 clear hc hsl ho ht h e hm
 unfold Yields
 go_simp
 exact ⟨rfl,Below.refl _ _⟩
end
theorem cG.type{k:IntKind} {xs:List Int} (h:cG k e w B A n c xs) {g:Nat} (hg:fC A=some g):∃ cur,w.heap[g]? =some (.cells cur e (0,0)):=by
 rcases h.2 with ⟨h1,_⟩|⟨g',cap,cur,h1,h2,h3,h4⟩
 ·injection h1 with h1
  rw [h1] at hg;cases hg
 ·injection h1 with h1
  rw [h1] at hg
  injection hg with hg
  subst hg
  exact ⟨cur,h3⟩
section
variable {w00:World} {N:Nat} {L:List Loc} {E:List (Nat×ai)} {d:Nat} {t0:TypeId} {pos:String} {af:Array Edge} {gd:Option (Nat×Bool)} {ats:Array TypeId}
end
section
variable {w00:World} {N:Nat} {L:List Loc} {E:List (Nat×ai)} {d:Nat} {t0:TypeId} {pos:String} {af:Array Edge} {gd:Option (Nat×Bool)} {ats:Array TypeId}
class IX (T:ai) (y:outParam bA) (K:outParam Nat):Prop where
 ok:∀ {X w v},T.holds X w v→(ai.kr y K).holds X w v
instance {y:bA} {K:Nat}:IX (.kr y K) y K:=⟨fun h=>h⟩
instance {y:bA} {K B:Nat} {T:ai} [a:IX T y K]:IX (.und B T) y K:=⟨fun h=>a.ok (eN h)⟩
end
instance {L:Nat} {l:List bA}:EM (.rq L l) Rp.frac (lN L) l:=⟨fun h=>h⟩
instance {B L:Nat} {qs:List Rat} {T:ai} [a:IK T qs L]:IK (.und B T) qs L:=⟨fun h=>a.ok (eN h)⟩
def ai.nany:ai:=ai.ex Rp.num (fun _=>True)
def ai.qany:ai:=ai.ex Rp.frac (fun _=>True)
def ai.rany (n:Nat):ai:=⟨fun X w v=>∃ l:List bA,l.length=n∧(ai.rw Rp.frac (fun _=>True) l).holds X w v,fun ⟨l,e,h⟩ hk hX=>⟨l,e,(ai.rw Rp.frac (fun _=>True) l).stable h hk hX⟩⟩
class Iu (T:ai):Prop where
 ok:∀ {X w v},T.holds X w v→ai.nany.holds X w v
theorem DW{p:gp→Prop} (h:(ai.ex Rp.num p).holds X w v):ai.nany.holds X w v:=⟨h.choose,trivial,h.choose_spec.2⟩
instance:Iu .nany:=⟨fun h=>h⟩
instance {N:Int} {L:Nat}:Iu (.nc N L):=⟨DW⟩
class F_ (T:ai):Prop where
 ok:∀ {X w v},T.holds X w v→ai.qany.holds X w v
theorem xx{p:bA→Prop} (h:(ai.ex Rp.frac p).holds X w v):ai.qany.holds X w v:=⟨h.choose,trivial,h.choose_spec.2⟩
instance:F_ .qany:=⟨fun h=>h⟩
instance {q:Rat} {L:Nat}:F_ (.qc q L):=⟨xx⟩
instance {p:bA→Prop} {x:bA}:F_ (.el Rp.frac p x):=⟨xx⟩
class Fp (T:ai):Prop where
 ok:∀ {X w v},T.holds X w v→∃ n,(ai.rany n).holds X w v
instance {n:Nat}:Fp (.rany n):=⟨fun h=>⟨n,h⟩⟩
instance {qs:List Rat} {L:Nat}:Fp (.rv qs L):=⟨fun ⟨l,_,h⟩=>⟨l.length,l,rfl,DX (p:=lN L) h fun _ _=>trivial⟩⟩
instance:Fp (.is (.slice none 0 0)):=⟨fun {X w v} h=>⟨0,[],rfl,by
 obtain rfl:v=_:=h
 exact ⟨(fun _ h=>by cases h),none,0,0,rfl,rfl,Nat.le_refl _,Nat.zero_le _,fun _=>rfl,fun h=>absurd h qO⟩⟩⟩
theorem wG {z:Int} (h: -9223372036854775808≤z∧z≤9223372036854775807):IntKind.i64.wrap z=z:=by rw [IntKind.wrap_i64];omega
section
variable {w00:World} {N:Nat} {L:List Loc} {E:List (Nat×ai)} {d:Nat} {t0:TypeId} {pos:String} {af:Array Edge} {gd:Option (Nat×Bool)} {ats:Array TypeId}
end
section
variable {w00:World} {N:Nat} {L:List Loc} {E:List (Nat×ai)} {d:Nat} {t0:TypeId} {pos:String} {af:Array Edge} {gd:Option (Nat×Bool)} {ats:Array TypeId}
end
section
variable {w00:World} {N:Nat} {L:List Loc} {E:List (Nat×ai)} {d:Nat} {t0:TypeId} {pos:String} {af:Array Edge} {gd:Option (Nat×Bool)} {ats:Array TypeId}
end
theorem wz{P:Program} {f:FuncId} {args:Array Value} (h:Calls P f args w (cE X w (.is (.bool true)))):Calls P f args w fun e w'=>e= .returned (.bool true)∧Below w.heap.size w w':=
 h.mono fun _ _ ⟨_,h1,h2,h3⟩=>⟨by rw [h1,show _=_ from h2],h3⟩
end Go.Proofs.YtcpeiijdgabenaaGreatDoor
