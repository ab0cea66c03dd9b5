/- What stays when an answer is written over: what stands in older blocks; answers in new blocks; what is left of them. The steps over package rat that say that answers are new. -/
import Derived.Test.YtgnggldjjjkogaaGreatDoorGJ
import Derived.Test.YtgnggldjjjkogaaGreatDoorGH
import Derived.Test.YtgnggldjjjkogaaGreatDoorGE
import Derived.Test.YtgnggldjjjkogaaGreatDoorGG
set_option linter.unusedSimpArgs false
set_option linter.unusedVariables false
namespace Go.Proofs.YtgnggldjjjkogaaGreatDoor
open Go Go.RowKit
def above (B:Nat) (w:World):List Nat:=(List.range w.heap.size).filter (fun b=>decide (B≤b))
theorem mem_above {B:Nat} {w:World} {b:Nat}:b∈above B w↔b<w.heap.size∧B≤b:=by simp [above]
def VTy.und (B:Nat) (T:VTy):VTy:=⟨fun X w v=>B≤w.heap.size∧T.holds (X++above B w) w v,fun ⟨hB,h⟩ hk hX=>⟨Nat.le_trans hB hk.size,T.stable h ⟨hk.size,fun b hb hx=>hk.block b hb (fun h=>hx (List.mem_append_left _ h))⟩ (fun b hb hlt=>by
 rcases List.mem_append.1 hb with hb|hb
 ·exact List.mem_append_left _ (hX b hb hlt)
 ·exact List.mem_append_right _ (mem_above.2 ⟨hlt,(mem_above.1 hb).2⟩))⟩⟩
theorem und_weak {B:Nat} {T:VTy} {X:List Nat} {w:World} {v:Value} (h:(VTy.und B T).holds X w v):T.holds X w v:=T.stable h.2 (Keeps.rfl' _ _) (fun _ hb _=>List.mem_append_left _ hb)
instance {B k:Nat} {ag:Bool} {T:VTy} [z:SizeV T k ag]:SizeV (.und B T) k ag:=⟨fun h=>z.ok (und_weak h)⟩
instance {B off k:Nat} {ag:Bool} {T T':VTy} [p:PartC T off k ag T']:PartC (.und B T) off k ag (.und B T'):=⟨p.one,fun {X w v} h=>by
 obtain ⟨hB,h⟩:=h
 obtain ⟨cs,h1,h2,h3⟩:=p.ok h
 exact ⟨cs,h1,h2,fun u hu hu'=>⟨hB,h3 u hu hu'⟩⟩⟩
instance {B L:Nat} {q:Rat} {T:VTy} [a:AsQ T q L]:AsQ (.und B T) q L:=⟨fun h=>a.ok (und_weak h)⟩
instance {B:Nat} {x:RawQ} {T:VTy} [a:AsZ T x]:AsZ (.und B T) x:=⟨fun h=>a.ok (und_weak h)⟩
instance {B L:Nat} {q:Rat} {T:VTy} [a:AsC T q L]:AsC (.und B T) q L:=⟨fun h=>a.ok (und_weak h)⟩
class AsX (T:VTy) (x:outParam RawQ) (L:outParam Nat):Prop where
 ok:∀ {X w v},T.holds X w v→(VTy.qx x L).holds X w v
instance {x:RawQ} {L:Nat}:AsX (.qx x L) x L:=⟨fun h=>h⟩
instance {B L:Nat} {x:RawQ} {T:VTy} [a:AsX T x L]:AsX (.und B T) x L:=⟨fun h=>a.ok (und_weak h)⟩
class SzC (L:List Loc) (B:outParam Nat):Prop where
 ok:∀ {w00:World} {X:List Nat} {w:World},Mem w00 X L w→B≤w.heap.size
instance SzC.here {L:List Loc} {r B:Nat} {T:VTy}:SzC ((r, .und B T)::L) B:=⟨fun h=>by obtain ⟨_,_,v,ty,h1,_⟩:=h.loc _ List.mem_cons_self;exact h1.1⟩
instance (priority:=low) SzC.there {L:List Loc} {p:Loc} {B:Nat} [k:SzC L B]:SzC (p::L) B:=⟨fun h=>k.ok ⟨fun p hp=>h.loc p (List.mem_cons_of_mem _ hp),h.far,by have:=h.nodup;rw [List.map_cons,List.nodup_cons] at this;exact this.2,h.below⟩⟩
def Sh (B:Nat) (X:List Nat) (w:World) (A:Option Addr) (n:Nat):Prop:=
 n≤9223372036854775807∧(0<n→∃ b off cs,A=some ⟨b,off,none⟩∧b<w.heap.size∧b ∉ X∧B≤b∧w.heap[b]? =some (.cells cs 76 (0,0))∧off+n≤cs.size)
def VTy.jk (B:Nat):VTy:=⟨fun X w v=>∃ s A n c s2 A2 n2 c2,v= .agg #[.bool s, .slice A n c, .bool s2, .slice A2 n2 c2]∧Sh B X w A n∧Sh B X w A2 n2,fun {X X' w w' v} ⟨s,A,n,c,s2,A2,n2,c2,e,h1,h2⟩ hk hX=>by
 have key:∀ {A:Option Addr} {n:Nat},Sh B X w A n→Sh B X' w' A n:=fun {A n} h=>⟨h.1,fun hn=>by
  obtain ⟨b,off,cs,e,g1,g2,g3,g4,g5⟩:=h.2 hn
  exact ⟨b,off,cs,e,Nat.lt_of_lt_of_le g1 hk.size,fun hb=>g2 (hX b hb g1),g3,(hk.block b g1 g2).trans g4,g5⟩⟩
 exact ⟨s,A,n,c,s2,A2,n2,c2,e,key h1,key h2⟩⟩
instance {B:Nat}:SizeV (.jk B) 4 true:=⟨fun {X w v} ⟨s,A,n,c,s2,A2,n2,c2,e,h1,h2⟩=>by rw [e];exact ⟨rfl,by simp [Value.cells,Value.oneCell'],fun _=>rfl,fun h=>by cases h⟩⟩
instance {B:Nat}:PartC (.jk B) 0 4 true (.jk B):= .whole inferInstance
theorem sh_of {B:Nat} {X:List Nat} {w:World} {A:Option Addr} {n c:Nat} {xs:List Int} (h:SlF .u32 w (NewB B X w) A n c xs):Sh B X w A n:=by
 refine ⟨h.1.lenMax,fun hn=> ?_⟩
 obtain ⟨b,off,x,rfl,_,_,hc⟩:=h.1.at_ (j:=n - 1) (by omega)
 obtain ⟨g1,g2,cs,g3⟩:=h.2 hn b rfl
 refine ⟨b,off,cs,rfl,g1.1,g1.2,g2,g3,?_⟩
 unfold World.cell? at hc
 simp only [g3] at hc
 have:=(Array.getElem?_eq_some_iff.1 (show cs[off+(n - 1)]? =some _ from by simpa using hc)).1
 omega
theorem nw_jk {p:RawQ→Prop} {B:Nat} {X:List Nat} {w:World} {v:Value} (h:(VTy.nw p B).holds X w v):(VTy.jk B).holds X w v:=by
 obtain ⟨x,hp,cs,rfl,c1,c2,rfl,h1,h2⟩:=h
 obtain ⟨A,n,c,rfl,s1,_⟩:=num_rd.1 h1
 obtain ⟨A2,n2,c2,rfl,s2,_⟩:=num_rd.1 h2
 exact ⟨x.1.1,A,n,c,x.2.1,A2,n2,c2,rfl,sh_of s1,sh_of s2⟩
structure Sp (B:Nat) (X:List Nat) (w w':World):Prop where
 os:w'.os=w.os
 tape:w'.tape=w.tape
 output:w'.output=w.output
 size:w.heap.size≤w'.heap.size
 block:∀ b,b<w.heap.size→w'.heap[b]? =w.heap[b]? ∨(B≤b∧b ∉ X∧∃ cs cs':Array Value,w.heap[b]? =some (.cells cs 76 (0,0))∧w'.heap[b]? =some (.cells cs' 76 (0,0))∧cs'.size=cs.size)
theorem Sp.refl (B:Nat) (X:List Nat) (w:World):Sp B X w w:=⟨rfl,rfl,rfl,Nat.le_refl _,fun _ _=> .inl rfl⟩
theorem Sp.alloc {B:Nat} {X:List Nat} {w w':World} (h:Sp B X w w') (o:Obj):Sp B X w (w'.alloc o):=by
 refine ⟨h.os,h.tape,h.output,Nat.le_trans h.size (by simp),fun b hb=> ?_⟩
 rw [Below.heap_alloc _ _ _ (Nat.lt_of_lt_of_le hb h.size)]
 exact h.block b hb
theorem Sp.cells {B:Nat} {X:List Nat} {w w':World} {b:Nat} {cs:Array Value} (h:Sp B X w w') (hb:b<w.heap.size) (hc:w.heap[b]? =some (.cells cs 76 (0,0))):∃ cs':Array Value,w'.heap[b]? =some (.cells cs' 76 (0,0))∧cs'.size=cs.size:=by
 rcases h.block b hb with e|⟨_,_,c0,c1,e0,e1,e2⟩
 ·exact ⟨cs,e.trans hc,rfl⟩
 ·rw [hc] at e0
  injection e0 with e0
  injection e0 with e0
  subst e0
  exact ⟨c1,e1,e2⟩
theorem heap_setCell_at {w:World} {b j:Nat} {cs:Array Value} {t:TypeId} {f:Nat×Nat} (v:Value) (h:w.heap[b]? =some (.cells cs t f)):(w.setCell ⟨b,j,none⟩ v).heap[b]? =some (.cells (cs.setIfInBounds j v) t f):=by
 simp only [World.setCell,Array.getElem?_modify,h]
 simp
theorem Sp.set {B:Nat} {X:List Nat} {w w':World} {b j:Nat} {cs:Array Value} (h:Sp B X w w') (hb:b<w.heap.size) (hB:B≤b) (hX:b ∉ X) (hc:w.heap[b]? =some (.cells cs 76 (0,0))) (v:Value):Sp B X w (w'.setCell ⟨b,j,none⟩ v):=by
 refine ⟨h.os,h.tape,h.output,Nat.le_trans h.size (by simp [World.setCell]),fun i hi=> ?_⟩
 by_cases e:i=b
 ·subst e
  obtain ⟨c1,e1,e2⟩:=h.cells hi hc
  exact .inr ⟨hB,hX,cs,_,hc,heap_setCell_at v e1,by simp [e2]⟩
 ·rw [Below.heap_setCell _ _ _ _ e]
  exact h.block i hi
theorem Sh.sp {B:Nat} {X:List Nat} {w w':World} {A:Option Addr} {n:Nat} (h:Sh B X w A n) (hs:Sp B X w w'):Sh B X w' A n:=⟨h.1,fun hn=>by
 obtain ⟨b,off,cs,e,g1,g2,g3,g4,g5⟩:=h.2 hn
 obtain ⟨c1,e1,e2⟩:=hs.cells g1 g4
 exact ⟨b,off,c1,e,Nat.lt_of_lt_of_le g1 hs.size,g2,g3,e1,by omega⟩⟩
theorem Sh.at {B:Nat} {X:List Nat} {w w':World} {A:Option Addr} {n:Nat} (h:Sh B X w A n) (hs:Sp B X w w') {k:Nat} (hk:k<n):∃ b off cs x,A=some ⟨b,off,none⟩∧b<w.heap.size∧B≤b∧b ∉ X∧w.heap[b]? =some (.cells cs 76 (0,0))∧w'.cell? ⟨b,off+k,none⟩=some x∧w'.frozen? ⟨b,off+k,none⟩=false:=by
 obtain ⟨b,off,cs,e,g1,g2,g3,g4,g5⟩:=h.2 (by omega)
 obtain ⟨c1,e1,e2⟩:=hs.cells g1 g4
 have hlt:off+k<c1.size:=by omega
 refine ⟨b,off,cs,c1[off+k],e,g1,g3,g2,g4,?_,?_⟩
 ·unfold World.cell?
  simp [e1,hlt]
 ·unfold World.frozen?
  simp [e1]
section
variable {w00:World} {N:Nat} {L:List Loc} {E:List (Nat×VTy)} {d:Nat} {t0:TypeId} {pos:String} {af:Array Edge} {gd:Option (Nat×Bool)} {ats:Array TypeId}
end
section
variable {P:Program} {w00:World} {N:Nat} {L:List Loc} {E:List (Nat×VTy)} {d:Nat} {t0:TypeId} {pos:String} {af:Array Edge} {gd:Option (Nat×Bool)} {ats:Array TypeId}
end
section
variable {w00:World} {N:Nat} {L:List Loc} {E:List (Nat×VTy)} {d:Nat} {t0:TypeId} {pos:String} {af:Array Edge} {gd:Option (Nat×Bool)} {ats:Array TypeId}
theorem sr_rightX {o0:Operand} {T0:VTy} {x:RawQ} {L0:Nat} [OpC E o0 T0] [a0:AsX T0 x L0] (hE:Tab w00) (hb:L0≤90):StepT Tryz.prog w00 N L E ⟨some d, .call { callee:= .value (.func 105),args:= #[o0],argTypes:=ats },t0,pos,af,gd⟩ (.is (.bool (qrt x))):=
 sc1 er_right fun X w v0 hX _ hB h0=>cr_right (hE.below hB) hX (a0.ok h0) hb
end
class SurvC (B:Nat) (T:VTy) (T':outParam VTy):Prop where
 ok:∀ {X:List Nat} {w w':World} {v:Value},T.holds X w v→Sp B X w w'→T'.holds X w' v
instance {B:Nat} {c:Value}:SurvC B (.is c) (.is c):=⟨fun h _=>h⟩
instance {B:Nat} {T:VTy}:SurvC B (.und B T) (.und B T):=⟨fun {X w w' v} ⟨hB,h⟩ hs=>⟨Nat.le_trans hB hs.size,T.stable h ⟨hs.size,fun b hb hx=>by
 rcases hs.block b hb with e|⟨g,_⟩
 ·exact e
 ·exact absurd (List.mem_append_right _ (mem_above.2 ⟨hb,g⟩)) hx⟩ (fun b hb hlt=>by
 rcases List.mem_append.1 hb with hb|hb
 ·exact List.mem_append_left _ hb
 ·exact List.mem_append_right _ (mem_above.2 ⟨hlt,(mem_above.1 hb).2⟩))⟩⟩
instance SurvC.jk {B:Nat}:SurvC B (.jk B) (.jk B):=⟨fun {X w w' v} ⟨s,A,n,c,s2,A2,n2,c2,e,h1,h2⟩ hs=>⟨s,A,n,c,s2,A2,n2,c2,e,h1.sp hs,h2.sp hs⟩⟩
instance {B:Nat} {p:RawQ→Prop}:SurvC B (.nw p B) (.jk B):=⟨fun h hs=>SurvC.jk.ok (nw_jk h) hs⟩
instance {B L:Nat} {q:Rat}:SurvC B (.qn q L B) (.jk B):=⟨fun h hs=>SurvC.jk.ok (nw_jk h) hs⟩
instance {B L:Nat} {q:Rat}:SurvC B (.qg q L B) (.jk B):=⟨fun h hs=>SurvC.jk.ok (nw_jk h) hs⟩
class SurvL (B:Nat) (L:List Loc) (L':outParam (List Loc)):Prop where
 keys:L'.map Prod.fst=L.map Prod.fst
 ok:∀ p∈L',∃ T,(p.1,T)∈L∧∀ {X:List Nat} {w w':World} {v:Value},T.holds X w v→Sp B X w w'→p.2.holds X w' v
instance SurvL.nil {B:Nat}:SurvL B [] []:=⟨rfl,fun _ h=>by cases h⟩
instance SurvL.cons {B r:Nat} {L L':List Loc} {T T':VTy} [a:SurvC B T T'] [k:SurvL B L L']:SurvL B ((r,T)::L) ((r,T')::L'):=⟨by rw [List.map_cons,List.map_cons,k.keys],fun p hp=>by
 rcases List.mem_cons.1 hp with rfl|hp
 ·exact ⟨T,List.mem_cons_self,a.ok⟩
 ·obtain ⟨U,h1,h2⟩:=k.ok p hp
  exact ⟨U,List.mem_cons_of_mem _ h1,h2⟩⟩
class AsJ (T:VTy) (B:Nat):Prop where
 ok:∀ {X w v},T.holds X w v→(VTy.jk B).holds X w v
instance {B:Nat}:AsJ (.jk B) B:=⟨fun h=>h⟩
instance {B L:Nat} {q:Rat}:AsJ (.qn q L B) B:=⟨nw_jk⟩
instance {B L:Nat} {q:Rat}:AsJ (.qg q L B) B:=⟨nw_jk⟩
section
variable {w00 w:World} {X:List Nat} {L L':List Loc} {E E':List (Nat×VTy)} {n:Nat} {a:Act} {Q:Exit→Act→World→Prop} {ops:Array Oper} {rest:List Oper}
end
def FreeK (e:TypeId) (X:List Nat) (w:World) (b:Nat):Prop:=Free X w b∧∃ cs t f,w.heap[b]? =some (.cells cs t f)∧t≠e
theorem FreeK.mono {e:TypeId} {X X':List Nat} {w w':World} (hk:Keeps X w w') (hX:∀ b∈X',b<w.heap.size→b∈X) (b:Nat) (h:FreeK e X w b):FreeK e X' w' b:=by
 obtain ⟨h1,cs,t,f,h3,h4⟩:=h
 exact ⟨Free.mono hk hX b h1,cs,t,f,(hk.block b h1.1 h1.2).trans h3,h4⟩
theorem Rp.upK {α:Type} (r:Rp α) {e:TypeId} {X X':List Nat} {w w':World} {a:α} {cs:List Value} (h:r.rd w (FreeK e X w) a cs) (hk:Keeps X w w') (hX:∀ b∈X',b<w.heap.size→b∈X):r.rd w' (FreeK e X' w') a cs:=
 r.more (r.keep h fun b hb=>hk.block b hb.1.1 hb.1.2) (FreeK.mono hk hX)
theorem Rp.unK {α:Type} (r:Rp α) {e:TypeId} {X:List Nat} {w:World} {a:α} {cs:List Value} (h:r.rd w (FreeK e X w) a cs):r.rd w (Free X w) a cs:=r.more h fun _ hb=>hb.1
theorem OwnV.same {sz:Nat} {e:TypeId} {w w':World} {B:Nat} {A:Option Addr} {n c:Nat} {vs:List Value} (h:OwnV sz e w B A n c vs) (hk:∀ g,blk A=some g→w'.heap[g]? =w.heap[g]?):OwnV sz e w' B A n c vs:=by
 refine ⟨h.1,?_⟩
 rcases h.2 with h1|⟨g,cap,cur,h1,h2,h3,h4⟩
 ·exact .inl h1
 ·refine .inr ⟨g,cap,cur,h1,h2,(hk g ?_).trans h3,h4⟩
  injection h1 with h1
  rw [h1];rfl
theorem OwnV.type {sz:Nat} {e:TypeId} {w:World} {B:Nat} {A:Option Addr} {n c:Nat} {vs:List Value} (h:OwnV sz e w B A n c vs) {g:Nat} (hg:blk A=some g):∃ cur,w.heap[g]? =some (.cells cur e (0,0)):=by
 rcases h.2 with ⟨h1,_⟩|⟨g',cap,cur,h1,h2,h3,h4⟩
 ·injection h1 with h1
  rw [h1] at hg;cases hg
 ·injection h1 with h1
  rw [h1] at hg
  injection hg with hg
  subst hg
  exact ⟨cur,h3⟩
def VTy.kx {α:Type} (r:Rp α) (e:TypeId) (p:α→Prop) (a:α):VTy:=⟨fun X w v=>p a∧∃ cs:List Value,v= .agg cs.toArray∧r.rd w (FreeK e X w) a cs,fun ⟨hp,cs,e,h⟩ hk hX=>⟨hp,cs,e,r.upK h hk hX⟩⟩
def VTy.r1 {α:Type} (r:Rp α) (e:TypeId) (p:α→Prop) (a:α):VTy:=⟨fun X w v=>p a∧∃ b o cs,v= .slice (some ⟨b,o,none⟩) 1 1∧Free X w b∧w.rangeAt b o cs∧r.rd w (FreeK e X w) a cs,
 fun ⟨hp,b,o,cs,e,hb,h1,h2⟩ hk hX=>⟨hp,b,o,cs,e,Free.mono hk hX b hb,rangeAt_keep h1 (hk.block b hb.1 hb.2),r.upK h2 hk hX⟩⟩
def VTy.ow {α:Type} (r:Rp α) (e:TypeId) (p:α→Prop) (B:Nat) (l:List α):VTy:=⟨fun X w v=>∃ (A:Option Addr) (c:Nat) (ps:List (α×List Value)),v= .slice A l.length c∧ps.map Prod.fst=l∧(∀ q∈ps,p q.1∧r.rd w (FreeK e X w) q.1 q.2)∧OwnV r.k e w B A l.length c (ps.flatMap Prod.snd)∧(∀ g,blk A=some g→Free X w g)∧(l=[]→A=none),
 fun ⟨A,c,ps,h1,h2,h3,h4,h5,h6⟩ hk hX=>⟨A,c,ps,h1,h2,fun q hq=>⟨(h3 q hq).1,r.upK (h3 q hq).2 hk hX⟩,h4.same fun g hg=>hk.block g (h5 g hg).1 (h5 g hg).2,fun g hg=>Free.mono hk hX g (h5 g hg),h6⟩⟩
instance {α:Type} {r:Rp α} {e:TypeId} {p:α→Prop} {B:Nat} {l:List α}:SizeV (.ow r e p B l) 1 false:=⟨fun {X w v} ⟨A,c,ps,h1,_⟩=>by rw [h1];exact ⟨rfl,by simp [Value.cells,Value.oneCell'],(fun h=>by cases h),fun _=>rfl⟩⟩
theorem flat_get {α:Type} {k:Nat}:∀ {ps:List (α×List Value)} (hl:∀ q∈ps,q.2.length=k) {j i:Nat} {q:α×List Value} {u:Value},ps[j]? =some q→q.2[i]? =some u→(ps.flatMap Prod.snd)[j*k+i]? =some u
 |[],_,_,_,_,_,h,_=>by simp at h
 |q0::ps,hl,0,i,q,u,h,hu=>by
  have e:q0=q:=by simpa using h
  subst e
  rw [List.flatMap_cons,Nat.zero_mul,Nat.zero_add,List.getElem?_append_left (List.getElem?_eq_some_iff.1 hu).1]
  exact hu
 |q0::ps,hl,j+1,i,q,u,h,hu=>by
  have h0:=hl q0 List.mem_cons_self
  rw [List.flatMap_cons,List.getElem?_append_right (by rw [h0,Nat.succ_mul];omega),h0]
  have:=flat_get (fun q hq=>hl q (List.mem_cons_of_mem _ hq)) (show ps[j]? =some q by simpa using h) hu
  rw [show (j+1)*k+i - k=j*k+i by rw [Nat.succ_mul];omega]
  exact this
theorem ow_rw {α:Type} {r:Rp α} {e:TypeId} {p:α→Prop} {B:Nat} {l:List α} {X:List Nat} {w:World} {v:Value} (h:(VTy.ow r e p B l).holds X w v):(VTy.rw r p l).holds X w v:=by
 obtain ⟨A,c,ps,rfl,rfl,h3,h4,h5,_⟩:=h
 refine ⟨fun a ha=> ?_,A,_,c,rfl,rfl,?_⟩
 ·obtain ⟨q,hq,rfl⟩:=List.mem_map.1 ha
  exact (h3 q hq).1
 ·obtain ⟨g1,g2,g3,g4,g5⟩:=h4.sl
  refine ⟨g2,g3,g4,fun hn=> ?_⟩
  obtain ⟨b,off,rfl,hb,hc⟩:=g5 hn
  refine ⟨b,off,rfl,h5 b rfl,fun j a ha=> ?_⟩
  rw [List.getElem?_map] at ha
  cases hq:ps[j]? with
  |none=>rw [hq] at ha;cases ha
  |some q=>
   rw [hq] at ha
   obtain rfl:q.1=a:=by simpa using ha
   refine ⟨q.2,fun i u hu=> ?_,r.unK (h3 q (List.mem_of_getElem? hq)).2⟩
   have:=hc (j*r.k+i) u (flat_get (fun q hq=>r.len (h3 q hq).2) hq hu)
   rw [Nat.add_assoc]
   exact this
structure Ch (B:Nat) (X:List Nat) (w w':World):Prop where
 os:w'.os=w.os
 tape:w'.tape=w.tape
 output:w'.output=w.output
 size:w.heap.size≤w'.heap.size
 block:∀ b,b<w.heap.size→w'.heap[b]? =w.heap[b]? ∨(B≤b∧b ∉ X)
class SurvU (B:Nat) (T:VTy):Prop where
 ok:∀ {X:List Nat} {w w':World} {v:Value},T.holds X w v→Ch B X w w'→T.holds X w' v
instance {B:Nat} {c:Value}:SurvU B (.is c):=⟨fun h _=>h⟩
instance {B:Nat} {T:VTy}:SurvU B (.und B T):=⟨fun {X w w' v} ⟨hB,h⟩ hs=>⟨Nat.le_trans hB hs.size,T.stable h ⟨hs.size,fun b hb hx=>by
 rcases hs.block b hb with e|⟨g,_⟩
 ·exact e
 ·exact absurd (List.mem_append_right _ (mem_above.2 ⟨hb,g⟩)) hx⟩ (fun b hb hlt=>by
 rcases List.mem_append.1 hb with hb|hb
 ·exact List.mem_append_left _ hb
 ·exact List.mem_append_right _ (mem_above.2 ⟨hlt,(mem_above.1 hb).2⟩))⟩⟩
class SurvUL (B:Nat) (L:List Loc):Prop where
 ok:∀ p∈L,∀ {X:List Nat} {w w':World} {v:Value},p.2.holds X w v→Ch B X w w'→p.2.holds X w' v
instance SurvUL.nil {B:Nat}:SurvUL B []:=⟨fun _ h=>by cases h⟩
instance SurvUL.cons {B r:Nat} {L:List Loc} {T:VTy} [a:SurvU B T] [k:SurvUL B L]:SurvUL B ((r,T)::L):=⟨fun p hp=>by
 rcases List.mem_cons.1 hp with rfl|hp
 ·exact a.ok
 ·exact k.ok p hp⟩
section
variable {P:Program} {w00 w:World} {X:List Nat} {L:List Loc} {E E0:List (Nat×VTy)} {n:Nat} {a:Act} {Q:Exit→Act→World→Prop} {ops:Array Oper} {rest:List Oper}
theorem TS.ch {B:Nat} {w':World} (h:TS w00 X L E n a w) (hs:Ch B X w w') (hB:w00.heap.size≤B) [kL:SurvUL B L] [kE:SurvUL B E]:TS w00 X L E n a w':=by
 refine ⟨h.size,h.df,fun p hp=>kE.ok p hp (h.slots p hp) hs,⟨fun p hp=> ?_,fun b hb=>Nat.lt_of_lt_of_le (h.mem.far b hb) hs.size,h.mem.nodup,?_⟩⟩
 ·obtain ⟨g1,g2,v,ty,g3,g4⟩:=h.mem.loc p hp
  refine ⟨g1,g2,v,ty,kL.ok p hp g3 hs,?_⟩
  rcases hs.block p.1 (h.mem.far _ g1) with e|⟨_,g⟩
  ·exact e.trans g4
  ·exact absurd g1 g
 ·refine h.mem.below.trans ⟨hs.os,hs.tape,hs.output,hs.size,fun b hb=> ?_⟩
  rcases hs.block b (Nat.lt_of_lt_of_le hb h.mem.below.size) with e|⟨g,_⟩
  ·exact e
  ·omega
theorem TS.cast {s:Nat} {T T':VTy} (h:TS w00 X L ((s,T)::E) n a w) (hT:∀ X w v,T.holds X w v→T'.holds X w v):TS w00 X L ((s,T')::E) n a w:=⟨h.size,h.df,fun p hp=>by
 rcases List.mem_cons.1 hp with rfl|hp
 ·exact hT _ _ _ (h.slots _ List.mem_cons_self)
 ·exact h.slots p (List.mem_cons_of_mem _ hp),h.mem⟩
end
abbrev VTy.kq (x:RawQ) (L:Nat):VTy:= .kx Rp.frac 30 (fewQ L) x
abbrev VTy.kn (x:RawI) (L:Nat):VTy:= .kx Rp.num 30 (fun y=>y.2.length≤L) x
abbrev VTy.kr (x:RawQ) (L:Nat):VTy:= .r1 Rp.frac 30 (fewQ L) x
theorem kx_ex {α:Type} {r:Rp α} {e:TypeId} {p:α→Prop} {a:α} {X:List Nat} {w:World} {v:Value} (h:(VTy.kx r e p a).holds X w v):(VTy.ex r (fun y=>y=a∧p y)).holds X w v:=by
 obtain ⟨hp,cs,rfl,h⟩:=h
 exact ⟨a,⟨rfl,hp⟩,cs,rfl,r.unK h⟩
instance {α:Type} {r:Rp α} {e:TypeId} {p:α→Prop} {a:α}:SizeV (.kx r e p a) r.k true:=⟨fun h=>(inferInstance:SizeV (.ex r _) r.k true).ok (kx_ex h)⟩
instance {α:Type} {r:Rp α} {e:TypeId} {p:α→Prop} {a:α}:SizeV (.r1 r e p a) 1 false:=⟨fun {X w v} ⟨_,b,o,cs,h,_⟩=>by rw [h];exact ⟨rfl,by simp [Value.cells,Value.oneCell'],(fun h=>by cases h),fun _=>rfl⟩⟩
instance {e:TypeId} {p:RawQ→Prop} {x:RawQ}:SizeV (.kx Rp.frac e p x) 4 true:=inferInstanceAs (SizeV (.kx Rp.frac e p x) Rp.frac.k true)
class AsW {α:outParam Type} (T:VTy) (r:outParam (Rp α)) (p:outParam (α→Prop)) (l:outParam (List α)):Prop where
 ok:∀ {X w v},T.holds X w v→(VTy.rw r p l).holds X w v
instance {α:Type} {r:Rp α} {p:α→Prop} {l:List α}:AsW (.rw r p l) r p l:=⟨fun h=>h⟩
instance {α:Type} {r:Rp α} {p:α→Prop} {l:List α} {T:VTy} {B:Nat} [a:AsW T r p l]:AsW (.und B T) r p l:=⟨fun h=>a.ok (und_weak h)⟩
instance {α:Type} {r:Rp α} {e:TypeId} {p:α→Prop} {B:Nat} {l:List α}:AsW (.ow r e p B l) r p l:=⟨ow_rw⟩
instance {p:RawQ→Prop} {x:RawQ}:AsZ (.el Rp.frac p x) x:=⟨fun ⟨y,h,g⟩=>⟨y,h.1,g⟩⟩
theorem few_all {X:List Nat} {w:World} {v:Value} {l:List RawQ} {p p':RawQ→Prop} (h:(VTy.rw Rp.frac p l).holds X w v) (hp:∀ x∈l,p' x):(VTy.rw Rp.frac p' l).holds X w v:=⟨hp,h.2⟩
section
variable {w00:World} {N:Nat} {L:List Loc} {E:List (Nat×VTy)} {d:Nat} {t0:TypeId} {pos:String} {af:Array Edge} {gd:Option (Nat×Bool)} {ats:Array TypeId}
end
theorem Own.type {k:IntKind} {e:TypeId} {w:World} {B:Nat} {A:Option Addr} {n c:Nat} {xs:List Int} (h:Own k e w B A n c xs) {g:Nat} (hg:blk A=some g):∃ cur,w.heap[g]? =some (.cells cur e (0,0)):=by
 rcases h.2 with ⟨h1,_⟩|⟨g',cap,cur,h1,h2,h3,h4⟩
 ·injection h1 with h1
  rw [h1] at hg;cases hg
 ·injection h1 with h1
  rw [h1] at hg
  injection hg with hg
  subst hg
  exact ⟨cur,h3⟩
section
variable {w00:World} {N:Nat} {L:List Loc} {E:List (Nat×VTy)} {d:Nat} {t0:TypeId} {pos:String} {af:Array Edge} {gd:Option (Nat×Bool)} {ats:Array TypeId}
end
section
variable {w00:World} {N:Nat} {L:List Loc} {E:List (Nat×VTy)} {d:Nat} {t0:TypeId} {pos:String} {af:Array Edge} {gd:Option (Nat×Bool)} {ats:Array TypeId}
class AsO (T:VTy) (y:outParam RawQ) (K:outParam Nat):Prop where
 ok:∀ {X w v},T.holds X w v→(VTy.kr y K).holds X w v
instance {y:RawQ} {K:Nat}:AsO (.kr y K) y K:=⟨fun h=>h⟩
instance {y:RawQ} {K B:Nat} {T:VTy} [a:AsO T y K]:AsO (.und B T) y K:=⟨fun h=>a.ok (und_weak h)⟩
end
instance {L:Nat} {l:List RawQ}:AsW (.rq L l) Rp.frac (fewQ L) l:=⟨fun h=>h⟩
instance {B L:Nat} {qs:List Rat} {T:VTy} [a:AsR T qs L]:AsR (.und B T) qs L:=⟨fun h=>a.ok (und_weak h)⟩
def VTy.nany:VTy:=VTy.ex Rp.num (fun _=>True)
def VTy.qany:VTy:=VTy.ex Rp.frac (fun _=>True)
def VTy.rany (n:Nat):VTy:=⟨fun X w v=>∃ l:List RawQ,l.length=n∧(VTy.rw Rp.frac (fun _=>True) l).holds X w v,fun ⟨l,e,h⟩ hk hX=>⟨l,e,(VTy.rw Rp.frac (fun _=>True) l).stable h hk hX⟩⟩
class AnyN (T:VTy):Prop where
 ok:∀ {X w v},T.holds X w v→VTy.nany.holds X w v
theorem ex_nany {p:RawI→Prop} {X:List Nat} {w:World} {v:Value} (h:(VTy.ex Rp.num p).holds X w v):VTy.nany.holds X w v:=⟨h.choose,trivial,h.choose_spec.2⟩
instance:AnyN .nany:=⟨fun h=>h⟩
instance {N:Int} {L:Nat}:AnyN (.nc N L):=⟨ex_nany⟩
class AnyQ (T:VTy):Prop where
 ok:∀ {X w v},T.holds X w v→VTy.qany.holds X w v
theorem ex_qany {p:RawQ→Prop} {X:List Nat} {w:World} {v:Value} (h:(VTy.ex Rp.frac p).holds X w v):VTy.qany.holds X w v:=⟨h.choose,trivial,h.choose_spec.2⟩
instance:AnyQ .qany:=⟨fun h=>h⟩
instance {q:Rat} {L:Nat}:AnyQ (.qc q L):=⟨ex_qany⟩
instance {p:RawQ→Prop} {x:RawQ}:AnyQ (.el Rp.frac p x):=⟨ex_qany⟩
class AnyW (T:VTy):Prop where
 ok:∀ {X w v},T.holds X w v→∃ n,(VTy.rany n).holds X w v
instance {n:Nat}:AnyW (.rany n):=⟨fun h=>⟨n,h⟩⟩
instance {qs:List Rat} {L:Nat}:AnyW (.rv qs L):=⟨fun ⟨l,_,h⟩=>⟨l.length,l,rfl,few_all (p:=fewQ L) h fun _ _=>trivial⟩⟩
instance:AnyW (.is (.slice none 0 0)):=⟨fun {X w v} h=>⟨0,[],rfl,by
 obtain rfl:v=_:=h
 exact ⟨(fun _ h=>by cases h),none,0,0,rfl,rfl,Nat.le_refl _,Nat.zero_le _,fun _=>rfl,fun h=>absurd h (by omega)⟩⟩⟩
section
variable {w00:World} {N:Nat} {L:List Loc} {E:List (Nat×VTy)} {d:Nat} {t0:TypeId} {pos:String} {af:Array Edge} {gd:Option (Nat×Bool)} {ats:Array TypeId}
end
section
variable {w00:World} {N:Nat} {L:List Loc} {E:List (Nat×VTy)} {d:Nat} {t0:TypeId} {pos:String} {af:Array Edge} {gd:Option (Nat×Bool)} {ats:Array TypeId}
end
section
variable {w00:World} {N:Nat} {L:List Loc} {E:List (Nat×VTy)} {d:Nat} {t0:TypeId} {pos:String} {af:Array Edge} {gd:Option (Nat×Bool)} {ats:Array TypeId}
end
theorem openBig:OpenR Tryz.prog 24 Rp.num:=OpenR.pair Tryz.underlying24 (OpenR.bool Tryz.underlying4 (by kernel_rfl)) (OpenR.limbs Tryz.underlying22 Tryz.underlying76 (by kernel_rfl) (by kernel_rfl)) rfl rfl (by kernel_rfl)
theorem openRat:OpenR Tryz.prog 26 Rp.frac:=OpenR.pair Tryz.underlying26 openBig openBig rfl rfl (by kernel_rfl)
theorem gives_true {P:Program} {f:FuncId} {args:Array Value} {X:List Nat} {w:World} (h:Calls P f args w (Gives X w (.is (.bool true)))):Calls P f args w fun e w'=>e= .returned (.bool true)∧Below w.heap.size w w':=
 h.mono fun _ _ ⟨_,h1,h2,h3⟩=>⟨by rw [h1,show _=_ from h2],h3⟩
structure Ent where
 slot:Nat
 bnd:Nat
 ty:(Nat→Nat)→VTy
def Ent.at (β:Nat→Nat) (e:Ent):Nat×VTy:=(e.slot,e.ty β)
def Rise (β:Nat→Nat) (c:Nat):Prop:=∀ i,i<c→β i≤β (i+1)
def Ent.ok (e:Ent):Prop:=∀ β β':Nat→Nat,(∀ i,i≤e.bnd→β i=β' i)→e.ty β=e.ty β'
def Ent.fix (d:Nat) (T:VTy):Ent:=⟨d,0,fun _=>T⟩
def Ent.cal (d c:Nat) (T:Nat→VTy):Ent:=⟨d,c+1,fun β=> .und (β (c+1)) (T (β c))⟩
inductive OpsB (P:Program) (w00:World) (L:List Loc):Nat→List Ent→List Oper→List Ent→List (Option (Nat×Bool))→Prop
 |nil {c:Nat} {F:List Ent}:OpsB P w00 L c F [] F []
 |step {c:Nat} {F F':List Ent} {o:Oper} {os:List Oper} {ks:List (Option (Nat×Bool))} {d:Nat} {T:VTy} (h:∀ β,StepT P w00 0 L (F.map (Ent.at β)) o T) (hd:o.dst=some d) (t:OpsB P w00 L c (Ent.fix d T::F) os F' ks):OpsB P w00 L c F (o::os) F' (none::ks)
 |call {c:Nat} {F F':List Ent} {o:Oper} {os:List Oper} {ks:List (Option (Nat×Bool))} {d:Nat} {T:Nat→VTy} (h:∀ β,StepT P w00 (β c) L (F.map (Ent.at β)) o (T (β c))) (hd:o.dst=some d) (t:OpsB P w00 L (c+1) (Ent.cal d c T::F) os F' ks):OpsB P w00 L c F (o::os) F' (some (c,true)::ks)
 |dep {c:Nat} {F F':List Ent} {o:Oper} {os:List Oper} {ks:List (Option (Nat×Bool))} {d:Nat} {T:(Nat→Nat)→VTy} (h:∀ β,Rise β (c+1)→StepT P w00 0 L (F.map (Ent.at β)) o (T β)) (ho:∀ β β':Nat→Nat,(∀ i,i≤c+1→β i=β' i)→T β=T β') (hd:o.dst=some d) (t:OpsB P w00 L (c+1) (⟨d,c+1,T⟩::F) os F' ks):OpsB P w00 L (c+1) F (o::os) F' (some (c,false)::ks)
section
variable {P:Program} {w00:World} {X:List Nat} {L:List Loc} {n:Nat} {Q:Exit→Act→World→Prop}
def AtB (P:Program) (w00:World) (L:List Loc) (F:List Ent) (o:Oper):Option (Nat×Bool)→Prop
 |none=>∃ d T,o.dst=some d∧Ent.fix d T∈F∧∀ β,StepT P w00 0 L (F.map (Ent.at β)) o T
 |some (c,true)=>∃ d T,o.dst=some d∧Ent.cal d c T∈F∧∀ β,StepT P w00 (β c) L (F.map (Ent.at β)) o (T (β c))
 |some (c,false)=>∃ d T,o.dst=some d∧(⟨d,c+1,T⟩:Ent)∈F∧(∀ β β':Nat→Nat,(∀ i,i≤c+1→β i=β' i)→T β=T β')∧∀ β,Rise β (c+1)→StepT P w00 0 L (F.map (Ent.at β)) o (T β)
theorem StepT.moreN {N:Nat} {E E':List (Nat×VTy)} {o:Oper} {T:VTy} (h:StepT P w00 N L E o T) (hs:∀ p∈E,p∈E'):StepT P w00 N L E' o T:=⟨fun X ρ w hc hf hN hm hsl=>h.run X ρ w hc hf hN hm fun p hp=>hsl p (hs p hp)⟩
theorem map_at {F F':List Ent} (h:∀ e∈F,e∈F') (β:Nat→Nat):∀ p∈F.map (Ent.at β),p∈F'.map (Ent.at β):=fun p hp=>by
 obtain ⟨e,he,rfl⟩:=List.mem_map.1 hp
 exact List.mem_map.2 ⟨e,h e he,rfl⟩
theorem OpsB.sub {c:Nat} {F F':List Ent} {l:List Oper} {ks:List (Option (Nat×Bool))} (h:OpsB P w00 L c F l F' ks):∀ e∈F,e∈F':=by
 induction h with
 |nil=>exact fun _ h=>h
 |step _ _ _ ih=>exact fun p hp=>ih p (List.mem_cons_of_mem _ hp)
 |call _ _ _ ih=>exact fun p hp=>ih p (List.mem_cons_of_mem _ hp)
 |dep _ _ _ _ ih=>exact fun p hp=>ih p (List.mem_cons_of_mem _ hp)
theorem OpsB.len {c:Nat} {F F':List Ent} {l:List Oper} {ks:List (Option (Nat×Bool))} (h:OpsB P w00 L c F l F' ks):ks.length=l.length:=by
 induction h with
 |nil=>rfl
 |step _ _ _ ih=>simp [ih]
 |call _ _ _ ih=>simp [ih]
 |dep _ _ _ _ ih=>simp [ih]
theorem OpsB.new {c:Nat} {F F':List Ent} {l:List Oper} {ks:List (Option (Nat×Bool))} (h:OpsB P w00 L c F l F' ks):∀ e∈F',e∈F∨∃ o∈l,o.dst=some e.slot:=by
 induction h with
 |nil=>exact fun _ h=> .inl h
 |step _ hd _ ih=>
  intro p hp
  rcases ih p hp with h|⟨q,h,h'⟩
  ·rcases List.mem_cons.1 h with rfl|h
   ·exact .inr ⟨_,List.mem_cons_self,hd⟩
   ·exact .inl h
  ·exact .inr ⟨q,List.mem_cons_of_mem _ h,h'⟩
 |call _ hd _ ih=>
  intro p hp
  rcases ih p hp with h|⟨q,h,h'⟩
  ·rcases List.mem_cons.1 h with rfl|h
   ·exact .inr ⟨_,List.mem_cons_self,hd⟩
   ·exact .inl h
  ·exact .inr ⟨q,List.mem_cons_of_mem _ h,h'⟩
 |dep _ _ hd _ ih=>
  intro p hp
  rcases ih p hp with h|⟨q,h,h'⟩
  ·rcases List.mem_cons.1 h with rfl|h
   ·exact .inr ⟨_,List.mem_cons_self,hd⟩
   ·exact .inl h
  ·exact .inr ⟨q,List.mem_cons_of_mem _ h,h'⟩
theorem OpsB.at {c:Nat} {F F':List Ent} {l:List Oper} {ks:List (Option (Nat×Bool))} (h:OpsB P w00 L c F l F' ks):∀ (i:Nat) (o:Oper) (k:Option (Nat×Bool)),l[i]? =some o→ks[i]? =some k→AtB P w00 L F' o k:=by
 induction h with
 |nil=>intro i o k h;simp at h
 | @step c F F' o os ks d T hs hd t ih=>
  intro i o' k h1 h2
  cases i with
  |zero=>
   obtain rfl:o=o':=by simpa using h1
   obtain rfl:none=k:=by simpa using h2
   exact ⟨d,T,hd,t.sub _ List.mem_cons_self,fun β=>(hs β).moreN (map_at (fun e he=>t.sub e (List.mem_cons_of_mem _ he)) β)⟩
  |succ i=>exact ih i o' k (by simpa using h1) (by simpa using h2)
 | @call c F F' o os ks d T hs hd t ih=>
  intro i o' k h1 h2
  cases i with
  |zero=>
   obtain rfl:o=o':=by simpa using h1
   obtain rfl:some (c,true)=k:=by simpa using h2
   exact ⟨d,T,hd,t.sub _ List.mem_cons_self,fun β=>(hs β).moreN (map_at (fun e he=>t.sub e (List.mem_cons_of_mem _ he)) β)⟩
  |succ i=>exact ih i o' k (by simpa using h1) (by simpa using h2)
 | @dep c F F' o os ks d T hs ho hd t ih=>
  intro i o' k h1 h2
  cases i with
  |zero=>
   obtain rfl:o=o':=by simpa using h1
   obtain rfl:some (c,false)=k:=by simpa using h2
   exact ⟨d,T,hd,t.sub _ List.mem_cons_self,ho,fun β hu=>(hs β hu).moreN (map_at (fun e he=>t.sub e (List.mem_cons_of_mem _ he)) β)⟩
  |succ i=>exact ih i o' k (by simpa using h1) (by simpa using h2)
end
end Go.Proofs.YtgnggldjjjkogaaGreatDoor
