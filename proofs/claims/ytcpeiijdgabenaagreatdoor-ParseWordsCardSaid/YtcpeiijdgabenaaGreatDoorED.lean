/- tallageref03: cut, halves, limbs, less, times, take, often, parts: what each call answers. -/
import Derived.Test.YtcpeiijdgabenaaGreatDoorEB
import Derived.Test.YtcpeiijdgabenaaGreatDoorEA
import Derived.StillTailTactics
import Derived.Laws.IdiomStrings
import Derived.Orders
import Derived.Tactics
import Derived.WalkKit
set_option maxRecDepth 20000
set_option linter.unusedSimpArgs false
set_option linter.unusedVariables false
namespace Go.Proofs.YtcpeiijdgabenaaGreatDoor
open Go Go.RowKit
variable {i r n c s:Nat} {w w1 w0:World} {o:Oper} {P:Program} {v0 v1:Value} {a:Act}
theorem Mk.at_row{k:IntKind} {e:TypeId} {wr:World} {g:Nat} {xs:List Int} (h:Mk k e w (some ⟨g,0,none⟩) n c xs wr) (hi:i<n):∃ x,xs[i]? =some x∧wr.cell? ⟨g,i,none⟩=some (.int k x)∧wr.frozen? ⟨g,i,none⟩=false∧
 ∀ y,Mk k e w (some ⟨g,0,none⟩) n c (xs.set i y) (wr.setCell ⟨g,i,none⟩ (.int k y)):=by
 obtain ⟨g',x,hA,_,hx,hc,hf,hp⟩:=h.set hi
 injection hA with hA
 injection hA with hA
 subst hA
 exact ⟨x,hx,hc,hf,hp⟩
def jj (w:World) (N:Int) (e:Ending) (w':World):Prop:=
 ∃ s ys A n c,Whole N s ys∧e= .returned (.agg #[.bool s, .slice A n c])∧cG .u32 128 w' w.heap.size A n c ys∧Below w.heap.size w w'
theorem yQ (w:World) (b o:Nat) (v:Value):w.grownBy (w.setCell ⟨b,o,none⟩ v) (some b):=
 ⟨rfl,rfl,rfl,by simp [World.setCell],fun k _ hk=>Below.heap_setCell _ _ _ k (fun e=>hk (by rw [e]))⟩
section
variable {k:IntKind} {e:TypeId} {w w1:World} {B r:Nat} {A:Option Addr} {n c:Nat} {xs:List Int} {v0 v1:Value} {t:TypeId}
theorem cG.far (h:cG k e w B A n c xs) (hr:r<B):fC A=none∨fC A≠some r:=by
 rcases h.form with ⟨h,_⟩|⟨g,h,hg,_⟩
 ·exact .inl (by rw [h];rfl)
 ·exact .inr (by rw [h];intro h;simp [fC] at h;omega)
theorem cG.box (h:cG k e w B A n c xs) (hr:r<B) (o:Nat) (v:Value):cG k e (w.setCell ⟨r,o,none⟩ v) B A n c xs:=h.keep (yQ w r o v) (h.far hr)
theorem iM (hb:Below (w.alloc (.cells #[v0,v1] t)).heap.size (w.alloc (.cells #[v0,v1] t)) w1):
 w1.cell? ⟨w.heap.size,0,none⟩=some v0∧w1.cell? ⟨w.heap.size,1,none⟩=some v1∧w1.frozen? ⟨w.heap.size,0,none⟩=false∧w1.frozen? ⟨w.heap.size,1,none⟩=false∧w.heap.size<w1.heap.size∧Below w.heap.size w w1:=by
 have hlt:w.heap.size<(w.alloc (.cells #[v0,v1] t)).heap.size:=by rw [aX];exact Nat.lt_succ_self _
 refine ⟨?_,?_,?_,?_,Nat.lt_of_lt_of_le hlt hb.size,i9 hb⟩
 ·rw [hb.cell (p:=⟨w.heap.size,0,none⟩) hlt];simp [World.cell?_alloc_new]
 ·rw [hb.cell (p:=⟨w.heap.size,1,none⟩) hlt];simp [World.cell?_alloc_new]
 ·rw [hb.frozen (p:=⟨w.heap.size,0,none⟩) hlt];simp [World.frozen?_alloc_new]
 ·rw [hb.frozen (p:=⟨w.heap.size,1,none⟩) hlt];simp [World.frozen?_alloc_new]
end
theorem jj.put {w w1:World} {B r:Nat} {N:Int} {s:Bool} {ys:List Int} {A:Option Addr} {n c:Nat} {u v:Value} (hW:Whole N s ys) (hr:w.heap.size≤r) (ho:cG .u32 128 w1 B A n c ys) (hB:r<B) (hb:Below w.heap.size w w1):
 jj w N (.returned (.agg #[.bool s, .slice A n c])) ((w1.setCell ⟨r,0,none⟩ u).setCell ⟨r,1,none⟩ v):=
 ⟨s,ys,A,n,c,hW,rfl,((ho.box hB 0 u).box hB 1 v).lower qO,(hb.setCell (p:=⟨r,0,none⟩) hr u).setCell (p:=⟨r,1,none⟩) hr v⟩
theorem jX{u0 u1:Value} {t t2:TypeId} (hb:Below ((w.alloc (.cells #[v0,v1] t)).alloc (.cells #[u0,u1] t2)).heap.size ((w.alloc (.cells #[v0,v1] t)).alloc (.cells #[u0,u1] t2)) w1):
 (w1.cell? ⟨w.heap.size,0,none⟩=some v0∧w1.cell? ⟨w.heap.size,1,none⟩=some v1∧w1.frozen? ⟨w.heap.size,0,none⟩=false∧w1.frozen? ⟨w.heap.size,1,none⟩=false)∧
 (w1.cell? ⟨w.heap.size+1,0,none⟩=some u0∧w1.cell? ⟨w.heap.size+1,1,none⟩=some u1∧w1.frozen? ⟨w.heap.size+1,0,none⟩=false∧w1.frozen? ⟨w.heap.size+1,1,none⟩=false)∧
 w.heap.size+1<w1.heap.size∧Below w.heap.size w w1:=by
 obtain ⟨h0,h1,h2,h3,h4,h5⟩:=iM hb
 obtain ⟨g0,g1,g2,g3,g4,g5⟩:=iM h5
 rw [aX] at h0 h1 h2 h3 h4
 exact ⟨⟨g0,g1,g2,g3⟩,⟨h0,h1,h2,h3⟩,h4,g5⟩
theorem mR (w:World) (o o2:Obj):((w.alloc o).alloc o2).heap.size=w.heap.size+2:=by rw [aX,aX]
theorem jf (w:World) (o o2 o3:Obj):(((w.alloc o).alloc o2).alloc o3).heap.size=w.heap.size+3:=by rw [aX,aX,aX]
theorem np{u0 u1 x0 x1:Value} {t t2 t3:TypeId} (hb:Below (((w.alloc (.cells #[v0,v1] t)).alloc (.cells #[u0,u1] t2)).alloc (.cells #[x0,x1] t3)).heap.size (((w.alloc (.cells #[v0,v1] t)).alloc (.cells #[u0,u1] t2)).alloc (.cells #[x0,x1] t3)) w1):
 (w1.cell? ⟨w.heap.size,0,none⟩=some v0∧w1.cell? ⟨w.heap.size,1,none⟩=some v1∧w1.frozen? ⟨w.heap.size,0,none⟩=false∧w1.frozen? ⟨w.heap.size,1,none⟩=false)∧
 (w1.cell? ⟨w.heap.size+1,0,none⟩=some u0∧w1.cell? ⟨w.heap.size+1,1,none⟩=some u1∧w1.frozen? ⟨w.heap.size+1,0,none⟩=false∧w1.frozen? ⟨w.heap.size+1,1,none⟩=false)∧
 (w1.cell? ⟨w.heap.size+2,0,none⟩=some x0∧w1.cell? ⟨w.heap.size+2,1,none⟩=some x1∧w1.frozen? ⟨w.heap.size+2,0,none⟩=false∧w1.frozen? ⟨w.heap.size+2,1,none⟩=false)∧
 w.heap.size+2<w1.heap.size∧Below w.heap.size w w1:=by
 obtain ⟨h0,h1,h2,h3,h4,h5⟩:=iM hb
 obtain ⟨g0,g1,g2,g3⟩:=jX h5
 rw [mR] at h0 h1 h2 h3 h4
 exact ⟨g0,g1,⟨h0,h1,h2,h3⟩,h4,g3⟩
def bM (W:World) (r:Nat) (u0 u1:Value):Prop:=W.cell? ⟨r,0,none⟩=some u0∧W.cell? ⟨r,1,none⟩=some u1∧W.frozen? ⟨r,0,none⟩=false∧W.frozen? ⟨r,1,none⟩=false
theorem bM.put {w1:World} {r:Nat} {v0 v1:Value} (h:bM w1 r v0 v1) (u0 u1:Value):bM ((w1.setCell ⟨r,0,none⟩ u0).setCell ⟨r,1,none⟩ u1) r u0 u1:=by
 obtain ⟨h0,h1,h2,h3⟩:=h
 refine ⟨?_,?_,?_,?_⟩<;>go_simp
theorem bM.other{q:Nat} (h:bM w1 r v0 v1) (hne:r≠q) (o:Nat) (u:Value):bM (w1.setCell ⟨q,o,none⟩ u) r v0 v1:=by
 obtain ⟨h0,h1,h2,h3⟩:=h
 have e0:w1.heap[r]? =(w1.setCell ⟨q,o,none⟩ u).heap[r]? :=(Below.heap_setCell _ _ _ r hne).symm
 refine ⟨(World.cell?_of_block e0.symm).trans h0,(World.cell?_of_block e0.symm).trans h1,?_,?_⟩
 ·rw [←h2];unfold World.frozen?;rw [←e0]
 ·rw [←h3];unfold World.frozen?;rw [←e0]
theorem bM.below{w2:World} {B:Nat} (h:bM w1 r v0 v1) (hb:Below B w1 w2) (hr:r<B):bM w2 r v0 v1:=by
 obtain ⟨h0,h1,h2,h3⟩:=h
 exact ⟨(hb.cell (p:=⟨r,0,none⟩) hr).trans h0,(hb.cell (p:=⟨r,1,none⟩) hr).trans h1,(hb.frozen (p:=⟨r,0,none⟩) hr).trans h2,(hb.frozen (p:=⟨r,1,none⟩) hr).trans h3⟩
theorem mD (w:World) (p:Addr) (u:Value):(w.setCell p u).heap.size=w.heap.size:=by simp [World.setCell]
def jh (s:Bool) (A:Option Addr) (n c:Nat) (xs:List Int) (s':Bool) (A':Option Addr) (n' c':Nat) (xs':List Int):Prop:=
 (mz s xs=true∧s'=s∧A'=A∧n'=n∧c'=c∧xs'=xs)∨(mz s xs=false∧s'=false∧A'=none∧n'=0∧c'=0∧xs'=[])
theorem jh.ex (s:Bool) (A:Option Addr) (n c:Nat) (xs:List Int):∃ s' A' n' c' xs',jh s A n c xs s' A' n' c' xs':=by
 cases h:mz s xs
 ·exact ⟨_,_,_,_,_, .inr ⟨h,rfl,rfl,rfl,rfl,rfl⟩⟩
 ·exact ⟨_,_,_,_,_, .inl ⟨h,rfl,rfl,rfl,rfl,rfl⟩⟩
theorem jh.facts{B:Nat} {s s':Bool} {A A':Option Addr} {n' c':Nat} {xs xs':List Int} (h:jh s A n c xs s' A' n' c' xs') (hs:Sl .u32 w B A n c xs) (hx:Dg 4294967296 xs):
 Sl .u32 w B A' n' c' xs'∧Dg 4294967296 xs'∧mz s' xs'=true∧fy s' (val 4294967296 xs')=dp s xs∧n'≤n:=by
 rcases h with ⟨h,rfl,rfl,rfl,rfl,rfl⟩|⟨h,rfl,rfl,rfl,rfl,rfl⟩
 ·exact ⟨hs,hx,h,(gU h).symm,Nat.le_refl _⟩
 ·exact ⟨Sl.nil,Dg.nil,rfl,by rw [wH h];rfl,Nat.zero_le _⟩
theorem zg (w:World) (o o2 o3 o4:Obj):((((w.alloc o).alloc o2).alloc o3).alloc o4).heap.size=w.heap.size+4:=by rw [aX,aX,aX,aX]
theorem zP {w w1:World} {v0 v1 u0 u1 x0 x1 y0 y1:Value} {t t2 t3 t4:TypeId}
 (hb:Below ((((w.alloc (.cells #[v0,v1] t)).alloc (.cells #[u0,u1] t2)).alloc (.cells #[x0,x1] t3)).alloc (.cells #[y0,y1] t4)).heap.size ((((w.alloc (.cells #[v0,v1] t)).alloc (.cells #[u0,u1] t2)).alloc (.cells #[x0,x1] t3)).alloc (.cells #[y0,y1] t4)) w1):
 bM w1 w.heap.size v0 v1∧bM w1 (w.heap.size+1) u0 u1∧bM w1 (w.heap.size+2) x0 x1∧bM w1 (w.heap.size+3) y0 y1∧w.heap.size+3<w1.heap.size∧Below w.heap.size w w1:=by
 obtain ⟨h0,h1,h2,h3,h4,h5⟩:=iM hb
 obtain ⟨g0,g1,g2,_,g3⟩:=np h5
 rw [jf] at h0 h1 h2 h3 h4
 exact ⟨g0,g1,g2,⟨h0,h1,h2,h3⟩,h4,g3⟩
theorem ye {N M X Y:Int} {s t:Bool} (hN:fy s X=N) (hM:fy t Y=M) (h0:0≤X) (h1:0≤Y) (hs:s=true→0<X) (ht:t=true→0<Y):
 (s=true→t=false→eP N M= -1)∧(s=false→t=true→eP N M=1)∧(s=true→t=true→eP N M=eP Y X)∧(s=false→t=false→eP N M=eP X Y):=by
 subst hN;subst hM
 refine ⟨fun a b=> ?_,fun a b=> ?_,fun a b=> ?_,fun a b=> ?_⟩
 ·subst a;subst b;exact fN (by have:=hs rfl;rw [ek,eD];omega)
 ·subst a;subst b;exact iJ (by have:=ht rfl;rw [ek,eD];omega)
 ·subst a;subst b;rw [ek,ek];exact qY _ _
 ·subst a;subst b;rfl
structure b6 where
 holds:World→Value→Prop
 stable:∀ {w w':World} {v:Value},holds w v→Below w.heap.size w w'→holds w' v
def b6.any:b6:=⟨fun _ _=>True,fun h _=>h⟩
def b6.is (c:Value):b6:=⟨fun _ v=>v=c,fun h _=>h⟩
def bJ:List (Nat×b6)→Nat→b6
 |[],_=> .any
 |(t,x)::l,s=>bif Nat.beq t s then x else bJ l s
def cJ (E:List (Nat×b6)) (w:World) (ρ:Operand→Value):List Operand→Prop
 |[]=>True
 | .tmp s::l=>(bJ E s).holds w (ρ (.tmp s))∧cJ E w ρ l
 | .const _::l=>cJ E w ρ l
 | .global _::l=>cJ E w ρ l
 | .func _::l=>cJ E w ρ l
theorem cJ.of {E:List (Nat×b6)} {w:World} {ρ:Operand→Value}:∀ {l:List Operand},(∀ s, .tmp s∈l→(bJ E s).holds w (ρ (.tmp s)))→cJ E w ρ l
 |[],_=>trivial
 | .tmp s::l,h=>⟨h s qE,cJ.of (l:=l) fun t ht=>h t (List.mem_cons_of_mem _ ht)⟩
 | .const _::l,h=>cJ.of (l:=l) fun t ht=>h t (List.mem_cons_of_mem _ ht)
 | .global _::l,h=>cJ.of (l:=l) fun t ht=>h t (List.mem_cons_of_mem _ ht)
 | .func _::l,h=>cJ.of (l:=l) fun t ht=>h t (List.mem_cons_of_mem _ ht)
theorem cJ.at_ {E:List (Nat×b6)} {w:World} {ρ:Operand→Value}:∀ {l:List Operand} {s:Nat},cJ E w ρ l→ .tmp s∈l→(bJ E s).holds w (ρ (.tmp s))
 |[],_,_,h=>by cases h
 |x::l,s,hs,hm=>by
  rcases List.mem_cons.1 hm with rfl|hm
  ·exact hs.1
  ·refine cJ.at_ (w:=w) (l:=l) ?_ hm
   cases x with
   |tmp s=>exact hs.2
   |const c=>exact hs
   |global g=>exact hs
   |func f=>exact hs
def Yields (P:Program) (o:Oper) (ρ:Operand→Value) (w:World) (K:Value→World→Prop):Prop:=
 match (execOp ρ o).run P w with
 | .ok (.value v) w'=>K v w'
 | .ok (.enter f args) w'=>Calls P f args w' fun e w''=>∃ v,e= .returned v∧K v w''
 |_=>False
theorem Yields.wp{K:Value→World→Prop} {Q:Exit→Act→World→Prop} (h:Yields P o a.eval w K):o.wp P a w (fun a' w'=>∃ v,a'=a.put o.dst v∧K v w') Q:=by
 unfold Yields at h
 unfold Oper.wp
 generalize (execOp a.eval o).run P w=r at*
 split at h
 ·exact ⟨_,rfl,h⟩
 ·refine Calls.mono h ?_
  rintro e w'' ⟨v,rfl,hk⟩
  exact ⟨v,rfl,hk⟩
 ·exact h.elim
def bC (o:Oper):Nat:=o.dst.getD 0
def eU (P:Program) (E:List (Nat×b6)) (w0:World) (o:Oper):Prop:=
 ∀ (ρ:Operand→Value) (w:World),(∀ c,ρ (.const c)=c)→(∀ f,ρ (.func f)= .func (.func f) #[] #[])→Below w0.heap.size w0 w→cJ E w ρ o.op.operands.toList→
  Yields P o ρ w fun v w'=>(bJ E (bC o)).holds w' v∧Below w.heap.size w w'
def eW (P:Program) (E:List (Nat×b6)) (w0:World):List Oper→Prop
 |[]=>True
 |o::l=>eU P E w0 o∧eW P E w0 l
theorem eW.mem{E:List (Nat×b6)} :∀ {l:List Oper},eW P E w0 l→∀ o∈l,eU P E w0 o
 |[],_,_,h=>by cases h
 |_::_,h,o,ho=>by
  rcases List.mem_cons.1 ho with rfl|ho
  ·exact h.1
  ·exact h.2.mem o ho
def fK (E:List (Nat×b6)):List (Nat×Bool)→Prop
 |[]=>True
 |(d,b)::l=>(∀ w v,(bJ E d).holds w v→v= .bool b)∧fK E l
theorem eW.cons {P:Program} {E:List (Nat×b6)} {w0:World} {o:Oper} {l:List Oper} (h:eU P E w0 o) (t:eW P E w0 l):eW P E w0 (o::l):=⟨h,t⟩
theorem eW.nil{E:List (Nat×b6)} :eW P E w0 []:=trivial
theorem sG{E:List (Nat×b6)} {d:Nat} {ty:TypeId} {pos:String} {af:Array Edge} {g:Option (Nat×Bool)} (h:∀ w v,(bJ E s).holds w v→(bJ E d).holds w v):
 eU P E w0 ⟨some d, .move (.tmp s),ty,pos,af,g⟩:=fun ρ w _ _ _ hs=>by
 show (bJ E d).holds w (ρ (.tmp s))∧_
 exact ⟨h _ _ hs.1,Below.refl _ _⟩
theorem fK.mem {E:List (Nat×b6)}:∀ {l:List (Nat×Bool)},fK E l→∀ p∈l,∀ w v,(bJ E p.1).holds w v→v= .bool p.2
 |[],_,_,h=>by cases h
 |_::_,h,p,hp=>by
  rcases List.mem_cons.1 hp with rfl|hp
  ·exact h.1
  ·exact h.2.mem p hp
def iP (E:List (Nat×b6)) (w:World) (a:Act):List Nat→Prop
 |[]=>True
 |s::l=>(bJ E s).holds w (a.tmps.getD s undef)∧iP E w a l
theorem iP.mem{E:List (Nat×b6)} :∀ {l:List Nat},iP E w a l→∀ s∈l,(bJ E s).holds w (a.tmps.getD s undef)
 |[],_,_,h=>by cases h
 |_::_,h,p,hp=>by
  rcases List.mem_cons.1 hp with rfl|hp
  ·exact h.1
  ·exact h.2.mem p hp
def dA:List Nat→Bool
 |[]=>true
 |a::l=> !l.elem a&&dA l
def iR (ops:Array Oper) (start:List Nat) (gs:List (Nat×Bool)) (n i:Nat) (o:Oper):Bool:=
 (match o.dst with|some d=>Nat.blt d n&& !start.elem d|none=>false)&&
 (o.op.operands.toList.all fun| .tmp s=>start.elem s || o.after.toList.any (fun e=>Region.binds .any e&&((ops[e.on]?).bind (·.dst)==some s))|_=>true)&&
 (match o.guard with|none=>true|some (g,want)=>(match (ops[g]?).bind (·.dst) with|some d=>gs.elem (d,want)|none=>false)&&o.after.toList.any (fun e=>Region.binds .any e&&Nat.beq e.on g))&&
 (o.after.toList.all fun e=> !Region.binds .any e || Nat.blt e.on i)
def II (ops:Array Oper) (start:List Nat) (gs:List (Nat×Bool)) (n:Nat):Bool:=
 ((List.range ops.size).all fun i=>match ops[i]? with|some o=>iR ops start gs n i o|none=>false)&&dA (ops.toList.map bC)
def dC (a:Act) (v:Nat→Value):List Nat→Act
 |[]=>a
 |d::l=>dC (a.put (some d) (v d)) v l
theorem ie (v:Nat→Value):∀ (l:List Nat) (a:Act),(dC a v l).tmps.size=a.tmps.size
 |[],_=>rfl
 |d::l,a=>by rw [dC,ie v l];simp [Act.put]
theorem fZ (v:Nat→Value):∀ (l:List Nat) (a:Act),(dC a v l).defers=a.defers
 |[],_=>rfl
 |d::l,a=>by rw [dC,fZ v l];rfl
theorem bK (a:Act) (d s:Nat) (v:Value) (hd:d<a.tmps.size):(a.put (some d) v).tmps.getD s undef=if s=d then v else a.tmps.getD s undef:=by
 simp only [Act.put,Array.getD_eq_getD_getElem?]
 by_cases h:s=d
 ·subst h
  rw [if_pos rfl,Array.getElem?_setIfInBounds_self_of_lt hd];rfl
 ·rw [if_neg h,Array.getElem?_setIfInBounds_ne (Ne.symm h)]
theorem iO (v:Nat→Value):∀ (l:List Nat) (a:Act) (s:Nat),(∀ d∈l,d<a.tmps.size)→(s∈l∨a.tmps.getD s undef=v s)→(dC a v l).tmps.getD s undef=v s
 |[],a,s,_,h=>by
  rcases h with h|h
  ·cases h
  ·exact h
 |d::l,a,s,hd,h=>by
  rw [dC]
  have hd0:=hd d qE
  refine iO v l _ s (fun e he=>by simp [Act.put];exact hd e (List.mem_cons_of_mem _ he)) ?_
  rw [bK _ _ _ _ hd0]
  by_cases hs:s=d
  ·subst hs;exact .inr (if_pos rfl)
  ·rw [if_neg hs]
   rcases h with h|h
   ·rcases List.mem_cons.1 h with h|h
    ·exact absurd h hs
    ·exact .inl h
   ·exact .inr h
theorem iY (v:Nat→Value):∀ (l:List Nat) (a:Act) (s:Nat),(∀ d∈l,d<a.tmps.size)→s ∉ l→(dC a v l).tmps.getD s undef=a.tmps.getD s undef
 |[],_,_,_,_=>rfl
 |d::l,a,s,hd,h=>by
  have hd0:=hd d qE
  rw [dC,iY v l _ s (fun e he=>by simp [Act.put];exact hd e (List.mem_cons_of_mem _ he)) (fun hm=>h (List.mem_cons_of_mem _ hm)),bK _ _ _ _ hd0,if_neg]
  rintro rfl
  exact h qE
theorem s6{b:Act} (hs:a.tmps.size=b.tmps.size) (hd:a.defers=b.defers) (h:∀ s,a.tmps.getD s undef=b.tmps.getD s undef):a=b:=by
 obtain ⟨ta,da⟩:=a
 obtain ⟨tb,db⟩:=b
 simp only at hs hd h
 subst hd
 have:ta=tb:=by
  apply Array.ext hs
  intro i h1 h2
  have:=h i
  simpa [Array.getD_eq_getD_getElem?,h1,h2] using this
 rw [this]
def gM:List Bool→Nat
 |[]=>0
 |true::l=>gM l
 |false::l=>gM l+1
theorem jO:∀ (l:List Bool) (i:Nat),l[i]? =some false→gM (l.set i true)+1=gM l
 |[],_,h=>by simp at h
 |b::l,0,h=>by
  simp at h
  subst h
  simp [gM]
 |b::l,i+1,h=>by
  have:=jO l i (by simpa using h)
  cases b<;>simp [gM]<;>omega
theorem jR:∀ (l:List Bool) (i:Nat),l[i]? =some false→0<gM l
 |[],_,h=>by simp at h
 |b::l,0,h=>by
  simp at h
  subst h
  simp [gM]
 |b::l,i+1,h=>by
  have:=jR l i (by simpa using h)
  cases b<;>simp [gM]
  exact this
section
variable {P:Program} {ops:Array Oper} {Q:Exit→Act→World→Prop} {E:List (Nat×b6)} {w0:World} {a0:Act} {start:List Nat} {gs:List (Nat×Bool)} {n:Nat}
theorem iH:∀ {l:List Nat},dA l=true→∀ (i j:Nat) (x:Nat),l[i]? =some x→l[j]? =some x→i=j
 |[],_,i,_,_,hi,_=>by simp at hi
 |a::l,h,i,j,x,hi,hj=>by
  simp only [dA,Bool.and_eq_true,Bool.not_eq_true',List.elem_eq_mem,decide_eq_false_iff_not] at h
  rcases i with _|i<;>rcases j with _|j
  ·rfl
  ·simp at hi hj
   subst hi
   exact absurd (List.mem_of_getElem? hj) h.1
  ·simp at hi hj
   subst hj
   exact absurd (List.mem_of_getElem? hi) h.1
  ·rw [iH h.2 i j x (by simpa using hi) (by simpa using hj)]
def gk (E:List (Nat×b6)) (w:World) (v:Nat→Value):List Oper→Prop
 |[]=>True
 |o::l=>(bJ E (bC o)).holds w (v (bC o))∧gk E w v l
theorem gk.of {w:World} {v:Nat→Value}:∀ {l:List Oper},(∀ o∈l,(bJ E (bC o)).holds w (v (bC o)))→gk E w v l
 |[],_=>trivial
 |o::l,h=>⟨h o qE,gk.of (l:=l) fun t ht=>h t (List.mem_cons_of_mem _ ht)⟩
theorem nV (k:Nat):gM (List.replicate k false)≤k:=by
 induction k with
 |zero=>simp [gM]
 |succ k ih=>simp only [List.replicate_succ,gM];omega
end
def xe (ops:Array Oper) (start:List Nat) (gs:List (Nat×Bool)) (n m:Nat) (t:Oper):Bool:=
 Nat.beq ops.size (m+1)&&((List.range m).all fun i=>match ops[i]? with|some o=>iR ops start gs n i o&&t.after.toList.any (fun e=>Region.binds .any e&&Nat.beq e.on i)|none=>false)&&dA ((ops.toList.take m).map bC)&&
 (match t.guard with|none=>true|some _=>false)&&(t.after.toList.all fun e=> !Region.binds .any e || Nat.blt e.on m)
section
variable {P:Program} {ops:Array Oper} {Q:Exit→Act→World→Prop} {E:List (Nat×b6)} {w0:World} {a0:Act} {start:List Nat} {gs:List (Nat×Bool)} {n m:Nat} {t:Oper}
structure He (ops:Array Oper) (E:List (Nat×b6)) (w0:World) (a0:Act) (start:List Nat) (n m:Nat) (listed:Array Bool) (a:Act) (w:World):Prop where
 size:a.tmps.size=n
 defers:a.defers=a0.defers
 below:Below w0.heap.size w0 w
 rest:∀ s,s ∉ (ops.toList.take m).map bC→a.tmps.getD s undef=a0.tmps.getD s undef
 start:∀ s∈start,(bJ E s).holds w (a.tmps.getD s undef)
 done:∀ (i:Nat) (o:Oper),i<m→ops[i]? =some o→listed.getD i false=true→(bJ E (bC o)).holds w (a.tmps.getD (bC o) undef)
 len:listed.size=ops.size
 last:listed.getD m true=false
theorem n_:o∈ops.toList.take m↔∃ i,i<m∧ops[i]? =some o:=by
 rw [List.mem_iff_getElem?]
 constructor
 ·rintro ⟨i,hi⟩
  rw [List.getElem?_take] at hi
  split at hi
  ·rename_i h;exact ⟨i,h,by rw [←Array.getElem?_toList];exact hi⟩
  ·cases hi
 ·rintro ⟨i,h,hi⟩
  exact ⟨i,by rw [List.getElem?_take,if_pos h,Array.getElem?_toList];exact hi⟩
theorem v8 (hck:xe ops start gs n m t=true) (ht:ops[m]? =some t) (hgs:fK E gs) (hok:eW P E w0 (ops.toList.take m)) (hn:a0.tmps.size=n)
 (hfin:∀ v w',(∀ o∈ops.toList.take m,(bJ E (bC o)).holds w' (v (bC o)))→Below w0.heap.size w0 w'→wpList P ops Q [t] (dC a0 v ((ops.toList.take m).map bC)) w'):
 ∀ (fuel:Nat) (listed:Array Bool) (a:Act) (w:World),He ops E w0 a0 start n m listed a w→gM listed.toList≤fuel→wpAny P .any ops Q fuel listed a w:=by
 unfold xe at hck
 simp only [Bool.and_eq_true,List.all_eq_true] at hck
 obtain ⟨⟨⟨⟨hsz0,hfr⟩,hdis⟩,htg⟩,htaf⟩:=hck
 have hsize:ops.size=m+1:=Nat.eq_of_beq_eq_true hsz0
 have hop:∀ (i:Nat) (o:Oper),i<m→ops[i]? =some o→iR ops start gs n i o=true∧t.after.toList.any (fun e=>Region.binds .any e&&Nat.beq e.on i)=true:=by
  intro i o hi ho
  have:=hfr i (by simpa using hi)
  rw [ho] at this
  simpa only [Bool.and_eq_true] using this
 have hd:∀ (i:Nat) (o:Oper),i<m→ops[i]? =some o→∃ d,o.dst=some d∧d<n∧d ∉ start∧bC o=d:=by
  intro i o hi ho
  have:=(hop i o hi ho).1
  unfold iR at this
  simp only [Bool.and_eq_true] at this
  obtain ⟨⟨⟨h1,_⟩,_⟩,_⟩:=this
  cases hdo:o.dst with
  |none=>rw [hdo] at h1;simp at h1
  |some d=>
   rw [hdo] at h1
   simp only [Bool.and_eq_true,Bool.not_eq_true',List.elem_eq_mem,decide_eq_false_iff_not] at h1
   exact ⟨d,rfl,by rw [←Nat.blt_eq];exact h1.1,h1.2,by unfold bC;rw [hdo];rfl⟩
 have hdist:∀ (i j:Nat) (o o':Oper),i<m→j<m→ops[i]? =some o→ops[j]? =some o'→bC o=bC o'→i=j:=by
  intro i j o o' hi hj ho ho' he
  refine iH hdis i j (bC o) ?_ ?_
  ·rw [List.getElem?_map,List.getElem?_take,if_pos hi,Array.getElem?_toList,ho];rfl
  ·rw [List.getElem?_map,List.getElem?_take,if_pos hj,Array.getElem?_toList,ho',he];rfl
 have hnot:∀ (listed:Array Bool) (a:Act) (w:World),He ops E w0 a0 start n m listed a w→Region.ready .any ops listed≠[]:=by
  intro listed a w hI hr
  have hall:∀ i,i<m→listed.getD i false=true:=by
   intro i
   induction i using Nat.strongRecOn with
   |_ i ih=>
    intro hi
    by_cases hl:listed.getD i true=true
    ·have hi':i<listed.size:=by rw [hI.len];omega
     simpa [Array.getD_eq_getD_getElem?,hi'] using hl
    ·exfalso
     obtain ⟨o,ho⟩:∃ o,ops[i]? =some o:=⟨_,Array.getElem?_eq_getElem qO⟩
     have hchk:=(hop i o hi ho).1
     unfold iR at hchk
     simp only [Bool.and_eq_true,List.all_eq_true] at hchk
     have hm:i∈Region.ready .any ops listed:=by
      unfold Region.ready
      simp only [List.mem_filter,List.mem_range,show i<ops.size by omega,true_and,Bool.and_eq_true,Bool.not_eq_true',ho,Option.map_some,Option.getD_some]
      refine ⟨by simpa using hl,?_⟩
      rw [←Array.all_toList]
      simp only [List.all_eq_true]
      intro e he
      have:=hchk.2 e he
      simp only [Bool.or_eq_true] at this ⊢
      rcases this with h|h
      ·exact .inl h
      ·have hlt:e.on<i:=by rw [←Nat.blt_eq];exact h
       exact .inr (ih e.on hlt qO)
     rw [hr] at hm
     cases hm
  have hm:m∈Region.ready .any ops listed:=by
   unfold Region.ready
   simp only [List.mem_filter,List.mem_range,show m<ops.size by omega,true_and,Bool.and_eq_true,Bool.not_eq_true',ht,Option.map_some,Option.getD_some]
   refine ⟨hI.last,?_⟩
   rw [←Array.all_toList]
   simp only [List.all_eq_true]
   intro e he
   have:=htaf e he
   simp only [Bool.or_eq_true] at this ⊢
   rcases this with h|h
   ·exact .inl h
   ·have hlt:e.on<m:=by rw [←Nat.blt_eq];exact h
    exact .inr (hall e.on hlt)
  rw [hr] at hm
  cases hm
 intro fuel
 induction fuel with
 |zero=>
  intro listed a w hI hf
  exfalso
  have:listed.toList[m]? =some false:=by
   have h1:=hI.last
   have hi':m<listed.size:=by rw [hI.len];omega
   rw [Array.getElem?_toList]
   simpa [Array.getD_eq_getD_getElem?,hi'] using h1
  have:=jR _ _ this
  omega
 |succ fuel ih=>
  intro listed a w hI hf
  refine ⟨fun hr=>absurd hr (hnot listed a w hI),fun i hi=> ?_⟩
  unfold Region.ready at hi
  simp only [List.mem_filter,List.mem_range,Bool.and_eq_true,Bool.not_eq_true'] at hi
  obtain ⟨hlt,hl,haf⟩:=hi
  have hi':i<listed.size:=by rw [hI.len];exact hlt
  obtain ⟨o,ho⟩:∃ o,ops[i]? =some o:=⟨_,Array.getElem?_eq_getElem hlt⟩
  rw [ho] at haf
  simp only [Option.map_some,Option.getD_some] at haf
  rw [←Array.all_toList] at haf
  simp only [List.all_eq_true,Bool.or_eq_true,Bool.not_eq_true'] at haf
  by_cases him:i=m
  ·subst him
   rw [ht] at ho
   injection ho with ho
   subst ho
   have hall:∀ j,j<i→listed.getD j false=true:=by
    intro j hj
    obtain ⟨oj,hoj⟩:∃ oj,ops[j]? =some oj:=⟨_,Array.getElem?_eq_getElem qO⟩
    have h1:=(hop j oj hj hoj).2
    simp only [List.any_eq_true,Bool.and_eq_true] at h1
    obtain ⟨e,he,hb,hej⟩:=h1
    have hej':e.on=j:=Nat.eq_of_beq_eq_true hej
    rcases haf e he with h|h
    ·rw [hb] at h;cases h
    ·rw [←hej'];exact h
   have hds:∀ d∈(ops.toList.take i).map bC,d<a0.tmps.size:=by
    intro d hdm
    obtain ⟨o,ho,rfl⟩:=List.mem_map.1 hdm
    obtain ⟨j,hj,hoj⟩:=n_.1 ho
    obtain ⟨d,_,h2,_,h4⟩:=hd j o hj hoj
    rw [h4,hn];exact h2
   have he:a=dC a0 (fun s=>a.tmps.getD s undef) ((ops.toList.take i).map bC):=by
    refine s6 (by rw [ie,hI.size,hn]) (by rw [fZ,hI.defers]) fun s=> ?_
    by_cases hs:s∈(ops.toList.take i).map bC
    ·rw [iO _ _ _ _ hds (.inl hs)]
    ·rw [iY _ _ _ _ hds hs,hI.rest s hs]
   have hlast:=hfin (fun s=>a.tmps.getD s undef) w (fun o ho=>by
    obtain ⟨j,hj,hoj⟩:=n_.1 ho
    exact hI.done j o hj hoj (hall j hj)) hI.below
   rw [←he] at hlast
   have hend:∀ (a':Act) (w':World),Q .normal a' w'→wpAny P .any ops Q fuel (listed.setIfInBounds i true) a' w':=by
    intro a' w' hq
    have hr:Region.ready .any ops (listed.setIfInBounds i true)=[]:=by
     unfold Region.ready
     rw [List.filter_eq_nil_iff]
     intro j hj
     simp only [List.mem_range] at hj
     intro hc
     simp only [Bool.and_eq_true,Bool.not_eq_true'] at hc
     have hj':j<listed.size:=by rw [hI.len];exact hj
     by_cases hji:j=i
     ·subst hji
      have:=hc.1
      simp [Array.getD_eq_getD_getElem?,hj'] at this
     ·have h1:=hall j qO
      have h2:=hc.1
      rw [Array.getD_eq_getD_getElem?,Array.getElem?_setIfInBounds_ne (Ne.symm hji)] at h2
      rw [Array.getD_eq_getD_getElem?] at h1
      rw [Array.getElem?_eq_getElem hj'] at h1 h2
      simp at h1 h2
      rw [h1] at h2
      cases h2
    cases fuel with
    |zero=>exact ⟨hr,hq⟩
    |succ f=>exact ⟨fun _=>hq,fun j hj=>by rw [hr] at hj;cases hj⟩
   unfold wpOp
   simp only [ht]
   unfold wpList at hlast
   split at hlast
   ·rw [if_pos ‹_›]
    rcases hlast with h|h
    ·exact .inl (Oper.wp_mono (fun a' w' h'=>hend a' w' h') h)
    ·exact .inr h
   ·rw [if_neg ‹_›]
    exact hend _ _ hlast
  ·have hilt:i<m:=qO
   have hchk:=(hop i o hilt ho).1
   unfold iR at hchk
   simp only [Bool.and_eq_true] at hchk
   obtain ⟨⟨⟨hc1,hc2⟩,hc3⟩,hc4⟩:=hchk
   have hon:∀ e∈o.after.toList,Region.binds .any e=true→e.on<m:=by
    intro e he hb
    have:=List.all_eq_true.1 hc4 e he
    simp only [Bool.or_eq_true,Bool.not_eq_true'] at this
    rcases this with h|h
    ·rw [hb] at h;cases h
    ·have:e.on<i:=by rw [←Nat.blt_eq];exact h
     omega
   have hwait:∀ e∈o.after.toList,Region.binds .any e=true→∀ oe,ops[e.on]? =some oe→(bJ E (bC oe)).holds w (a.tmps.getD (bC oe) undef):=by
    intro e he hb oe hoe
    rcases haf e he with h|h
    ·rw [hb] at h;cases h
    ·exact hI.done _ _ (hon e he hb) hoe h
   have hw:Region.wanted o (yielded ops a.tmps)=true:=by
    unfold Region.wanted
    cases hg:o.guard with
    |none=>rfl
    |some p=>
     obtain ⟨g,want⟩:=p
     rw [hg] at hc3
     simp only [Bool.and_eq_true,List.any_eq_true] at hc3
     obtain ⟨h1,e,he,hb,heg⟩:=hc3
     have heg':e.on=g:=Nat.eq_of_beq_eq_true heg
     cases hog:ops[g]? with
     |none=>rw [hog] at h1;simp at h1
     |some og=>
      rw [hog] at h1
      obtain ⟨d,hd1,hd2,_,hd4⟩:=hd g og (by rw [←heg'];exact hon e he hb) hog
      simp only [Option.bind_some,hd1,List.elem_eq_mem,decide_eq_true_eq] at h1
      have hv:=hwait e he hb og (by rw [heg'];exact hog)
      rw [hd4] at hv
      have hval:=hgs.mem _ h1 _ _ hv
      have hsz:d<a.tmps.size:=by rw [hI.size];exact hd2
      have hget:a.tmps[d]? =some (.bool want):=by
       rw [Array.getD_eq_getD_getElem?,Array.getElem?_eq_getElem hsz] at hval
       rw [Array.getElem?_eq_getElem hsz]
       simpa using hval
      simp [yielded,hog,hd1,hget]
   unfold wpOp
   simp only [ho]
   rw [if_pos hw]
   left
   obtain ⟨d,hd1,hd2,hd3,hd4⟩:=hd i o hilt ho
   have hslots:cJ E w a.eval o.op.operands.toList:=by
    refine cJ.of fun s hs=> ?_
    have:=List.all_eq_true.1 hc2 _ hs
    simp only [Bool.or_eq_true,List.any_eq_true,Bool.and_eq_true] at this
    rcases this with h|⟨e,he,hb,heq⟩
    ·exact hI.start s (by simpa using h)
    ·have heq':(ops[e.on]?).bind (·.dst)=some s:=by simpa using heq
     cases hoe:ops[e.on]? with
     |none=>rw [hoe] at heq';cases heq'
     |some oe=>
      rw [hoe] at heq'
      have h1:=hwait e he hb oe hoe
      obtain ⟨d',hd1',_,_,hd4'⟩:=hd _ oe (hon e he hb) hoe
      have:d'=s:=by
       have h2:oe.dst=some s:=heq'
       rw [hd1'] at h2
       injection h2
      subst this
      rw [hd4'] at h1
      exact h1
   have hof:o∈ops.toList.take m:=n_.2 ⟨i,hilt,ho⟩
   have hy:=(hok.mem o hof) a.eval w (fun _=>rfl) (fun _=>rfl) hI.below hslots
   refine Oper.wp_mono (fun a' w' h=> ?_) hy.wp
   obtain ⟨v,rfl,hT,hB⟩:=h
   have hsz:d<a.tmps.size:=by rw [hI.size];exact hd2
   rw [hd1]
   refine ih _ _ _ ⟨?_,?_,?_,?_,?_,?_,?_,?_⟩ ?_
   ·simp [Act.put,hI.size]
   ·exact hI.defers
   ·exact hI.below.trans (hB.mono hI.below.size)
   ·intro s hs
    rw [bK _ _ _ _ hsz,if_neg,hI.rest s hs]
    rintro rfl
    exact hs (List.mem_map.2 ⟨o,hof,hd4⟩)
   ·intro s hs
    rw [bK _ _ _ _ hsz,if_neg]
    ·exact (bJ E s).stable (hI.start s hs) hB
    ·rintro rfl
     exact hd3 hs
   ·intro j oj hjm hj hlj
    by_cases hji:j=i
    ·subst hji
     rw [ho] at hj
     injection hj with hj
     subst hj
     rw [hd4,bK _ _ _ _ hsz,if_pos rfl]
     rw [hd4] at hT
     exact hT
    ·have hne:bC oj≠d:=fun h=>hji (hdist j i oj o hjm hilt hj ho (by rw [h,hd4]))
     rw [bK _ _ _ _ hsz,if_neg hne]
     refine (bJ E _).stable (hI.done j oj hjm hj ?_) hB
     rw [Array.getD_eq_getD_getElem?,Array.getElem?_setIfInBounds_ne (Ne.symm hji)] at hlj
     rw [Array.getD_eq_getD_getElem?]
     exact hlj
   ·simp [hI.len]
   ·have:=hI.last
    rw [Array.getD_eq_getD_getElem?,Array.getElem?_setIfInBounds_ne him]
    rw [Array.getD_eq_getD_getElem?] at this
    exact this
   ·have h1:listed.toList[i]? =some false:=by
     rw [Array.getElem?_toList]
     simpa [Array.getD_eq_getD_getElem?,hi'] using hl
    have:=jO _ _ h1
    rw [Array.toList_setIfInBounds]
    omega
theorem ja {id:Nat} {l:List Oper} {w:World} (E:List (Nat×b6)) (start:List Nat) (gs:List (Nat×Bool)) (n m:Nat) (hm:P.follows .mixedOrders=true) (ht:l[m]? =some t) (hck:xe l.toArray start gs n m t=true) (hn:a0.tmps.size=n) (hgs:fK E gs)
 (hst:iP E w a0 start) (hok:eW P E w (l.take m))
 (hfin:∀ v w',gk E w' v (l.take m)→Below w.heap.size w w'→wpList P l.toArray Q [t] (dC a0 v ((l.take m).map bC)) w'):
 (Code.region id l.toArray true).wp P Q a0 w:=by
 refine wp_region_any hm ?_
 have hb:Below w.heap.size w w.drew:=(Below.refl _ _).drew
 have hsz:l.toArray.size=m+1:=by
  have h:=hck
  unfold xe at h
  simp only [Bool.and_eq_true] at h
  exact Nat.eq_of_beq_eq_true h.1.1.1.1
 refine v8 (w0:=w) hck (by simpa using ht) hgs (by simpa using hok) hn (fun v w' h hb=>by simpa using hfin v w' (gk.of (by simpa using h)) hb) _ _ _ _ ⟨hn,rfl,hb,fun _ _=>rfl,fun s hs=>(bJ E s).stable (hst.mem s hs) hb,?_,by simp,?_⟩ ?_
 ·intro i o _ ho hl
  exfalso
  rw [Array.getD_eq_getD_getElem?] at hl
  cases h:(Array.replicate l.toArray.size false)[i]? with
  |none=>rw [h] at hl;cases hl
  |some b=>
   have:=Array.mem_of_getElem? h
   simp at this
   rw [h,this.2] at hl
   cases hl
 ·rw [Array.getD_eq_getD_getElem?,Array.getElem?_replicate,if_pos qO]
  rfl
 ·simpa using nV l.toArray.size
end
def jr (ops:Array Oper) (gs:List (Nat×Bool)) (o:Oper):Bool:=match o.guard with
 |none=>true
 |some (g,want)=>match (ops[g]?).bind (·.dst) with|some d=>gs.elem (d,want)|none=>false
def b7 (P:Program) (ops:Array Oper) (gs:List (Nat×Bool)) (E:List (Nat×b6)) (w0:World):List Oper→Prop
 |[]=>True
 |o::l=>(jr ops gs o=true→eU P E w0 o)∧b7 P ops gs E w0 l
section
variable {P:Program} {ops:Array Oper} {gs:List (Nat×Bool)} {E:List (Nat×b6)} {w0:World}
theorem b7.nil:b7 P ops gs E w0 []:=trivial
theorem b7.run{l:List Oper} (h:eU P E w0 o) (t:b7 P ops gs E w0 l):b7 P ops gs E w0 (o::l):=⟨fun _=>h,t⟩
theorem b7.skip{l:List Oper} (h:jr ops gs o=false) (t:b7 P ops gs E w0 l):b7 P ops gs E w0 (o::l):=⟨(fun h'=>by rw [h] at h';cases h'),t⟩
theorem b7.mem:∀ {l:List Oper},b7 P ops gs E w0 l→∀ o∈l,jr ops gs o=true→eU P E w0 o
 |[],_,_,h=>by cases h
 |_::_,h,o,ho=>by
  rcases List.mem_cons.1 ho with rfl|ho
  ·exact h.1
  ·exact b7.mem h.2 o ho
end
def jV (E:List (Nat×b6)):List Nat→Prop
 |[]=>True
 |d::l=>bJ E d=b6.is undef∧jV E l
theorem jV.mem {E:List (Nat×b6)}:∀ {l:List Nat},jV E l→∀ d∈l,bJ E d=b6.is undef
 |[],_,_,h=>by cases h
 |_::_,h,d,hd=>by
  rcases List.mem_cons.1 hd with rfl|hd
  ·exact h.1
  ·exact h.2.mem d hd
def fJ (ops:Array Oper) (keys start:List Nat) (gs:List (Nat×Bool)) (us:List Nat) (n i:Nat) (o:Oper):Bool:=
 (match o.dst with|some d=>Nat.blt d n&& !start.elem d|none=>false)&&
 (o.op.operands.toList.all fun| .tmp s=> !keys.elem s || start.elem s || o.after.toList.any (fun e=>Region.binds .any e&&((ops[e.on]?).bind (·.dst)==some s))|_=>true)&&
 (match o.guard with|none=>true|some (g,want)=>(match (ops[g]?).bind (·.dst) with|some d=>gs.elem (d,want) || ((gs.elem (d, !want) || us.elem d)&&(!keys.elem (bC o) || us.elem (bC o)))|none=>false)&&o.after.toList.any (fun e=>Region.binds .any e&&Nat.beq e.on g))&&
 (o.after.toList.all fun e=> !Region.binds .any e || Nat.blt e.on i)
def kb (ops:Array Oper) (j i:Nat):Bool:=match ops[j]? with|some o=>o.after.toList.any (fun e=>Region.binds .any e&&Nat.beq e.on i)|none=>false
def iA (ops:Array Oper) (keys start:List Nat) (gs:List (Nat×Bool)) (us:List Nat) (n m:Nat):Bool:=
 ((List.range m).all fun i=>match ops[i]? with|some o=>fJ ops keys start gs us n i o&&(List.range (m+1)).any (fun j=>Nat.blt i j&&kb ops j i)|none=>false)&&dA ((ops.toList.take m).map bC)&&
 ((List.range ops.size).all fun j=>Nat.blt j m || ((match ops[j]? with|some o=>(match o.guard with|none=>true|some _=>true)&&(o.after.toList.all fun e=> !Region.binds .any e || Nat.blt e.on j)|none=>false)&&(Nat.beq j m || kb ops j (j - 1))))&&
 Nat.ble m ops.size&&(Nat.blt m ops.size || Nat.beq m ops.size)
def Hx (ops:Array Oper) (keys start:List Nat) (gs:List (Nat×Bool)) (n i:Nat) (o:Oper):Bool:=fJ ops keys start gs [] n i o
def F7 (ops:Array Oper) (keys start:List Nat) (gs:List (Nat×Bool)) (n m:Nat):Bool:=iA ops keys start gs [] n m
def cB (P:Program):List Oper→Prop
 |[]=>True
 |o::l=>(∀ T,o.op= .alloc T→∀ (ρ:Operand→Value) (w:World),∃ w',(execOp ρ o).run P w= .ok (.value (.pointer (some ⟨w.heap.size,0,none⟩))) w'∧w.heap.size<w'.heap.size)∧cB P l
theorem cB.nil:cB P []:=trivial
theorem cB.cons {P:Program} {o:Oper} {l:List Oper} (h:∀ T,o.op= .alloc T→∀ (ρ:Operand→Value) (w:World),∃ w',(execOp ρ o).run P w= .ok (.value (.pointer (some ⟨w.heap.size,0,none⟩))) w'∧w.heap.size<w'.heap.size) (t:cB P l):cB P (o::l):=⟨h,t⟩
theorem cB.mem {P:Program}:∀ {l:List Oper},cB P l→∀ o∈l,∀ T,o.op= .alloc T→∀ (ρ:Operand→Value) (w:World),∃ w',(execOp ρ o).run P w= .ok (.value (.pointer (some ⟨w.heap.size,0,none⟩))) w'∧w.heap.size<w'.heap.size
 |[],_,_,h=>by cases h
 |_::_,h,o,ho=>by
  rcases List.mem_cons.1 ho with rfl|ho
  ·exact h.1
  ·exact cB.mem h.2 o ho
theorem Yields.alloc {P:Program} {o:Oper} {ρ:Operand→Value} {w w1:World} {K:Value→World→Prop} (h:Yields P o ρ w K) (hr:(execOp ρ o).run P w= .ok (.value (.pointer (some ⟨w.heap.size,0,none⟩))) w1) (hz:w.heap.size<w1.heap.size):
 Yields P o ρ w fun v w'=>K v w'∧v= .pointer (some ⟨w.heap.size,0,none⟩)∧w.heap.size<w'.heap.size:=by
 unfold Yields at*
 rw [hr] at h ⊢
 exact ⟨h,rfl,hz⟩
theorem md:∀ {E:List (Nat×b6)} {s:Nat},(E.map Prod.fst).elem s=false→bJ E s=b6.any
 |[],_,_=>rfl
 |(t,x)::l,s,h=>by
  simp only [List.map_cons,List.elem_eq_mem,decide_eq_false_iff_not,List.mem_cons,not_or] at h
  have hne:Nat.beq t s=false:=by
    cases hb:Nat.beq t s with
    |false=>rfl
    |true=>exact absurd (Nat.eq_of_beq_eq_true hb).symm h.1
  show (bif Nat.beq t s then x else bJ l s)=_
  rw [hne]
  exact md (by simpa using h.2)
section
variable {P:Program} {ops:Array Oper} {Q:Exit→Act→World→Prop} {E:List (Nat×b6)} {w0:World} {a0:Act} {start:List Nat} {gs:List (Nat×Bool)} {us:List Nat} {n m:Nat}
theorem ij{j:Nat} (h:kb ops j i=true):∃ o,ops[j]? =some o∧∃ e∈o.after.toList,Region.binds .any e=true∧e.on=i:=by
 unfold kb at h
 split at h
 ·rename_i o ho
  simp only [List.any_eq_true,Bool.and_eq_true] at h
  obtain ⟨e,he,hb,hi⟩:=h
  exact ⟨o,ho,e,he,hb,Nat.eq_of_beq_eq_true hi⟩
 ·cases h
theorem jc{listed:Array Bool} (hl:listed.size=ops.size) (hi:i∈Region.ready .any ops listed):i<ops.size∧listed.getD i true=false∧∀ o,ops[i]? =some o→∀ e∈o.after.toList,Region.binds .any e=true→listed.getD e.on false=true:=by
 unfold Region.ready at hi
 simp only [List.mem_filter,List.mem_range,Bool.and_eq_true,Bool.not_eq_true'] at hi
 obtain ⟨hlt,hl',haf⟩:=hi
 refine ⟨hlt,hl',fun o ho e he hb=> ?_⟩
 rw [ho] at haf
 simp only [Option.map_some,Option.getD_some] at haf
 rw [←Array.all_toList] at haf
 simp only [List.all_eq_true,Bool.or_eq_true,Bool.not_eq_true'] at haf
 rcases haf e he with h|h
 ·rw [hb] at h;cases h
 ·exact h
theorem qk{listed:Array Bool} (ho:ops[i]? =some o) (hl:listed.getD i true=false) (h:∀ e∈o.after.toList,Region.binds .any e=true→listed.getD e.on false=true):i∈Region.ready .any ops listed:=by
 unfold Region.ready
 simp only [List.mem_filter,List.mem_range,(Array.getElem?_eq_some_iff.1 ho).1,true_and,Bool.and_eq_true,Bool.not_eq_true',ho,Option.map_some,Option.getD_some]
 refine ⟨hl,?_⟩
 rw [←Array.all_toList]
 simp only [List.all_eq_true]
 intro e he
 cases hb:Region.binds .any e with
 |false=>rfl
 |true=>exact h e he hb
theorem pn{listed:Array Bool} (hi:i<listed.size) (h:listed.getD i true=true):listed.getD i false=true:=by simpa [Array.getD_eq_getD_getElem?,hi] using h
theorem nk{listed:Array Bool} (h:listed.getD i true=false):listed.getD i false=false:=by
 rcases Nat.lt_or_ge i listed.size with h'|h'
 ·simpa [Array.getD_eq_getD_getElem?,h'] using h
 ·simp [Array.getD_eq_getD_getElem?,Array.getElem?_eq_none h']
theorem dF{listed:Array Bool} {j:Nat} {b:Bool} (h:j≠i):(listed.setIfInBounds i true).getD j b=listed.getD j b:=by
 rw [Array.getD_eq_getD_getElem?,Array.getElem?_setIfInBounds_ne (Ne.symm h),←Array.getD_eq_getD_getElem?]
theorem tD{listed:Array Bool} (h:i<listed.size):(listed.setIfInBounds i true).getD i false=true:=by
 rw [Array.getD_eq_getD_getElem?,Array.getElem?_setIfInBounds_self_of_lt h];rfl
theorem j8{listed:Array Bool} (hi:i<listed.size) (h:listed.getD i true=false):listed.toList[i]? =some false:=by
 rw [Array.getElem?_toList]
 simpa [Array.getD_eq_getD_getElem?,hi] using h
theorem oo (hch:∀ j,m≤j→j<ops.size→∃ o,ops[j]? =some o∧(∀ e∈o.after.toList,Region.binds .any e=true→e.on<j)∧(j=m∨kb ops j (j - 1)=true)):
 ∀ (fuel k:Nat) (listed:Array Bool) (a:Act) (w:World),m≤k→k≤ops.size→listed.size=ops.size→(∀ i,i<k→listed.getD i false=true)→(∀ i,k≤i→i<ops.size→listed.getD i true=false)→gM listed.toList≤fuel→
  wpList P ops Q (ops.toList.drop k) a w→wpAny P .any ops Q fuel listed a w:=by
 intro fuel
 induction fuel with
 |zero=>
  intro k listed a w hmk hk hl h1 h2 hf hw
  rcases Nat.lt_or_ge k ops.size with hlt|hge
  ·have:=jR _ _ (j8 qO (h2 k (Nat.le_refl _) hlt))
   omega
  ·have hk':k=ops.size:=qO
   have hr:Region.ready .any ops listed=[]:=by
    refine List.eq_nil_iff_forall_not_mem.2 fun i hi=> ?_
    obtain ⟨hi1,hi2,_⟩:=jc hl hi
    have:=h1 i qO
    rw [nk hi2] at this
    cases this
   rw [hk',List.drop_of_length_le qE] at hw
   exact ⟨hr,hw⟩
 |succ fuel ih=>
  intro k listed a w hmk hk hl h1 h2 hf hw
  have hfar:∀ i,i∈Region.ready .any ops listed→i=k:=by
   intro i hi
   obtain ⟨hi1,hi2,hi3⟩:=jc hl hi
   rcases Nat.lt_trichotomy i k with h|h|h
   ·have:=h1 i h
    rw [nk hi2] at this
    cases this
   ·exact h
   ·obtain ⟨o,ho,_,hor⟩:=hch i qO hi1
    rcases hor with h'|h'
    ·omega
    ·obtain ⟨o',ho',e,he,hb,hon⟩:=ij h'
     have:=hi3 o' ho' e he hb
     rw [hon,nk (h2 (i - 1) qO qO)] at this
     cases this
  rcases Nat.lt_or_ge k ops.size with hlt|hge
  ·obtain ⟨o,ho,haf,_⟩:=hch k hmk hlt
   have hin:=qk ho (h2 k (Nat.le_refl _) hlt) (fun e he hb=>h1 _ (haf e he hb))
   refine ⟨(fun hr=>by rw [hr] at hin;cases hin),fun i hi=> ?_⟩
   obtain rfl:=hfar i hi
   have hd:ops.toList.drop i=o::ops.toList.drop (i+1):=by
    rw [List.drop_eq_getElem_cons (by simpa using hlt)]
    congr 1
    have:ops.toList[i]? =some o:=by rw [Array.getElem?_toList];exact ho
    rw [List.getElem?_eq_getElem (by simpa using hlt)] at this
    injection this
   rw [hd] at hw
   have hnext:∀ a' w',wpList P ops Q (ops.toList.drop (i+1)) a' w'→wpAny P .any ops Q fuel (listed.setIfInBounds i true) a' w':=by
    intro a' w' h'
    refine ih (i+1) _ a' w' qO qO (by simp [hl]) (fun j hj=> ?_) (fun j hj hj'=> ?_) ?_ h'
    ·by_cases hji:j=i
     ·subst hji;exact tD qO
     ·rw [dF hji];exact h1 j qO
    ·rw [dF qO];exact h2 j qO hj'
    ·have:=jO _ _ (j8 qO (h2 i (Nat.le_refl _) hlt))
     rw [Array.toList_setIfInBounds]
     omega
   unfold wpOp
   simp only [ho]
   unfold wpList at hw
   split at hw
   ·rw [if_pos ‹_›]
    rcases hw with h|h
    ·exact .inl (Oper.wp_mono hnext h)
    ·exact .inr h
   ·rw [if_neg ‹_›]
    exact hnext _ _ hw
  ·have hk':k=ops.size:=qO
   rw [hk',List.drop_of_length_le qE] at hw
   refine ⟨fun _=>hw,fun i hi=> ?_⟩
   have:=hfar i hi
   have:=(jc hl hi).1
   omega
structure Ht (ops:Array Oper) (E:List (Nat×b6)) (w0:World) (a0:Act) (start:List Nat) (n m:Nat) (listed:Array Bool) (a:Act) (w:World):Prop where
 size:a.tmps.size=n
 defers:a.defers=a0.defers
 below:Below w0.heap.size w0 w
 rest:∀ s,s ∉ (ops.toList.take m).map bC→a.tmps.getD s undef=a0.tmps.getD s undef
 start:∀ s∈start,(bJ E s).holds w (a.tmps.getD s undef)
 done:∀ (i:Nat) (o:Oper),i<m→ops[i]? =some o→listed.getD i false=true→(bJ E (bC o)).holds w (a.tmps.getD (bC o) undef)
 len:listed.size=ops.size
 last:∀ i,m≤i→i<ops.size→listed.getD i true=false
 closed:∀ (i:Nat) (o:Oper),i<m→ops[i]? =some o→listed.getD i false=true→∀ e∈o.after.toList,Region.binds .any e=true→listed.getD e.on false=true
 fresh:∀ (i:Nat) (o:Oper) (T:TypeId),i<m→ops[i]? =some o→o.op= .alloc T→o.guard=none→listed.getD i false=true→∃ r,a.tmps.getD (bC o) undef= .pointer (some ⟨r,0,none⟩)∧r<w.heap.size
 apart:∀ (i j:Nat) (o o':Oper) (T T':TypeId),i<m→j<m→i≠j→ops[i]? =some o→ops[j]? =some o'→o.op= .alloc T→o'.op= .alloc T'→o.guard=none→o'.guard=none→listed.getD i false=true→listed.getD j false=true→a.tmps.getD (bC o) undef≠a.tmps.getD (bC o') undef
def p8 (l:List Oper) (v:Nat→Value):Prop:=∀ (i j:Nat) (o o':Oper) (T T':TypeId),i≠j→l[i]? =some o→l[j]? =some o'→o.op= .alloc T→o'.op= .alloc T'→o.guard=none→o'.guard=none→v (bC o)≠v (bC o')
theorem gr:o∈ops.toList.take m↔∃ i,i<m∧ops[i]? =some o:=by
 rw [List.mem_iff_getElem?]
 constructor
 ·rintro ⟨i,hi⟩
  rw [List.getElem?_take] at hi
  split at hi
  ·rename_i h;exact ⟨i,h,by rw [←Array.getElem?_toList];exact hi⟩
  ·cases hi
 ·rintro ⟨i,h,hi⟩
  exact ⟨i,by rw [List.getElem?_take,if_pos h,Array.getElem?_toList];exact hi⟩
theorem tZ (hck:iA ops (E.map Prod.fst) start gs us n m=true) (hus:jV E us) (hgs:fK E gs) (hok:b7 P ops gs E w0 (ops.toList.take m)) (hal:cB P (ops.toList.take m)) (hn:a0.tmps.size=n)
 (hfin:∀ v w',(∀ o∈ops.toList.take m,(bJ E (bC o)).holds w' (v (bC o)))→p8 (ops.toList.take m) v→Below w0.heap.size w0 w'→wpList P ops Q (ops.toList.drop m) (dC a0 v ((ops.toList.take m).map bC)) w'):
 ∀ (fuel:Nat) (listed:Array Bool) (a:Act) (w:World),Ht ops E w0 a0 start n m listed a w→gM listed.toList≤fuel→wpAny P .any ops Q fuel listed a w:=by
 unfold iA at hck
 simp only [Bool.and_eq_true,List.all_eq_true] at hck
 obtain ⟨⟨⟨⟨hfr,hdis⟩,htl⟩,hmle⟩,_⟩:=hck
 have hms:m≤ops.size:=Nat.le_of_ble_eq_true hmle
 have hop:∀ (i:Nat) (o:Oper),i<m→ops[i]? =some o→fJ ops (E.map Prod.fst) start gs us n i o=true∧∃ j,i<j∧j≤m∧kb ops j i=true:=by
  intro i o hi ho
  have:=hfr i (by simpa using hi)
  rw [ho] at this
  simp only [Bool.and_eq_true,List.any_eq_true,List.mem_range] at this
  obtain ⟨h1,j,hj,h2,h3⟩:=this
  exact ⟨h1,j,by rw [←Nat.blt_eq];exact h2,by omega,h3⟩
 have hch:∀ j,m≤j→j<ops.size→∃ o,ops[j]? =some o∧(∀ e∈o.after.toList,Region.binds .any e=true→e.on<j)∧(j=m∨kb ops j (j - 1)=true):=by
  intro j hj hjs
  have:=htl j (by simpa using hjs)
  obtain ⟨o,ho⟩:∃ o,ops[j]? =some o:=⟨_,Array.getElem?_eq_getElem hjs⟩
  rw [ho] at this
  simp only [Bool.or_eq_true,Bool.and_eq_true,List.all_eq_true,Bool.not_eq_true'] at this
  rcases this with h|⟨⟨_,h1⟩,h2⟩
  ·have:j<m:=by rw [←Nat.blt_eq];exact h
   omega
  ·refine ⟨o,ho,fun e he hb=> ?_,?_⟩
   ·rcases h1 e he with h|h
    ·rw [hb] at h;cases h
    ·rw [←Nat.blt_eq];exact h
   ·rcases h2 with h|h
    ·exact .inl (Nat.eq_of_beq_eq_true h)
    ·exact .inr h
 have hd:∀ (i:Nat) (o:Oper),i<m→ops[i]? =some o→∃ d,o.dst=some d∧d<n∧d ∉ start∧bC o=d:=by
  intro i o hi ho
  have:=(hop i o hi ho).1
  unfold fJ at this
  simp only [Bool.and_eq_true] at this
  obtain ⟨⟨⟨h1,_⟩,_⟩,_⟩:=this
  cases hdo:o.dst with
  |none=>rw [hdo] at h1;simp at h1
  |some d=>
   rw [hdo] at h1
   simp only [Bool.and_eq_true,Bool.not_eq_true',List.elem_eq_mem,decide_eq_false_iff_not] at h1
   exact ⟨d,rfl,by rw [←Nat.blt_eq];exact h1.1,h1.2,by unfold bC;rw [hdo];rfl⟩
 have hdist:∀ (i j:Nat) (o o':Oper),i<m→j<m→ops[i]? =some o→ops[j]? =some o'→bC o=bC o'→i=j:=by
  intro i j o o' hi hj ho ho' he
  refine iH hdis i j (bC o) ?_ ?_
  ·rw [List.getElem?_map,List.getElem?_take,if_pos hi,Array.getElem?_toList,ho];rfl
  ·rw [List.getElem?_map,List.getElem?_take,if_pos hj,Array.getElem?_toList,ho',he];rfl
 have hon:∀ (i:Nat) (o:Oper),i<m→ops[i]? =some o→∀ e∈o.after.toList,Region.binds .any e=true→e.on<i:=by
  intro i o hi ho e he hb
  have:=(hop i o hi ho).1
  unfold fJ at this
  simp only [Bool.and_eq_true,List.all_eq_true] at this
  have:=this.2 e he
  simp only [Bool.or_eq_true,Bool.not_eq_true'] at this
  rcases this with h|h
  ·rw [hb] at h;cases h
  ·rw [←Nat.blt_eq];exact h
 have hend:∀ (fuel:Nat) (listed:Array Bool) (a:Act) (w:World),Ht ops E w0 a0 start n m listed a w→(∀ i,i<m→listed.getD i false=true)→gM listed.toList≤fuel→wpAny P .any ops Q fuel listed a w:=by
  intro fuel listed a w hI hall hf
  have hds:∀ d∈(ops.toList.take m).map bC,d<a0.tmps.size:=by
   intro d hdm
   obtain ⟨o,ho,rfl⟩:=List.mem_map.1 hdm
   obtain ⟨j,hj,hoj⟩:=gr.1 ho
   obtain ⟨d,_,h2,_,h4⟩:=hd j o hj hoj
   rw [h4,hn];exact h2
  have he:a=dC a0 (fun s=>a.tmps.getD s undef) ((ops.toList.take m).map bC):=by
   refine s6 (by rw [ie,hI.size,hn]) (by rw [fZ,hI.defers]) fun s=> ?_
   by_cases hs:s∈(ops.toList.take m).map bC
   ·rw [iO _ _ _ _ hds (.inl hs)]
   ·rw [iY _ _ _ _ hds hs,hI.rest s hs]
  have hlast:=hfin (fun s=>a.tmps.getD s undef) w (fun o ho=>by
   obtain ⟨j,hj,hoj⟩:=gr.1 ho
   exact hI.done j o hj hoj (hall j hj)) (fun i j o o' T T' hne hi hj hT hT' hg hg'=>by
    have hi':i<m∧ops[i]? =some o:=by
     rw [List.getElem?_take] at hi
     split at hi
     ·exact ⟨by assumption,by rw [←Array.getElem?_toList];exact hi⟩
     ·cases hi
    have hj':j<m∧ops[j]? =some o':=by
     rw [List.getElem?_take] at hj
     split at hj
     ·exact ⟨by assumption,by rw [←Array.getElem?_toList];exact hj⟩
     ·cases hj
    exact hI.apart i j o o' T T' hi'.1 hj'.1 hne hi'.2 hj'.2 hT hT' hg hg' (hall i hi'.1) (hall j hj'.1)) hI.below
  rw [←he] at hlast
  exact oo hch fuel m listed a w (Nat.le_refl _) hms hI.len hall hI.last hf hlast
 intro fuel
 induction fuel with
 |zero=>
  intro listed a w hI hf
  by_cases hall:∀ i,i<m→listed.getD i false=true
  ·exact hend 0 listed a w hI hall hf
  ·exfalso
   refine hall fun i hi=> ?_
   have hls:i<listed.size:=by rw [hI.len];omega
   cases h:listed.getD i true with
   |true=>exact pn hls h
   |false=>
    have:=jR _ _ (j8 hls h)
    omega
 |succ fuel ih=>
  intro listed a w hI hf
  by_cases hall:∀ i,i<m→listed.getD i false=true
  ·exact hend (fuel+1) listed a w hI hall hf
  ·refine ⟨fun hr=> ?_,fun i hi=> ?_⟩
   ·exfalso
    refine hall fun i=> ?_
    induction i using Nat.strongRecOn with
    |_ i ihh=>
     intro hi
     have hls:i<listed.size:=by rw [hI.len];omega
     cases h:listed.getD i true with
     |true=>exact pn hls h
     |false=>
      exfalso
      obtain ⟨o,ho⟩:∃ o,ops[i]? =some o:=⟨_,Array.getElem?_eq_getElem qO⟩
      have:=qk ho h (fun e he hb=>ihh e.on (hon i o hi ho e he hb) (by have:=hon i o hi ho e he hb;omega))
      rw [hr] at this
      cases this
   ·obtain ⟨hlt,hl,haf⟩:=jc hI.len hi
    have hi':i<listed.size:=by rw [hI.len];exact hlt
    obtain ⟨o,ho⟩:∃ o,ops[i]? =some o:=⟨_,Array.getElem?_eq_getElem hlt⟩
    have hilt:i<m:=by
     rcases Nat.lt_or_ge i m with h|h
     ·exact h
     ·exfalso
      rcases Nat.lt_or_eq_of_le h with h|h
      ·obtain ⟨o',ho',_,hor⟩:=hch i qO hlt
       rcases hor with h'|h'
       ·omega
       ·obtain ⟨o2,ho2,e,he,hb,heon⟩:=ij h'
        have:=haf o2 ho2 e he hb
        rw [heon,nk (hI.last (i - 1) qO qO)] at this
        cases this
      ·subst h
       refine hall ?_
       have key:∀ d i,i<m→m - i≤d→listed.getD i false=true:=by
        intro d
        induction d with
        |zero=>intro i hi hd;omega
        |succ d ihd=>
         intro i hi hd
         obtain ⟨oi,hoi⟩:∃ oi,ops[i]? =some oi:=⟨_,Array.getElem?_eq_getElem qO⟩
         obtain ⟨_,j,hij,hjm,hw⟩:=hop i oi hi hoi
         obtain ⟨oj,hoj,e,he,hb,heon⟩:=ij hw
         rw [←heon]
         rcases Nat.lt_or_eq_of_le hjm with h|h
         ·exact hI.closed j oj h hoj (ihd j h qO) e he hb
         ·subst h
          exact haf oj hoj e he hb
       exact fun i hi=>key (m - i) i hi (Nat.le_refl _)
    have hchk:=(hop i o hilt ho).1
    unfold fJ at hchk
    simp only [Bool.and_eq_true] at hchk
    obtain ⟨⟨⟨hc1,hc2⟩,hc3⟩,hc4⟩:=hchk
    have hwait:∀ e∈o.after.toList,Region.binds .any e=true→∀ oe,ops[e.on]? =some oe→(bJ E (bC oe)).holds w (a.tmps.getD (bC oe) undef):=by
     intro e he hb oe hoe
     exact hI.done _ _ (by have:=hon i o hilt ho e he hb;omega) hoe (haf o ho e he hb)
    obtain ⟨d,hd1,hd2,hd3,hd4⟩:=hd i o hilt ho
    have hsz:d<a.tmps.size:=by rw [hI.size];exact hd2
    have hof:o∈ops.toList.take m:=gr.2 ⟨i,hilt,ho⟩
    have hnext:∀ (v:Value) (w':World),(bJ E d).holds w' v→Below w.heap.size w w'→(∀ T,o.op= .alloc T→o.guard=none→v= .pointer (some ⟨w.heap.size,0,none⟩)∧w.heap.size<w'.heap.size)→wpAny P .any ops Q fuel (listed.setIfInBounds i true) (a.put (some d) v) w':=by
     intro v w' hT hB hA
     have hold:∀ (j:Nat) (oj:Oper),j<m→j≠i→ops[j]? =some oj→(a.put (some d) v).tmps.getD (bC oj) undef=a.tmps.getD (bC oj) undef:=by
      intro j oj hjm hji hj
      have hne:bC oj≠d:=fun h=>hji (hdist j i oj o hjm hilt hj ho (by rw [h,hd4]))
      rw [bK _ _ _ _ hsz,if_neg hne]
     have hself:(a.put (some d) v).tmps.getD (bC o) undef=v:=by rw [hd4,bK _ _ _ _ hsz,if_pos rfl]
     refine ih _ _ _ ⟨?_,?_,?_,?_,?_,?_,?_,?_,?_,?_,?_⟩ ?_
     ·simp [Act.put,hI.size]
     ·exact hI.defers
     ·exact hI.below.trans (hB.mono hI.below.size)
     ·intro s hs
      rw [bK _ _ _ _ hsz,if_neg,hI.rest s hs]
      rintro rfl
      exact hs (List.mem_map.2 ⟨o,hof,hd4⟩)
     ·intro s hs
      rw [bK _ _ _ _ hsz,if_neg]
      ·exact (bJ E s).stable (hI.start s hs) hB
      ·rintro rfl
       exact hd3 hs
     ·intro j oj hjm hj hlj
      by_cases hji:j=i
      ·subst hji
       rw [ho] at hj
       injection hj with hj
       subst hj
       rw [hd4,bK _ _ _ _ hsz,if_pos rfl]
       exact hT
      ·have hne:bC oj≠d:=fun h=>hji (hdist j i oj o hjm hilt hj ho (by rw [h,hd4]))
       rw [bK _ _ _ _ hsz,if_neg hne]
       refine (bJ E _).stable (hI.done j oj hjm hj ?_) hB
       rw [dF hji] at hlj
       exact hlj
     ·simp [hI.len]
     ·intro j hj hjs
      rw [dF qO]
      exact hI.last j hj hjs
     ·intro j oj hjm hj hlj e he hb
      by_cases hji:j=i
      ·subst hji
       rw [ho] at hj
       injection hj with hj
       subst hj
       have h1:=hon j o hjm ho e he hb
       rw [dF qO]
       exact haf o ho e he hb
      ·rw [dF hji] at hlj
       have h1:=hI.closed j oj hjm hj hlj e he hb
       by_cases hei:e.on=i
       ·rw [hei];exact tD hi'
       ·rw [dF hei];exact h1
     ·intro j oj T hjm hj hop hgd hlj
      by_cases hji:j=i
      ·subst hji
       rw [ho] at hj
       injection hj with hj
       subst hj
       obtain ⟨e1,e2⟩:=hA T hop hgd
       exact ⟨_,hself.trans e1,e2⟩
      ·rw [dF hji] at hlj
       obtain ⟨r,e1,e2⟩:=hI.fresh j oj T hjm hj hop hgd hlj
       exact ⟨r,(hold j oj hjm hji hj).trans e1,Nat.lt_of_lt_of_le e2 hB.size⟩
     ·intro j k oj ok T T' hjm hkm hjk hj hk hop hop' hgd hgd' hlj hlk
      by_cases hji:j=i
      ·subst hji
       rw [ho] at hj
       injection hj with hj
       subst hj
       have hkj:k≠j:=fun h=>hjk h.symm
       rw [dF hkj] at hlk
       obtain ⟨r,e1,e2⟩:=hI.fresh k ok T' hkm hk hop' hgd' hlk
       rw [hself,hold k ok hkm hkj hk,e1,(hA T hop hgd).1]
       intro h
       injection h with h
       injection h with h
       injection h with h
       omega
      ·by_cases hki:k=i
       ·subst hki
        rw [ho] at hk
        injection hk with hk
        subst hk
        rw [dF hji] at hlj
        obtain ⟨r,e1,e2⟩:=hI.fresh j oj T hjm hj hop hgd hlj
        rw [hself,hold j oj hjm hji hj,e1,(hA T' hop' hgd').1]
        intro h
        injection h with h
        injection h with h
        injection h with h
        omega
       ·rw [dF hji] at hlj
        rw [dF hki] at hlk
        rw [hold j oj hjm hji hj,hold k ok hkm hki hk]
        exact hI.apart j k oj ok T T' hjm hkm hjk hj hk hop hop' hgd hgd' hlj hlk
     ·have:=jO _ _ (j8 hi' hl)
      rw [Array.toList_setIfInBounds]
      omega
    have hgv:∀ g want,o.guard=some (g,want)→(∃ og dg,ops[g]? =some og∧og.dst=some dg∧a.tmps[dg]? =some (.bool want)∧gs.elem (dg,want)=true)∨(Region.wanted o (yielded ops a.tmps)=false∧∀ W,(bJ E (bC o)).holds W undef):=by
     intro g want hg
     rw [hg] at hc3
     simp only [Bool.and_eq_true,List.any_eq_true] at hc3
     obtain ⟨h1,e,he,hb,heg⟩:=hc3
     have heg':e.on=g:=Nat.eq_of_beq_eq_true heg
     have hgi:=hon i o hilt ho e he hb
     cases hog:ops[g]? with
     |none=>rw [hog] at h1;simp at h1
     |some og=>
      rw [hog] at h1
      obtain ⟨dg,hdg1,hdg2,_,hdg4⟩:=hd g og qO hog
      rw [Option.bind_some,hdg1] at h1
      simp only [Bool.or_eq_true,Bool.and_eq_true,Bool.not_eq_true'] at h1
      have hv:=hwait e he hb og (by rw [heg'];exact hog)
      rw [hdg4] at hv
      have hsg:dg<a.tmps.size:=by rw [hI.size];exact hdg2
      have hval:∀ b,gs.elem (dg,b)=true→a.tmps[dg]? =some (.bool b):=by
       intro b hb'
       have:=hgs.mem (dg,b) (by simpa using hb') _ _ hv
       rw [Array.getD_eq_getD_getElem?,Array.getElem?_eq_getElem hsg] at this
       rw [Array.getElem?_eq_getElem hsg]
       simpa using this
      rcases h1 with h1|⟨h1,h2⟩
      ·exact .inl ⟨og,dg,rfl,hdg1,hval _ h1,h1⟩
      ·refine .inr ⟨?_,fun W=> ?_⟩
       ·rcases h1 with h1|h1
        ·have hget:=hval _ h1
         unfold Region.wanted;rw [hg];simp [yielded,hog,hdg1,hget]
        ·have hu:=hus.mem dg (by simpa using h1)
         rw [hu] at hv
         have hget:a.tmps[dg]? =some undef:=by
          have hv':a.tmps.getD dg undef=undef:=hv
          rw [Array.getD_eq_getD_getElem?,Array.getElem?_eq_getElem hsg] at hv'
          rw [Array.getElem?_eq_getElem hsg]
          simpa using hv'
         unfold Region.wanted;rw [hg];simp [yielded,hog,hdg1,hget,undef]
       ·rcases h2 with h2|h2
        ·rw [md h2];trivial
        ·rw [hus.mem _ (by simpa using h2)];rfl
    have hrun:jr ops gs o=true→Region.wanted o (yielded ops a.tmps)=true→wpOp P ops Q i (wpAny P .any ops Q fuel (listed.setIfInBounds i true)) a w:=by
     intro hr hw
     unfold wpOp
     simp only [ho]
     rw [if_pos hw]
     left
     have hslots:cJ E w a.eval o.op.operands.toList:=by
      refine cJ.of fun s hs=> ?_
      have:=List.all_eq_true.1 hc2 _ hs
      simp only [Bool.or_eq_true,List.any_eq_true,Bool.and_eq_true,Bool.not_eq_true'] at this
      rcases this with (h|h)|⟨e,he,hb,heq⟩
      ·rw [md h];trivial
      ·exact hI.start s (by simpa using h)
      ·have heq':(ops[e.on]?).bind (·.dst)=some s:=by simpa using heq
       cases hoe:ops[e.on]? with
       |none=>rw [hoe] at heq';cases heq'
       |some oe=>
        rw [hoe] at heq'
        have h1:=hwait e he hb oe hoe
        obtain ⟨d',hd1',_,_,hd4'⟩:=hd _ oe (by have:=hon i o hilt ho e he hb;omega) hoe
        have:d'=s:=by
         have h2:oe.dst=some s:=heq'
         rw [hd1'] at h2
         injection h2
        subst this
        rw [hd4'] at h1
        exact h1
     have hy:=(hok.mem o hof hr) a.eval w (fun _=>rfl) (fun _=>rfl) hI.below hslots
     have hy2:Yields P o a.eval w fun v w'=>((bJ E (bC o)).holds w' v∧Below w.heap.size w w')∧∀ T,o.op= .alloc T→v= .pointer (some ⟨w.heap.size,0,none⟩)∧w.heap.size<w'.heap.size:=by
      by_cases hex:∃ T,o.op= .alloc T
      ·obtain ⟨T,hT⟩:=hex
       obtain ⟨w1,hr1,hz1⟩:=hal.mem o hof T hT a.eval w
       have h:=hy.alloc hr1 hz1
       unfold Yields at h ⊢
       rw [hr1] at h ⊢
       exact ⟨h.1,fun _ _=>h.2⟩
      ·have hno:∀ T,o.op= .alloc T→False:=fun T h=>hex ⟨T,h⟩
       unfold Yields at hy ⊢
       generalize (execOp a.eval o).run P w=rr at hy ⊢
       split at hy
       ·exact ⟨hy,fun T h=>(hno T h).elim⟩
       ·refine Calls.mono hy ?_
        rintro e w'' ⟨v,rfl,hk⟩
        exact ⟨v,rfl,hk,fun T h=>(hno T h).elim⟩
       ·exact hy.elim
     refine Oper.wp_mono (fun a' w' h=> ?_) hy2.wp
     obtain ⟨v,rfl,⟨hT,hB⟩,hA⟩:=h
     rw [hd1]
     rw [hd4] at hT
     exact hnext v w' hT hB (fun T h _=>hA T h)
    cases hg:o.guard with
    |none=>exact hrun (by unfold jr;rw [hg]) (by unfold Region.wanted;rw [hg])
    |some p=>
     obtain ⟨g,want⟩:=p
     rcases hgv g want hg with ⟨og,dg,hog,hdg,hget,hgs1⟩|⟨hw,hkey⟩
     ·refine hrun ?_ ?_
      ·unfold jr;rw [hg];simp only [hog,Option.bind_some,hdg,hgs1]
      ·unfold Region.wanted;rw [hg];simp [yielded,hog,hdg,hget]
     ·unfold wpOp
      simp only [ho]
      rw [if_neg (by rw [hw];exact Bool.false_ne_true),hd1]
      rw [hd4] at hkey
      exact hnext undef w (hkey w) (Below.refl _ _) (fun T _ hgn=>by rw [hg] at hgn;cases hgn)
theorem nR {id:Nat} {l:List Oper} {w:World} (E:List (Nat×b6)) (start:List Nat) (gs:List (Nat×Bool)) (us:List Nat) (n m:Nat) (hm:P.follows .mixedOrders=true) (hck:iA l.toArray (E.map Prod.fst) start gs us n m=true) (hus:jV E us) (hn:a0.tmps.size=n) (hgs:fK E gs)
 (hst:iP E w a0 start) (hok:b7 P l.toArray gs E w (l.take m)) (hal:cB P (l.take m))
 (hfin:∀ v w',gk E w' v (l.take m)→p8 (l.take m) v→Below w.heap.size w w'→wpList P l.toArray Q (l.drop m) (dC a0 v ((l.take m).map bC)) w'):
 (Code.region id l.toArray true).wp P Q a0 w:=by
 refine wp_region_any hm ?_
 have hb:Below w.heap.size w w.drew:=(Below.refl _ _).drew
 have hno:∀ i,(Array.replicate l.toArray.size false).getD i false=true→False:=by
  intro i hl
  rw [Array.getD_eq_getD_getElem?] at hl
  cases h:(Array.replicate l.toArray.size false)[i]? with
  |none=>rw [h] at hl;cases hl
  |some b=>
   have:=Array.mem_of_getElem? h
   simp at this
   rw [h,this.2] at hl
   cases hl
 refine tZ (w0:=w) hck hus hgs (by simpa using hok) (by simpa using hal) hn (fun v w' h ha hb=>by simpa using hfin v w' (gk.of (by simpa using h)) (by simpa using ha) hb) _ _ _ _ ⟨hn,rfl,hb,fun _ _=>rfl,fun s hs=>(bJ E s).stable (hst.mem s hs) hb,fun i o _ _ hl=>(hno i hl).elim,by simp,?_,fun i o _ _ hl=>(hno i hl).elim,fun i _ _ _ _ _ _ hl=>(hno i hl).elim,fun i _ _ _ _ _ _ _ _ _ _ _ _ _ _ hl=>(hno i hl).elim⟩ ?_
 ·intro i _ hi
  rw [Array.getD_eq_getD_getElem?,Array.getElem?_replicate,if_pos hi]
  rfl
 ·simpa using nV l.toArray.size
theorem eM {id:Nat} {l:List Oper} {w:World} (E:List (Nat×b6)) (start:List Nat) (gs:List (Nat×Bool)) (n m:Nat) (hm:P.follows .mixedOrders=true) (hck:F7 l.toArray (E.map Prod.fst) start gs n m=true) (hn:a0.tmps.size=n) (hgs:fK E gs)
 (hst:iP E w a0 start) (hok:b7 P l.toArray gs E w (l.take m)) (hal:cB P (l.take m))
 (hfin:∀ v w',gk E w' v (l.take m)→p8 (l.take m) v→Below w.heap.size w w'→wpList P l.toArray Q (l.drop m) (dC a0 v ((l.take m).map bC)) w'):
 (Code.region id l.toArray true).wp P Q a0 w:=
 nR E start gs [] n m hm hck trivial hn hgs hst hok hal hfin
end
section
variable {P:Program} {ops:Array Oper} {Q:Exit→Act→World→Prop} {E:List (Nat×b6)} {w0:World} {a0:Act} {start:List Nat} {gs:List (Nat×Bool)} {us:List Nat} {n m:Nat}
end
def kw (E:List (Nat×b6)):Operand→Value→Prop
 | .tmp s,v=>∀ w u,(bJ E s).holds w u→u=v
 | .const c,v=>c=v
 |_,_=>False
theorem kw.at_{E:List (Nat×b6)} {ρ:Operand→Value} (hc:∀ c,ρ (.const c)=c) {l:List Operand} {o:Operand} {v:Value} (hs:cJ E w ρ l) (hm:o∈l) (ho:kw E o v):ρ o=v:=by
 cases o with
 |tmp s=>exact ho _ _ (hs.at_ hm)
 |const c=>rw [hc];exact ho
 |global g=>exact ho.elim
 |func f=>exact ho.elim
def oF (E:List (Nat×b6)):Operand→(World→Value→Prop)→Prop
 | .tmp s,T=>∀ w u,(bJ E s).holds w u→T w u
 | .const c,T=>∀ w,T w c
 |_,_=>False
theorem oF.at_{E:List (Nat×b6)} {ρ:Operand→Value} (hc:∀ c,ρ (.const c)=c) {l:List Operand} {o:Operand} {T:World→Value→Prop} (hs:cJ E w ρ l) (hm:o∈l) (ho:oF E o T):T w (ρ o):=by
 cases o with
 |tmp s=>exact ho _ _ (hs.at_ hm)
 |const c=>rw [hc];exact ho w
 |global g=>exact ho.elim
 |func f=>exact ho.elim
theorem gk.slot {E:List (Nat×b6)} {w:World} {v:Nat→Value} {d:Nat}:∀ {l:List Oper},gk E w v l→d∈l.map bC→(bJ E d).holds w (v d)
 |[],_,h=>by cases h
 |o::l,h,hm=>by
  rcases List.mem_cons.1 hm with e|hm
  ·rw [e];exact h.1
  ·exact gk.slot h.2 hm
def bE (P:Program) (f:Nat):Prop:=∀ (args:Array Value) (w:World),(callFunc f args).run P w= .ok (.enter f args) w
section
variable {P:Program} {E:List (Nat×b6)} {w0:World} {d f:Nat} {ty:TypeId} {pos:String} {af:Array Edge} {gd:Option (Nat×Bool)} {o0 o1 o2 o3:Operand} {ats:Array TypeId} {T0 T1 T2 T3:World→Value→Prop}
theorem fj (hcf:bE P f) (h0:oF E o0 T0) (hcall:∀ w v0,Below w0.heap.size w0 w→T0 w v0→Calls P f #[v0] w fun e w'=>(∃ v,e= .returned v∧(bJ E d).holds w' v)∧Below w.heap.size w w'):
 eU P E w0 ⟨some d, .call { callee:= .value (.func f),args:= #[o0],argTypes:=ats },ty,pos,af,gd⟩:=by
 intro ρ w hc hf hb hs
 have e0:=oF.at_ hc hs (o:=o0) qJ h0
 have hr:(execOp ρ ⟨some d, .call { callee:= .value (.func f),args:= #[o0],argTypes:=ats },ty,pos,af,gd⟩).run P w= .ok (.enter f #[ρ o0]) w:=by
  have hff:=hf f
  clear h0 hs hcall hb e0
  go_simp
  exact hcf _ _
 unfold Yields
 rw [hr]
 refine (hcall w _ hb e0).mono ?_
 rintro e w' ⟨⟨v,rfl,hT⟩,hB⟩
 exact ⟨v,rfl,hT,hB⟩
theorem e7 (hcf:bE P f) (h0:oF E o0 T0) (h1:oF E o1 T1) (hcall:∀ w v0 v1,Below w0.heap.size w0 w→T0 w v0→T1 w v1→Calls P f #[v0,v1] w fun e w'=>(∃ v,e= .returned v∧(bJ E d).holds w' v)∧Below w.heap.size w w'):
 eU P E w0 ⟨some d, .call { callee:= .value (.func f),args:= #[o0,o1],argTypes:=ats },ty,pos,af,gd⟩:=by
 intro ρ w hc hf hb hs
 have e0:=oF.at_ hc hs (o:=o0) qJ h0
 have e1:=oF.at_ hc hs (o:=o1) qJ h1
 have hr:(execOp ρ ⟨some d, .call { callee:= .value (.func f),args:= #[o0,o1],argTypes:=ats },ty,pos,af,gd⟩).run P w= .ok (.enter f #[ρ o0,ρ o1]) w:=by
  have hff:=hf f
  clear h0 h1 hs hcall hb e0 e1
  go_simp
  exact hcf _ _
 unfold Yields
 rw [hr]
 refine (hcall w _ _ hb e0 e1).mono ?_
 rintro e w' ⟨⟨v,rfl,hT⟩,hB⟩
 exact ⟨v,rfl,hT,hB⟩
end
def b6.newI (B:Nat) (N:Int):b6:=⟨fun w v=>∃ s ys A n c,v= .agg #[.bool s, .slice A n c]∧Whole N s ys∧cG .u32 128 w B A n c ys,fun ⟨s,ys,A,n,c,e,h,ho⟩ hb=>⟨s,ys,A,n,c,e,h,ho.below hb⟩⟩
def b6.half (N:Int) (L:Nat):b6:=⟨fun w v=>∃ A n c xs,v= .slice A n c∧Sl .i64 w w.heap.size A n c xs∧go 65536 N xs∧n≤L,fun ⟨A,n,c,xs,e,h,r,hl⟩ hb=>⟨A,n,c,xs,e,(h.below hb (Nat.le_refl _)).more hb.size,r,hl⟩⟩
section
variable {E:List (Nat×b6)} {w0:World} {d:Nat} {ty:TypeId} {pos:String} {af:Array Edge} {gd:Option (Nat×Bool)}
theorem pU{o:Nat} {u:Bool} (hp:kw E (.tmp s) (.pointer (some ⟨r,o,none⟩))) (h0:∀ W,Below w0.heap.size w0 W→W.cell? ⟨r,o,none⟩=some (.bool u)) (hd:∀ w,(bJ E d).holds w (.bool u)):eU Tryz.prog E w0 ⟨some d, .load 4 (.tmp s),ty,pos,af,gd⟩:=by
 intro ρ w hc hf hb hs
 have e:=hp _ _ hs.1
 have c0:=h0 w hb
 clear hp hs h0
 unfold Yields
 go_simp
 exact ⟨hd _,Below.refl _ _⟩
theorem ur{o:Nat} {A:Option Addr} (hp:kw E (.tmp s) (.pointer (some ⟨r,o,none⟩))) (h0:∀ W,Below w0.heap.size w0 W→W.cell? ⟨r,o,none⟩=some (.slice A n c)) (hd:∀ w,(bJ E d).holds w (.slice A n c)):eU Tryz.prog E w0 ⟨some d, .load 24 (.tmp s),ty,pos,af,gd⟩:=by
 intro ρ w hc hf hb hs
 have e:=hp _ _ hs.1
 have c0:=h0 w hb
 clear hp hs h0
 unfold Yields
 go_simp
 exact ⟨hd _,Below.refl _ _⟩
end
theorem bL{o:Nat} {u:Value} (h:w0.cell? ⟨r,o,none⟩=some u) (hr:r<w0.heap.size):∀ W,Below w0.heap.size w0 W→W.cell? ⟨r,o,none⟩=some u:=fun W hb=>(hb.cell (p:=⟨r,o,none⟩) hr).trans h
def b6.parts (U V:Int) (L M:Nat):b6:=⟨fun w v=>∃ qs rs A n c A2 m c2,v= .tuple #[.slice A n c, .slice A2 m c2]∧go 65536 (U / V) qs∧go 65536 (U%V) rs∧Sl .i64 w w.heap.size A n c qs∧Sl .i64 w w.heap.size A2 m c2 rs∧n≤L∧m≤M,
 fun ⟨qs,rs,A,n,c,A2,m,c2,e,h1,h2,h3,h4,h5,h6⟩ hb=>⟨qs,rs,A,n,c,A2,m,c2,e,h1,h2,(h3.below hb (Nat.le_refl _)).more hb.size,(h4.below hb (Nat.le_refl _)).more hb.size,h5,h6⟩⟩
section
variable {E:List (Nat×b6)} {w0:World} {d:Nat} {ty:TypeId} {pos:String} {af:Array Edge} {gd:Option (Nat×Bool)}
end
end Go.Proofs.YtcpeiijdgabenaaGreatDoor
