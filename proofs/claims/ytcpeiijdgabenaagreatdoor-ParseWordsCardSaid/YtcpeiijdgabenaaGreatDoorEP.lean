/- What a call builds, told by the types of the blocks in which it lies: structs (.tr), single cells (.tc), rows of the call's own (.to); how they are built; append of any row to one of the call's own. No program stands in it. -/
import Derived.Test.YtcpeiijdgabenaaGreatDoorEO
import Derived.Test.YtcpeiijdgabenaaGreatDoorEM
set_option linter.unusedSimpArgs false
set_option linter.unusedVariables false
namespace Go.Proofs.YtcpeiijdgabenaaGreatDoor
open Go Go.RowKit
variable {w w':World} {X:List Nat} {C B:Nat} {e ty:TypeId} {cs:List Value} {v:Value}
def cu (ts:List TypeId) (C:Nat) (X:List Nat) (w:World) (b:Nat):Prop:=cZ X w b∧(b<C∨∃ cs t f,w.heap[b]? =some (.cells cs t f)∧t∈ts)
theorem cu.mono{ts:List TypeId} {X':List Nat} (hk:fV X w w') (hX:∀ b∈X',b<w.heap.size→b∈X) (b:Nat) (h:cu ts C X w b):cu ts C X' w' b:=by
 obtain ⟨h1,h2⟩:=h
 refine ⟨cZ.mono hk hX b h1,?_⟩
 rcases h2 with h2|⟨cs,t,f,h3,h4⟩
 ·exact .inl h2
 ·exact .inr ⟨cs,t,f,(hk.block b h1.1 h1.2).trans h3,h4⟩
theorem Rp.upT{α:Type} (r:Rp α) {ts:List TypeId} {X':List Nat} {a:α} (h:r.rd w (cu ts C X w) a cs) (hk:fV X w w') (hX:∀ b∈X',b<w.heap.size→b∈X):r.rd w' (cu ts C X' w') a cs:=
 r.more (r.keep h fun b hb=>hk.block b hb.1.1 hb.1.2) (cu.mono hk hX)
theorem Rp.unT{α:Type} (r:Rp α) {ts:List TypeId} {a:α} (h:r.rd w (cu ts C X w) a cs):r.rd w (cZ X w) a cs:=r.more h fun _ hb=>hb.1
def ai.tr {α:Type} (r:Rp α) (ts:List TypeId) (C:Nat) (a:α):ai:=⟨fun X w v=>∃ cs:List Value,v= .agg cs.toArray∧r.rd w (cu ts C X w) a cs,fun ⟨cs,e,h⟩ hk hX=>⟨cs,e,r.upT h hk hX⟩⟩
def ai.tc {α:Type} (r:Rp α) (ts:List TypeId) (C:Nat) (a:α):ai:=⟨fun X w v=>r.rd w (cu ts C X w) a [v],fun h hk hX=>r.upT h hk hX⟩
def ai.to {α:Type} (r:Rp α) (e:TypeId) (ts:List TypeId) (C B:Nat) (l:List α):ai:=⟨fun X w v=>∃ (A:Option Addr) (c:Nat) (ps:List (α×List Value)),v= .slice A l.length c∧ps.map Prod.fst=l∧(∀ q∈ps,r.rd w (cu ts C X w) q.1 q.2)∧dt r.k e w B A l.length c (ps.flatMap Prod.snd)∧(∀ g,fC A=some g→cZ X w g),
 fun ⟨A,c,ps,h1,h2,h3,h4,h5⟩ hk hX=>⟨A,c,ps,h1,h2,fun q hq=>r.upT (h3 q hq) hk hX,h4.same fun g hg=>hk.block g (h5 g hg).1 (h5 g hg).2,fun g hg=>cZ.mono hk hX g (h5 g hg)⟩⟩
def ai.sr {α:Type} (r:Rp α) (ts:List TypeId) (C:Nat) (l:List α):ai:=⟨fun X w v=>∃ (A:Option Addr) (c:Nat) (ps:List (α×List Value)),v= .slice A l.length c∧ps.map Prod.fst=l∧(∀ q∈ps,r.rd w (cu ts C X w) q.1 q.2)∧ql r.k w w.heap.size A l.length c (ps.flatMap Prod.snd)∧(0<l.length→∀ g,fC A=some g→cZ X w g),
 fun {X X' w w' v} ⟨A,c,ps,h1,h2,h3,⟨g1,g2,g3,g4,g5⟩,h5⟩ hk hX=>⟨A,c,ps,h1,h2,fun q hq=>r.upT (h3 q hq) hk hX,⟨g1,g2,g3,g4,fun hn=>by
  obtain ⟨b,off,rfl,hb,hc⟩:=g5 hn
  have hf:=h5 hn b rfl
  exact ⟨b,off,rfl,Nat.lt_of_lt_of_le hb hk.size,fun j u hu=>(World.cell?_of_block (hk.block b hf.1 hf.2)).trans (hc j u hu)⟩⟩,fun hn g hg=>cZ.mono hk hX g (h5 hn g hg)⟩⟩
class fz (ts ts':List TypeId):Prop where
 ok:∀ t∈ts,t∈ts'
instance {ts:List TypeId}:fz ts ts:=⟨fun _ h=>h⟩
instance {ts:List TypeId}:fz [] ts:=⟨fun _ h=>by cases h⟩
class dH (e:TypeId) (ts:List TypeId):Prop where
 ok:e ∉ ts
instance {e:TypeId}:dH e []:=⟨fun h=>by cases h⟩
theorem cu.sub{ts ts':List TypeId} [s:fz ts ts'] (b:Nat) (h:cu ts C X w b):cu ts' C X w b:=⟨h.1,h.2.imp id fun ⟨cs,t,f,h3,h4⟩=>⟨cs,t,f,h3,s.ok t h4⟩⟩
theorem IH{α:Type} {r:Rp α} {ts:List TypeId} {l:List α} (h:(ai.to r e ts C B l).holds X w v):(ai.rw r tt l).holds X w v:=by
 obtain ⟨A,c,ps,rfl,rfl,h3,h4,h5⟩:=h
 refine ⟨fun _ _=>trivial,A,_,c,rfl,rfl,?_⟩
 obtain ⟨g1,g2,g3,g4,g5⟩:=h4.sl
 refine ⟨g2,g3,g4,fun hn=> ?_⟩
 obtain ⟨b,off,rfl,hb,hc⟩:=g5 hn
 refine ⟨b,off,rfl,h5 b rfl,fun j a ha=> ?_⟩
 rw [List.getElem?_map] at ha
 cases hq:ps[j]? with
 |none=>rw [hq] at ha;cases ha
 |some q=>
  rw [hq] at ha
  obtain rfl:q.1=a:=by simpa using ha
  refine ⟨q.2,fun i u hu=> ?_,r.unT (h3 q (List.mem_of_getElem? hq))⟩
  have:=hc (j*r.k+i) u (j0 (fun q hq=>r.len (h3 q hq)) hq hu)
  rw [Nat.add_assoc]
  exact this
theorem FR{α:Type} {r:Rp α} {ts ts':List TypeId} {l:List α} [s:fz (e::ts) ts'] (h:(ai.to r e ts C B l).holds X w v):r.row.rd w (cu ts' C X w) l [v]:=by
 obtain ⟨A,c,ps,rfl,rfl,h3,h4,h5⟩:=h
 refine ⟨A,_,c,rfl,rfl,?_⟩
 obtain ⟨g1,g2,g3,g4,g5⟩:=h4.sl
 refine ⟨g2,g3,g4,fun hn=> ?_⟩
 obtain ⟨b,off,rfl,hb,hc⟩:=g5 hn
 obtain ⟨cur,hcur⟩:=h4.type (g:=b) rfl
 refine ⟨b,off,rfl,⟨h5 b rfl, .inr ⟨cur,_,_,hcur,s.ok e List.mem_cons_self⟩⟩,fun j a ha=> ?_⟩
 rw [List.getElem?_map] at ha
 cases hq:ps[j]? with
 |none=>rw [hq] at ha;cases ha
 |some q=>
  rw [hq] at ha
  obtain rfl:q.1=a:=by simpa using ha
  refine ⟨q.2,fun i u hu=> ?_,r.more (h3 q (List.mem_of_getElem? hq)) fun b hb=>⟨hb.1,hb.2.imp id fun ⟨cs,t,f,h3,h4⟩=>⟨cs,t,f,h3,s.ok t (List.mem_cons_of_mem _ h4)⟩⟩⟩
  have:=hc (j*r.k+i) u (j0 (fun q hq=>r.len (h3 q hq)) hq hu)
  rw [Nat.add_assoc]
  exact this
instance {α:Type} {r:Rp α} {ts:List TypeId} {C k:Nat} {a:α} [kc:KC r k]:bi (.tr r ts C a) k true:=⟨fun {X w v} ⟨cs,e,h⟩=>(bi.raK (kc:=kc)).ok (T:= .ra r a) ⟨cs,e,r.unT h⟩⟩
instance {α:Type} {r:Rp α} {e:TypeId} {ts:List TypeId} {C B:Nat} {l:List α}:bi (.to r e ts C B l) 1 false:=⟨fun {X w v} ⟨A,c,ps,h1,_⟩=>by rw [h1];exact ⟨rfl,by simp [Value.cells,Value.oneCell'],(fun h=>by cases h),fun _=>rfl⟩⟩
instance {α:Type} {r:Rp α} {ts:List TypeId} {C:Nat} {a:α}:bi (.tc r ts C a) 1 false:=⟨fun {X w v} h=>by
 have h1:=r.one h v List.mem_cons_self
 exact ⟨by rw [fl h1];rfl,by rw [fl h1];simp [h1],(fun h=>by cases h),fun _=>fl h1⟩⟩
instance {α:Type} {r:Rp α} {ts:List TypeId} {C k:Nat} {a:α} [kc:KC r k]:az (.tr r ts C a) 0 k true (.tr r ts C a):= .whole inferInstance
instance {α:Type} {r:Rp α} {ts:List TypeId} {C:Nat} {a:α}:Cr (.tr r ts C a) r a:=⟨fun ⟨cs,e,h⟩=>⟨cs,by rw [e];rfl,r.unT h⟩⟩
instance {α:Type} {r:Rp α} {ts:List TypeId} {C:Nat} {a:α}:Cr (.tc r ts C a) r a:=⟨fun {X w v} h=>⟨[v],fl (r.one h v List.mem_cons_self),r.unT h⟩⟩
instance {α:Type} {r:Rp α} {e:TypeId} {ts:List TypeId} {C B:Nat} {l:List α}:Cr (.to r e ts C B l) r.row l:=⟨fun {X w v} h=>⟨[v],by
 obtain ⟨A,c,ps,e,_⟩:=h
 rw [e];rfl,by
 exact (IH h).2⟩⟩
class GV (k:Nat) (vs:List Value) (l:outParam (List (List UInt8))):Prop where
 ok:vs=l.map Tx
 len:l.length≤k
instance {k:Nat}:GV k [] []:=⟨rfl,Nat.zero_le _⟩
instance {k:Nat} {t:List UInt8} {vs:List Value} {l:List (List UInt8)} [h:GV k vs l]:GV (k+1) (Tx t::vs) (t::l):=⟨by rw [h.ok];rfl,Nat.succ_le_succ h.len⟩
class ka (a b:Nat):Prop where
 ok:a≤b
instance {vs:List Value} {l:List (List UInt8)} [h:GV 64 vs l]:Cr (.vs vs) Rp.str.row l:=⟨fun {X w v} hv=>⟨[v],by
 obtain ⟨b,e,_⟩:=hv
 rw [e];rfl,by
 rw [h.ok] at hv
 exact (FK (Nat.le_trans h.len qD) hv).2⟩⟩
class qi (ts:List TypeId) (C:Nat) (T:ai) {β:Type} (r:Rp β) (b:outParam β):Prop where
 ok:∀ {X:List Nat} {w:World} {v:Value},T.holds X w v→∃ cs:List Value,v.cells=cs.toArray∧r.rd w (cu ts C X w) b cs
instance {ts:List TypeId} {C:Nat} {l:List UInt8}:qi ts C (.is (Tx l)) Rp.str l:=⟨fun h=>⟨[Tx l],by rw [show _=_ from h];rfl,_,rfl,bU l⟩⟩
instance {ts:List TypeId} {C:Nat} {k:IntKind} {x:Int}:qi ts C (.is (.int k x)) (Rp.int k) x:=⟨fun h=>⟨[.int k x],by rw [show _=_ from h];rfl,rfl⟩⟩
instance {ts:List TypeId} {C:Nat} {x:Bool}:qi ts C (.is (.bool x)) Rp.bool x:=⟨fun h=>⟨[.bool x],by rw [show _=_ from h];rfl,rfl⟩⟩
instance {α:Type} {r:Rp α} {ts ts':List TypeId} {C:Nat} {a:α} [s:fz ts' ts]:qi ts C (.tr r ts' C a) r a:=⟨fun ⟨cs,e,h⟩=>⟨cs,by rw [e];rfl,r.more h (cu.sub (s:=s))⟩⟩
instance {α:Type} {r:Rp α} {ts ts':List TypeId} {C:Nat} {a:α} [s:fz ts' ts]:qi ts C (.tc r ts' C a) r a:=⟨fun {X w v} h=>⟨[v],fl (r.one h v List.mem_cons_self),r.more h (cu.sub (s:=s))⟩⟩
instance {α:Type} {r:Rp α} {e:TypeId} {ts ts':List TypeId} {C B:Nat} {l:List α} [s:fz (e::ts') ts]:qi ts C (.to r e ts' C B l) r.row l:=⟨fun {X w v} h=>⟨[v],by
 obtain ⟨A,c,ps,e,_⟩:=h
 rw [e];rfl,FR h⟩⟩
class nX (P:Program) (ty:TypeId) (ts:List TypeId) (C:Nat) (E:List (Nat×ai)) {α:Type} (r:Rp α) (ps:List (Nat×Operand)) (a:α) (a':outParam α):Prop where
 get:∀ {X:List Nat} {w:World} {ρ:Operand→Value} {places:Array (Nat×Nat)} {c:Array Value},(∀ c,ρ (.const c)=c)→(∀ p∈E, .tmp p.1∈ps.map Prod.snd→p.2.holds X w (ρ (.tmp p.1)))→(∀ (i off k:Nat) (ag:Bool),aP P ty i off k ag→places[i]? =some (off,k))→r.rd w (cu ts C X w) a c.toList→∃ c':Array Value,Instr.fill (places[·]?) c (ps.map fun p=>(p.1,ρ p.2))=some c'∧r.rd w (cu ts C X w) a' c'.toList
instance nX.nil {P:Program} {ty:TypeId} {ts:List TypeId} {C:Nat} {E:List (Nat×ai)} {α:Type} {r:Rp α} {a:α}:nX P ty ts C E r [] a a:=⟨fun {X w ρ places c} _ _ _ h=>⟨c,rfl,h⟩⟩
instance nX.cons {P:Program} {ty:TypeId} {ts:List TypeId} {C:Nat} {E:List (Nat×ai)} {α β:Type} {r:Rp α} {r':Rp β} {i off k:Nat} {ag:Bool} {o:Operand} {ps:List (Nat×Operand)} {T:ai} {a a':α} {b:β} {u:α→β→α} [f:aP P ty i off k ag] [sr:aO r off r' u] [kc:KC r' k] [ho:b_ E o T] [ap:qi ts C T r' b] [t:nX P ty ts C E r ps (u a b) a']:nX P ty ts C E r ((i,o)::ps) a a':=⟨fun {X w ρ places c} hc hs hp h=>by
 obtain ⟨ds,e,hd⟩:=ap.ok (ho.get (X:=X) (w:=w) hc fun p hp e=>hs p hp (by rw [e];exact List.mem_cons_self))
 obtain ⟨g1,g2⟩:=sr.ok h hd
 have hlen:=r.len h
 rw [Array.length_toList] at hlen
 have hk:=kc.ok
 obtain ⟨c1,hf,hc1⟩:=p7 (place:=(places[·]?)) (i:=i) (v:=ρ o) (c:=c) (rest:=ps.map fun p=>(p.1,ρ p.2)) (hp i off k ag f) e ((r'.len hd).trans hk) qO
 rw [hk] at g2
 obtain ⟨c',hf',hr'⟩:=t.get (X:=X) (w:=w) (c:=c1) hc (fun p hp hm=>hs p hp (List.mem_cons_of_mem _ hm)) hp (by rw [hc1];exact g2)
 exact ⟨c',by rw [List.map_cons,hf,hf'],hr'⟩⟩
theorem eC{α:Type} {P:Program} {w00:World} {N:Nat} {L:List Loc} {E:List (Nat×ai)} {d:Nat} {t0:TypeId} {pos:String} {af:Array Edge} {gd:Option (Nat×Bool)} (ts:List TypeId) (C:Nat) {r:Rp α} {ps:List (Nat×Operand)} {a0 a:α} (z:fU P ty r a0) [b:nX P ty ts C E r ps a0 a]:aR P w00 N L E ⟨some d, .build ty ps.toArray,t0,pos,af,gd⟩ (.tr r ts C a):=by
 constructor
 intro X ρ w hc _ hN hm hsl
 obtain ⟨fs,i,zs,hu,hf,hi,hz,hr⟩:=z.ok
 obtain ⟨l,hl,hl2⟩:=run_places (P:=P) (w:=w) fs.toList hf
 have hze:(zeroValue ty).run P w= .ok (.agg zs) w:=by simp [zeroValue,typeInfo,hi,hz]
 have hpl:(fs.mapM (fun f=>do pure (f.offset,←sizeOf f.type)):Sem (Array (Nat×Nat))).run P w= .ok l.toArray w:=by
  rw [Array.mapM_eq_mapM_toList,map_eq_pure_bind]
  simp only [Sem.run_bind,hl,Result.andThen_ok,Sem.run_pure]
 obtain ⟨c',h1,h2⟩:=b.get (X:=X) (w:=w) (ρ:=ρ) (places:=l.toArray) (c:=zs) hc (fun p hp hm=>hsl p hp (by
  simp only [Op.operands]
  obtain ⟨q,hq,e⟩:=List.mem_map.1 hm
  simp
  exact ⟨q.1,by rw [←e];exact hq⟩)) (fun i off k ag f=>by
  obtain ⟨fs',g,g1,g2,g3,g4,_⟩:=f.ok
  rw [hu] at g1
  obtain rfl:fs=fs':=by simpa using g1
  have:=hl2 i g (by simpa using g2) k g4
  rw [g3] at this
  simpa using this) (hr w _)
 have hrun:(Instr.build ty (ps.toArray.map fun (i,x)=>(i,ρ x))).run P w= .ok (.agg c') w:=by
  unfold Instr.build
  have hps:(ps.toArray.map fun (i,x)=>(i,ρ x)).toList=ps.map fun p=>(p.1,ρ p.2):=by simp
  simp only [Sem.run_bind,hze,Result.andThen_ok,run_underlying hu w,hpl,hps]
  rw [show (Value.agg zs).cells=zs from rfl]
  simp only [h1]
  rfl
 unfold Yields execOp
 simp only [Sem.run_bind,hrun,Result.andThen_ok,Sem.run_pure]
 exact ⟨⟨c'.toList,by simp,h2⟩,Below.refl _ _⟩
class yl (ts:List TypeId) (C:Nat) (E:List (Nat×ai)) {α:Type} (r:Rp α) (ps:List (Nat×Operand)) (k:Nat) (l:outParam (List α)):Prop where
 get:∀ {X:List Nat} {w:World} {ρ:Operand→Value},(∀ c,ρ (.const c)=c)→(∀ p∈E, .tmp p.1∈ps.map Prod.snd→p.2.holds X w (ρ (.tmp p.1)))→∃ xs:List (α×List Value),xs.map Prod.fst=l∧(∀ p∈xs,r.rd w (cu ts C X w) p.1 p.2)∧ps.map (fun p=>(p.1,ρ p.2))=ir k ((xs.map Prod.snd).map fun cs=> .agg cs.toArray)
instance yl.nil {ts:List TypeId} {C:Nat} {E:List (Nat×ai)} {α:Type} {r:Rp α} {k:Nat}:yl ts C E r [] k []:=⟨fun _ _=>⟨[],rfl,(fun _ h=>by cases h),rfl⟩⟩
class qW (ts:List TypeId) (C:Nat) (T:ai) {α:Type} (r:Rp α) (a:outParam α):Prop where
 ok:∀ {X:List Nat} {w:World} {v:Value},T.holds X w v→∃ cs:List Value,v= .agg cs.toArray∧r.rd w (cu ts C X w) a cs
instance {α:Type} {r:Rp α} {ts ts':List TypeId} {C:Nat} {a:α} [s:fz ts' ts]:qW ts C (.tr r ts' C a) r a:=⟨fun ⟨cs,e,h⟩=>⟨cs,e,r.more h (cu.sub (s:=s))⟩⟩
instance yl.cons {ts:List TypeId} {C:Nat} {E:List (Nat×ai)} {α:Type} {r:Rp α} {o:Operand} {ps:List (Nat×Operand)} {k:Nat} {T:ai} {a:α} {l:List α} [ho:b_ E o T] [et:qW ts C T r a] [t:yl ts C E r ps (k+1) l]:yl ts C E r ((k,o)::ps) k (a::l):=⟨fun {X w ρ} hc hs=>by
 obtain ⟨xs,h1,h2,h3⟩:=t.get (X:=X) (w:=w) hc fun p hp hm=>hs p hp (List.mem_cons_of_mem _ hm)
 obtain ⟨cs,e,hr⟩:=et.ok (ho.get (X:=X) (w:=w) hc fun p hp e=>hs p hp (by rw [e];exact List.mem_cons_self))
 refine ⟨(a,cs)::xs,by rw [List.map_cons,h1],fun p hp=> ?_,?_⟩
 ·rcases List.mem_cons.1 hp with rfl|hp
  ·exact hr
  ·exact h2 p hp
 ·rw [List.map_cons,h3,e]
  rfl⟩
section
variable {P:Program} {w00:World} {N:Nat} {L:List Loc} {E:List (Nat×ai)} {d:Nat} {t0:TypeId} {pos:String} {af:Array Edge} {gd:Option (Nat×Bool)}
theorem jw{α:Type} (ts:List TypeId) (C:Nat) {r:Rp α} {n:Nat} {ps:List (Nat×Operand)} {l:List α} (c:DK P ty e r.k) [h:yl ts C E r ps 0 l] (hn:l.length=n) (hp:0<n*r.k) (hb:n*r.k≤1000000) (hn2:n≤100):aR P w00 N L E ⟨some d, .buildSlice ty n ps.toArray,t0,pos,af,gd⟩ (.to r e ts C w00.heap.size l):=by
 constructor
 intro X ρ w hc _ hN hm hsl
 obtain ⟨xs,h1,h2,h3⟩:=h.get (X:=X) (w:=w) (ρ:=ρ) hc fun p hp hm=>hsl p hp (by
  simp only [Op.operands]
  obtain ⟨q,hq,e⟩:=List.mem_map.1 hm
  simp
  exact ⟨q.1,by rw [←e];exact hq⟩)
 have hlen:xs.length=n:=by rw [←hn,←h1,List.length_map]
 have hrun:=BJ c w (xs.map Prod.snd) (fun cs hcs=>by
  obtain ⟨p,hp,rfl⟩:=List.mem_map.1 hcs
  exact r.len (h2 p hp)) (by rw [List.length_map,hlen]) hp hb (ps.toArray.map fun (i,x)=>(i,ρ x)) (by rw [←h3];simp)
 have ef:(xs.map Prod.snd).flatMap id=xs.flatMap Prod.snd:=by rw [List.flatMap_map];rfl
 rw [ef] at hrun
 have hfl:∀ (ys:List (α×List Value)),(∀ p∈ys,p.2.length=r.k)→(ys.flatMap Prod.snd).length=ys.length*r.k:=by
  intro ys
  induction ys with
  |nil=>intro _;simp
  |cons y ys ih=>
   intro hy
   rw [List.flatMap_cons,List.length_append,hy y List.mem_cons_self,ih fun p hp=>hy p (List.mem_cons_of_mem _ hp),List.length_cons,Nat.add_mul,Nat.one_mul,Nat.add_comm]
 have hb':Below w.heap.size w (w.alloc (.cells (xs.flatMap Prod.snd).toArray e)):=(Below.refl _ _).alloc (Nat.le_refl _) _
 unfold Yields execOp
 simp only [Sem.run_bind,hrun,Result.andThen_ok,Sem.run_pure]
 refine ⟨⟨some ⟨w.heap.size,0,none⟩,n,xs,by rw [hn],h1,fun q hq=>r.upT (h2 q hq) (Below.keeps hb' X) fun _ h _=>h,?_,fun g hg=> ?_⟩,hb'⟩
 ·rw [hn]
  exact dt.lit r.k e w hm.below.size _ n (by rw [hfl xs fun p hp=>r.len (h2 p hp),hlen]) qO
 ·have hg:w.heap.size=g:=by simpa [fC] using hg
  subst hg
  exact ⟨by rw [aX];exact Nat.lt_succ_self _,fun hx=>by have:=hm.far _ hx;omega⟩
end
theorem fU.alT{α:Type} {P:Program} {r:Rp α} {a:α} (z:fU P ty r a):cX P ty (.tr r [] 0 a):=by
 obtain ⟨fs,i,zs,hu,hf,hi,hz,hr⟩:=z.ok
 refine ⟨.agg zs,fun X w=>⟨zs.toList,by simp,hr w _⟩,fun o ρ w e=> ?_⟩
 have hze:(zeroValue ty).run P w= .ok (.agg zs) w:=by simp [zeroValue,typeInfo,hi,hz]
 cases o with
 |mk dst op t pos af gd=>
  have e':op=_:=e
  subst e'
  unfold execOp
  simp [Instr.alloc,newVar,newRow,Sem.run_bind,hze,Result.andThen_ok]
structure vg (e:TypeId) (B:Nat) (X:List Nat) (w w':World):Prop where
 os:w'.os=w.os
 tape:w'.tape=w.tape
 output:w'.output=w.output
 size:w.heap.size≤w'.heap.size
 block:∀ b,b<w.heap.size→w'.heap[b]? =w.heap[b]? ∨(B≤b∧b ∉ X∧∃ cs f,w.heap[b]? =some (.cells cs e f))
theorem vg.ch(h:vg e B X w w'):Ch B X w w':=⟨h.os,h.tape,h.output,h.size,fun b hb=>(h.block b hb).imp id fun g=>⟨g.1,g.2.1⟩⟩
class jT (e:TypeId) (B:Nat) (T:ai):Prop where
 ok:∀ {X:List Nat} {w w':World} {v:Value},T.holds X w v→vg e B X w w'→T.holds X w' v
instance (priority:=low) {e:TypeId} {B:Nat} {T:ai} [s:li B T]:jT e B T:=⟨fun h hc=>s.ok h hc.ch⟩
theorem cu.stay{ts:List TypeId} (h:vg e B X w w') (hC:C≤B) (hn:e ∉ ts) {b:Nat} (hb:cu ts C X w b):w'.heap[b]? =w.heap[b]? :=by
 rcases h.block b hb.1.1 with g|⟨g1,_,cs,f,g2⟩
 ·exact g
 ·rcases hb.2 with h1|⟨cs',t,f',h1,h2⟩
  ·omega
  ·rw [g2] at h1
   injection h1 with h1
   injection h1 with _ h1 _
   exact absurd (h1▸h2) hn
theorem cu.still{ts:List TypeId} (h:vg e B X w w') (hC:C≤B) (hn:e ∉ ts) (b:Nat) (hb:cu ts C X w b):cu ts C X w' b:=by
 have hs:=cu.stay h hC hn hb
 obtain ⟨⟨h1,h2⟩,h3⟩:=hb
 refine ⟨⟨Nat.lt_of_lt_of_le h1 h.size,h2⟩,h3.imp id fun ⟨cs,t,f,h4,h5⟩=>⟨cs,t,f,hs.trans h4,h5⟩⟩
theorem Rp.stT{α:Type} (r:Rp α) {ts:List TypeId} {a:α} (hr:r.rd w (cu ts C X w) a cs) (h:vg e B X w w') (hC:C≤B) (hn:e ∉ ts):r.rd w' (cu ts C X w') a cs:=
 r.more (r.keep hr fun _ hb=>cu.stay h hC hn hb) (cu.still h hC hn)
instance {α:Type} {r:Rp α} {e:TypeId} {B:Nat} {ts:List TypeId} {C:Nat} {a:α} [hC:ka C B] [n:dH e ts]:jT e B (.tr r ts C a):=⟨fun ⟨cs,e,h⟩ hc=>⟨cs,e,r.stT h hc hC.ok n.ok⟩⟩
instance {α:Type} {r:Rp α} {e:TypeId} {B:Nat} {ts:List TypeId} {C:Nat} {a:α} [hC:ka C B] [n:dH e ts]:jT e B (.tc r ts C a):=⟨fun h hc=>r.stT h hc hC.ok n.ok⟩
instance {α:Type} {r:Rp α} {e e2:TypeId} {B B2:Nat} {ts:List TypeId} {C:Nat} {l:List α} [hC:ka C B] [n:dH e (e2::ts)]:jT e B (.to r e2 ts C B2 l):=⟨fun {X w w' v} ⟨A,c,ps,h1,h2,h3,h4,h5⟩ hc=>by
 have hn:=n.ok
 have hne:e≠e2:=fun h=>hn (h▸List.mem_cons_self)
 have hst:∀ g,fC A=some g→w'.heap[g]? =w.heap[g]? :=fun g hg=>by
  rcases hc.block g (h5 g hg).1 with g1|⟨_,_,cs,f,g2⟩
  ·exact g1
  ·obtain ⟨cur,hcur⟩:=h4.type hg
   rw [g2] at hcur
   injection hcur with hcur
   injection hcur with _ hcur _
   exact absurd hcur hne
 exact ⟨A,c,ps,h1,h2,fun q hq=>r.stT (h3 q hq) hc hC.ok (fun h=>hn (List.mem_cons_of_mem _ h)),h4.same hst,fun g hg=>⟨Nat.lt_of_lt_of_le (h5 g hg).1 hc.size,(h5 g hg).2⟩⟩⟩
class gG (e:TypeId) (B:Nat) (L:List Loc):Prop where
 ok:∀ p∈L,∀ {X:List Nat} {w w':World} {v:Value},p.2.holds X w v→vg e B X w w'→p.2.holds X w' v
instance gG.nil {e:TypeId} {B:Nat}:gG e B []:=⟨fun _ h=>by cases h⟩
instance gG.cons {e:TypeId} {B r:Nat} {L:List Loc} {T:ai} [a:jT e B T] [k:gG e B L]:gG e B ((r,T)::L):=⟨fun p hp=>by
 rcases List.mem_cons.1 hp with rfl|hp
 ·exact a.ok
 ·exact k.ok p hp⟩
class Ir (T:ai) {α:outParam Type} (r:outParam (Rp α)) (e:outParam TypeId) (ts:outParam (List TypeId)) (C B:outParam Nat) (l:outParam (List α)):Prop where
 ok:∀ {X:List Nat} {w:World} {v:Value},T.holds X w v→(ai.to r e ts C B l).holds X w v
instance {α:Type} {r:Rp α} {e:TypeId} {ts:List TypeId} {C B:Nat} {l:List α}:Ir (.to r e ts C B l) r e ts C B l:=⟨fun h=>h⟩
theorem ky{α:Type} {r:Rp α} {ts:List TypeId} (h:(ai.is (.slice none 0 0)).holds X w v):(ai.to r e ts C B []).holds X w v:=by
 obtain rfl:v=_:=h
 exact ⟨none,0,[],rfl,rfl,(fun _ h=>by cases h),dt.nil,fun g hg=>by cases hg⟩
class tw (T:ai) {α:Type} (r:Rp α) (ts:List TypeId) (C:Nat) (l:outParam (List α)):Prop where
 ok:∀ {X:List Nat} {w:World} {v:Value},T.holds X w v→(ai.sr r ts C l).holds X w v
instance {α:Type} {r:Rp α} {ts:List TypeId} {C:Nat} {l:List α}:tw (.sr r ts C l) r ts C l:=⟨fun h=>h⟩
instance {α:Type} {r:Rp α} {e:TypeId} {ts ts':List TypeId} {C B:Nat} {l:List α} [s:fz ts' ts]:tw (.to r e ts' C B l) r ts C l:=⟨fun ⟨A,c,ps,h1,h2,h3,h4,h5⟩=>⟨A,c,ps,h1,h2,fun q hq=>r.more (h3 q hq) (cu.sub (s:=s)),h4.sl,fun _=>h5⟩⟩
instance {ts:List TypeId} {C:Nat} {xs:List Int}:tw (.rc Rp.limbs xs) (Rp.int .u32) ts C xs:=⟨fun {X w v} h=>by
 obtain ⟨A,n,c,e,⟨⟨g1,g2,g3,g4,g5⟩,hf⟩,_⟩:=h
 have e:v= .slice A n c:=by simpa using e
 subst e
 have hfl:∀ (ys:List Int),(ys.map fun x=>(x,[Value.int .u32 x])).flatMap Prod.snd=ys.map (Value.int .u32):=by
  intro ys
  induction ys with
  |nil=>rfl
  |cons y ys ih=>rw [List.map_cons,List.flatMap_cons,ih];rfl
 refine ⟨A,c,xs.map fun x=>(x,[.int .u32 x]),by rw [g1],by rw [List.map_map];exact List.map_id _,fun q hq=> ?_,?_,fun hn b hb=>hf (by rw [←g1];exact hn) b hb⟩
 ·obtain ⟨x,_,rfl⟩:=List.mem_map.1 hq
  rfl
 ·rw [hfl]
  refine ⟨by rw [List.length_map];exact (Nat.mul_one _).symm,by rw [g1];exact g2,g3,g4,fun hn=> ?_⟩
  obtain ⟨b,off,rfl,hb,hc⟩:=g5 (by rw [←g1];exact hn)
  refine ⟨b,off,rfl,hb,fun j u hu=> ?_⟩
  rw [List.getElem?_map] at hu
  cases hx:xs[j]? with
  |none=>rw [hx] at hu;cases hu
  |some x=>
   rw [hx] at hu
   have e:Value.int .u32 x=u:=by simpa using hu
   rw [←e]
   exact hc j x hx⟩
section
variable {P:Program} {w00:World} {X:List Nat} {L:List Loc} {E E0:List (Nat×ai)} {n:Nat} {ops:Array Oper} {rest:List Oper} {Q:Exit→Act→World→Prop} {cs:List Code} {t0:TypeId} {pos:String} {af:Array Edge}
theorem TS.chT{a:Act} (h:TS w00 X L E n a w) (hs:vg e B X w w') (hB:w00.heap.size≤B) [kL:gG e B L] [kE:gG e B E]:TS w00 X L E n a w':=by
 refine ⟨h.size,h.df,fun p hp=>kE.ok p hp (h.slots p hp) hs,⟨fun p hp=> ?_,fun b hb=>Nat.lt_of_lt_of_le (h.mem.far b hb) hs.size,h.mem.nodup,?_⟩⟩
 ·obtain ⟨g1,g2,v,ty,g3,g4⟩:=h.mem.loc p hp
  refine ⟨g1,g2,v,ty,kL.ok p hp g3 hs,?_⟩
  rcases hs.block p.1 (h.mem.far _ g1) with e|⟨_,g,_⟩
  ·exact e.trans g4
  ·exact absurd g1 g
 ·refine h.mem.below.trans ⟨hs.os,hs.tape,hs.output,hs.size,fun b hb=> ?_⟩
  rcases hs.block b (Nat.lt_of_lt_of_le hb h.mem.below.size) with e|⟨g,_⟩
  ·exact e
  ·omega
theorem kT {α:Type} {r:Rp α} {e t:TypeId} {ts:List TypeId} {C B s x d bytes:Nat} {l m:List α} {Ts Tx':ai} (ss:List Nat) (hB0:w00.heap.size≤B) (hC:C≤B) (hsz:∀ a w,TS w00 X L E n a w→B≤w.heap.size) [hs:ce E s Ts] [ao:Ir Ts r e ts C B l] [hn:dH e ts] [hx:ce E x Tx'] [ax:tw Tx' r ts C m] [k:jQ E ss E0] [kL:gG e B L] [kE:gG e B E0] (T:iC P t e r.k bytes)
 (hlen:l.length+m.length≤1000000) (hby:bytes≤1000) (hd:(Nat.blt d n&& !(E0.map Prod.fst).elem d)=true)
 (h:GR P w00 X L ((d, .to r e ts C B (l++m))::E0) n ops rest cs Q):GR P w00 X L E n ops (⟨some d, .call { callee:= .builtin .append,args:= #[.tmp s, .tmp x],argTypes:= #[t,t] },t0,pos,af,none⟩::rest) cs Q:=⟨fun a w ht=>by
 simp only [Bool.and_eq_true,Bool.not_eq_true'] at hd
 have hBw:=hsz a w ht
 obtain ⟨A,c,ps,es,hps,hrd,hown,hfree⟩:=ao.ok (ht.slots _ hs.mem)
 obtain ⟨A2,c2,ps2,ex,hps2,hrd2,hsl2,hfree2⟩:=ax.ok (ht.slots _ hx.mem)
 have hpos:=T.pos
 have hmx:l.length+m.length≤maxLen:=by unfold maxLen;omega
 have h1c:∀ u∈ps2.flatMap Prod.snd,u.oneCell'=true:=fun u hu=>by
  obtain ⟨q,hq,hu⟩:=List.mem_flatMap.1 hu
  exact r.one (hrd2 q hq) u hu
 obtain ⟨A',c',w',hr,h2,h3,h4⟩:=mZ (A:=A) (A2:=A2) T t0 hown hsl2 h1c (by have:=Nat.mul_le_mul (show l.length+m.length≤1000000 by omega) hby;omega) hmx hBw
 have hch:vg e B X w w':=⟨h3.os,h3.tape,h3.output,h3.size,fun g hg=>by
  by_cases hA:fC A=some g
  ·obtain ⟨cur,hcur⟩:=hown.type hA
   exact .inr ⟨(hown.blk_ g hA).1,(hfree g hA).2,cur,_,hcur⟩
  ·exact .inl (h3.block g hg (fun e=>hA e.symm))⟩
 have hT:(ai.to r e ts C B (l++m)).holds X w' (.slice A' (l.length+m.length) c'):=by
  refine ⟨A',c',ps++ps2,by simp,by simp [hps,hps2],fun q hq=> ?_,by simpa using h2,fun g hg=> ?_⟩
  ·rcases List.mem_append.1 hq with hq|hq
   ·exact r.stT (hrd q hq) hch hC hn.ok
   ·exact r.stT (hrd2 q hq) hch hC hn.ok
  ·have hlt:=(h2.blk_ g hg).2
   rcases h4 g hg with h5|h5
   ·exact ⟨hlt,(hfree g h5).2⟩
   ·exact ⟨hlt,fun hx=>by have:=ht.mem.far g hx;omega⟩
 have h5:=(ht.keep (E':=E0) ss).chT hch hB0
 refine ⟨wpList_plain rfl fun K hK'=> ?_⟩
 have e1:a.eval (.tmp s)= .slice A l.length c:=es
 have e2:a.eval (.tmp x)= .slice A2 m.length c2:=ex
 unfold Oper.wp execOp
 simp only [resolve,invoke,builtin,Sem.run_bind,Sem.run_pure,Result.andThen_ok,List.map_toArray,List.map_cons,List.map_nil,e1,e2,hr]
 exact hK' _ _ (h.run _ _ (h5.new hd.2 (by rw [←Nat.blt_eq];exact hd.1) hT (Below.refl _ _))).out⟩
end
instance {α:Type} {r:Rp α} {e:TypeId} {ts:List TypeId} {C:Nat} {l:List α}:d8 fun B=> .to r e ts C B l:=⟨fun hB ⟨A,c,ps,h1,h2,h3,h4,h5⟩=>⟨A,c,ps,h1,h2,h3,h4.lower hB,h5⟩⟩
instance:bB Rp.frac 0 Rp.bool (fun x=>x.1.1):=⟨fun {w S a cs} h=>by
 obtain ⟨c1,c2,rfl,h1,h2⟩:=h
 obtain ⟨d1,d2,rfl,g1,g2⟩:=h1
 exact ⟨[],d1,d2++c2,by simp,rfl,g1⟩⟩
instance:bB Rp.frac 1 Rp.limbs (fun x=>x.1.2):=⟨fun {w S a cs} h=>by
 obtain ⟨c1,c2,rfl,h1,h2⟩:=h
 obtain ⟨d1,d2,rfl,g1,g2⟩:=h1
 exact ⟨d1,d2,c2,by simp,Rp.bool.len g1,g2⟩⟩
instance:bB Rp.frac 2 Rp.bool (fun x=>x.2.1):=⟨fun {w S a cs} h=>by
 obtain ⟨c1,c2,rfl,h1,h2⟩:=h
 obtain ⟨d1,d2,rfl,g1,g2⟩:=h2
 exact ⟨c1,d1,d2,by simp,Rp.num.len h1,g1⟩⟩
instance:bB Rp.frac 3 Rp.limbs (fun x=>x.2.2):=⟨fun {w S a cs} h=>by
 obtain ⟨c1,c2,rfl,h1,h2⟩:=h
 obtain ⟨d1,d2,rfl,g1,g2⟩:=h2
 have e1:=Rp.num.len h1
 have e2:=Rp.bool.len g1
 exact ⟨c1++d1,d2,[],by simp,by rw [List.length_append,e1,e2];rfl,g2⟩⟩
instance {xs:List Int}:fI Rp.limbs xs (.rc Rp.limbs xs):=⟨fun h=>h⟩
instance {x:bA}:az (.ra Rp.frac x) 0 1 false (.is (.bool x.1.1)):=az.cell (r':=Rp.bool) (g:=fun (x:bA)=>x.1.1) inferInstance ⟨rfl⟩ inferInstance
instance {x:bA}:az (.ra Rp.frac x) 1 1 false (.rc Rp.limbs x.1.2):=az.cell (r':=Rp.limbs) (g:=fun (x:bA)=>x.1.2) inferInstance ⟨rfl⟩ inferInstance
instance {x:bA}:az (.ra Rp.frac x) 2 1 false (.is (.bool x.2.1)):=az.cell (r':=Rp.bool) (g:=fun (x:bA)=>x.2.1) inferInstance ⟨rfl⟩ inferInstance
instance {x:bA}:az (.ra Rp.frac x) 3 1 false (.rc Rp.limbs x.2.2):=az.cell (r':=Rp.limbs) (g:=fun (x:bA)=>x.2.2) inferInstance ⟨rfl⟩ inferInstance
instance:KC Rp.num 2:=⟨rfl⟩
instance:aP Tryz.prog 26 0 0 1 false:=⟨⟨_,_,Tryz.underlying26,rfl,rfl,by kernel_rfl,by decide,_,Tryz.underlying4,rfl⟩⟩
instance:aP Tryz.prog 26 1 1 1 false:=⟨⟨_,_,Tryz.underlying26,rfl,rfl,by kernel_rfl,by decide,_,Tryz.underlying24,rfl⟩⟩
instance:aO Rp.num 0 Rp.bool (fun a b=>(b,a.2)):=aO.fst
instance:aO Rp.num 1 Rp.limbs (fun a b=>(a.1,b)):=aO.tail (n:=1) ⟨rfl⟩ aO.self rfl
instance:aO Rp.frac 0 Rp.num (fun a b=>(b,a.2)):=aO.fst
instance:aO Rp.frac 2 Rp.num (fun a b=>(a.1,b)):=aO.tail (n:=2) ⟨rfl⟩ aO.self rfl
instance {B:Nat}:ka 0 B:=⟨Nat.zero_le _⟩
instance {a b:Nat}:ka 0 (a+b):=⟨Nat.zero_le _⟩
instance:fz [128] [130,82,128]:=⟨by decide⟩
instance:fz [128] [130,82,132,134,136,128]:=⟨by decide⟩
instance:fz [130,82,128] [130,82,132,134,136,128]:=⟨by decide⟩
instance:fz [130,128] [130,82,128]:=⟨by decide⟩
instance:fz [82,128] [130,82,128]:=⟨by decide⟩
instance:fz [130,128] [130,82,132,134,136,128]:=⟨by decide⟩
instance:fz [82,128] [130,82,132,134,136,128]:=⟨by decide⟩
instance:fz [132,128] [130,82,132,134,136,128]:=⟨by decide⟩
instance:fz [134,128] [130,82,132,134,136,128]:=⟨by decide⟩
instance:fz [136,128] [130,82,132,134,136,128]:=⟨by decide⟩
instance:dH 132 [130,82,128]:=⟨by decide⟩
instance:dH 132 [128]:=⟨by decide⟩
instance (priority:=high):cX Tryz.prog 80 (.tr cU [] 0 Ai):=mI.alT
theorem all_cons {α:Type} {P:α→Prop} {a:α} {l:List α} (h1:P a) (h2:∀ x∈l,P x):∀ x∈a::l,P x:=fun x hx=>by
 rcases List.mem_cons.1 hx with rfl|hx
 ·exact h1
 ·exact h2 x hx
end Go.Proofs.YtcpeiijdgabenaaGreatDoor
