/- What a call builds, told by the types of the blocks in which it lies: structs (.tr), single cells (.tc), rows of the call's own (.to); how they are built; append of any row to one of the call's own. No program stands in it. -/
import Derived.Test.YtpmhjieibebclaaGreatDoorCP
import Derived.Test.YtpmhjieibebclaaGreatDoorCM
set_option maxHeartbeats 4000000
set_option maxRecDepth 20000
set_option synthInstance.maxHeartbeats 400000
set_option synthInstance.maxSize 4000
set_option linter.unusedSimpArgs false
set_option linter.unusedVariables false
namespace Go.Proofs.YtpmhjieibebclaaGreatDoor
open Go Go.RowKit
variable {w w':World} {X:List Nat} {C B:Nat} {e ty:TypeId} {v:Value} {q:Rat} {cs:List Value} {xs:List Int} {n:Int} {u:Bool}
def ca (ts:List TypeId) (C:Nat) (X:List Nat) (w:World) (b:Nat):Prop:=cU X w b∧(b<C∨∃ cs t f,w.heap[b]? =some (.cells cs t f)∧t∈ts)
theorem ca.mono{ts:List TypeId} {X':List Nat} (hk:gr X w w') (hX:∀ b∈X',b<w.heap.size→b∈X) (b:Nat) (h:ca ts C X w b):ca ts C X' w' b:=by
 obtain ⟨h1,h2⟩:=h
 refine ⟨cU.mono hk hX b h1,?_⟩
 rcases h2 with h2|⟨cs,t,f,h3,h4⟩
 ·exact .inl h2
 ·exact .inr ⟨cs,t,f,(hk.block b h1.1 h1.2).trans h3,h4⟩
theorem Rp.upT{α:Type} (r:Rp α) {ts:List TypeId} {X':List Nat} {a:α} (h:r.rd w (ca ts C X w) a cs) (hk:gr X w w') (hX:∀ b∈X',b<w.heap.size→b∈X):r.rd w' (ca ts C X' w') a cs:=
 r.more (r.keep h fun b hb=>hk.block b hb.1.1 hb.1.2) (ca.mono hk hX)
theorem Rp.unT{α:Type} (r:Rp α) {ts:List TypeId} {a:α} (h:r.rd w (ca ts C X w) a cs):r.rd w (cU X w) a cs:=r.more h fun _ hb=>hb.1
def aa.tr {α:Type} (r:Rp α) (ts:List TypeId) (C:Nat) (a:α):aa:=⟨fun X w v=>∃ cs:List Value,v= .agg cs.toArray∧r.rd w (ca ts C X w) a cs,fun ⟨cs,e,h⟩ hk hX=>⟨cs,e,r.upT h hk hX⟩⟩
def aa.tc {α:Type} (r:Rp α) (ts:List TypeId) (C:Nat) (a:α):aa:=⟨fun X w v=>r.rd w (ca ts C X w) a [v],fun h hk hX=>r.upT h hk hX⟩
def aa.to {α:Type} (r:Rp α) (e:TypeId) (ts:List TypeId) (C B:Nat) (l:List α):aa:=⟨fun X w v=>∃ (A:Option Addr) (c:Nat) (ps:List (α×List Value)),v= .slice A l.length c∧ps.map Prod.fst=l∧(∀ q∈ps,r.rd w (ca ts C X w) q.1 q.2)∧cS r.k e w B A l.length c (ps.flatMap Prod.snd)∧(∀ g,fh A=some g→cU X w g),
 fun ⟨A,c,ps,h1,h2,h3,h4,h5⟩ hk hX=>⟨A,c,ps,h1,h2,fun q hq=>r.upT (h3 q hq) hk hX,h4.same fun g hg=>hk.block g (h5 g hg).1 (h5 g hg).2,fun g hg=>cU.mono hk hX g (h5 g hg)⟩⟩
def aa.sr {α:Type} (r:Rp α) (ts:List TypeId) (C:Nat) (l:List α):aa:=⟨fun X w v=>∃ (A:Option Addr) (c:Nat) (ps:List (α×List Value)),v= .slice A l.length c∧ps.map Prod.fst=l∧(∀ q∈ps,r.rd w (ca ts C X w) q.1 q.2)∧qZ r.k w w.heap.size A l.length c (ps.flatMap Prod.snd)∧(0<l.length→∀ g,fh A=some g→cU X w g),
 fun {X X' w w' v} ⟨A,c,ps,h1,h2,h3,⟨g1,g2,g3,g4,g5⟩,h5⟩ hk hX=>⟨A,c,ps,h1,h2,fun q hq=>r.upT (h3 q hq) hk hX,⟨g1,g2,g3,g4,fun hn=>by
  obtain ⟨b,off,rfl,hb,hc⟩:=g5 hn
  have hf:=h5 hn b rfl
  exact ⟨b,off,rfl,Nat.lt_of_lt_of_le hb hk.size,fun j u hu=>(World.cell?_of_block (hk.block b hf.1 hf.2)).trans (hc j u hu)⟩⟩,fun hn g hg=>cU.mono hk hX g (h5 hn g hg)⟩⟩
class fT (ts ts':List TypeId):Prop where
 ok:∀ t∈ts,t∈ts'
instance {ts:List TypeId}:fT ts ts:=⟨fun _ h=>h⟩
instance {ts:List TypeId}:fT [] ts:=⟨fun _ h=>by cases h⟩
class iw (e:TypeId) (ts:List TypeId):Prop where
 ok:e ∉ ts
instance {e:TypeId}:iw e []:=⟨fun h=>by cases h⟩
theorem ca.sub{ts ts':List TypeId} [s:fT ts ts'] (b:Nat) (h:ca ts C X w b):ca ts' C X w b:=⟨h.1,h.2.imp id fun ⟨cs,t,f,h3,h4⟩=>⟨cs,t,f,h3,s.ok t h4⟩⟩
theorem Dr{α:Type} {r:Rp α} {ts:List TypeId} {l:List α} (h:(aa.to r e ts C B l).holds X w v):(aa.rw r tt l).holds X w v:=by
 obtain ⟨A,c,ps,rfl,rfl,h3,h4,h5⟩:=h
 refine ⟨fun _ _=>trivial,A,_,c,rfl,rfl,?_⟩
 obtain ⟨g1,g2,g3,g4,g5⟩:=h4.sl
 refine ⟨g2,g3,g4,fun hn=> ?_⟩
 obtain ⟨b,off,rfl,hb,hc⟩:=g5 hn
 refine ⟨b,off,rfl,h5 b rfl,fun j a ha=> ?_⟩
 rw [List.getElem?_map] at ha
 cases hq:ps[j]? with
 |none=>rw [hq] at ha;cases ha
 |some q=>
  rw [hq] at ha
  obtain rfl:q.1=a:=by simpa using ha
  refine ⟨q.2,fun i u hu=> ?_,r.unT (h3 q (List.mem_of_getElem? hq))⟩
  have:=hc (j*r.k+i) u (iX (fun q hq=>r.len (h3 q hq)) hq hu)
  rw [Nat.add_assoc]
  exact this
theorem jp{α:Type} {r:Rp α} {ts ts':List TypeId} {l:List α} [s:fT (e::ts) ts'] (h:(aa.to r e ts C B l).holds X w v):r.row.rd w (ca ts' C X w) l [v]:=by
 obtain ⟨A,c,ps,rfl,rfl,h3,h4,h5⟩:=h
 refine ⟨A,_,c,rfl,rfl,?_⟩
 obtain ⟨g1,g2,g3,g4,g5⟩:=h4.sl
 refine ⟨g2,g3,g4,fun hn=> ?_⟩
 obtain ⟨b,off,rfl,hb,hc⟩:=g5 hn
 obtain ⟨cur,hcur⟩:=h4.type (g:=b) rfl
 refine ⟨b,off,rfl,⟨h5 b rfl, .inr ⟨cur,_,_,hcur,s.ok e List.mem_cons_self⟩⟩,fun j a ha=> ?_⟩
 rw [List.getElem?_map] at ha
 cases hq:ps[j]? with
 |none=>rw [hq] at ha;cases ha
 |some q=>
  rw [hq] at ha
  obtain rfl:q.1=a:=by simpa using ha
  refine ⟨q.2,fun i u hu=> ?_,r.more (h3 q (List.mem_of_getElem? hq)) fun b hb=>⟨hb.1,hb.2.imp id fun ⟨cs,t,f,h3,h4⟩=>⟨cs,t,f,h3,s.ok t (List.mem_cons_of_mem _ h4)⟩⟩⟩
  have:=hc (j*r.k+i) u (iX (fun q hq=>r.len (h3 q hq)) hq hu)
  rw [Nat.add_assoc]
  exact this
instance {α:Type} {r:Rp α} {ts:List TypeId} {C k:Nat} {a:α} [kc:KC r k]:aL (.tr r ts C a) k true:=⟨fun {X w v} ⟨cs,e,h⟩=>(aL.raK (kc:=kc)).ok (T:= .ra r a) ⟨cs,e,r.unT h⟩⟩
instance {α:Type} {r:Rp α} {e:TypeId} {ts:List TypeId} {C B:Nat} {l:List α}:aL (.to r e ts C B l) 1 false:=⟨fun {X w v} ⟨A,c,ps,h1,_⟩=>by rw [h1];exact ⟨rfl,by simp [Value.cells,Value.oneCell'],(fun h=>by cases h),fun _=>rfl⟩⟩
instance {α:Type} {r:Rp α} {ts:List TypeId} {C:Nat} {a:α}:aL (.tc r ts C a) 1 false:=⟨fun {X w v} h=>by
 have h1:=r.one h v List.mem_cons_self
 exact ⟨by rw [f6 h1];rfl,by rw [f6 h1];simp [h1],(fun h=>by cases h),fun _=>f6 h1⟩⟩
instance {α:Type} {r:Rp α} {ts:List TypeId} {C k:Nat} {a:α} [kc:KC r k]:ai (.tr r ts C a) 0 k true (.tr r ts C a):= .whole inferInstance
instance {α:Type} {r:Rp α} {ts:List TypeId} {C:Nat} {a:α}:CA (.tr r ts C a) r a:=⟨fun ⟨cs,e,h⟩=>⟨cs,by rw [e];rfl,r.unT h⟩⟩
instance {α:Type} {r:Rp α} {ts:List TypeId} {C:Nat} {a:α}:CA (.tc r ts C a) r a:=⟨fun {X w v} h=>⟨[v],f6 (r.one h v List.mem_cons_self),r.unT h⟩⟩
instance {α:Type} {r:Rp α} {e:TypeId} {ts:List TypeId} {C B:Nat} {l:List α}:CA (.to r e ts C B l) r.row l:=⟨fun {X w v} h=>⟨[v],by
 obtain ⟨A,c,ps,e,_⟩:=h
 rw [e];rfl,by
 exact (Dr h).2⟩⟩
class IG (k:Nat) (vs:List Value) (l:outParam (List (List UInt8))):Prop where
 ok:vs=l.map Tx
 len:l.length≤k
instance {k:Nat}:IG k [] []:=⟨rfl,Nat.zero_le _⟩
instance {k:Nat} {t:List UInt8} {vs:List Value} {l:List (List UInt8)} [h:IG k vs l]:IG (k+1) (Tx t::vs) (t::l):=⟨by rw [h.ok];rfl,Nat.succ_le_succ h.len⟩
class Gp (a b:Nat):Prop where
 ok:a≤b
instance {vs:List Value} {l:List (List UInt8)} [h:IG 64 vs l]:CA (.vs vs) Rp.str.row l:=⟨fun {X w v} hv=>⟨[v],by
 obtain ⟨b,e,_⟩:=hv
 rw [e];rfl,by
 rw [h.ok] at hv
 exact (BQ (Nat.le_trans h.len qD) hv).2⟩⟩
class vd (ts:List TypeId) (C:Nat) (T:aa) {β:Type} (r:Rp β) (b:outParam β):Prop where
 ok:∀ {X:List Nat} {w:World} {v:Value},T.holds X w v→∃ cs:List Value,v.cells=cs.toArray∧r.rd w (ca ts C X w) b cs
instance {ts:List TypeId} {C:Nat} {l:List UInt8}:vd ts C (.is (Tx l)) Rp.str l:=⟨fun h=>⟨[Tx l],by rw [show _=_ from h];rfl,_,rfl,bu l⟩⟩
instance {ts:List TypeId} {C:Nat} {k:IntKind} {x:Int}:vd ts C (.is (.int k x)) (Rp.int k) x:=⟨fun h=>⟨[.int k x],by rw [show _=_ from h];rfl,rfl⟩⟩
instance {ts:List TypeId} {C:Nat} {x:Bool}:vd ts C (.is (.bool x)) Rp.bool x:=⟨fun h=>⟨[.bool x],by rw [show _=_ from h];rfl,rfl⟩⟩
instance {α:Type} {r:Rp α} {ts ts':List TypeId} {C:Nat} {a:α} [s:fT ts' ts]:vd ts C (.tr r ts' C a) r a:=⟨fun ⟨cs,e,h⟩=>⟨cs,by rw [e];rfl,r.more h (ca.sub (s:=s))⟩⟩
instance {α:Type} {r:Rp α} {ts ts':List TypeId} {C:Nat} {a:α} [s:fT ts' ts]:vd ts C (.tc r ts' C a) r a:=⟨fun {X w v} h=>⟨[v],f6 (r.one h v List.mem_cons_self),r.more h (ca.sub (s:=s))⟩⟩
instance {α:Type} {r:Rp α} {e:TypeId} {ts ts':List TypeId} {C B:Nat} {l:List α} [s:fT (e::ts') ts]:vd ts C (.to r e ts' C B l) r.row l:=⟨fun {X w v} h=>⟨[v],by
 obtain ⟨A,c,ps,e,_⟩:=h
 rw [e];rfl,jp h⟩⟩
class n_ (P:Program) (ty:TypeId) (ts:List TypeId) (C:Nat) (E:List (Nat×aa)) {α:Type} (r:Rp α) (ps:List (Nat×Operand)) (a:α) (a':outParam α):Prop where
 get:∀ {X:List Nat} {w:World} {ρ:Operand→Value} {places:Array (Nat×Nat)} {c:Array Value},(∀ c,ρ (.const c)=c)→(∀ p∈E, .tmp p.1∈ps.map Prod.snd→p.2.holds X w (ρ (.tmp p.1)))→(∀ (i off k:Nat) (ag:Bool),aq P ty i off k ag→places[i]? =some (off,k))→r.rd w (ca ts C X w) a c.toList→∃ c':Array Value,Instr.fill (places[·]?) c (ps.map fun p=>(p.1,ρ p.2))=some c'∧r.rd w (ca ts C X w) a' c'.toList
instance n_.nil {P:Program} {ty:TypeId} {ts:List TypeId} {C:Nat} {E:List (Nat×aa)} {α:Type} {r:Rp α} {a:α}:n_ P ty ts C E r [] a a:=⟨fun {X w ρ places c} _ _ _ h=>⟨c,rfl,h⟩⟩
instance n_.cons {P:Program} {ty:TypeId} {ts:List TypeId} {C:Nat} {E:List (Nat×aa)} {α β:Type} {r:Rp α} {r':Rp β} {i off k:Nat} {ag:Bool} {o:Operand} {ps:List (Nat×Operand)} {T:aa} {a a':α} {b:β} {u:α→β→α} [f:aq P ty i off k ag] [sr:ah r off r' u] [kc:KC r' k] [ho:bD E o T] [ap:vd ts C T r' b] [t:n_ P ty ts C E r ps (u a b) a']:n_ P ty ts C E r ((i,o)::ps) a a':=⟨fun {X w ρ places c} hc hs hp h=>by
 obtain ⟨ds,e,hd⟩:=ap.ok (ho.get (X:=X) (w:=w) hc fun p hp e=>hs p hp (by rw [e];exact List.mem_cons_self))
 obtain ⟨g1,g2⟩:=sr.ok h hd
 have hlen:=r.len h
 rw [Array.length_toList] at hlen
 have hk:=kc.ok
 obtain ⟨c1,hf,hc1⟩:=qk (place:=(places[·]?)) (i:=i) (v:=ρ o) (c:=c) (rest:=ps.map fun p=>(p.1,ρ p.2)) (hp i off k ag f) e ((r'.len hd).trans hk) qO
 rw [hk] at g2
 obtain ⟨c',hf',hr'⟩:=t.get (X:=X) (w:=w) (c:=c1) hc (fun p hp hm=>hs p hp (List.mem_cons_of_mem _ hm)) hp (by rw [hc1];exact g2)
 exact ⟨c',by rw [List.map_cons,hf,hf'],hr'⟩⟩
theorem bi{α:Type} {P:Program} {w00:World} {N:Nat} {L:List Loc} {E:List (Nat×aa)} {d:Nat} {t0:TypeId} {pos:String} {af:Array Edge} {gd:Option (Nat×Bool)} (ts:List TypeId) (C:Nat) {r:Rp α} {ps:List (Nat×Operand)} {a0 a:α} (z:dS P ty r a0) [b:n_ P ty ts C E r ps a0 a]:au P w00 N L E ⟨some d, .build ty ps.toArray,t0,pos,af,gd⟩ (.tr r ts C a):=by
 constructor
 intro X ρ w hc _ hN hm hsl
 obtain ⟨fs,i,zs,hu,hf,hi,hz,hr⟩:=z.ok
 obtain ⟨l,hl,hl2⟩:=run_places (P:=P) (w:=w) fs.toList hf
 have hze:(zeroValue ty).run P w= .ok (.agg zs) w:=by simp [zeroValue,typeInfo,hi,hz]
 have hpl:(fs.mapM (fun f=>do pure (f.offset,←sizeOf f.type)):Sem (Array (Nat×Nat))).run P w= .ok l.toArray w:=by
  rw [Array.mapM_eq_mapM_toList,map_eq_pure_bind]
  simp only [Sem.run_bind,hl,Result.andThen_ok,Sem.run_pure]
 obtain ⟨c',h1,h2⟩:=b.get (X:=X) (w:=w) (ρ:=ρ) (places:=l.toArray) (c:=zs) hc (fun p hp hm=>hsl p hp (by
  simp only [Op.operands]
  obtain ⟨q,hq,e⟩:=List.mem_map.1 hm
  simp
  exact ⟨q.1,by rw [←e];exact hq⟩)) (fun i off k ag f=>by
  obtain ⟨fs',g,g1,g2,g3,g4,_⟩:=f.ok
  rw [hu] at g1
  obtain rfl:fs=fs':=by simpa using g1
  have:=hl2 i g (by simpa using g2) k g4
  rw [g3] at this
  simpa using this) (hr w _)
 have hrun:(Instr.build ty (ps.toArray.map fun (i,x)=>(i,ρ x))).run P w= .ok (.agg c') w:=by
  unfold Instr.build
  have hps:(ps.toArray.map fun (i,x)=>(i,ρ x)).toList=ps.map fun p=>(p.1,ρ p.2):=by simp
  simp only [Sem.run_bind,hze,Result.andThen_ok,run_underlying hu w,hpl,hps]
  rw [show (Value.agg zs).cells=zs from rfl]
  simp only [h1]
  rfl
 unfold Yields execOp
 simp only [Sem.run_bind,hrun,Result.andThen_ok,Sem.run_pure]
 exact ⟨⟨c'.toList,by simp,h2⟩,Below.refl _ _⟩
class zl (ts:List TypeId) (C:Nat) (E:List (Nat×aa)) {α:Type} (r:Rp α) (ps:List (Nat×Operand)) (k:Nat) (l:outParam (List α)):Prop where
 get:∀ {X:List Nat} {w:World} {ρ:Operand→Value},(∀ c,ρ (.const c)=c)→(∀ p∈E, .tmp p.1∈ps.map Prod.snd→p.2.holds X w (ρ (.tmp p.1)))→∃ xs:List (α×List Value),xs.map Prod.fst=l∧(∀ p∈xs,r.rd w (ca ts C X w) p.1 p.2)∧ps.map (fun p=>(p.1,ρ p.2))=lG k ((xs.map Prod.snd).map fun cs=> .agg cs.toArray)
instance zl.nil {ts:List TypeId} {C:Nat} {E:List (Nat×aa)} {α:Type} {r:Rp α} {k:Nat}:zl ts C E r [] k []:=⟨fun _ _=>⟨[],rfl,(fun _ h=>by cases h),rfl⟩⟩
class IQ (ts:List TypeId) (C:Nat) (T:aa) {α:Type} (r:Rp α) (a:outParam α):Prop where
 ok:∀ {X:List Nat} {w:World} {v:Value},T.holds X w v→∃ cs:List Value,v= .agg cs.toArray∧r.rd w (ca ts C X w) a cs
instance {α:Type} {r:Rp α} {ts ts':List TypeId} {C:Nat} {a:α} [s:fT ts' ts]:IQ ts C (.tr r ts' C a) r a:=⟨fun ⟨cs,e,h⟩=>⟨cs,e,r.more h (ca.sub (s:=s))⟩⟩
instance zl.cons {ts:List TypeId} {C:Nat} {E:List (Nat×aa)} {α:Type} {r:Rp α} {o:Operand} {ps:List (Nat×Operand)} {k:Nat} {T:aa} {a:α} {l:List α} [ho:bD E o T] [et:IQ ts C T r a] [t:zl ts C E r ps (k+1) l]:zl ts C E r ((k,o)::ps) k (a::l):=⟨fun {X w ρ} hc hs=>by
 obtain ⟨xs,h1,h2,h3⟩:=t.get (X:=X) (w:=w) hc fun p hp hm=>hs p hp (List.mem_cons_of_mem _ hm)
 obtain ⟨cs,e,hr⟩:=et.ok (ho.get (X:=X) (w:=w) hc fun p hp e=>hs p hp (by rw [e];exact List.mem_cons_self))
 refine ⟨(a,cs)::xs,by rw [List.map_cons,h1],fun p hp=> ?_,?_⟩
 ·rcases List.mem_cons.1 hp with rfl|hp
  ·exact hr
  ·exact h2 p hp
 ·rw [List.map_cons,h3,e]
  rfl⟩
section
variable {P:Program} {w00:World} {N:Nat} {L:List Loc} {E:List (Nat×aa)} {d:Nat} {t0:TypeId} {pos:String} {af:Array Edge} {gd:Option (Nat×Bool)}
theorem cO{α:Type} (ts:List TypeId) (C:Nat) {r:Rp α} {n:Nat} {ps:List (Nat×Operand)} {l:List α} (c:pp P ty e r.k) [h:zl ts C E r ps 0 l] (hn:l.length=n) (hp:0<n*r.k) (hb:n*r.k≤1000000) (hn2:n≤100):au P w00 N L E ⟨some d, .buildSlice ty n ps.toArray,t0,pos,af,gd⟩ (.to r e ts C w00.heap.size l):=by
 constructor
 intro X ρ w hc _ hN hm hsl
 obtain ⟨xs,h1,h2,h3⟩:=h.get (X:=X) (w:=w) (ρ:=ρ) hc fun p hp hm=>hsl p hp (by
  simp only [Op.operands]
  obtain ⟨q,hq,e⟩:=List.mem_map.1 hm
  simp
  exact ⟨q.1,by rw [←e];exact hq⟩)
 have hlen:xs.length=n:=by rw [←hn,←h1,List.length_map]
 have hrun:=vE c w (xs.map Prod.snd) (fun cs hcs=>by
  obtain ⟨p,hp,rfl⟩:=List.mem_map.1 hcs
  exact r.len (h2 p hp)) (by rw [List.length_map,hlen]) hp hb (ps.toArray.map fun (i,x)=>(i,ρ x)) (by rw [←h3];simp)
 have ef:(xs.map Prod.snd).flatMap id=xs.flatMap Prod.snd:=by rw [List.flatMap_map];rfl
 rw [ef] at hrun
 have hfl:∀ (ys:List (α×List Value)),(∀ p∈ys,p.2.length=r.k)→(ys.flatMap Prod.snd).length=ys.length*r.k:=by
  intro ys
  induction ys with
  |nil=>intro _;simp
  |cons y ys ih=>
   intro hy
   rw [List.flatMap_cons,List.length_append,hy y List.mem_cons_self,ih fun p hp=>hy p (List.mem_cons_of_mem _ hp),List.length_cons,Nat.add_mul,Nat.one_mul,Nat.add_comm]
 have hb':Below w.heap.size w (w.alloc (.cells (xs.flatMap Prod.snd).toArray e)):=(Below.refl _ _).alloc (Nat.le_refl _) _
 unfold Yields execOp
 simp only [Sem.run_bind,hrun,Result.andThen_ok,Sem.run_pure]
 refine ⟨⟨some ⟨w.heap.size,0,none⟩,n,xs,by rw [hn],h1,fun q hq=>r.upT (h2 q hq) (Below.keeps hb' X) fun _ h _=>h,?_,fun g hg=> ?_⟩,hb'⟩
 ·rw [hn]
  exact cS.lit r.k e w hm.below.size _ n (by rw [hfl xs fun p hp=>r.len (h2 p hp),hlen]) qO
 ·have hg:w.heap.size=g:=by simpa [fh] using hg
  subst hg
  exact ⟨by rw [ak];exact Nat.lt_succ_self _,fun hx=>by have:=hm.far _ hx;omega⟩
end
theorem rT {α β:Type} (ts':List TypeId) {P:Program} {w00:World} {X:List Nat} {L L':List Loc} {E:List (Nat×aa)} {n:Nat} {ops:Array Oper} {rest:List Oper} {Q:Exit→Act→World→Prop} {cs:List Code} {t0:TypeId} {pos:String} {af:Array Edge} {r':Rp β} {rr:Rp α} {ts:List TypeId} {C:Nat} {a:α} {b:β} {u:α→β→α} {ty:TypeId} {s r off k:Nat} {o:Operand} {T:aa} {ag:Bool} [hs:ck E s (.is (.pointer (some ⟨r,off,none⟩)))] [hl:p5 L r (.tr rr ts C a)] [st:fT ts ts'] [sr:ah rr off r' u] [ho:bD E o T] [ap:vd ts' C T r' b] [hu:j8 L r (.tr rr ts C a) (.tr rr ts' C (u a b)) L'] [kc:KC r' k] [hty:fw P ty k ag]
 (h:GR P w00 X L' E n ops rest cs Q):GR P w00 X L E n ops (⟨none, .store ty (.tmp s) o,t0,pos,af,none⟩::rest) cs Q:=⟨fun ac w ht=>by
 refine dT rfl ?_
 have e1:ac.eval (.tmp s)= .pointer (some ⟨r,off,none⟩):=ht.slots _ hs.mem
 obtain ⟨ds,hd1,hd2⟩:=ap.ok (ho.get (X:=X) (w:=w) (ρ:=ac.eval) (fun _=>rfl) fun p hp _=>ht.slots p hp)
 obtain ⟨g1,g2,v,ty',g3,g4⟩:=ht.mem.loc _ hu.upd.mem
 obtain ⟨cs0,hc1,hc2⟩:=g3
 rw [hc1] at g4
 replace g4:w.heap[r]? =some (.cells cs0.toArray ty' (0,0)):=g4
 obtain ⟨hle,hr⟩:=sr.ok (rr.more hc2 (ca.sub (s:=st))) hd2
 have hlc:=rr.len hc2
 have hld:=r'.len hd2
 have hk:=kc.ok
 have hone:∀ x∈ds,x.oneCell'=true:=r'.one hd2
 have hsv:(storeVar ty ⟨r,off,none⟩ (ac.eval o)).run P w= .ok () (w.setRow r (cs0.take off++ds++cs0.drop (off+ds.length)).toArray):=by
  have:=run_storeVar_mid (P:=P) w r off ty ds.toArray (fun j hj=>by
   have hj:j<ds.length:=by simpa using hj
   refine ⟨?_,by simp [World.frozen?,g4]⟩
   rw [gg (u:=cs0[off+j]' qO) g4 (by simp [show off+j<cs0.length by omega])]
   rfl) (by rw [hty.size];simp [hld,hk]) (all_oneCell_toArray hone)
  rw [←kb ds w r off cs0 ty' g4 qO]
  rw [←this]
  unfold storeVar
  rw [hd1]
  rfl
 unfold Oper.wp execOp
 simp only [e1,Instr.storeAt,Instr.sureAddr,Sem.run_bind,Sem.run_pure,Result.andThen_ok,hsv]
 have hw:=ht.write (T:= .tr rr ts' C (u a b)) (k:=0) (k0:=0) (ag:=true) (ag0:=true) (v:= .agg (cs0.take off++ds++cs0.drop (off+ds.length)).toArray) hu.upd ⟨_,rfl,by rw [hld];exact hr⟩
 exact h.run ac _ hw⟩
theorem dS.alT{α:Type} {P:Program} {r:Rp α} {a:α} (z:dS P ty r a):cQ P ty (.tr r [] 0 a):=by
 obtain ⟨fs,i,zs,hu,hf,hi,hz,hr⟩:=z.ok
 refine ⟨.agg zs,fun X w=>⟨zs.toList,by simp,hr w _⟩,fun o ρ w e=> ?_⟩
 have hze:(zeroValue ty).run P w= .ok (.agg zs) w:=by simp [zeroValue,typeInfo,hi,hz]
 cases o with
 |mk dst op t pos af gd=>
  have e':op=_:=e
  subst e'
  unfold execOp
  simp [Instr.alloc,newVar,newRow,Sem.run_bind,hze,Result.andThen_ok]
structure Dy (e:TypeId) (B:Nat) (X:List Nat) (w w':World):Prop where
 os:w'.os=w.os
 tape:w'.tape=w.tape
 output:w'.output=w.output
 size:w.heap.size≤w'.heap.size
 block:∀ b,b<w.heap.size→w'.heap[b]? =w.heap[b]? ∨(B≤b∧b ∉ X∧∃ cs f,w.heap[b]? =some (.cells cs e f))
theorem Dy.ch(h:Dy e B X w w'):Ch B X w w':=⟨h.os,h.tape,h.output,h.size,fun b hb=>(h.block b hb).imp id fun g=>⟨g.1,g.2.1⟩⟩
class oN (e:TypeId) (B:Nat) (T:aa):Prop where
 ok:∀ {X:List Nat} {w w':World} {v:Value},T.holds X w v→Dy e B X w w'→T.holds X w' v
instance (priority:=low) {e:TypeId} {B:Nat} {T:aa} [s:mo B T]:oN e B T:=⟨fun h hc=>s.ok h hc.ch⟩
theorem ca.stay{ts:List TypeId} (h:Dy e B X w w') (hC:C≤B) (hn:e ∉ ts) {b:Nat} (hb:ca ts C X w b):w'.heap[b]? =w.heap[b]? :=by
 rcases h.block b hb.1.1 with g|⟨g1,_,cs,f,g2⟩
 ·exact g
 ·rcases hb.2 with h1|⟨cs',t,f',h1,h2⟩
  ·omega
  ·rw [g2] at h1
   injection h1 with h1
   injection h1 with _ h1 _
   exact absurd (h1▸h2) hn
theorem ca.still{ts:List TypeId} (h:Dy e B X w w') (hC:C≤B) (hn:e ∉ ts) (b:Nat) (hb:ca ts C X w b):ca ts C X w' b:=by
 have hs:=ca.stay h hC hn hb
 obtain ⟨⟨h1,h2⟩,h3⟩:=hb
 refine ⟨⟨Nat.lt_of_lt_of_le h1 h.size,h2⟩,h3.imp id fun ⟨cs,t,f,h4,h5⟩=>⟨cs,t,f,hs.trans h4,h5⟩⟩
theorem Rp.stT{α:Type} (r:Rp α) {ts:List TypeId} {a:α} (hr:r.rd w (ca ts C X w) a cs) (h:Dy e B X w w') (hC:C≤B) (hn:e ∉ ts):r.rd w' (ca ts C X w') a cs:=
 r.more (r.keep hr fun _ hb=>ca.stay h hC hn hb) (ca.still h hC hn)
instance {α:Type} {r:Rp α} {e:TypeId} {B:Nat} {ts:List TypeId} {C:Nat} {a:α} [hC:Gp C B] [n:iw e ts]:oN e B (.tr r ts C a):=⟨fun ⟨cs,e,h⟩ hc=>⟨cs,e,r.stT h hc hC.ok n.ok⟩⟩
instance {α:Type} {r:Rp α} {e:TypeId} {B:Nat} {ts:List TypeId} {C:Nat} {a:α} [hC:Gp C B] [n:iw e ts]:oN e B (.tc r ts C a):=⟨fun h hc=>r.stT h hc hC.ok n.ok⟩
instance {α:Type} {r:Rp α} {e e2:TypeId} {B B2:Nat} {ts:List TypeId} {C:Nat} {l:List α} [hC:Gp C B] [n:iw e (e2::ts)]:oN e B (.to r e2 ts C B2 l):=⟨fun {X w w' v} ⟨A,c,ps,h1,h2,h3,h4,h5⟩ hc=>by
 have hn:=n.ok
 have hne:e≠e2:=fun h=>hn (h▸List.mem_cons_self)
 have hst:∀ g,fh A=some g→w'.heap[g]? =w.heap[g]? :=fun g hg=>by
  rcases hc.block g (h5 g hg).1 with g1|⟨_,_,cs,f,g2⟩
  ·exact g1
  ·obtain ⟨cur,hcur⟩:=h4.type hg
   rw [g2] at hcur
   injection hcur with hcur
   injection hcur with _ hcur _
   exact absurd hcur hne
 exact ⟨A,c,ps,h1,h2,fun q hq=>r.stT (h3 q hq) hc hC.ok (fun h=>hn (List.mem_cons_of_mem _ h)),h4.same hst,fun g hg=>⟨Nat.lt_of_lt_of_le (h5 g hg).1 hc.size,(h5 g hg).2⟩⟩⟩
class j3 (e:TypeId) (B:Nat) (L:List Loc):Prop where
 ok:∀ p∈L,∀ {X:List Nat} {w w':World} {v:Value},p.2.holds X w v→Dy e B X w w'→p.2.holds X w' v
instance j3.nil {e:TypeId} {B:Nat}:j3 e B []:=⟨fun _ h=>by cases h⟩
instance j3.cons {e:TypeId} {B r:Nat} {L:List Loc} {T:aa} [a:oN e B T] [k:j3 e B L]:j3 e B ((r,T)::L):=⟨fun p hp=>by
 rcases List.mem_cons.1 hp with rfl|hp
 ·exact a.ok
 ·exact k.ok p hp⟩
class Jg (T:aa) {α:outParam Type} (r:outParam (Rp α)) (e:outParam TypeId) (ts:outParam (List TypeId)) (C B:outParam Nat) (l:outParam (List α)):Prop where
 ok:∀ {X:List Nat} {w:World} {v:Value},T.holds X w v→(aa.to r e ts C B l).holds X w v
instance {α:Type} {r:Rp α} {e:TypeId} {ts:List TypeId} {C B:Nat} {l:List α}:Jg (.to r e ts C B l) r e ts C B l:=⟨fun h=>h⟩
theorem jA{α:Type} {r:Rp α} {ts:List TypeId} (h:(aa.is (.slice none 0 0)).holds X w v):(aa.to r e ts C B []).holds X w v:=by
 obtain rfl:v=_:=h
 exact ⟨none,0,[],rfl,rfl,(fun _ h=>by cases h),cS.nil,fun g hg=>by cases hg⟩
class vh (T:aa) {α:Type} (r:Rp α) (ts:List TypeId) (C:Nat) (l:outParam (List α)):Prop where
 ok:∀ {X:List Nat} {w:World} {v:Value},T.holds X w v→(aa.sr r ts C l).holds X w v
instance {α:Type} {r:Rp α} {ts:List TypeId} {C:Nat} {l:List α}:vh (.sr r ts C l) r ts C l:=⟨fun h=>h⟩
instance {α:Type} {r:Rp α} {e:TypeId} {ts ts':List TypeId} {C B:Nat} {l:List α} [s:fT ts' ts]:vh (.to r e ts' C B l) r ts C l:=⟨fun ⟨A,c,ps,h1,h2,h3,h4,h5⟩=>⟨A,c,ps,h1,h2,fun q hq=>r.more (h3 q hq) (ca.sub (s:=s)),h4.sl,fun _=>h5⟩⟩
instance {ts:List TypeId} {C:Nat} {xs:List Int}:vh (.rc Rp.limbs xs) (Rp.int .u32) ts C xs:=⟨fun {X w v} h=>by
 obtain ⟨A,n,c,e,⟨⟨g1,g2,g3,g4,g5⟩,hf⟩,_⟩:=h
 have e:v= .slice A n c:=by simpa using e
 subst e
 have hfl:∀ (ys:List Int),(ys.map fun x=>(x,[Value.int .u32 x])).flatMap Prod.snd=ys.map (Value.int .u32):=by
  intro ys
  induction ys with
  |nil=>rfl
  |cons y ys ih=>rw [List.map_cons,List.flatMap_cons,ih];rfl
 refine ⟨A,c,xs.map fun x=>(x,[.int .u32 x]),by rw [g1],by rw [List.map_map];exact List.map_id _,fun q hq=> ?_,?_,fun hn b hb=>hf (by rw [←g1];exact hn) b hb⟩
 ·obtain ⟨x,_,rfl⟩:=List.mem_map.1 hq
  rfl
 ·rw [hfl]
  refine ⟨by rw [List.length_map];exact (Nat.mul_one _).symm,by rw [g1];exact g2,g3,g4,fun hn=> ?_⟩
  obtain ⟨b,off,rfl,hb,hc⟩:=g5 (by rw [←g1];exact hn)
  refine ⟨b,off,rfl,hb,fun j u hu=> ?_⟩
  rw [List.getElem?_map] at hu
  cases hx:xs[j]? with
  |none=>rw [hx] at hu;cases hu
  |some x=>
   rw [hx] at hu
   have e:Value.int .u32 x=u:=by simpa using hu
   rw [←e]
   exact hc j x hx⟩
theorem AX{ts:List TypeId} (hd:Dg 4294967296 xs) (h:(aa.to (Rp.int .u32) e ts 0 B xs).holds X w v):(aa.tc Rp.limbs [e] 0 xs).holds X w v:=by
 obtain ⟨A,c,ps,rfl,hps,h3,h4,h5⟩:=h
 obtain ⟨g1,g2,g3,g4,g5⟩:=h4.sl
 refine ⟨A,xs.length,c,rfl,⟨⟨rfl,g2,g3,g4,fun hn=> ?_⟩,fun hn b hb=> ?_⟩,hd⟩
 ·obtain ⟨b,off,rfl,hb,hc⟩:=g5 hn
  refine ⟨b,off,rfl,hb,fun j x hx=> ?_⟩
  rw [←hps,List.getElem?_map] at hx
  cases hq:ps[j]? with
  |none=>rw [hq] at hx;cases hx
  |some q=>
   rw [hq] at hx
   have e1:q.1=x:=by simpa using hx
   have e2:q.2=[.int .u32 q.1]:=h3 q (List.mem_of_getElem? hq)
   have:=hc (j*1+0) (.int .u32 x) (iX (k:=1) (fun q hq=>(Rp.int .u32).len (h3 q hq)) hq (by rw [e2,e1];rfl))
   simpa using this
 ·obtain ⟨cur,hcur⟩:=h4.type hb
  exact ⟨h5 b hb, .inr ⟨cur,_,_,hcur,List.mem_singleton.2 rfl⟩⟩
section
variable {P:Program} {w00:World} {X:List Nat} {L:List Loc} {E E0:List (Nat×aa)} {n:Nat} {ops:Array Oper} {rest:List Oper} {Q:Exit→Act→World→Prop} {cs:List Code} {t0:TypeId} {pos:String} {af:Array Edge}
theorem TS.chT{a:Act} (h:TS w00 X L E n a w) (hs:Dy e B X w w') (hB:w00.heap.size≤B) [kL:j3 e B L] [kE:j3 e B E]:TS w00 X L E n a w':=by
 refine ⟨h.size,h.df,fun p hp=>kE.ok p hp (h.slots p hp) hs,⟨fun p hp=> ?_,fun b hb=>Nat.lt_of_lt_of_le (h.mem.far b hb) hs.size,h.mem.nodup,?_⟩⟩
 ·obtain ⟨g1,g2,v,ty,g3,g4⟩:=h.mem.loc p hp
  refine ⟨g1,g2,v,ty,kL.ok p hp g3 hs,?_⟩
  rcases hs.block p.1 (h.mem.far _ g1) with e|⟨_,g,_⟩
  ·exact e.trans g4
  ·exact absurd g1 g
 ·refine h.mem.below.trans ⟨hs.os,hs.tape,hs.output,hs.size,fun b hb=> ?_⟩
  rcases hs.block b (Nat.lt_of_lt_of_le hb h.mem.below.size) with e|⟨g,_⟩
  ·exact e
  ·omega
theorem dk {α:Type} {r:Rp α} {e t:TypeId} {ts:List TypeId} {C B s x d bytes:Nat} {l m:List α} {Ts Tx':aa} (ss:List Nat) (hB0:w00.heap.size≤B) (hC:C≤B) (hsz:∀ a w,TS w00 X L E n a w→B≤w.heap.size) [hs:ck E s Ts] [ao:Jg Ts r e ts C B l] [hn:iw e ts] [hx:ck E x Tx'] [ax:vh Tx' r ts C m] [k:qd E ss E0] [kL:j3 e B L] [kE:j3 e B E0] (T:iz P t e r.k bytes)
 (hlen:l.length+m.length≤1000000) (hby:bytes≤1000) (hd:(Nat.blt d n&& !(E0.map Prod.fst).elem d)=true)
 (h:GR P w00 X L ((d, .to r e ts C B (l++m))::E0) n ops rest cs Q):GR P w00 X L E n ops (⟨some d, .call { callee:= .builtin .append,args:= #[.tmp s, .tmp x],argTypes:= #[t,t] },t0,pos,af,none⟩::rest) cs Q:=⟨fun a w ht=>by
 simp only [Bool.and_eq_true,Bool.not_eq_true'] at hd
 have hBw:=hsz a w ht
 obtain ⟨A,c,ps,es,hps,hrd,hown,hfree⟩:=ao.ok (ht.slots _ hs.mem)
 obtain ⟨A2,c2,ps2,ex,hps2,hrd2,hsl2,hfree2⟩:=ax.ok (ht.slots _ hx.mem)
 have hpos:=T.pos
 have hmx:l.length+m.length≤maxLen:=by unfold maxLen;omega
 have h1c:∀ u∈ps2.flatMap Prod.snd,u.oneCell'=true:=fun u hu=>by
  obtain ⟨q,hq,hu⟩:=List.mem_flatMap.1 hu
  exact r.one (hrd2 q hq) u hu
 obtain ⟨A',c',w',hr,h2,h3,h4⟩:=vc (A:=A) (A2:=A2) T t0 hown hsl2 h1c (by have:=Nat.mul_le_mul (show l.length+m.length≤1000000 by omega) hby;omega) hmx hBw
 have hch:Dy e B X w w':=⟨h3.os,h3.tape,h3.output,h3.size,fun g hg=>by
  by_cases hA:fh A=some g
  ·obtain ⟨cur,hcur⟩:=hown.type hA
   exact .inr ⟨(hown.blk_ g hA).1,(hfree g hA).2,cur,_,hcur⟩
  ·exact .inl (h3.block g hg (fun e=>hA e.symm))⟩
 have hT:(aa.to r e ts C B (l++m)).holds X w' (.slice A' (l.length+m.length) c'):=by
  refine ⟨A',c',ps++ps2,by simp,by simp [hps,hps2],fun q hq=> ?_,by simpa using h2,fun g hg=> ?_⟩
  ·rcases List.mem_append.1 hq with hq|hq
   ·exact r.stT (hrd q hq) hch hC hn.ok
   ·exact r.stT (hrd2 q hq) hch hC hn.ok
  ·have hlt:=(h2.blk_ g hg).2
   rcases h4 g hg with h5|h5
   ·exact ⟨hlt,(hfree g h5).2⟩
   ·exact ⟨hlt,fun hx=>by have:=ht.mem.far g hx;omega⟩
 have h5:=(ht.keep (E':=E0) ss).chT hch hB0
 refine ⟨wpList_plain rfl fun K hK'=> ?_⟩
 have e1:a.eval (.tmp s)= .slice A l.length c:=es
 have e2:a.eval (.tmp x)= .slice A2 m.length c2:=ex
 unfold Oper.wp execOp
 simp only [resolve,invoke,builtin,Sem.run_bind,Sem.run_pure,Result.andThen_ok,List.map_toArray,List.map_cons,List.map_nil,e1,e2,hr]
 exact hK' _ _ (h.run _ _ (h5.new hd.2 (by rw [←Nat.blt_eq];exact hd.1) hT (Below.refl _ _))).out⟩
end
instance {α:Type} {r:Rp α} {e:TypeId} {ts:List TypeId} {C:Nat} {l:List α}:fN fun B=> .to r e ts C B l:=⟨fun hB ⟨A,c,ps,h1,h2,h3,h4,h5⟩=>⟨A,c,ps,h1,h2,h3,h4.lower hB,h5⟩⟩
instance:aZ Rp.frac 0 Rp.bool (fun x=>x.1.1):=⟨fun {w S a cs} h=>by
 obtain ⟨c1,c2,rfl,h1,h2⟩:=h
 obtain ⟨d1,d2,rfl,g1,g2⟩:=h1
 exact ⟨[],d1,d2++c2,by simp,rfl,g1⟩⟩
instance:aZ Rp.frac 1 Rp.limbs (fun x=>x.1.2):=⟨fun {w S a cs} h=>by
 obtain ⟨c1,c2,rfl,h1,h2⟩:=h
 obtain ⟨d1,d2,rfl,g1,g2⟩:=h1
 exact ⟨d1,d2,c2,by simp,Rp.bool.len g1,g2⟩⟩
instance:aZ Rp.frac 2 Rp.bool (fun x=>x.2.1):=⟨fun {w S a cs} h=>by
 obtain ⟨c1,c2,rfl,h1,h2⟩:=h
 obtain ⟨d1,d2,rfl,g1,g2⟩:=h2
 exact ⟨c1,d1,d2,by simp,Rp.num.len h1,g1⟩⟩
instance:aZ Rp.frac 3 Rp.limbs (fun x=>x.2.2):=⟨fun {w S a cs} h=>by
 obtain ⟨c1,c2,rfl,h1,h2⟩:=h
 obtain ⟨d1,d2,rfl,g1,g2⟩:=h2
 have e1:=Rp.num.len h1
 have e2:=Rp.bool.len g1
 exact ⟨c1++d1,d2,[],by simp,by rw [List.length_append,e1,e2];rfl,g2⟩⟩
instance {xs:List Int}:lC Rp.limbs xs (.rc Rp.limbs xs):=⟨fun h=>h⟩
instance {x:aR}:ai (.ra Rp.frac x) 0 1 false (.is (.bool x.1.1)):=ai.cell (r':=Rp.bool) (g:=fun (x:aR)=>x.1.1) inferInstance ⟨rfl⟩ inferInstance
instance {x:aR}:ai (.ra Rp.frac x) 1 1 false (.rc Rp.limbs x.1.2):=ai.cell (r':=Rp.limbs) (g:=fun (x:aR)=>x.1.2) inferInstance ⟨rfl⟩ inferInstance
instance {x:aR}:ai (.ra Rp.frac x) 2 1 false (.is (.bool x.2.1)):=ai.cell (r':=Rp.bool) (g:=fun (x:aR)=>x.2.1) inferInstance ⟨rfl⟩ inferInstance
instance {x:aR}:ai (.ra Rp.frac x) 3 1 false (.rc Rp.limbs x.2.2):=ai.cell (r':=Rp.limbs) (g:=fun (x:aR)=>x.2.2) inferInstance ⟨rfl⟩ inferInstance
instance:KC Rp.num 2:=⟨rfl⟩
instance:aq Tryz.prog 36 0 0 1 false:=⟨⟨_,_,Tryz.underlying36,rfl,rfl,by kernel_rfl,by decide,_,Tryz.underlying4,rfl⟩⟩
instance:aq Tryz.prog 36 1 1 1 false:=⟨⟨_,_,Tryz.underlying36,rfl,rfl,by kernel_rfl,by decide,_,Tryz.underlying23,rfl⟩⟩
instance:ah Rp.num 0 Rp.bool (fun a b=>(b,a.2)):=ah.fst
instance:ah Rp.num 1 Rp.limbs (fun a b=>(a.1,b)):=ah.tail (n:=1) ⟨rfl⟩ ah.self rfl
instance:ah Rp.frac 0 Rp.num (fun a b=>(b,a.2)):=ah.fst
instance:ah Rp.frac 2 Rp.num (fun a b=>(a.1,b)):=ah.tail (n:=2) ⟨rfl⟩ ah.self rfl
theorem Cx:iz Tryz.prog 23 115 1 4:=⟨Tryz.underlying23,by decide,by
 obtain ⟨i,h1,h2,h3,h4⟩:∃ i,Tryz.prog.info? 115=some i∧i.zero=some (.int .u32 0)∧i.size=1∧i.bytes=4:=info_parts qK
 exact ⟨i,_,h1,h2,h3,h4,rfl⟩⟩
theorem Jc(h:(aa.rc Rp.limbs xs).holds X w v):Dg 4294967296 xs:=by
 obtain ⟨_,_,_,_,_,d⟩:=h
 exact d
instance {B:Nat}:Gp 0 B:=⟨Nat.zero_le _⟩
instance {a b:Nat}:Gp 0 (a+b):=⟨Nat.zero_le _⟩
theorem zU:dS Tryz.prog 25 Rp.num (false,[]):=⟨by
 obtain ⟨i,h1,h2,h3,h4⟩:∃ i,Tryz.prog.info? 25=some i∧i.zero=some (.agg #[.bool false, .slice none 0 0])∧i.size=2∧i.bytes=32:=info_parts qK
 refine ⟨_,i,_,Tryz.underlying25,(fun f hf=> ?_),h1,h2,fun w S=> ?_⟩
 ·simp only [List.mem_cons,List.not_mem_nil,or_false] at hf
  rcases hf with rfl|rfl<;>exact Option.isSome_iff_exists.1 qK
 ·exact ⟨[.bool false],[.slice none 0 0],rfl,rfl,⟨none,0,0,rfl,⟨⟨rfl,Nat.le_refl _,Nat.zero_le _,fun _=>rfl,fun h=>absurd h qO⟩,fun h=>absurd h qO⟩,fun _ h=>by cases h⟩⟩⟩
theorem zO:dS Tryz.prog 36 Rp.num (false,[]):=⟨by
 obtain ⟨i,h1,h2,h3,h4⟩:∃ i,Tryz.prog.info? 36=some i∧i.zero=some (.agg #[.bool false, .slice none 0 0])∧i.size=2∧i.bytes=32:=info_parts qK
 refine ⟨_,i,_,Tryz.underlying36,(fun f hf=> ?_),h1,h2,fun w S=> ?_⟩
 ·simp only [List.mem_cons,List.not_mem_nil,or_false] at hf
  rcases hf with rfl|rfl<;>exact Option.isSome_iff_exists.1 qK
 ·exact ⟨[.bool false],[.slice none 0 0],rfl,rfl,⟨none,0,0,rfl,⟨⟨rfl,Nat.le_refl _,Nat.zero_le _,fun _=>rfl,fun h=>absurd h qO⟩,fun h=>absurd h qO⟩,fun _ h=>by cases h⟩⟩⟩
theorem zH:dS Tryz.prog 27 Rp.frac ((false,[]),(false,[])):=⟨by
 obtain ⟨i,h1,h2,h3,h4⟩:∃ i,Tryz.prog.info? 27=some i∧i.zero=some (.agg #[.bool false, .slice none 0 0, .bool false, .slice none 0 0])∧i.size=4∧i.bytes=64:=info_parts qK
 refine ⟨_,i,_,Tryz.underlying27,(fun f hf=> ?_),h1,h2,fun w S=> ?_⟩
 ·simp only [List.mem_cons,List.not_mem_nil,or_false] at hf
  rcases hf with rfl|rfl<;>exact Option.isSome_iff_exists.1 qK
 ·exact ⟨[.bool false, .slice none 0 0],[.bool false, .slice none 0 0],rfl,⟨[.bool false],[.slice none 0 0],rfl,rfl,⟨none,0,0,rfl,⟨⟨rfl,Nat.le_refl _,Nat.zero_le _,fun _=>rfl,fun h=>absurd h qO⟩,fun h=>absurd h qO⟩,fun _ h=>by cases h⟩⟩,⟨[.bool false],[.slice none 0 0],rfl,rfl,⟨none,0,0,rfl,⟨⟨rfl,Nat.le_refl _,Nat.zero_le _,fun _=>rfl,fun h=>absurd h qO⟩,fun h=>absurd h qO⟩,fun _ h=>by cases h⟩⟩⟩⟩
theorem zu:dS Tryz.prog 38 Rp.frac ((false,[]),(false,[])):=⟨by
 obtain ⟨i,h1,h2,h3,h4⟩:∃ i,Tryz.prog.info? 38=some i∧i.zero=some (.agg #[.bool false, .slice none 0 0, .bool false, .slice none 0 0])∧i.size=4∧i.bytes=64:=info_parts qK
 refine ⟨_,i,_,Tryz.underlying38,(fun f hf=> ?_),h1,h2,fun w S=> ?_⟩
 ·simp only [List.mem_cons,List.not_mem_nil,or_false] at hf
  rcases hf with rfl|rfl<;>exact Option.isSome_iff_exists.1 qK
 ·exact ⟨[.bool false, .slice none 0 0],[.bool false, .slice none 0 0],rfl,⟨[.bool false],[.slice none 0 0],rfl,rfl,⟨none,0,0,rfl,⟨⟨rfl,Nat.le_refl _,Nat.zero_le _,fun _=>rfl,fun h=>absurd h qO⟩,fun h=>absurd h qO⟩,fun _ h=>by cases h⟩⟩,⟨[.bool false],[.slice none 0 0],rfl,rfl,⟨none,0,0,rfl,⟨⟨rfl,Nat.le_refl _,Nat.zero_le _,fun _=>rfl,fun h=>absurd h qO⟩,fun h=>absurd h qO⟩,fun _ h=>by cases h⟩⟩⟩⟩
theorem jI {p:Prop} (h:p:=by first|exact dt|exact dE|exact bi [115] 0 mP|exact bi [115] 0 m_|exact bi [115] 0 mn|exact bi [115] 0 mS|exact cO (r:=bl) [115] 0 wg rfl (by decide) (by decide) (by decide)|exact cO (r:=bk) [115] 0 uc rfl (by decide) (by decide) (by decide)|exact cO (r:=bn) [115] 0 tC rfl (by decide) (by decide) (by decide)|exact cO (r:=b7) [115] 0 vD rfl (by decide) (by decide) (by decide)|exact bi [100,102,115] 0 iC|exact tj rfl rfl rfl|exact du|exact bm|exact fi|exact dA|exact eI|exact eH|exact bO (b:=true) (u:=false) rfl|exact bO (b:=false) (u:=true) rfl|exact bO rfl|exact jT (by first|assumption|rfl)|exact d8.nil|exact bG.nil|exact bE.nil|exact sc trivial k1|exact sc trivial (x7 (by decide))|exact sc trivial (Fa (by decide))|exact sc trivial (H4 (by decide) (by decide) (by decide))|exact sc trivial (H9 (by decide))|exact all_nil|exact gN (by decide +kernel)|exact Cv.rfl'):p:=h
theorem px(hl:xs.length≤1000):bW Tryz.prog S1 50 [0] [.rc Rp.limbs xs] (fun _=> .tc Rp.limbs [115] 0 xs):=by
 refine lH (F:=Dg 4294967296 xs) (fun ha=> ?_) (fun _ _=>by kernel_rfl) fun hd=> ?_
 ·obtain ⟨v,rfl,h⟩:=ha.one
  exact Jc h
 refine cr Tryz.func50 Tryz.ntmps50 fun X w hE=> ?_
 repeat' first|kernel_rfl|(refine dk (r:=Rp.int .u32) (e:=115) (ts:=[]) (C:=0) (B:=w.heap.size) (l:=[]) (ao:=⟨fun h=>jA h⟩) [] (Nat.le_refl _) (Nat.zero_le _) (fun _ _ ht=>ht.mem.below.size) Cx (by simp only [List.length_nil];omega) qD qK ?_)|apply Bt.mk|refine nx ?_|apply ae|refine aQ rfl ?_|exact ⟨fun _ _=>fun _ h=>AX hd h⟩|exact jI|intro _
theorem EX {x:aR} (hx:x.1.2.length≤1000∧x.2.2.length≤1000):bW Tryz.prog S1 48 [0] [.ra Rp.frac x] (fun _=> .tr Rp.frac [115] 0 x):=by
 have k1:=px hx.1
 have k2:=px hx.2
 refine cr Tryz.func48 Tryz.ntmps48 fun X w hE=> ?_
 repeat' first|kernel_rfl|apply Bt.mk|refine nx ?_|apply ar (id:=1) [] [] 17|apply az|apply aW|apply ae|refine aQ rfl ?_|exact sc trivial k2|exact bi [115] 0 zH|exact bi [115] 0 zU|exact jI|intro _
theorem C5 {x:aR} (hx:x.1.2.length≤1000∧x.2.2.length≤1000):bW Tryz.prog S1 20 [0] [.ra Rp.frac x] (fun _=> .tr Rp.frac [115] 0 x):=by
 have k1:=px hx.1
 have k2:=px hx.2
 refine cr Tryz.func20 Tryz.ntmps20 fun X w hE=> ?_
 repeat' first|kernel_rfl|apply Bt.mk|refine nx ?_|apply ar (id:=1) [] [] 17|apply az|apply aW|apply ae|refine aQ rfl ?_|exact sc trivial k2|exact bi [115] 0 zu|exact bi [115] 0 zO|exact jI|intro _
theorem Im:∀ n:Nat,∃ xs,fZ 4294967296 (n:Int) xs:=by
 intro n
 induction n using Nat.strongRecOn with
 |ind n ih=>
  by_cases h0:n=0
  ·subst h0;exact ⟨[],Dg.nil,Tr.nil,rfl⟩
  ·obtain ⟨xs,hd,ht,hv⟩:=ih (n / 4294967296) qO
   refine ⟨((n%4294967296:Nat):Int)::xs,Dg.cons qO hd,Tr.cons ht fun e=> ?_,?_⟩
   ·subst e
    have:(0:Int)=((n / 4294967296:Nat):Int):=hv
    omega
   ·show ((n%4294967296:Nat):Int)+4294967296*Go.Proofs.YtpmhjieibebclaaGreatDoor.val 4294967296 xs=n
    rw [hv];omega
theorem uW (N:Int):∃ s xs,Whole N s xs:=by
 obtain ⟨xs,h⟩:=Im N.natAbs
 exact ⟨_,xs,h,rfl⟩
theorem yc (q:Rat):∃ x,iW q x:=by
 obtain ⟨s,xs,h⟩:=uW q.num
 obtain ⟨t,ys,h2⟩:=uW (q.den:Int)
 exact ⟨((s,xs),(t,ys)),h,h2⟩
noncomputable def fq (q:Rat):aR:=(yc q).choose
theorem mO (q:Rat):iW q (fq q):=(yc q).choose_spec
theorem qu (q:Rat):jB (fq q)=true:=(mO q).right
theorem jU (q:Rat):qv (fq q)=q:=(mO q).val
theorem Ij{L:Nat} (hl:Lq q L) (h0:0<L):b6 L (fq q):=⟨((mO q).len hl).1,((mO q).len hl).2,h0⟩
def Gx (q:Rat):Bool:=decide (100%q.den=0)&&decide (de q l9<0)&&decide (de (-q) l9<0)
def Ie (q:Rat):Bool:=decide (1000000%q.den=0)&&(decide (0≤de q 0)&&decide (de q ((1:Int):Rat)≤0))
theorem j6 (q:Rat):j0 (fq q)=Gx q:=by unfold j0 Gx cV;rw [qu,jU,Bool.true_and]
theorem j_ (q:Rat):jS (fq q)=Ie q:=by unfold jS Ie cV jH;rw [qu,jU,Bool.true_and]
theorem li (k:Nat) (q:Rat):cV k (fq q)=decide (k%q.den=0):=by unfold cV;rw [qu,jU,Bool.true_and]
theorem lz (k:Int) (q:Rat):jH k (fq q)=(decide (0≤de q 0)&&decide (de q (k:Rat)≤0)):=by unfold jH;rw [jU]
theorem CY{L:Nat} (hL:L≤1000):bW Tryz.prog S1 48 [0] [.qc q L] (fun _=> .tr Rp.frac [115] 0 (fq q)):=⟨fun _ _=>by kernel_rfl,fN.const.down,fun {X w vs} hG hX ha=>by
 obtain ⟨v,rfl,x,⟨hf,hl⟩,h⟩:=ha.one
 have e:=hf.uniq (mO q)
 subst e
 have hlen:=hf.len hl
 exact (EX (x:=fq q) ⟨by omega,by omega⟩).run hG hX ⟨h,trivial⟩⟩
theorem H4{d:Int} (hn: -9223372036854775808≤n∧n≤9223372036854775807) (hd: -9223372036854775808≤d∧d≤9223372036854775807) (h0:d≠0):bW Tryz.prog S1 18 [0,0] [.is (.int .i64 n), .is (.int .i64 d)] (fun _=> .tr Rp.frac [115] 0 (fq (Rat.divInt n d))):=by
 have k1:=CY (q:=Rat.divInt n d) (L:=2) qD
 refine cr Tryz.func18 Tryz.ntmps18 fun X w hE=> ?_
 repeat' first|kernel_rfl|apply Bt.mk|refine nx ?_|apply ae|refine aQ rfl ?_|exact Jl hn hd h0|exact jI|intro _
theorem x7(hn: -9223372036854775808≤n∧n≤9223372036854775807):bW Tryz.prog S1 33 [0] [.is (.int .i64 n)] (fun _=> .tr Rp.frac [115] 0 (fq (Rat.divInt n 100))):=by
 have k1:=H4 (n:=n) (d:=100) hn qD qD
 refine cr Tryz.func33 Tryz.ntmps33 fun X w hE=> ?_
 repeat' first|kernel_rfl|apply Bt.mk|refine nx ?_|apply ae|refine aQ rfl ?_|exact jI|intro _
theorem Fa(hn: -9223372036854775808≤n∧n≤9223372036854775807):bW Tryz.prog S1 34 [0] [.is (.int .i64 n)] (fun _=> .tr Rp.frac [115] 0 (fq (Rat.divInt n 10000))):=by
 have k1:=H4 (n:=n) (d:=10000) hn qD qD
 refine cr Tryz.func34 Tryz.ntmps34 fun X w hE=> ?_
 repeat' first|kernel_rfl|apply Bt.mk|refine nx ?_|apply ae|refine aQ rfl ?_|exact jI|intro _
instance:fT [115] [100,102,115]:=⟨by decide⟩
instance:fT [115] [100,102,104,106,108,115]:=⟨by decide⟩
instance:fT [100,102,115] [100,102,104,106,108,115]:=⟨by decide⟩
instance:fT [100,115] [100,102,115]:=⟨by decide⟩
instance:fT [102,115] [100,102,115]:=⟨by decide⟩
instance:fT [100,115] [100,102,104,106,108,115]:=⟨by decide⟩
instance:fT [102,115] [100,102,104,106,108,115]:=⟨by decide⟩
instance:fT [104,115] [100,102,104,106,108,115]:=⟨by decide⟩
instance:fT [106,115] [100,102,104,106,108,115]:=⟨by decide⟩
instance:fT [108,115] [100,102,104,106,108,115]:=⟨by decide⟩
instance:iw 104 [100,102,115]:=⟨by decide⟩
instance:iw 104 [115]:=⟨by decide⟩
instance (priority:=high):cQ Tryz.prog 60 (.tr aw [] 0 wM):=iC.alT
theorem H9 {id a b i o:List UInt8} {k c:Int} (hc: -9223372036854775808≤c∧c≤9223372036854775807):bW Tryz.prog S1 66 [0,0,0,0,0,0,0] [.is (Tx id), .is (.int .u8 k), .is (Tx a), .is (Tx b), .is (Tx i), .is (Tx o), .is (.int .i64 c)] (fun B=> .to a7 104 [115] 0 B [(true,id,k,a,b,i,fq (Rat.divInt c 100)),(false,id,k,a,b,o,fq (Rat.divInt c 100))]):=by
 have k1:=x7 hc
 refine cr Tryz.func66 Tryz.ntmps66 fun X w hE=> ?_
 repeat' first|kernel_rfl|apply Bt.mk|refine nx ?_|apply ae|refine aQ rfl ?_|exact bi [115] 0 nh|exact cO (r:=a7) [115] 0 uw rfl qD qD qD|exact jI|intro _
noncomputable def yN:List ej:=[([115,97,108,101,115],1,(fq (Rat.divInt 0 1))),([99,111,115,116],2,(fq (Rat.divInt 0 1))),([102,114,101,101],3,(fq (Rat.divInt 0 1))),([109,101,97,108,115],4,(fq (Rat.divInt 5000 10000))),([103,105,102,116,115],5,(fq (Rat.divInt 10000 100))),([97,100,115],6,(fq (Rat.divInt 2 1))),([100,101,112],7,(fq (Rat.divInt 0 1))),([105,110,116,45,105,110],8,(fq (Rat.divInt 0 1))),([105,110,116,45,111,117,116],9,(fq (Rat.divInt 0 1))),([100,105,118],10,(fq (Rat.divInt 0 1))),([100,105,115,116],11,(fq (Rat.divInt 0 1)))]
theorem zL:bW Tryz.prog S1 35 [] [] (fun B=> .to bq 76 [115] 0 B yN):=by
 refine cr Tryz.func35 Tryz.ntmps35 fun X w hE=> ?_
 repeat' first|kernel_rfl|apply Bt.mk|refine nx ?_|apply ar (id:=2) [] [] 23|apply az|apply aW|apply ae|refine aQ rfl ?_|exact bi [115] 0 mp|exact cO (r:=bq) [115] 0 s_ rfl qD qD qD|exact jI|intro _
noncomputable def tP:aX:=(2022,[([80],[65],(fq (Rat.divInt 7400 10000))),([80],[67],(fq (Rat.divInt 8000 10000))),([67],[68],(fq (Rat.divInt 9999 10000)))],[([80],[115,97,108,101,115],(fq (Rat.divInt 300000 100))),([80],[105,110,116,45,111,117,116],(fq (Rat.divInt 9000 100))),([65],[115,97,108,101,115],(fq (Rat.divInt 10000 100))),([67],[115,97,108,101,115],(fq (Rat.divInt 70001 100))),([68],[99,111,115,116],(fq (Rat.divInt 8000 100))),([68],[109,101,97,108,115],(fq (Rat.divInt (-100) 100)))],[],[],[([71,49],(fq (Rat.divInt 7500 10000)))])
theorem FK:bW Tryz.prog S1 38 [] [] (fun _=> .tr aw [100,102,104,106,108,115] 0 tP):=by
 refine cr Tryz.func38 Tryz.ntmps38 fun X w hE=> ?_
 repeat' first|kernel_rfl|(refine rT [100,102,115] ?_)|(refine rT [100,102,104,106,108,115] ?_)|apply Bt.mk|refine nx ?_|apply ae|refine aQ rfl ?_|exact jI|intro _
noncomputable def te:aX:=(2020,[([80],[65],(fq (Rat.divInt 10000 10000))),([65],[66],(fq (Rat.divInt 5000 10000))),([80],[66],(fq (Rat.divInt 3000 10000))),([80],[67],(fq (Rat.divInt 4000 10000))),([67],[68],(fq (Rat.divInt 10000 10000)))],[([80],[115,97,108,101,115],(fq (Rat.divInt 100000 100))),([80],[99,111,115,116],(fq (Rat.divInt 40000 100))),([80],[105,110,116,45,111,117,116],(fq (Rat.divInt 20000 100))),([65],[115,97,108,101,115],(fq (Rat.divInt 50000 100))),([65],[99,111,115,116],(fq (Rat.divInt 90000 100))),([65],[109,101,97,108,115],(fq (Rat.divInt 4001 100))),([65],[97,100,115],(fq (Rat.divInt 9000 100))),([66],[115,97,108,101,115],(fq (Rat.divInt 30000 100))),([66],[100,101,112],(fq (Rat.divInt 3000 100))),([66],[105,110,116,45,105,110],(fq (Rat.divInt 2000 100))),([67],[99,111,115,116],(fq (Rat.divInt 25000 100))),([67],[115,97,108,101,115],(fq (Rat.divInt 5000 100))),([68],[102,114,101,101],(fq (Rat.divInt 777 100)))],[(true,[71,49],1,[65],[80],[115,97,108,101,115],(fq (Rat.divInt 12000 100))),(false,[71,49],1,[65],[80],[99,111,115,116],(fq (Rat.divInt 12000 100))),(true,[76,49],3,[66],[80],[105,110,116,45,105,110],(fq (Rat.divInt 2000 100))),(false,[76,49],3,[66],[80],[105,110,116,45,111,117,116],(fq (Rat.divInt 2000 100)))],[([71,49],(fq (Rat.divInt 3000 100)),(fq (Rat.divInt 5000 10000)))],[])
theorem Fw:bW Tryz.prog S1 36 [] [] (fun _=> .tr aw [100,102,104,106,108,115] 0 te):=by
 refine cr Tryz.func36 Tryz.ntmps36 fun X w hE=> ?_
 repeat' first|kernel_rfl|(refine rT [100,102,115] ?_)|(refine rT [100,102,104,106,108,115] ?_)|(refine dk [1,0] (Nat.le_refl _) (Nat.zero_le _) (fun _ _ ht=>ht.mem.below.size) nr qD qD qK ?_)|apply Bt.mk|refine nx ?_|apply ae|refine aQ rfl ?_|exact jI|intro _
noncomputable def pA:aX:=(2021,[([80],[65],(fq (Rat.divInt 10000 10000))),([65],[66],(fq (Rat.divInt 5000 10000))),([80],[66],(fq (Rat.divInt 3000 10000))),([80],[67],(fq (Rat.divInt 8000 10000))),([67],[68],(fq (Rat.divInt 10000 10000)))],[([80],[99,111,115,116],(fq (Rat.divInt 150000 100))),([80],[115,97,108,101,115],(fq (Rat.divInt 20000 100))),([80],[100,105,115,116],(fq (Rat.divInt 5000 100))),([65],[100,105,118],(fq (Rat.divInt 1000 100))),([66],[100,105,115,116],(fq (Rat.divInt 1000 100))),([67],[115,97,108,101,115],(fq (Rat.divInt 60000 100))),([68],[103,105,102,116,115],(fq (Rat.divInt 25000 100))),([68],[115,97,108,101,115],(fq (Rat.divInt 12345 100)))],[(true,[86,49],4,[65],[66],[100,105,118],(fq (Rat.divInt 1000 100))),(false,[86,49],4,[65],[66],[100,105,115,116],(fq (Rat.divInt 1000 100))),(true,[83,49],2,[67],[68],[115,97,108,101,115],(fq (Rat.divInt 5000 100))),(false,[83,49],2,[67],[68],[103,105,102,116,115],(fq (Rat.divInt 5000 100)))],[],[([71,49],(fq (Rat.divInt 2500 10000)))])
theorem Bi:bW Tryz.prog S1 37 [] [] (fun _=> .tr aw [100,102,104,106,108,115] 0 pA):=by
 refine cr Tryz.func37 Tryz.ntmps37 fun X w hE=> ?_
 repeat' first|kernel_rfl|(refine rT [100,102,115] ?_)|(refine rT [100,102,104,106,108,115] ?_)|(refine dk [1,0] (Nat.le_refl _) (Nat.zero_le _) (fun _ _ ht=>ht.mem.below.size) nr qD qD qK ?_)|apply Bt.mk|refine nx ?_|apply ae|refine aQ rfl ?_|exact jI|intro _
noncomputable def G8:aj:=([83],[80],[((fq (Rat.divInt 0 100)),(fq (Rat.divInt 2500 10000)))],(fq (Rat.divInt 7500 10000)),(fq (Rat.divInt 5000 10000)),1,2,(fq (Rat.divInt 3000 10000)),(fq (Rat.divInt 0 100)),1,[],[[80]],[(2020,[],[],[],[],[])])
theorem Ft:bW Tryz.prog S1 32 [] [] (fun _=> .ra ab G8):=by
 refine cr Tryz.func32 Tryz.ntmps32 fun X w hE=> ?_
 repeat' first|kernel_rfl|apply Bt.mk|refine nx ?_|apply ae|refine aQ rfl ?_|exact bi [115] 0 im|exact cO (r:=a_) [115] 0 lf rfl qD qD qD|exact bi [100,102,104,106,108,115] 0 iC|exact cO (r:=aw) [100,102,104,106,108,115] 0 oZ rfl qD qD qD|exact nP lb|exact jI|intro _
noncomputable def nY:aj:=([71,114,111,117,112],[80],[((fq (Rat.divInt 0 100)),(fq (Rat.divInt 1000 10000))),((fq (Rat.divInt 100000 100)),(fq (Rat.divInt 2550 10000)))],(fq (Rat.divInt 7500 10000)),(fq (Rat.divInt 6000 10000)),1,3,(fq (Rat.divInt 3000 10000)),(fq (Rat.divInt 5000 100)),2,yN,[[80],[68],[65],[66],[67]],[te,pA,tP])
theorem yt:bW Tryz.prog S1 15 [] [] (fun _=> .ra ab nY):=by
 refine cr Tryz.func15 Tryz.ntmps15 fun X w hE=> ?_
 repeat' first|kernel_rfl|(refine vm ?_)|apply Bt.mk|refine nx ?_|apply ae|refine aQ rfl ?_|exact sc trivial Ft|exact sc trivial zL|exact sc trivial Fw|exact sc trivial Bi|exact sc trivial FK|exact bi [115] 0 im|exact cO (r:=a_) [115] 0 lf rfl qD qD qD|exact cO (r:=aw) [100,102,104,106,108,115] 0 oZ rfl qD qD qD|exact jI|intro _
theorem di {α:Type} {p:α→Bool} {most:Nat}:∀ {l:List α} {i:Nat},l.all p=true→i+l.length≤most→brk p most i l=(0,0)
 |[],_,_,_=>rfl
 |x::l,i,h,hl=>by
  rw [List.all_cons,Bool.and_eq_true] at h
  rw [List.length_cons] at hl
  rw [fS qO h.1]
  exact di h.2 qO
theorem tL {yr:Int}:∀ {l:List (Int×Int×Int)},(∀ x∈l,x.2=(0,0))→dw yr l=((0,0,0),0)
 |[],_=>rfl
 |(p,a,e)::t,h=>by
  have h1:=h _ List.mem_cons_self
  simp only [Prod.mk.injEq] at h1
  obtain ⟨rfl,rfl⟩:=h1
  rw [iO]
  exact tL fun x hx=>h x (List.mem_cons_of_mem _ hx)
theorem yn:∀ {l:List aX} {i:Nat},(∀ y∈l,∀ x∈dp y,x.2=(0,0))→kB i l=((0,0,0),0)
 |[],_,_=>rfl
 |y::t,i,h=>by
  rw [jK,tL (h y List.mem_cons_self)]
  exact yn fun z hz=>h z (List.mem_cons_of_mem _ hz)
theorem sH {d:aj} (h:∀ x∈dC d,x.2=(0,0)) (hy:∀ y∈d.2.2.2.2.2.2.2.2.2.2.2.2,∀ x∈dp y,x.2=(0,0)):bK d=((0,0,0),0):=by
 unfold bK
 rw [tL h]
 exact yn hy
theorem all_nil {α:Type} {P:α→Prop}:∀ x∈([]:List α),P x:=fun _ h=>by cases h
theorem all_cons {α:Type} {P:α→Prop} {a:α} {l:List α} (h1:P a) (h2:∀ x∈l,P x):∀ x∈a::l,P x:=fun x hx=>by
 rcases List.mem_cons.1 hx with rfl|hx
 ·exact h1
 ·exact h2 x hx
theorem gN(h:decide (q.num.natAbs<1000000000∧q.den<1000000000)=true):b6 6 (fq q):=by
 have h:=of_decide_eq_true h
 refine Ij ⟨?_,?_⟩ qD
 ·have:(1000000000:Int)≤4294967296^6:=by decide
  omega
 ·have:(1000000000:Int)≤4294967296^6:=by decide
  omega
theorem zX:nf nY:=by
 refine ⟨gN (by decide +kernel),gN (by decide +kernel),gN (by decide +kernel),gN (by decide +kernel),?_,?_,?_⟩
 ·show ∀ x∈[_,_],_
  repeat' first|refine all_cons ?_ ?_|exact jI|refine And.intro ?_ ?_
 ·show ∀ x∈yN,_
  unfold yN
  repeat' first|refine all_cons ?_ ?_|exact jI|refine And.intro ?_ ?_
 ·show ∀ x∈[_,_,_],_
  refine all_cons ?_ (all_cons ?_ (all_cons ?_ all_nil))
  ·unfold te p9
   repeat' first|refine all_cons ?_ ?_|exact jI|refine And.intro ?_ ?_
  ·unfold pA p9
   repeat' first|refine all_cons ?_ ?_|exact jI|refine And.intro ?_ ?_
  ·unfold tP p9
   repeat' first|refine all_cons ?_ ?_|exact jI|refine And.intro ?_ ?_
theorem vn:bK nY=((0,0,0),0):=by
 refine sH ?_ ?_
 ·unfold dC
  refine all_cons (di qD qD) (all_cons (di ?_ qD) (all_cons ?_ (all_cons (di ?_ qD) (all_cons (di qD qD) (all_cons (di qD qD) all_nil)))))
  ·show List.all [_,_] _=true
   simp only [List.all_cons,List.all_nil,fG,fp,tU,iy,iq,iu,fH,ir,j6,j_,li,lz,jU]
   decide +kernel
  ·show lc nY=(0,0)
   unfold lc
   rw [show fz 0 (dR nY)= -1 by
    rw [show dR nY=[jS (fq (Rat.divInt 7500 10000)),jS (fq (Rat.divInt 6000 10000)),jS (fq (Rat.divInt 3000 10000)),gp 1 0 3,gp 3 0 40,gp 2 0 40,j0 (fq (Rat.divInt 5000 100))] from rfl]
    simp only [j6,j_]
    decide +kernel]
   rfl
  ·show List.all yN _=true
   unfold yN
   simp only [List.all_cons,List.all_nil,fG,fp,tU,iy,iq,iu,fH,ir,j6,j_,li,lz,jU]
   decide +kernel
 ·show ∀ y∈[_,_,_],_
  refine all_cons ?_ (all_cons ?_ (all_cons ?_ all_nil))
  ·unfold dp te
   refine all_cons (di ?_ qD) (all_cons (di ?_ qD) (all_cons (di ?_ qD) (all_cons (di ?_ qD) (all_cons (di ?_ qD) all_nil))))
   all_goals simp only [List.all_cons,List.all_nil,fG,fp,tU,iy,iq,iu,fH,ir,j6,j_,li,lz,jU]
   all_goals decide +kernel
  ·unfold dp pA
   refine all_cons (di ?_ qD) (all_cons (di ?_ qD) (all_cons (di ?_ qD) (all_cons (di ?_ qD) (all_cons (di ?_ qD) all_nil))))
   all_goals simp only [List.all_cons,List.all_nil,fG,fp,tU,iy,iq,iu,fH,ir,j6,j_,li,lz,jU]
   all_goals decide +kernel
  ·unfold dp tP
   refine all_cons (di ?_ qD) (all_cons (di ?_ qD) (all_cons (di ?_ qD) (all_cons (di ?_ qD) (all_cons (di ?_ qD) all_nil))))
   all_goals simp only [List.all_cons,List.all_nil,fG,fp,tU,iy,iq,iu,fH,ir,j6,j_,li,lz,jU]
   all_goals decide +kernel
theorem pS{α:Type} {r:Rp α} {ts:List TypeId} {a:α} (h:(aa.tr r ts C a).holds X w v):(aa.ra r a).holds X w v:=by
 obtain ⟨cs,e,h⟩:=h
 exact ⟨cs,e,r.unT h⟩
theorem kC{ts:List TypeId} (hf:b6 6 (fq q)) (hu:Gx q=u):bW Tryz.prog cK 17 [0] [.tr Rp.frac ts C (fq q)] (fun _=> .is (.bool u)):=by
 have h:=gB (x:=fq q) (L:=6) qD hf
 rw [j6,hu] at h
 exact h.args fun g=>by
  obtain ⟨v,rfl,g⟩:=g.one
  exact ⟨pS g.1,trivial⟩
theorem kA{ts:List TypeId} (hf:b6 6 (fq q)) (hu:Ie q=u):bW Tryz.prog cK 19 [0] [.tr Rp.frac ts C (fq q)] (fun _=> .is (.bool u)):=by
 have h:=fB (x:=fq q) (L:=6) qD hf
 rw [j_,hu] at h
 exact h.args fun g=>by
  obtain ⟨v,rfl,g⟩:=g.one
  exact ⟨pS g.1,trivial⟩
theorem lP{l:List UInt8} (hu:bg l=u):bW Tryz.prog S1 16 [0] [.is (Tx l)] (fun _=> .is (.bool u)):=by
 rw [←hu];exact ee
theorem qh:bW Tryz.prog cK 6 [] [] (fun _=> .is (.bool true)):=by
 have hR:=j2 zX
 rw [vn] at hR
 refine cr Tryz.func6 Tryz.ntmps6 fun X w hE=> ?_
 repeat' first|kernel_rfl|apply Bt.mk|refine nx ?_|refine aE rfl (by first|exact sc trivial yt|exact sc hE hR|exact sc trivial (lP (u:=true) qD)|exact sc trivial (lP (u:=false) qD)|exact sc hE (kC (u:=true) (gN (by decide +kernel)) (by decide +kernel))|exact sc hE (kC (u:=false) (gN (by decide +kernel)) (by decide +kernel))|exact sc hE (kA (u:=true) (gN (by decide +kernel)) (by decide +kernel))|exact sc hE (kA (u:=false) (gN (by decide +kernel)) (by decide +kernel))|exact jI) ?_|refine aD rfl ?_|refine aF rfl ?_|apply ae|refine aQ rfl ?_|exact sc trivial yt|exact sc hE hR|exact sc trivial (lP (u:=true) qD)|exact sc trivial (lP (u:=false) qD)|exact sc hE (kC (u:=true) (gN (by decide +kernel)) (by decide +kernel))|exact sc hE (kC (u:=false) (gN (by decide +kernel)) (by decide +kernel))|exact sc hE (kA (u:=true) (gN (by decide +kernel)) (by decide +kernel))|exact sc hE (kA (u:=false) (gN (by decide +kernel)) (by decide +kernel))|exact jI|intro _
end Go.Proofs.YtpmhjieibebclaaGreatDoor
