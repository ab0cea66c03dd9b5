/- Reading of structs and rows that are told by the types of their blocks; rows of texts of the call's own. No program stands in it. -/
import Derived.Test.YtjjkikchncfekaaGreatDoorGQ
set_option maxHeartbeats 4000000
set_option maxRecDepth 20000
set_option synthInstance.maxHeartbeats 400000
set_option synthInstance.maxSize 4000
set_option linter.unusedSimpArgs false
set_option linter.unusedVariables false
namespace Go.Proofs.YtjjkikchncfekaaGreatDoor
open Go Go.RowKit
variable {C k i s:Nat} {ty:TypeId} {X:List Nat} {w:World}
instance {B:Nat}:Fy B B:=⟨Nat.le_refl _⟩
class m6 (ts:List TypeId) (C:Nat) {α:Type} (r:Rp α) (a:α) (T:outParam aa):Prop where
 ok:∀ {X:List Nat} {w:World} {v:Value},r.rd w (cE ts C X w) a [v]→T.holds X w v
instance {ts:List TypeId} {C:Nat} {l:List UInt8}:m6 ts C Rp.str l (.is (Tx l)):=⟨fun ⟨t,e,h⟩=>by
 injection e with e _
 subst e
 show Value.string t=_
 rw [DF t,h]⟩
instance {ts:List TypeId} {C:Nat} {k:IntKind} {x:Int}:m6 ts C (Rp.int k) x (.is (.int k x)):=⟨fun h=>by
 injection (show [_]=[_] from h) with e _⟩
instance {ts:List TypeId} {C:Nat} {b:Bool}:m6 ts C Rp.bool b (.is (.bool b)):=⟨fun h=>by
 injection (show [_]=[_] from h) with e _⟩
instance {ts:List TypeId} {C:Nat} {α:Type} {r:Rp α} {l:List α}:m6 ts C r.row l (.tc r.row ts C l):=⟨fun h=>h⟩
instance {ts:List TypeId} {C:Nat} {l:List Int}:m6 ts C Rp.limbs l (.tc Rp.limbs ts C l):=⟨fun h=>h⟩
theorem am.aggT{α β:Type} {r:Rp α} {r':Rp β} {g:α→β} {a:α} {ts:List TypeId} {o:Nat} (h:bk r o r' g) (hk:KC r' k):am (.tr r ts C a) o k true (.tr r' ts C (g a)):=⟨(fun h=>by cases h),fun {X w v} ⟨cs,e,hr⟩=>by
 obtain ⟨c1,c2,c3,e2,hl,h2⟩:=h.ok hr
 refine ⟨c2,(r'.len h2).trans hk.ok,fun j u hu=> ?_,fun u hu _=>⟨c2,hu rfl,h2⟩⟩
 have hj:=(List.getElem?_eq_some_iff.1 hu).1
 rw [e]
 show (cs.toArray)[o+j]? =some u
 rw [List.getElem?_toArray,e2,List.append_assoc,List.getElem?_append_right qO,show o+j - c1.length=j by omega,List.getElem?_append_left hj]
 exact hu⟩
theorem am.cellT{α β:Type} {r:Rp α} {r':Rp β} {g:α→β} {a:α} {ts:List TypeId} {o:Nat} {T:aa} (h:bk r o r' g) (hk:KC r' 1) (hs:m6 ts C r' (g a) T):am (.tr r ts C a) o 1 false T:=⟨fun _=>rfl,fun {X w v} ⟨cs,e,hr⟩=>by
 obtain ⟨c1,c2,c3,e2,hl,h2⟩:=h.ok hr
 refine ⟨c2,(r'.len h2).trans hk.ok,fun j u hu=> ?_,fun u _ hu=>hs.ok (by rw [←hu rfl];exact h2)⟩
 have hj:=(List.getElem?_eq_some_iff.1 hu).1
 rw [e]
 show (cs.toArray)[o+j]? =some u
 rw [List.getElem?_toArray,e2,List.append_assoc,List.getElem?_append_right qO,show o+j - c1.length=j by omega,List.getElem?_append_left hj]
 exact hu⟩
instance {α β:Type} {r:Rp α} {r':Rp β} {g:α→β} {a:α} {ts:List TypeId} {C o k:Nat} [h:bk r o r' g] [hk:KC r' k]:am (.tr r ts C a) o k true (.tr r' ts C (g a)):=am.aggT h hk
instance {α β:Type} {r:Rp α} {r':Rp β} {g:α→β} {a:α} {ts:List TypeId} {C o:Nat} {T:aa} [h:bk r o r' g] [hk:KC r' 1] [hs:m6 ts C r' (g a) T]:am (.tr r ts C a) o 1 false T:=am.cellT h hk hs
def aa.tp {α:Type} (r:Rp α) (ts:List TypeId) (C:Nat) (a:α):aa:=⟨fun X w v=>∃ b o cs,v= .pointer (some ⟨b,o,none⟩)∧cE ts C X w b∧w.rangeAt b o cs∧r.rd w (cE ts C X w) a cs,
 fun ⟨b,o,cs,e,hb,h1,h2⟩ hk hX=>⟨b,o,cs,e,cE.mono hk hX b hb,gl h1 (hk.block b hb.1.1 hb.1.2),r.upT h2 hk hX⟩⟩
theorem FL{α:Type} {r:Rp α} {ts:List TypeId} {l:List α} {v:Value} (h:(aa.tc r.row ts C l).holds X w v):(aa.rw r tt l).holds X w v:=⟨fun _ _=>trivial,r.row.unT h⟩
section
variable {P:Program} {w00:World} {N:Nat} {L:List Loc} {E:List (Nat×aa)} {d:Nat} {t0:TypeId} {pos:String} {af:Array Edge} {gd:Option (Nat×Bool)} {ats:Array TypeId}
theorem wR{α:Type} {r:Rp α} {ts:List TypeId} {l:List α} [ho:co E s (.tc r.row ts C l)] [ht:dt P ty k]:aF P w00 N L E ⟨some d, .call { callee:= .builtin .len,args:= #[.tmp s],argTypes:= #[ty] },t0,pos,af,gd⟩ (.is (.int .i64 l.length)):=by
 constructor
 intro X ρ w hc hf hN hm hsl
 have h:=hsl _ ho.mem qJ
 have hs:aF P w00 0 [] [(s, .rw r tt l)] ⟨some d, .call { callee:= .builtin .len,args:= #[.tmp s],argTypes:= #[ty] },t0,pos,af,gd⟩ (.is (.int .i64 l.length)):=iO
 exact hs.run X ρ w hc hf (Nat.zero_le _) ⟨(fun _ h=>by cases h),hm.far,List.nodup_nil,hm.below⟩ fun p hp _=>by
  obtain rfl:=List.mem_singleton.1 hp
  exact FL h
theorem vO{α:Type} {r:Rp α} {ts:List TypeId} {l:List α} {a:α} {o oi:Operand} {j:Nat} [ho:cT E o (.tc r.row ts C l)] [hi:cT E oi (.is (.int .i64 (j:Int)))] [kc:KC r k] [ht:dt P ty k] (ha:l[j]? =some a):aF P w00 N L E ⟨some d, .indexAddr ty o oi,t0,pos,af,gd⟩ (.tp r ts C a):=by
 constructor
 intro X ρ w hc _ hN hm hsl
 obtain ⟨A,n,c,e,h1,h2,h3,h4,h5⟩:=ho.get (X:=X) (w:=w) hc fun p hp e=>hsl p hp qS
 have e1:ρ o= .slice A n c:=by simpa using e
 have e2:ρ oi= .int .i64 (j:Int):=hi.get (X:=X) (w:=w) hc fun p hp e=>hsl p hp qS
 have hj:j<n:=by rw [←h1];exact (List.getElem?_eq_some_iff.1 ha).1
 obtain ⟨b,off,rfl,hb,hcell⟩:=h5 qO
 obtain ⟨cs,hcs,hr⟩:=hcell j a ha
 obtain ⟨el,hu,hsz⟩:=ht.ok
 have hk:=kc.ok
 have hz:(sizeOf el).run P w= .ok k w:=by
  cases hq:P.info? el with
  |none=>rw [hq] at hsz;cases hsz
  |some q=>
   rw [hq] at hsz
   have:q.size=k:=by simpa using hsz
   simp [sizeOf,typeInfo,hq,this]
 have hrun:(execOp ρ ⟨some d, .indexAddr ty o oi,t0,pos,af,gd⟩).run P w= .ok (.value (.pointer (some ⟨b,off+j*k,none⟩))) w:=by
  unfold execOp
  have hji:(0:Int)≤(j:Int)∧(j:Int)<(n:Int):=⟨by omega,by omega⟩
  simp only [e1,e2,Instr.indexAt,asIntOf,Sem.run_bind,Sem.run_pure,Result.andThen_ok,run_underlying hu w,hji,and_self,if_true,hz,Int.toNat_natCast,Addr.add_mid]
 unfold Yields
 rw [hrun]
 refine ⟨⟨b,off+j*k,cs,rfl,hb,fun i u hu=> ?_,hr⟩,Below.refl _ _⟩
 have:=hcs i u hu
 rwa [hk] at this
theorem v6{α β:Type} {r:Rp α} {r':Rp β} {a:α} {g:α→β} {ts:List TypeId} {fo:Nat} {ag:Bool} [hs:co E s (.tp r ts C a)] [hf:ay P ty i fo k ag] [hn:bk r fo r' g]:aF P w00 N L E ⟨some d, .fieldAddr ty (.tmp s) i,t0,pos,af,gd⟩ (.tp r' ts C (g a)):=by
 constructor
 intro X ρ w hc _ hN hm hsl
 obtain ⟨b,o,cs,e,hb,hra,hr⟩:=hsl _ hs.mem qI
 have e':ρ (.tmp s)= .pointer (some ⟨b,o,none⟩):=e
 obtain ⟨c1,c2,c3,e2,hl,h2⟩:=hn.ok hr
 obtain ⟨fs,f,h1,h3,h4,h5,h6,_⟩:=hf.ok
 have hz:(sizeOf f.type).run P w= .ok k w:=by
  cases hq:P.info? f.type with
  |none=>rw [hq] at h5;cases h5
  |some q=>
   rw [hq] at h5
   have:q.size=k:=by simpa using h5
   simp [sizeOf,typeInfo,hq,this]
 have hrun:(execOp ρ ⟨some d, .fieldAddr ty (.tmp s) i,t0,pos,af,gd⟩).run P w= .ok (.value (.pointer (some ⟨b,o+fo,none⟩))) w:=by
  unfold execOp
  simp only [e',Instr.fieldAt,Instr.sureAddr,fieldPlace,Sem.run_bind,Sem.run_pure,Result.andThen_ok,run_underlying h1 w,h3,hz,h6,if_false,h4,Addr.add_mid]
 unfold Yields
 rw [hrun]
 refine ⟨⟨b,o+fo,c2,rfl,hb,?_,h2⟩,Below.refl _ _⟩
 rw [←hl]
 exact nf (by rw [←e2];exact hra)
theorem tI{α:Type} {r:Rp α} {a:α} {ts:List TypeId} [hs:co E s (.tp r ts C a)] [kc:KC r k] [ht:fw P ty k true]:aF P w00 N L E ⟨some d, .load ty (.tmp s),t0,pos,af,gd⟩ (.tr r ts C a):=by
 constructor
 intro X ρ w hc _ hN hm hsl
 obtain ⟨b,o,cs,e,hb,h1,h2⟩:=hsl _ hs.mem qI
 have e':ρ (.tmp s)= .pointer (some ⟨b,o,none⟩):=e
 obtain ⟨dd,hu,hd⟩:=ht.row
 have hi:(P.info? ty).map (·.size)=some cs.length:=by rw [r.len h2,kc.ok];exact ht.size
 have hrun:(execOp ρ ⟨some d, .load ty (.tmp s),t0,pos,af,gd⟩).run P w= .ok (.value (.agg cs.toArray)) w:=by
  unfold execOp
  simp only [e',run_loadAt_mid w b o ty cs dd h1 hu hd hi,Sem.run_bind,Sem.run_pure,Result.andThen_ok]
 unfold Yields
 rw [hrun]
 exact ⟨⟨cs,rfl,h2⟩,Below.refl _ _⟩
theorem s_{α:Type} {r:Rp α} {a:α} {ts:List TypeId} {T:aa} [hs:co E s (.tp r ts C a)] [kc:KC r 1] [ht:fw P ty 1 false] [hn:m6 ts C r a T]:aF P w00 N L E ⟨some d, .load ty (.tmp s),t0,pos,af,gd⟩ T:=by
 constructor
 intro X ρ w hc hf hN hm hsl
 obtain ⟨b,o,cs,e,hb,h1,h2⟩:=hsl _ hs.mem qI
 have hl:=(r.len h2).trans kc.ok
 obtain ⟨u,rfl⟩:∃ u,cs=[u]:=List.length_eq_one_iff.1 hl
 have hcell:w.cell? ⟨b,o,none⟩=some u:=by simpa using h1 0 u rfl
 have e1:ρ (.tmp s)= .pointer (some ⟨b,o,none⟩):=e
 obtain ⟨dd,hu,hd⟩:=ht.row
 have hag:(isAgg ty).run P w= .ok false w:=by
  unfold isAgg
  rw [Sem.run_bind,run_underlying hu w]
  cases dd<;>first|rfl|cases hd
 have hrun:(execOp ρ ⟨some d, .load ty (.tmp s),t0,pos,af,gd⟩).run P w= .ok (.value u) w:=by
  unfold execOp
  simp only [e1,Instr.loadAt,Instr.sureAddr,loadVar,Sem.run_bind,Sem.run_pure,Result.andThen_ok,hag,run_load,hcell,if_false,Bool.false_eq_true]
 unfold Yields
 rw [hrun]
 exact ⟨hn.ok h2,Below.refl _ _⟩
end
theorem v9 (l:List (List UInt8)):(l.map fun t=>(t,[Tx t])).flatMap Prod.snd=l.map Tx:=by
 induction l with
 |nil=>rfl
 |cons t l ih=>rw [List.map_cons,List.flatMap_cons,ih];rfl
instance {ts:List TypeId} {C:Nat} {vs:List Value} {l:List (List UInt8)} [h:FA 64 vs l]:tw (.vs vs) Rp.str ts C l:=⟨fun {X w v} ⟨b,e,hb,hc⟩=>by
 have hv:=h.ok
 have hl:=h.len
 subst hv
 rw [List.length_map] at e
 refine ⟨_,l.length,l.map fun t=>(t,[Tx t]),e,by rw [List.map_map];exact List.map_id _,fun q hq=> ?_,?_,fun _ g hg=> ?_⟩
 ·obtain ⟨t,_,rfl⟩:=List.mem_map.1 hq
  exact ⟨_,rfl,bU t⟩
 ·rw [v9]
  exact ⟨by rw [List.length_map];exact (Nat.mul_one _).symm,Nat.le_refl _,by unfold maxLen;omega,(fun h=>by cases h),fun _=>⟨b,0,rfl,hb.1,fun j u hu=>by rw [Nat.zero_add];exact hc j u hu⟩⟩
 ·have hg:b=g:=by simpa [fl] using hg
  exact hg▸hb⟩
theorem C8{α:Type} {r:Rp α} {ts:List TypeId} {A:Option Addr} {n c:Nat} {l:List α} (h:p8 r w (cE ts C X w) A n c l):(aa.sr r ts C l).holds X w (.slice A n c):=by
 obtain ⟨h1,h2,h3,h4,h5⟩:=h
 have hl:∀ m,m≤l.length→∃ ps:List (α×List Value),ps.map Prod.fst=l.take m∧(∀ q∈ps,r.rd w (cE ts C X w) q.1 q.2)∧(0<m→∃ b off,A=some ⟨b,off,none⟩∧cE ts C X w b∧∀ j u,(ps.flatMap Prod.snd)[j]? =some u→w.cell? ⟨b,off+j,none⟩=some u)∧(ps.flatMap Prod.snd).length=m*r.k:=by
  intro m
  induction m with
  |zero=>intro _;exact ⟨[],rfl,(fun _ h=>by cases h),(fun h=>absurd h qO),by simp⟩
  |succ m ih=>
   intro hm
   obtain ⟨ps,g1,g2,g3,g4⟩:=ih qO
   obtain ⟨a,ha⟩:∃ a,l[m]? =some a:=⟨_,List.getElem?_eq_getElem qO⟩
   obtain ⟨b,off,eA,hb,hc⟩:=h5 qO
   obtain ⟨cs,hcs,hr⟩:=hc m a ha
   refine ⟨ps++[(a,cs)],by rw [List.map_append,g1,gg ha];rfl,fun q hq=> ?_,fun _=>⟨b,off,eA,hb,fun j u hu=> ?_⟩,?_⟩
   ·rcases List.mem_append.1 hq with hq|hq
    ·exact g2 q hq
    ·rw [List.mem_singleton.1 hq];exact hr
   ·rw [List.flatMap_append] at hu
    by_cases hj:j<m*r.k
    ·rw [List.getElem?_append_left (by rw [g4];exact hj)] at hu
     have hm0:0<m:=by
      rcases Nat.eq_zero_or_pos m with e|e
      ·rw [e,Nat.zero_mul] at hj;omega
      ·exact e
     obtain ⟨b',off',eA',_,hc'⟩:=g3 hm0
     rw [eA] at eA'
     injection eA' with eA'
     injection eA' with e1 e2
     subst e1;subst e2
     exact hc' j u hu
    ·rw [List.getElem?_append_right (by rw [g4];omega),g4] at hu
     have hu:cs[j - m*r.k]? =some u:=by simpa using hu
     have:=hcs (j - m*r.k) u hu
     rw [Nat.add_assoc] at this
     rwa [show m*r.k+(j - m*r.k)=j by omega] at this
   ·rw [List.flatMap_append,List.length_append,g4]
    simp [r.len hr,Nat.add_mul]
 obtain ⟨ps,g1,g2,g3,g4⟩:=hl l.length (Nat.le_refl _)
 rw [List.take_length] at g1
 refine ⟨A,c,ps,by rw [h1],g1,g2,⟨g4,by rw [h1];exact h2,h3,h4,fun hn=> ?_⟩,fun hn g hg=> ?_⟩
 ·obtain ⟨b,off,eA,hb,hc⟩:=g3 hn
  exact ⟨b,off,eA,hb.1.1,hc⟩
 ·obtain ⟨b,off,eA,hb,hc⟩:=g3 hn
  rw [eA] at hg
  have hg:b=g:=by simpa [fl] using hg
  exact hg▸hb.1
instance {α:Type} {r:Rp α} {ts:List TypeId} {C:Nat} {l:List α}:tw (.tc r.row ts C l) r ts C l:=⟨fun {X w v} h=>by
 obtain ⟨A,n,c,e,h⟩:=h
 have e:v= .slice A n c:=by simpa using e
 rw [e]
 exact C8 h⟩
theorem ED{P:Program} {w00:World} {N:Nat} {L:List Loc} {E:List (Nat×aa)} {d:Nat} {t0:TypeId} {pos:String} {af:Array Edge} {gd:Option (Nat×Bool)} (ts:List TypeId) (C:Nat) {e:TypeId} {n:Nat} {ps:List (Nat×Operand)} {vs:List Value} {l:List (List UInt8)} (r:nY P ty e 1) [h:EG E ps 0 vs] [tl:FA 64 vs l] (hn:Nat.beq vs.length n=true) (hp:0<n):aF P w00 N L E ⟨some d, .buildSlice ty n ps.toArray,t0,pos,af,gd⟩ (.to Rp.str e ts C w00.heap.size l):=by
 constructor
 intro X ρ w hc hf hN hm hsl
 have hn:=Nat.eq_of_beq_eq_true hn
 have hvs:=h.get (X:=X) (w:=w) (ρ:=ρ) hc fun p hp hm=>hsl p hp (by
  simp only [Op.operands]
  obtain ⟨q,hq,e⟩:=List.mem_map.1 hm
  simp
  exact ⟨q.1,by rw [←e];exact hq⟩)
 have hv:=tl.ok
 have hl64:=tl.len
 subst hv
 rw [List.length_map] at hn
 obtain ⟨hu,i,z,hi,hz,hs,hzc⟩:=r.ok
 have hsz:(sizeOf e).run P w= .ok 1 w:=by simp [sizeOf,typeInfo,hi,hs]
 have hze:(zeroValue e).run P w= .ok z w:=by simp [zeroValue,typeInfo,hi,hz]
 obtain ⟨c',ef,ec⟩:=pa (l.map Tx) 0 ((Array.range (n*1)).map (z.cells[· %z.cells.size]!)) (fun v hv=>by obtain ⟨t,_,rfl⟩:=List.mem_map.1 hv;rfl) (by simp [hn])
 have ec':c'=(l.map Tx).toArray:=by
  obtain ⟨g1,_,g2⟩:=ec
  apply Array.ext_getElem?
  intro j
  refine Eq.trans ?_ (List.getElem?_toArray (xs:=l.map Tx)).symm
  by_cases hj:j<l.length
  ·obtain ⟨t,ht⟩:∃ t,(l.map Tx)[j]? =some t:=⟨_,List.getElem?_eq_getElem (by rw [List.length_map];exact hj)⟩
   rw [ht]
   have:=g2 j t ht
   rwa [Nat.zero_add] at this
  ·rw [List.getElem?_eq_none (by rw [List.length_map];omega),Array.getElem?_eq_none (by rw [g1];simp;omega)]
 subst ec'
 have hps:(ps.toArray.map fun (i,x)=>(i,ρ x)).toList=kH 0 (l.map Tx):=by rw [←hvs];simp
 have hrun:(Instr.buildSlice ty n (ps.toArray.map fun (i,x)=>(i,ρ x))).run P w= .ok (.slice (some ⟨w.heap.size,0,none⟩) n n) (w.alloc (.cells (l.map Tx).toArray e)):=by
  have hbig:¬ 2^24<n*1:=qO
  unfold Instr.buildSlice
  simp only [Sem.run_bind,run_underlying hu w,Result.andThen_ok,hsz,if_neg hbig,hps,Sem.run_pure,if_neg (show ¬ n*1=0 by omega),hze,ef]
  rfl
 have hb':Below w.heap.size w (w.alloc (.cells (l.map Tx).toArray e)):=(Below.refl _ _).alloc (Nat.le_refl _) _
 unfold Yields execOp
 simp only [Sem.run_bind,hrun,Result.andThen_ok,Sem.run_pure]
 refine ⟨⟨some ⟨w.heap.size,0,none⟩,n,l.map fun t=>(t,[Tx t]),by rw [hn],by rw [List.map_map];exact List.map_id _,fun q hq=> ?_,?_,fun g hg=> ?_⟩,hb'⟩
 ·obtain ⟨t,_,rfl⟩:=List.mem_map.1 hq
  exact ⟨_,rfl,bU t⟩
 ·rw [v9,hn]
  exact dp.lit 1 e w hm.below.size _ n (by rw [List.length_map,hn,Nat.mul_one]) qO
 ·have hg:w.heap.size=g:=by simpa [fl] using hg
  subst hg
  exact ⟨by rw [aq];exact Nat.lt_succ_self _,fun hx=>by have:=hm.far _ hx;omega⟩
theorem eZ{α β:Type} {g:α→List β} {l:List α} {x:α} {b:List β} {y:List β} (h:l[i]? =some x) (hy:g x=y):b++(l.take i).flatMap g++y=b++(l.take (i+1)).flatMap g:=by
 rw [gg h,List.flatMap_append,List.append_assoc,←hy]
 simp
theorem dT {α β:Type} {g:α→List β} {c:Nat}:∀ {l:List α},(∀ x∈l,(g x).length≤c)→(l.flatMap g).length≤l.length*c
 |[],_=>by simp
 |x::l,h=>by
  have h1:=h x List.mem_cons_self
  have h2:=dT (l:=l) fun y hy=>h y (List.mem_cons_of_mem _ hy)
  rw [List.flatMap_cons,List.length_append,List.length_cons,Nat.add_mul,Nat.one_mul]
  omega
theorem eU{α β:Type} {g:α→List β} {c:Nat} {l:List α} (h:∀ x∈l,(g x).length≤c):((l.take i).flatMap g).length≤l.length*c:=by
 have h1:=dT (l:=l.take i) fun x hx=>h x (List.mem_of_mem_take hx)
 have h2:(l.take i).length*c≤l.length*c:=Nat.mul_le_mul (by rw [List.length_take];exact Nat.min_le_right _ _) (Nat.le_refl c)
 omega
structure vD (d:aI):Prop where
 br:d.2.2.1.length≤20
 cl:d.2.2.2.2.2.2.2.2.2.2.1.length≤70
 en:d.2.2.2.2.2.2.2.2.2.2.2.1.length≤260
 ys:d.2.2.2.2.2.2.2.2.2.2.2.2.length≤45
 yr:∀ y∈d.2.2.2.2.2.2.2.2.2.2.2.2,y.2.1.length≤40∧y.2.2.1.length≤40∧y.2.2.2.1.length≤40∧y.2.2.2.2.1.length≤40∧y.2.2.2.2.2.length≤40
def AV (b:cM):List aP:=[b.1,b.2]
def BA (c:ct):List aP:=[c.2.2]
def xL (h:ft):List aP:=[h.2.2]
def AZ (b:fg):List aP:=[b.2.2]
def AU (x:eo):List aP:=[x.2.2.2.2.2.2]
def z5 (s:dI):List aP:=[s.2.1,s.2.2]
def AX (s:eX):List aP:=[s.2]
def zw (y:bw):List aP:=y.2.1.flatMap xL++y.2.2.1.flatMap AZ++y.2.2.2.1.flatMap AU++y.2.2.2.2.1.flatMap z5++y.2.2.2.2.2.flatMap AX
def m7 (d:aI):List aP:=[d.2.2.2.1,d.2.2.2.2.1,d.2.2.2.2.2.2.2.1,d.2.2.2.2.2.2.2.2.1]++d.2.2.1.flatMap AV++d.2.2.2.2.2.2.2.2.2.2.1.flatMap BA++d.2.2.2.2.2.2.2.2.2.2.2.2.flatMap zw
def DC (c:ct):List (List UInt8):=[c.1]
def Dl (h:ft):List (List UInt8):=[h.1,h.2.1]
def BB (b:fg):List (List UInt8):=[b.1,b.2.1]
def Cm (x:eo):List (List UInt8):=[x.2.1,x.2.2.2.1,x.2.2.2.2.1,x.2.2.2.2.2.1]
def BC (s:dI):List (List UInt8):=[s.1]
def Co (s:eX):List (List UInt8):=[s.1]
def AW (y:bw):List (List UInt8):=y.2.1.flatMap Dl++y.2.2.1.flatMap BB++y.2.2.2.1.flatMap Cm++y.2.2.2.2.1.flatMap BC++y.2.2.2.2.2.flatMap Co
def ot (d:aI):List (List UInt8):=[d.1,d.2.1]++d.2.2.2.2.2.2.2.2.2.2.2.1++d.2.2.2.2.2.2.2.2.2.2.1.flatMap DC++d.2.2.2.2.2.2.2.2.2.2.2.2.flatMap AW
theorem CJ {y:bw} (h:y.2.1.length≤40∧y.2.2.1.length≤40∧y.2.2.2.1.length≤40∧y.2.2.2.2.1.length≤40∧y.2.2.2.2.2.length≤40):(zw y).length≤240:=by
 obtain ⟨h1,h2,h3,h4,h5⟩:=h
 have g1:=dT (l:=y.2.1) (g:=xL) (c:=1) fun _ _=>Nat.le_refl _
 have g2:=dT (l:=y.2.2.1) (g:=AZ) (c:=1) fun _ _=>Nat.le_refl _
 have g3:=dT (l:=y.2.2.2.1) (g:=AU) (c:=1) fun _ _=>Nat.le_refl _
 have g4:=dT (l:=y.2.2.2.2.1) (g:=z5) (c:=2) fun _ _=>Nat.le_refl _
 have g5:=dT (l:=y.2.2.2.2.2) (g:=AX) (c:=1) fun _ _=>Nat.le_refl _
 unfold zw
 simp only [List.length_append]
 omega
theorem BG {y:bw} (h:y.2.1.length≤40∧y.2.2.1.length≤40∧y.2.2.2.1.length≤40∧y.2.2.2.2.1.length≤40∧y.2.2.2.2.2.length≤40):(AW y).length≤400:=by
 obtain ⟨h1,h2,h3,h4,h5⟩:=h
 have g1:=dT (l:=y.2.1) (g:=Dl) (c:=2) fun _ _=>Nat.le_refl _
 have g2:=dT (l:=y.2.2.1) (g:=BB) (c:=2) fun _ _=>Nat.le_refl _
 have g3:=dT (l:=y.2.2.2.1) (g:=Cm) (c:=4) fun _ _=>Nat.le_refl _
 have g4:=dT (l:=y.2.2.2.2.1) (g:=BC) (c:=1) fun _ _=>Nat.le_refl _
 have g5:=dT (l:=y.2.2.2.2.2) (g:=Co) (c:=1) fun _ _=>Nat.le_refl _
 unfold AW
 simp only [List.length_append]
 omega
theorem rt{α:Type} {r:Rp α} {a:α} {v:Value} (h:(aa.ra r a).holds X w v):(aa.tr r [] w.heap.size a).holds X w v:=by
 obtain ⟨cs,e,h⟩:=h
 exact ⟨cs,e,r.more h fun b hb=>⟨hb, .inl hb.1⟩⟩
theorem Dt:nY Tryz.prog 57 27 4:=⟨Tryz.underlying57,by
 obtain ⟨i,h1,h2,h3,h4⟩:∃ i,Tryz.prog.info? 27=some i∧i.zero=some (.agg #[.bool false, .slice none 0 0, .bool false, .slice none 0 0])∧i.size=4∧i.bytes=64:=info_parts qK
 exact ⟨i,_,h1,h2,h3,rfl⟩⟩
theorem iE:io Tryz.prog 57 27 4 64:=⟨Tryz.underlying57,by decide,by
 obtain ⟨i,h1,h2,h3,h4⟩:∃ i,Tryz.prog.info? 27=some i∧i.zero=some (.agg #[.bool false, .slice none 0 0, .bool false, .slice none 0 0])∧i.size=4∧i.bytes=64:=info_parts qK
 exact ⟨i,_,h1,h2,h3,h4,rfl⟩⟩
theorem Da:nY Tryz.prog 29 9 1:=⟨Tryz.underlying29,by
 obtain ⟨i,h1,h2,h3,h4⟩:∃ i,Tryz.prog.info? 9=some i∧i.zero=some (Tx [])∧i.size=1∧i.bytes=16:=info_parts qK
 exact ⟨i,_,h1,h2,h3,rfl⟩⟩
theorem gP:io Tryz.prog 29 9 1 16:=⟨Tryz.underlying29,by decide,by
 obtain ⟨i,h1,h2,h3,h4⟩:∃ i,Tryz.prog.info? 9=some i∧i.zero=some (Tx [])∧i.size=1∧i.bytes=16:=info_parts qK
 exact ⟨i,_,h1,h2,h3,h4,rfl⟩⟩
instance:im 27 []:=⟨fun h=>by cases h⟩
theorem cB {p:Prop} (h:p:=by first|exact wR|exact vO (by assumption)|exact v6|exact tI|exact s_|exact dJ (by assumption)|exact cP|exact kd|exact k7 (by assumption)|exact c_ (r:=Rp.frac) [] w0.heap.size Dt rfl (by decide) (by decide) (by decide)|exact ms (r:=Rp.frac) (hn:=bk.fst)|exact ms (r:=Rp.frac) (hn:=bk.tail (n:=2) (k:=2) ⟨rfl⟩ bk.self rfl)|exact ms (r:=Rp.num) (hn:=bk.tail (n:=1) (k:=1) ⟨rfl⟩ bk.self rfl)|exact wD|exact wE|exact cb|exact eJ|exact ca|exact aW|exact f6|exact fX|exact ml|exact mj|exact iQ (by first|assumption|rfl)|exact iO|exact rM (by first|assumption|rfl)|exact ee (by assumption)|exact eC|exact eI.nil|exact aM.nil|exact aL.nil|exact ED [] w0.heap.size Da rfl (by decide)|exact sc trivial kR|exact sc trivial kT|exact sc trivial kf|exact sc trivial kg|exact Cv.rfl'):p:=h
theorem Fv {d:aI} (hc:vD d):cw Tryz.prog S1 25 [0] [.ra ai d] (fun _=> .rw Rp.frac tt (m7 d)):=by
 refine CZ (As':=fun B=>[.tr ai [] B d]) Tryz.func25 rfl Tryz.ntmps25 qE (fun _ _=>by kernel_rfl) (fun {X w vs} ha=>by
  obtain ⟨v,rfl,h⟩:=ha.one
  exact ⟨rt h,trivial⟩) fun X w0 hE=> ?_
 simp only [ar,Nat.zero_add,Nat.reduceAdd]
 repeat' first|kernel_rfl|apply Bt.mk|refine nx ?_|apply au|apply aR|apply ae|refine aO rfl ?_|exact cB|intro _
 refine bn fun a w h=> ?_
 rename_i r1
 obtain ⟨b0,hb0⟩:∃ b,b=[d.2.2.2.1,d.2.2.2.2.1,d.2.2.2.2.2.2.2.1,d.2.2.2.2.2.2.2.2.1]:=⟨_,rfl⟩
 have hl0:b0.length≤4:=by rw [hb0];have:=hc.en;simp<;>omega
 have hcb:=hc.br
 have hcc:=hc.cl
 have hcs:=hc.ys
 have e0:b0++((d.2.2.1).take 0).flatMap AV=b0:=by simp
 refine aY (fun kbrR a u=>∃ ibrR:Nat,ibrR+kbrR=(d.2.2.1).length∧TS w0 (r1::X) [(r1, .tr ai [] w0.heap.size d)] [(3, .to Rp.frac 27 [] w0.heap.size w0.heap.size (b0++((d.2.2.1).take ibrR).flatMap AV)),(4, .is (.int .i64 (ibrR:Int))),(1, .is (.pointer (some ⟨r1,0,none⟩)))] 159 a u) (d.2.2.1).length ⟨0,by omega,by rw [e0,hb0];exact h.keep [3,4,1]⟩ ?_
 clear h e0
 rintro kbrR a u ⟨ibrR,hiibrR,h⟩
 by_cases hlt:ibrR<(d.2.2.1).length
 ·obtain ⟨x,hx⟩:∃ x,(d.2.2.1)[ibrR]? =some x:=⟨_,List.getElem?_eq_getElem hlt⟩
  have hcd:decide ((ibrR:Int)<((d.2.2.1).length:Int))=true:=decide_eq_true qO
  have hw:IntKind.i64.wrap ((ibrR:Int)+1)=((ibrR+1:Nat):Int):=az qO qO
  have hlen:(b0++((d.2.2.1).take ibrR).flatMap AV).length≤40000:=by
   have:=eU (l:=d.2.2.1) (i:=ibrR) (g:=AV) (c:=2) fun _ _=>Nat.le_refl _
   rw [List.length_append]
   omega
  have htk:=eZ (b:=b0) (g:=AV) hx rfl
  refine aD h ?_
  clear h
  repeat' first|kernel_rfl|(refine dL [4,1] (Nat.le_refl _) (Nat.le_refl _) (fun _ _ ht=>ht.mem.below.size) iE (by simp only [List.length_cons,List.length_nil];omega) qD qK ?_)|exact bq fun _ _ h=>⟨kbrR - 1,by omega,ibrR+1,by omega,by rw [←htk];exact h.keep [3,4,1]⟩|apply Bt.mk|refine nx ?_|apply ab (id:=5) [] [] 14|apply au|apply aR|apply ae|refine aO rfl ?_|exact cB|intro _
 ·have hil:ibrR=(d.2.2.1).length:=qO
  have hcd:decide ((ibrR:Int)<((d.2.2.1).length:Int))=false:=decide_eq_false qO
  rw [show (d.2.2.1).take ibrR=d.2.2.1 by rw [hil,List.take_length]] at h
  obtain ⟨b1,hb1⟩:∃ b,b=b0++(d.2.2.1).flatMap AV:=⟨_,rfl⟩
  rw [←hb1] at h
  have hlb1:b1.length≤44:=by
   rw [hb1,List.length_append]
   have:=dT (l:=d.2.2.1) (g:=AV) (c:=2) fun _ _=>Nat.le_refl _
   omega
  refine aD h ?_
  clear h
  repeat' first|kernel_rfl|apply Bt.mk|refine nx ?_|apply au|apply aR|apply ae|refine aO rfl ?_|exact cB|intro _
  refine bn fun a w h=> ?_
  have e0:b1++((d.2.2.2.2.2.2.2.2.2.2.1).take 0).flatMap BA=b1:=by simp
  refine aY (fun kclR a u=>∃ iclR:Nat,iclR+kclR=(d.2.2.2.2.2.2.2.2.2.2.1).length∧TS w0 (r1::X) [(r1, .tr ai [] w0.heap.size d)] [(3, .to Rp.frac 27 [] w0.heap.size w0.heap.size (b1++((d.2.2.2.2.2.2.2.2.2.2.1).take iclR).flatMap BA)),(5, .is (.int .i64 (iclR:Int))),(1, .is (.pointer (some ⟨r1,0,none⟩)))] 159 a u) (d.2.2.2.2.2.2.2.2.2.2.1).length ⟨0,by omega,by rw [e0];exact h.keep [3,5,1]⟩ ?_
  clear h e0
  rintro kclR a u ⟨iclR,hiiclR,h⟩
  by_cases hlt:iclR<(d.2.2.2.2.2.2.2.2.2.2.1).length
  ·obtain ⟨x,hx⟩:∃ x,(d.2.2.2.2.2.2.2.2.2.2.1)[iclR]? =some x:=⟨_,List.getElem?_eq_getElem hlt⟩
   have hcd:decide ((iclR:Int)<((d.2.2.2.2.2.2.2.2.2.2.1).length:Int))=true:=decide_eq_true qO
   have hw:IntKind.i64.wrap ((iclR:Int)+1)=((iclR+1:Nat):Int):=az qO qO
   have hlen:(b1++((d.2.2.2.2.2.2.2.2.2.2.1).take iclR).flatMap BA).length≤40000:=by
    have:=eU (l:=d.2.2.2.2.2.2.2.2.2.2.1) (i:=iclR) (g:=BA) (c:=1) fun _ _=>Nat.le_refl _
    rw [List.length_append]
    omega
   have htk:=eZ (b:=b1) (g:=BA) hx rfl
   refine aD h ?_
   clear h
   repeat' first|kernel_rfl|(refine dL [5,1] (Nat.le_refl _) (Nat.le_refl _) (fun _ _ ht=>ht.mem.below.size) iE (by simp only [List.length_cons,List.length_nil];omega) qD qK ?_)|exact bq fun _ _ h=>⟨kclR - 1,by omega,iclR+1,by omega,by rw [←htk];exact h.keep [3,5,1]⟩|apply Bt.mk|refine nx ?_|apply au|apply aR|apply ae|refine aO rfl ?_|exact cB|intro _
  ·have hil:iclR=(d.2.2.2.2.2.2.2.2.2.2.1).length:=qO
   have hcd:decide ((iclR:Int)<((d.2.2.2.2.2.2.2.2.2.2.1).length:Int))=false:=decide_eq_false qO
   rw [show (d.2.2.2.2.2.2.2.2.2.2.1).take iclR=d.2.2.2.2.2.2.2.2.2.2.1 by rw [hil,List.take_length]] at h
   obtain ⟨b2,hb2⟩:∃ b,b=b1++(d.2.2.2.2.2.2.2.2.2.2.1).flatMap BA:=⟨_,rfl⟩
   rw [←hb2] at h
   have hlb2:b2.length≤114:=by
    rw [hb2,List.length_append]
    have:=dT (l:=d.2.2.2.2.2.2.2.2.2.2.1) (g:=BA) (c:=1) fun _ _=>Nat.le_refl _
    omega
   refine aD h ?_
   clear h
   repeat' first|kernel_rfl|apply Bt.mk|refine nx ?_|apply au|apply aR|apply ae|refine aO rfl ?_|exact cB|intro _
   refine bn fun a w h=> ?_
   have e0:b2++((d.2.2.2.2.2.2.2.2.2.2.2.2).take 0).flatMap zw=b2:=by simp
   refine aY (fun kk a u=>∃ k0:Nat,k0+kk=(d.2.2.2.2.2.2.2.2.2.2.2.2).length∧TS w0 (r1::X) [(r1, .tr ai [] w0.heap.size d)] [(3, .to Rp.frac 27 [] w0.heap.size w0.heap.size (b2++((d.2.2.2.2.2.2.2.2.2.2.2.2).take k0).flatMap zw)),(6, .is (.int .i64 (k0:Int))),(1, .is (.pointer (some ⟨r1,0,none⟩)))] 159 a u) (d.2.2.2.2.2.2.2.2.2.2.2.2).length ⟨0,by omega,by rw [e0];exact h.keep [3,6,1]⟩ ?_
   clear h e0
   rintro kk a u ⟨k0,hik0,h⟩
   by_cases hlt:k0<(d.2.2.2.2.2.2.2.2.2.2.2.2).length
   ·obtain ⟨y,hxy⟩:∃ x,(d.2.2.2.2.2.2.2.2.2.2.2.2)[k0]? =some x:=⟨_,List.getElem?_eq_getElem hlt⟩
    have hcd:decide ((k0:Int)<((d.2.2.2.2.2.2.2.2.2.2.2.2).length:Int))=true:=decide_eq_true qO
    have hw:IntKind.i64.wrap ((k0:Int)+1)=((k0+1:Nat):Int):=az qO qO
    have hx:=hxy
    have hy:=hc.yr y (List.mem_of_getElem? hx)
    obtain ⟨c0,hc0⟩:∃ b,b=b2++((d.2.2.2.2.2.2.2.2.2.2.2.2).take k0).flatMap zw:=⟨_,rfl⟩
    rw [←hc0] at h
    have hlc0:c0.length≤114+45*240:=by
     rw [hc0,List.length_append]
     have h1:=eU (l:=d.2.2.2.2.2.2.2.2.2.2.2.2) (i:=k0) (g:=zw) (c:=240) fun y hy=>CJ (hc.yr y hy)
     have h2:(d.2.2.2.2.2.2.2.2.2.2.2.2).length*240≤45*240:=Nat.mul_le_mul hc.ys (Nat.le_refl _)
     omega
    refine aD h ?_
    clear h
    repeat' first|kernel_rfl|apply Bt.mk|refine nx ?_|apply au|apply aR|apply ae|refine aO rfl ?_|exact cB|intro _
    refine bn fun a w h=> ?_
    rename_i r7
    obtain ⟨hy1,hy2,hy3,hy4,hy5⟩:=hy
    have e0:c0++((y.2.1).take 0).flatMap xL=c0:=by simp
    refine aY (fun k1 a u=>∃ i1:Nat,i1+k1=(y.2.1).length∧TS w0 (r7::r1::X) [(r7, .tr aA [] w0.heap.size y),(r1, .tr ai [] w0.heap.size d)] [(3, .to Rp.frac 27 [] w0.heap.size w0.heap.size (c0++((y.2.1).take i1).flatMap xL)),(8, .is (.int .i64 (i1:Int))),(6, .is (.int .i64 (k0:Int))),(7, .is (.pointer (some ⟨r7,0,none⟩))),(1, .is (.pointer (some ⟨r1,0,none⟩)))] 159 a u) (y.2.1).length ⟨0,by omega,by rw [e0];exact h.keep [3,8,6,7,1]⟩ ?_
    clear h e0
    rintro k1 a u ⟨i1,hii1,h⟩
    by_cases hlt:i1<(y.2.1).length
    ·obtain ⟨x,hx⟩:∃ x,(y.2.1)[i1]? =some x:=⟨_,List.getElem?_eq_getElem hlt⟩
     have hcd:decide ((i1:Int)<((y.2.1).length:Int))=true:=decide_eq_true qO
     have hw:IntKind.i64.wrap ((i1:Int)+1)=((i1+1:Nat):Int):=az qO qO
     have hlen:(c0++((y.2.1).take i1).flatMap xL).length≤40000:=by
      have:=eU (l:=y.2.1) (i:=i1) (g:=xL) (c:=1) fun _ _=>Nat.le_refl _
      rw [List.length_append]
      omega
     have htk:=eZ (b:=c0) (g:=xL) hx rfl
     refine aD h ?_
     clear h
     repeat' first|kernel_rfl|(refine dL [8,6,7,1] (Nat.le_refl _) (Nat.le_refl _) (fun _ _ ht=>ht.mem.below.size) iE (by simp only [List.length_cons,List.length_nil];omega) qD qK ?_)|exact bq fun _ _ h=>⟨k1 - 1,by omega,i1+1,by omega,by rw [←htk];exact h.keep [3,8,6,7,1]⟩|apply Bt.mk|refine nx ?_|apply au|apply aR|apply ae|refine aO rfl ?_|exact cB|intro _
    ·have hil:i1=(y.2.1).length:=qO
     have hcd:decide ((i1:Int)<((y.2.1).length:Int))=false:=decide_eq_false qO
     rw [show (y.2.1).take i1=y.2.1 by rw [hil,List.take_length]] at h
     obtain ⟨c1,hc1⟩:∃ b,b=c0++(y.2.1).flatMap xL:=⟨_,rfl⟩
     rw [←hc1] at h
     have hlc1:c1.length≤10954:=by
      rw [hc1,List.length_append]
      have:=dT (l:=y.2.1) (g:=xL) (c:=1) fun _ _=>Nat.le_refl _
      omega
     refine aD h ?_
     clear h
     repeat' first|kernel_rfl|apply Bt.mk|refine nx ?_|apply au|apply aR|apply ae|refine aO rfl ?_|exact cB|intro _
     refine bn fun a w h=> ?_
     have e0:c1++((y.2.2.1).take 0).flatMap AZ=c1:=by simp
     refine aY (fun k2 a u=>∃ i2:Nat,i2+k2=(y.2.2.1).length∧TS w0 (r7::r1::X) [(r7, .tr aA [] w0.heap.size y),(r1, .tr ai [] w0.heap.size d)] [(3, .to Rp.frac 27 [] w0.heap.size w0.heap.size (c1++((y.2.2.1).take i2).flatMap AZ)),(9, .is (.int .i64 (i2:Int))),(6, .is (.int .i64 (k0:Int))),(7, .is (.pointer (some ⟨r7,0,none⟩))),(1, .is (.pointer (some ⟨r1,0,none⟩)))] 159 a u) (y.2.2.1).length ⟨0,by omega,by rw [e0];exact h.keep [3,9,6,7,1]⟩ ?_
     clear h e0
     rintro k2 a u ⟨i2,hii2,h⟩
     by_cases hlt:i2<(y.2.2.1).length
     ·obtain ⟨x,hx⟩:∃ x,(y.2.2.1)[i2]? =some x:=⟨_,List.getElem?_eq_getElem hlt⟩
      have hcd:decide ((i2:Int)<((y.2.2.1).length:Int))=true:=decide_eq_true qO
      have hw:IntKind.i64.wrap ((i2:Int)+1)=((i2+1:Nat):Int):=az qO qO
      have hlen:(c1++((y.2.2.1).take i2).flatMap AZ).length≤40000:=by
       have:=eU (l:=y.2.2.1) (i:=i2) (g:=AZ) (c:=1) fun _ _=>Nat.le_refl _
       rw [List.length_append]
       omega
      have htk:=eZ (b:=c1) (g:=AZ) hx rfl
      refine aD h ?_
      clear h
      repeat' first|kernel_rfl|(refine dL [9,6,7,1] (Nat.le_refl _) (Nat.le_refl _) (fun _ _ ht=>ht.mem.below.size) iE (by simp only [List.length_cons,List.length_nil];omega) qD qK ?_)|exact bq fun _ _ h=>⟨k2 - 1,by omega,i2+1,by omega,by rw [←htk];exact h.keep [3,9,6,7,1]⟩|apply Bt.mk|refine nx ?_|apply au|apply aR|apply ae|refine aO rfl ?_|exact cB|intro _
     ·have hil:i2=(y.2.2.1).length:=qO
      have hcd:decide ((i2:Int)<((y.2.2.1).length:Int))=false:=decide_eq_false qO
      rw [show (y.2.2.1).take i2=y.2.2.1 by rw [hil,List.take_length]] at h
      obtain ⟨c2,hc2⟩:∃ b,b=c1++(y.2.2.1).flatMap AZ:=⟨_,rfl⟩
      rw [←hc2] at h
      have hlc2:c2.length≤10994:=by
       rw [hc2,List.length_append]
       have:=dT (l:=y.2.2.1) (g:=AZ) (c:=1) fun _ _=>Nat.le_refl _
       omega
      refine aD h ?_
      clear h
      repeat' first|kernel_rfl|apply Bt.mk|refine nx ?_|apply au|apply aR|apply ae|refine aO rfl ?_|exact cB|intro _
      refine bn fun a w h=> ?_
      have e0:c2++((y.2.2.2.1).take 0).flatMap AU=c2:=by simp
      refine aY (fun k3 a u=>∃ i3:Nat,i3+k3=(y.2.2.2.1).length∧TS w0 (r7::r1::X) [(r7, .tr aA [] w0.heap.size y),(r1, .tr ai [] w0.heap.size d)] [(3, .to Rp.frac 27 [] w0.heap.size w0.heap.size (c2++((y.2.2.2.1).take i3).flatMap AU)),(10, .is (.int .i64 (i3:Int))),(6, .is (.int .i64 (k0:Int))),(7, .is (.pointer (some ⟨r7,0,none⟩))),(1, .is (.pointer (some ⟨r1,0,none⟩)))] 159 a u) (y.2.2.2.1).length ⟨0,by omega,by rw [e0];exact h.keep [3,10,6,7,1]⟩ ?_
      clear h e0
      rintro k3 a u ⟨i3,hii3,h⟩
      by_cases hlt:i3<(y.2.2.2.1).length
      ·obtain ⟨x,hx⟩:∃ x,(y.2.2.2.1)[i3]? =some x:=⟨_,List.getElem?_eq_getElem hlt⟩
       have hcd:decide ((i3:Int)<((y.2.2.2.1).length:Int))=true:=decide_eq_true qO
       have hw:IntKind.i64.wrap ((i3:Int)+1)=((i3+1:Nat):Int):=az qO qO
       have hlen:(c2++((y.2.2.2.1).take i3).flatMap AU).length≤40000:=by
        have:=eU (l:=y.2.2.2.1) (i:=i3) (g:=AU) (c:=1) fun _ _=>Nat.le_refl _
        rw [List.length_append]
        omega
       have htk:=eZ (b:=c2) (g:=AU) hx rfl
       refine aD h ?_
       clear h
       repeat' first|kernel_rfl|(refine dL [10,6,7,1] (Nat.le_refl _) (Nat.le_refl _) (fun _ _ ht=>ht.mem.below.size) iE (by simp only [List.length_cons,List.length_nil];omega) qD qK ?_)|exact bq fun _ _ h=>⟨k3 - 1,by omega,i3+1,by omega,by rw [←htk];exact h.keep [3,10,6,7,1]⟩|apply Bt.mk|refine nx ?_|apply au|apply aR|apply ae|refine aO rfl ?_|exact cB|intro _
      ·have hil:i3=(y.2.2.2.1).length:=qO
       have hcd:decide ((i3:Int)<((y.2.2.2.1).length:Int))=false:=decide_eq_false qO
       rw [show (y.2.2.2.1).take i3=y.2.2.2.1 by rw [hil,List.take_length]] at h
       obtain ⟨c3,hc3⟩:∃ b,b=c2++(y.2.2.2.1).flatMap AU:=⟨_,rfl⟩
       rw [←hc3] at h
       have hlc3:c3.length≤11034:=by
        rw [hc3,List.length_append]
        have:=dT (l:=y.2.2.2.1) (g:=AU) (c:=1) fun _ _=>Nat.le_refl _
        omega
       refine aD h ?_
       clear h
       repeat' first|kernel_rfl|apply Bt.mk|refine nx ?_|apply au|apply aR|apply ae|refine aO rfl ?_|exact cB|intro _
       refine bn fun a w h=> ?_
       have e0:c3++((y.2.2.2.2.1).take 0).flatMap z5=c3:=by simp
       refine aY (fun k4 a u=>∃ i4:Nat,i4+k4=(y.2.2.2.2.1).length∧TS w0 (r7::r1::X) [(r7, .tr aA [] w0.heap.size y),(r1, .tr ai [] w0.heap.size d)] [(3, .to Rp.frac 27 [] w0.heap.size w0.heap.size (c3++((y.2.2.2.2.1).take i4).flatMap z5)),(11, .is (.int .i64 (i4:Int))),(6, .is (.int .i64 (k0:Int))),(7, .is (.pointer (some ⟨r7,0,none⟩))),(1, .is (.pointer (some ⟨r1,0,none⟩)))] 159 a u) (y.2.2.2.2.1).length ⟨0,by omega,by rw [e0];exact h.keep [3,11,6,7,1]⟩ ?_
       clear h e0
       rintro k4 a u ⟨i4,hii4,h⟩
       by_cases hlt:i4<(y.2.2.2.2.1).length
       ·obtain ⟨x,hx⟩:∃ x,(y.2.2.2.2.1)[i4]? =some x:=⟨_,List.getElem?_eq_getElem hlt⟩
        have hcd:decide ((i4:Int)<((y.2.2.2.2.1).length:Int))=true:=decide_eq_true qO
        have hw:IntKind.i64.wrap ((i4:Int)+1)=((i4+1:Nat):Int):=az qO qO
        have hlen:(c3++((y.2.2.2.2.1).take i4).flatMap z5).length≤40000:=by
         have:=eU (l:=y.2.2.2.2.1) (i:=i4) (g:=z5) (c:=2) fun _ _=>Nat.le_refl _
         rw [List.length_append]
         omega
        have htk:=eZ (b:=c3) (g:=z5) hx rfl
        refine aD h ?_
        clear h
        repeat' first|kernel_rfl|(refine dL [11,6,7,1] (Nat.le_refl _) (Nat.le_refl _) (fun _ _ ht=>ht.mem.below.size) iE (by simp only [List.length_cons,List.length_nil];omega) qD qK ?_)|exact bq fun _ _ h=>⟨k4 - 1,by omega,i4+1,by omega,by rw [←htk];exact h.keep [3,11,6,7,1]⟩|apply Bt.mk|refine nx ?_|apply ab (id:=29) [] [] 14|apply au|apply aR|apply ae|refine aO rfl ?_|exact cB|intro _
       ·have hil:i4=(y.2.2.2.2.1).length:=qO
        have hcd:decide ((i4:Int)<((y.2.2.2.2.1).length:Int))=false:=decide_eq_false qO
        rw [show (y.2.2.2.2.1).take i4=y.2.2.2.2.1 by rw [hil,List.take_length]] at h
        obtain ⟨c4,hc4⟩:∃ b,b=c3++(y.2.2.2.2.1).flatMap z5:=⟨_,rfl⟩
        rw [←hc4] at h
        have hlc4:c4.length≤11114:=by
         rw [hc4,List.length_append]
         have:=dT (l:=y.2.2.2.2.1) (g:=z5) (c:=2) fun _ _=>Nat.le_refl _
         omega
        refine aD h ?_
        clear h
        repeat' first|kernel_rfl|apply Bt.mk|refine nx ?_|apply au|apply aR|apply ae|refine aO rfl ?_|exact cB|intro _
        refine bn fun a w h=> ?_
        have e0:c4++((y.2.2.2.2.2).take 0).flatMap AX=c4:=by simp
        refine aY (fun k5 a u=>∃ i5:Nat,i5+k5=(y.2.2.2.2.2).length∧TS w0 (r7::r1::X) [(r7, .tr aA [] w0.heap.size y),(r1, .tr ai [] w0.heap.size d)] [(3, .to Rp.frac 27 [] w0.heap.size w0.heap.size (c4++((y.2.2.2.2.2).take i5).flatMap AX)),(12, .is (.int .i64 (i5:Int))),(6, .is (.int .i64 (k0:Int))),(7, .is (.pointer (some ⟨r7,0,none⟩))),(1, .is (.pointer (some ⟨r1,0,none⟩)))] 159 a u) (y.2.2.2.2.2).length ⟨0,by omega,by rw [e0];exact h.keep [3,12,6,7,1]⟩ ?_
        clear h e0
        rintro k5 a u ⟨i5,hii5,h⟩
        by_cases hlt:i5<(y.2.2.2.2.2).length
        ·obtain ⟨x,hx⟩:∃ x,(y.2.2.2.2.2)[i5]? =some x:=⟨_,List.getElem?_eq_getElem hlt⟩
         have hcd:decide ((i5:Int)<((y.2.2.2.2.2).length:Int))=true:=decide_eq_true qO
         have hw:IntKind.i64.wrap ((i5:Int)+1)=((i5+1:Nat):Int):=az qO qO
         have hlen:(c4++((y.2.2.2.2.2).take i5).flatMap AX).length≤40000:=by
          have:=eU (l:=y.2.2.2.2.2) (i:=i5) (g:=AX) (c:=1) fun _ _=>Nat.le_refl _
          rw [List.length_append]
          omega
         have htk:=eZ (b:=c4) (g:=AX) hx rfl
         refine aD h ?_
         clear h
         repeat' first|kernel_rfl|(refine dL [12,6,7,1] (Nat.le_refl _) (Nat.le_refl _) (fun _ _ ht=>ht.mem.below.size) iE (by simp only [List.length_cons,List.length_nil];omega) qD qK ?_)|exact bq fun _ _ h=>⟨k5 - 1,by omega,i5+1,by omega,by rw [←htk];exact h.keep [3,12,6,7,1]⟩|apply Bt.mk|refine nx ?_|apply au|apply aR|apply ae|refine aO rfl ?_|exact cB|intro _
        ·have hil:i5=(y.2.2.2.2.2).length:=qO
         have hcd:decide ((i5:Int)<((y.2.2.2.2.2).length:Int))=false:=decide_eq_false qO
         rw [show (y.2.2.2.2.2).take i5=y.2.2.2.2.2 by rw [hil,List.take_length]] at h
         obtain ⟨c5,hc5⟩:∃ b,b=c4++(y.2.2.2.2.2).flatMap AX:=⟨_,rfl⟩
         rw [←hc5] at h
         have hlc5:c5.length≤11154:=by
          rw [hc5,List.length_append]
          have:=dT (l:=y.2.2.2.2.2) (g:=AX) (c:=1) fun _ _=>Nat.le_refl _
          omega
         have htk:c5=b2++((d.2.2.2.2.2.2.2.2.2.2.2.2).take (k0+1)).flatMap zw:=by
          rw [←eZ hxy rfl,←hc0,hc5,hc4,hc3,hc2,hc1]
          unfold zw
          simp only [List.append_assoc]
         rw [htk] at h
         refine aD h ?_
         clear h
         repeat' first|kernel_rfl|exact bq fun _ _ h=>⟨kk - 1,by omega,k0+1,by omega,h.drop.keep [3,6,1]⟩|apply Bt.mk|refine nx ?_|apply au|apply aR|apply ae|refine aO rfl ?_|exact cB|intro _
   ·have hil:k0=(d.2.2.2.2.2.2.2.2.2.2.2.2).length:=qO
    have hcd:decide ((k0:Int)<((d.2.2.2.2.2.2.2.2.2.2.2.2).length:Int))=false:=decide_eq_false qO
    rw [show (d.2.2.2.2.2.2.2.2.2.2.2.2).take k0=d.2.2.2.2.2.2.2.2.2.2.2.2 by rw [hil,List.take_length]] at h
    have efin:b2++(d.2.2.2.2.2.2.2.2.2.2.2.2).flatMap zw=m7 d:=by
     rw [hb2,hb1,hb0]
     rfl
    rw [efin] at h
    refine aD h ?_
    clear h
    repeat' first|kernel_rfl|apply Bt.mk|refine nx ?_|apply au|apply aR|apply ae|refine aO rfl ?_|exact ⟨fun _ _=>fun _ h=>AQ h⟩|exact cB|intro _
theorem Br {d:aI} (hc:vD d):cw Tryz.prog S1 27 [0] [.ra ai d] (fun _=> .rw Rp.str tt (ot d)):=by
 refine CZ (As':=fun B=>[.tr ai [] B d]) Tryz.func27 rfl Tryz.ntmps27 qE (fun _ _=>by kernel_rfl) (fun {X w vs} ha=>by
  obtain ⟨v,rfl,h⟩:=ha.one
  exact ⟨rt h,trivial⟩) fun X w0 hE=> ?_
 simp only [ar,Nat.zero_add,Nat.reduceAdd]
 repeat' first|kernel_rfl|(refine dL [1] (Nat.le_refl _) (Nat.le_refl _) (fun _ _ ht=>ht.mem.below.size) gP (by have:=hc.en;simp only [List.length_cons,List.length_nil];omega) qD qK ?_)|apply Bt.mk|refine nx ?_|apply au|apply aR|apply ae|refine aO rfl ?_|exact cB|intro _
 refine bn fun a w h=> ?_
 rename_i r1
 obtain ⟨b0,hb0⟩:∃ b,b=([d.1,d.2.1]++d.2.2.2.2.2.2.2.2.2.2.2.1):=⟨_,rfl⟩
 have hl0:b0.length≤262:=by rw [hb0];have:=hc.en;simp<;>omega
 have hcb:=hc.br
 have hcc:=hc.cl
 have hcs:=hc.ys
 have e0:b0++((d.2.2.2.2.2.2.2.2.2.2.1).take 0).flatMap DC=b0:=by simp
 refine aY (fun kclS a u=>∃ iclS:Nat,iclS+kclS=(d.2.2.2.2.2.2.2.2.2.2.1).length∧TS w0 (r1::X) [(r1, .tr ai [] w0.heap.size d)] [(3, .to Rp.str 9 [] w0.heap.size w0.heap.size (b0++((d.2.2.2.2.2.2.2.2.2.2.1).take iclS).flatMap DC)),(4, .is (.int .i64 (iclS:Int))),(1, .is (.pointer (some ⟨r1,0,none⟩)))] 150 a u) (d.2.2.2.2.2.2.2.2.2.2.1).length ⟨0,by omega,by rw [e0,hb0];exact h.keep [3,4,1]⟩ ?_
 clear h e0
 rintro kclS a u ⟨iclS,hiiclS,h⟩
 by_cases hlt:iclS<(d.2.2.2.2.2.2.2.2.2.2.1).length
 ·obtain ⟨x,hx⟩:∃ x,(d.2.2.2.2.2.2.2.2.2.2.1)[iclS]? =some x:=⟨_,List.getElem?_eq_getElem hlt⟩
  have hcd:decide ((iclS:Int)<((d.2.2.2.2.2.2.2.2.2.2.1).length:Int))=true:=decide_eq_true qO
  have hw:IntKind.i64.wrap ((iclS:Int)+1)=((iclS+1:Nat):Int):=az qO qO
  have hlen:(b0++((d.2.2.2.2.2.2.2.2.2.2.1).take iclS).flatMap DC).length≤40000:=by
   have:=eU (l:=d.2.2.2.2.2.2.2.2.2.2.1) (i:=iclS) (g:=DC) (c:=1) fun _ _=>Nat.le_refl _
   rw [List.length_append]
   omega
  have htk:=eZ (b:=b0) (g:=DC) hx rfl
  refine aD h ?_
  clear h
  repeat' first|kernel_rfl|(refine dL [4,1] (Nat.le_refl _) (Nat.le_refl _) (fun _ _ ht=>ht.mem.below.size) gP (by simp only [List.length_cons,List.length_nil];omega) qD qK ?_)|exact bq fun _ _ h=>⟨kclS - 1,by omega,iclS+1,by omega,by rw [←htk];exact h.keep [3,4,1]⟩|apply Bt.mk|refine nx ?_|apply au|apply aR|apply ae|refine aO rfl ?_|exact cB|intro _
 ·have hil:iclS=(d.2.2.2.2.2.2.2.2.2.2.1).length:=qO
  have hcd:decide ((iclS:Int)<((d.2.2.2.2.2.2.2.2.2.2.1).length:Int))=false:=decide_eq_false qO
  rw [show (d.2.2.2.2.2.2.2.2.2.2.1).take iclS=d.2.2.2.2.2.2.2.2.2.2.1 by rw [hil,List.take_length]] at h
  obtain ⟨b1,hb1⟩:∃ b,b=b0++(d.2.2.2.2.2.2.2.2.2.2.1).flatMap DC:=⟨_,rfl⟩
  rw [←hb1] at h
  have hlb1:b1.length≤332:=by
   rw [hb1,List.length_append]
   have:=dT (l:=d.2.2.2.2.2.2.2.2.2.2.1) (g:=DC) (c:=1) fun _ _=>Nat.le_refl _
   omega
  refine aD h ?_
  clear h
  repeat' first|kernel_rfl|apply Bt.mk|refine nx ?_|apply au|apply aR|apply ae|refine aO rfl ?_|exact cB|intro _
  refine bn fun a w h=> ?_
  have e0:b1++((d.2.2.2.2.2.2.2.2.2.2.2.2).take 0).flatMap AW=b1:=by simp
  refine aY (fun kk a u=>∃ k0:Nat,k0+kk=(d.2.2.2.2.2.2.2.2.2.2.2.2).length∧TS w0 (r1::X) [(r1, .tr ai [] w0.heap.size d)] [(3, .to Rp.str 9 [] w0.heap.size w0.heap.size (b1++((d.2.2.2.2.2.2.2.2.2.2.2.2).take k0).flatMap AW)),(5, .is (.int .i64 (k0:Int))),(1, .is (.pointer (some ⟨r1,0,none⟩)))] 150 a u) (d.2.2.2.2.2.2.2.2.2.2.2.2).length ⟨0,by omega,by rw [e0];exact h.keep [3,5,1]⟩ ?_
  clear h e0
  rintro kk a u ⟨k0,hik0,h⟩
  by_cases hlt:k0<(d.2.2.2.2.2.2.2.2.2.2.2.2).length
  ·obtain ⟨y,hxy⟩:∃ x,(d.2.2.2.2.2.2.2.2.2.2.2.2)[k0]? =some x:=⟨_,List.getElem?_eq_getElem hlt⟩
   have hcd:decide ((k0:Int)<((d.2.2.2.2.2.2.2.2.2.2.2.2).length:Int))=true:=decide_eq_true qO
   have hw:IntKind.i64.wrap ((k0:Int)+1)=((k0+1:Nat):Int):=az qO qO
   have hx:=hxy
   have hy:=hc.yr y (List.mem_of_getElem? hx)
   obtain ⟨c0,hc0⟩:∃ b,b=b1++((d.2.2.2.2.2.2.2.2.2.2.2.2).take k0).flatMap AW:=⟨_,rfl⟩
   rw [←hc0] at h
   have hlc0:c0.length≤332+45*400:=by
    rw [hc0,List.length_append]
    have h1:=eU (l:=d.2.2.2.2.2.2.2.2.2.2.2.2) (i:=k0) (g:=AW) (c:=400) fun y hy=>BG (hc.yr y hy)
    have h2:(d.2.2.2.2.2.2.2.2.2.2.2.2).length*400≤45*400:=Nat.mul_le_mul hc.ys (Nat.le_refl _)
    omega
   refine aD h ?_
   clear h
   repeat' first|kernel_rfl|apply Bt.mk|refine nx ?_|apply au|apply aR|apply ae|refine aO rfl ?_|exact cB|intro _
   refine bn fun a w h=> ?_
   rename_i r7
   obtain ⟨hy1,hy2,hy3,hy4,hy5⟩:=hy
   have e0:c0++((y.2.1).take 0).flatMap Dl=c0:=by simp
   refine aY (fun k1 a u=>∃ i1:Nat,i1+k1=(y.2.1).length∧TS w0 (r7::r1::X) [(r7, .tr aA [] w0.heap.size y),(r1, .tr ai [] w0.heap.size d)] [(3, .to Rp.str 9 [] w0.heap.size w0.heap.size (c0++((y.2.1).take i1).flatMap Dl)),(7, .is (.int .i64 (i1:Int))),(5, .is (.int .i64 (k0:Int))),(6, .is (.pointer (some ⟨r7,0,none⟩))),(1, .is (.pointer (some ⟨r1,0,none⟩)))] 150 a u) (y.2.1).length ⟨0,by omega,by rw [e0];exact h.keep [3,7,5,6,1]⟩ ?_
   clear h e0
   rintro k1 a u ⟨i1,hii1,h⟩
   by_cases hlt:i1<(y.2.1).length
   ·obtain ⟨x,hx⟩:∃ x,(y.2.1)[i1]? =some x:=⟨_,List.getElem?_eq_getElem hlt⟩
    have hcd:decide ((i1:Int)<((y.2.1).length:Int))=true:=decide_eq_true qO
    have hw:IntKind.i64.wrap ((i1:Int)+1)=((i1+1:Nat):Int):=az qO qO
    have hlen:(c0++((y.2.1).take i1).flatMap Dl).length≤40000:=by
     have:=eU (l:=y.2.1) (i:=i1) (g:=Dl) (c:=2) fun _ _=>Nat.le_refl _
     rw [List.length_append]
     omega
    have htk:=eZ (b:=c0) (g:=Dl) hx rfl
    refine aD h ?_
    clear h
    repeat' first|kernel_rfl|(refine dL [7,5,6,1] (Nat.le_refl _) (Nat.le_refl _) (fun _ _ ht=>ht.mem.below.size) gP (by simp only [List.length_cons,List.length_nil];omega) qD qK ?_)|exact bq fun _ _ h=>⟨k1 - 1,by omega,i1+1,by omega,by rw [←htk];exact h.keep [3,7,5,6,1]⟩|apply Bt.mk|refine nx ?_|apply ab (id:=14) [] [] 14|apply au|apply aR|apply ae|refine aO rfl ?_|exact cB|intro _
   ·have hil:i1=(y.2.1).length:=qO
    have hcd:decide ((i1:Int)<((y.2.1).length:Int))=false:=decide_eq_false qO
    rw [show (y.2.1).take i1=y.2.1 by rw [hil,List.take_length]] at h
    obtain ⟨c1,hc1⟩:∃ b,b=c0++(y.2.1).flatMap Dl:=⟨_,rfl⟩
    rw [←hc1] at h
    have hlc1:c1.length≤18412:=by
     rw [hc1,List.length_append]
     have:=dT (l:=y.2.1) (g:=Dl) (c:=2) fun _ _=>Nat.le_refl _
     omega
    refine aD h ?_
    clear h
    repeat' first|kernel_rfl|apply Bt.mk|refine nx ?_|apply au|apply aR|apply ae|refine aO rfl ?_|exact cB|intro _
    refine bn fun a w h=> ?_
    have e0:c1++((y.2.2.1).take 0).flatMap BB=c1:=by simp
    refine aY (fun k2 a u=>∃ i2:Nat,i2+k2=(y.2.2.1).length∧TS w0 (r7::r1::X) [(r7, .tr aA [] w0.heap.size y),(r1, .tr ai [] w0.heap.size d)] [(3, .to Rp.str 9 [] w0.heap.size w0.heap.size (c1++((y.2.2.1).take i2).flatMap BB)),(8, .is (.int .i64 (i2:Int))),(5, .is (.int .i64 (k0:Int))),(6, .is (.pointer (some ⟨r7,0,none⟩))),(1, .is (.pointer (some ⟨r1,0,none⟩)))] 150 a u) (y.2.2.1).length ⟨0,by omega,by rw [e0];exact h.keep [3,8,5,6,1]⟩ ?_
    clear h e0
    rintro k2 a u ⟨i2,hii2,h⟩
    by_cases hlt:i2<(y.2.2.1).length
    ·obtain ⟨x,hx⟩:∃ x,(y.2.2.1)[i2]? =some x:=⟨_,List.getElem?_eq_getElem hlt⟩
     have hcd:decide ((i2:Int)<((y.2.2.1).length:Int))=true:=decide_eq_true qO
     have hw:IntKind.i64.wrap ((i2:Int)+1)=((i2+1:Nat):Int):=az qO qO
     have hlen:(c1++((y.2.2.1).take i2).flatMap BB).length≤40000:=by
      have:=eU (l:=y.2.2.1) (i:=i2) (g:=BB) (c:=2) fun _ _=>Nat.le_refl _
      rw [List.length_append]
      omega
     have htk:=eZ (b:=c1) (g:=BB) hx rfl
     refine aD h ?_
     clear h
     repeat' first|kernel_rfl|(refine dL [8,5,6,1] (Nat.le_refl _) (Nat.le_refl _) (fun _ _ ht=>ht.mem.below.size) gP (by simp only [List.length_cons,List.length_nil];omega) qD qK ?_)|exact bq fun _ _ h=>⟨k2 - 1,by omega,i2+1,by omega,by rw [←htk];exact h.keep [3,8,5,6,1]⟩|apply Bt.mk|refine nx ?_|apply ab (id:=18) [] [] 14|apply au|apply aR|apply ae|refine aO rfl ?_|exact cB|intro _
    ·have hil:i2=(y.2.2.1).length:=qO
     have hcd:decide ((i2:Int)<((y.2.2.1).length:Int))=false:=decide_eq_false qO
     rw [show (y.2.2.1).take i2=y.2.2.1 by rw [hil,List.take_length]] at h
     obtain ⟨c2,hc2⟩:∃ b,b=c1++(y.2.2.1).flatMap BB:=⟨_,rfl⟩
     rw [←hc2] at h
     have hlc2:c2.length≤18492:=by
      rw [hc2,List.length_append]
      have:=dT (l:=y.2.2.1) (g:=BB) (c:=2) fun _ _=>Nat.le_refl _
      omega
     refine aD h ?_
     clear h
     repeat' first|kernel_rfl|apply Bt.mk|refine nx ?_|apply au|apply aR|apply ae|refine aO rfl ?_|exact cB|intro _
     refine bn fun a w h=> ?_
     have e0:c2++((y.2.2.2.1).take 0).flatMap Cm=c2:=by simp
     refine aY (fun k3 a u=>∃ i3:Nat,i3+k3=(y.2.2.2.1).length∧TS w0 (r7::r1::X) [(r7, .tr aA [] w0.heap.size y),(r1, .tr ai [] w0.heap.size d)] [(3, .to Rp.str 9 [] w0.heap.size w0.heap.size (c2++((y.2.2.2.1).take i3).flatMap Cm)),(9, .is (.int .i64 (i3:Int))),(5, .is (.int .i64 (k0:Int))),(6, .is (.pointer (some ⟨r7,0,none⟩))),(1, .is (.pointer (some ⟨r1,0,none⟩)))] 150 a u) (y.2.2.2.1).length ⟨0,by omega,by rw [e0];exact h.keep [3,9,5,6,1]⟩ ?_
     clear h e0
     rintro k3 a u ⟨i3,hii3,h⟩
     by_cases hlt:i3<(y.2.2.2.1).length
     ·obtain ⟨x,hx⟩:∃ x,(y.2.2.2.1)[i3]? =some x:=⟨_,List.getElem?_eq_getElem hlt⟩
      have hcd:decide ((i3:Int)<((y.2.2.2.1).length:Int))=true:=decide_eq_true qO
      have hw:IntKind.i64.wrap ((i3:Int)+1)=((i3+1:Nat):Int):=az qO qO
      have hlen:(c2++((y.2.2.2.1).take i3).flatMap Cm).length≤40000:=by
       have:=eU (l:=y.2.2.2.1) (i:=i3) (g:=Cm) (c:=4) fun _ _=>Nat.le_refl _
       rw [List.length_append]
       omega
      have htk:=eZ (b:=c2) (g:=Cm) hx rfl
      refine aD h ?_
      clear h
      repeat' first|kernel_rfl|(refine dL [9,5,6,1] (Nat.le_refl _) (Nat.le_refl _) (fun _ _ ht=>ht.mem.below.size) gP (by simp only [List.length_cons,List.length_nil];omega) qD qK ?_)|exact bq fun _ _ h=>⟨k3 - 1,by omega,i3+1,by omega,by rw [←htk];exact h.drop.keep [3,9,5,6,1]⟩|apply Bt.mk|refine nx ?_|apply au|apply aR|apply ae|refine aO rfl ?_|exact cB|intro _
     ·have hil:i3=(y.2.2.2.1).length:=qO
      have hcd:decide ((i3:Int)<((y.2.2.2.1).length:Int))=false:=decide_eq_false qO
      rw [show (y.2.2.2.1).take i3=y.2.2.2.1 by rw [hil,List.take_length]] at h
      obtain ⟨c3,hc3⟩:∃ b,b=c2++(y.2.2.2.1).flatMap Cm:=⟨_,rfl⟩
      rw [←hc3] at h
      have hlc3:c3.length≤18652:=by
       rw [hc3,List.length_append]
       have:=dT (l:=y.2.2.2.1) (g:=Cm) (c:=4) fun _ _=>Nat.le_refl _
       omega
      refine aD h ?_
      clear h
      repeat' first|kernel_rfl|apply Bt.mk|refine nx ?_|apply au|apply aR|apply ae|refine aO rfl ?_|exact cB|intro _
      refine bn fun a w h=> ?_
      have e0:c3++((y.2.2.2.2.1).take 0).flatMap BC=c3:=by simp
      refine aY (fun k4 a u=>∃ i4:Nat,i4+k4=(y.2.2.2.2.1).length∧TS w0 (r7::r1::X) [(r7, .tr aA [] w0.heap.size y),(r1, .tr ai [] w0.heap.size d)] [(3, .to Rp.str 9 [] w0.heap.size w0.heap.size (c3++((y.2.2.2.2.1).take i4).flatMap BC)),(11, .is (.int .i64 (i4:Int))),(5, .is (.int .i64 (k0:Int))),(6, .is (.pointer (some ⟨r7,0,none⟩))),(1, .is (.pointer (some ⟨r1,0,none⟩)))] 150 a u) (y.2.2.2.2.1).length ⟨0,by omega,by rw [e0];exact h.keep [3,11,5,6,1]⟩ ?_
      clear h e0
      rintro k4 a u ⟨i4,hii4,h⟩
      by_cases hlt:i4<(y.2.2.2.2.1).length
      ·obtain ⟨x,hx⟩:∃ x,(y.2.2.2.2.1)[i4]? =some x:=⟨_,List.getElem?_eq_getElem hlt⟩
       have hcd:decide ((i4:Int)<((y.2.2.2.2.1).length:Int))=true:=decide_eq_true qO
       have hw:IntKind.i64.wrap ((i4:Int)+1)=((i4+1:Nat):Int):=az qO qO
       have hlen:(c3++((y.2.2.2.2.1).take i4).flatMap BC).length≤40000:=by
        have:=eU (l:=y.2.2.2.2.1) (i:=i4) (g:=BC) (c:=1) fun _ _=>Nat.le_refl _
        rw [List.length_append]
        omega
       have htk:=eZ (b:=c3) (g:=BC) hx rfl
       refine aD h ?_
       clear h
       repeat' first|kernel_rfl|(refine dL [11,5,6,1] (Nat.le_refl _) (Nat.le_refl _) (fun _ _ ht=>ht.mem.below.size) gP (by simp only [List.length_cons,List.length_nil];omega) qD qK ?_)|exact bq fun _ _ h=>⟨k4 - 1,by omega,i4+1,by omega,by rw [←htk];exact h.keep [3,11,5,6,1]⟩|apply Bt.mk|refine nx ?_|apply au|apply aR|apply ae|refine aO rfl ?_|exact cB|intro _
      ·have hil:i4=(y.2.2.2.2.1).length:=qO
       have hcd:decide ((i4:Int)<((y.2.2.2.2.1).length:Int))=false:=decide_eq_false qO
       rw [show (y.2.2.2.2.1).take i4=y.2.2.2.2.1 by rw [hil,List.take_length]] at h
       obtain ⟨c4,hc4⟩:∃ b,b=c3++(y.2.2.2.2.1).flatMap BC:=⟨_,rfl⟩
       rw [←hc4] at h
       have hlc4:c4.length≤18692:=by
        rw [hc4,List.length_append]
        have:=dT (l:=y.2.2.2.2.1) (g:=BC) (c:=1) fun _ _=>Nat.le_refl _
        omega
       refine aD h ?_
       clear h
       repeat' first|kernel_rfl|apply Bt.mk|refine nx ?_|apply au|apply aR|apply ae|refine aO rfl ?_|exact cB|intro _
       refine bn fun a w h=> ?_
       have e0:c4++((y.2.2.2.2.2).take 0).flatMap Co=c4:=by simp
       refine aY (fun k5 a u=>∃ i5:Nat,i5+k5=(y.2.2.2.2.2).length∧TS w0 (r7::r1::X) [(r7, .tr aA [] w0.heap.size y),(r1, .tr ai [] w0.heap.size d)] [(3, .to Rp.str 9 [] w0.heap.size w0.heap.size (c4++((y.2.2.2.2.2).take i5).flatMap Co)),(12, .is (.int .i64 (i5:Int))),(5, .is (.int .i64 (k0:Int))),(6, .is (.pointer (some ⟨r7,0,none⟩))),(1, .is (.pointer (some ⟨r1,0,none⟩)))] 150 a u) (y.2.2.2.2.2).length ⟨0,by omega,by rw [e0];exact h.keep [3,12,5,6,1]⟩ ?_
       clear h e0
       rintro k5 a u ⟨i5,hii5,h⟩
       by_cases hlt:i5<(y.2.2.2.2.2).length
       ·obtain ⟨x,hx⟩:∃ x,(y.2.2.2.2.2)[i5]? =some x:=⟨_,List.getElem?_eq_getElem hlt⟩
        have hcd:decide ((i5:Int)<((y.2.2.2.2.2).length:Int))=true:=decide_eq_true qO
        have hw:IntKind.i64.wrap ((i5:Int)+1)=((i5+1:Nat):Int):=az qO qO
        have hlen:(c4++((y.2.2.2.2.2).take i5).flatMap Co).length≤40000:=by
         have:=eU (l:=y.2.2.2.2.2) (i:=i5) (g:=Co) (c:=1) fun _ _=>Nat.le_refl _
         rw [List.length_append]
         omega
        have htk:=eZ (b:=c4) (g:=Co) hx rfl
        refine aD h ?_
        clear h
        repeat' first|kernel_rfl|(refine dL [12,5,6,1] (Nat.le_refl _) (Nat.le_refl _) (fun _ _ ht=>ht.mem.below.size) gP (by simp only [List.length_cons,List.length_nil];omega) qD qK ?_)|exact bq fun _ _ h=>⟨k5 - 1,by omega,i5+1,by omega,by rw [←htk];exact h.keep [3,12,5,6,1]⟩|apply Bt.mk|refine nx ?_|apply au|apply aR|apply ae|refine aO rfl ?_|exact cB|intro _
       ·have hil:i5=(y.2.2.2.2.2).length:=qO
        have hcd:decide ((i5:Int)<((y.2.2.2.2.2).length:Int))=false:=decide_eq_false qO
        rw [show (y.2.2.2.2.2).take i5=y.2.2.2.2.2 by rw [hil,List.take_length]] at h
        obtain ⟨c5,hc5⟩:∃ b,b=c4++(y.2.2.2.2.2).flatMap Co:=⟨_,rfl⟩
        rw [←hc5] at h
        have hlc5:c5.length≤18732:=by
         rw [hc5,List.length_append]
         have:=dT (l:=y.2.2.2.2.2) (g:=Co) (c:=1) fun _ _=>Nat.le_refl _
         omega
        have htk:c5=b1++((d.2.2.2.2.2.2.2.2.2.2.2.2).take (k0+1)).flatMap AW:=by
         rw [←eZ hxy rfl,←hc0,hc5,hc4,hc3,hc2,hc1]
         unfold AW
         simp only [List.append_assoc]
        rw [htk] at h
        refine aD h ?_
        clear h
        repeat' first|kernel_rfl|exact bq fun _ _ h=>⟨kk - 1,by omega,k0+1,by omega,h.drop.keep [3,5,1]⟩|apply Bt.mk|refine nx ?_|apply au|apply aR|apply ae|refine aO rfl ?_|exact cB|intro _
  ·have hil:k0=(d.2.2.2.2.2.2.2.2.2.2.2.2).length:=qO
   have hcd:decide ((k0:Int)<((d.2.2.2.2.2.2.2.2.2.2.2.2).length:Int))=false:=decide_eq_false qO
   rw [show (d.2.2.2.2.2.2.2.2.2.2.2.2).take k0=d.2.2.2.2.2.2.2.2.2.2.2.2 by rw [hil,List.take_length]] at h
   have efin:b1++(d.2.2.2.2.2.2.2.2.2.2.2.2).flatMap AW=ot d:=by
    rw [hb1,hb0]
    rfl
   rw [efin] at h
   refine aD h ?_
   clear h
   repeat' first|kernel_rfl|apply Bt.mk|refine nx ?_|apply au|apply aR|apply ae|refine aO rfl ?_|exact ⟨fun _ _=>fun _ h=>AQ h⟩|exact cB|intro _
instance:K1 Rp.limbs:=⟨rfl⟩
def iV (x:aP):Bool:= !decide ((6:Int)<(x.1.2.length:Int))&& !decide ((6:Int)<(x.2.2.length:Int))
def tq (t:List UInt8):Bool:= !decide ((70:Int)<(t.length:Int))
theorem gV{α:Type} {p:α→Bool} {l:List α} {x:α} (h:l[i]? =some x) (hp:p x=false):l.all p=false:=by
 rw [Bool.eq_false_iff]
 intro ha
 rw [List.all_eq_true.1 ha x (List.mem_of_getElem? h)] at hp
 cases hp
theorem o9{α:Type} {p:α→Bool} {l:List α} {x:α} (h:l[i]? =some x) (hp:p x=true) (ha:(l.take i).all p=true):(l.take (i+1)).all p=true:=by
 rw [gg h,List.all_append,ha]
 simp [hp]
def qV (d:aI):Bool:= !decide ((20:Int)<(d.2.2.1.length:Int))&&(!decide ((70:Int)<(d.2.2.2.2.2.2.2.2.2.2.1.length:Int))&&(!decide ((260:Int)<(d.2.2.2.2.2.2.2.2.2.2.2.1.length:Int))&& !decide ((45:Int)<(d.2.2.2.2.2.2.2.2.2.2.2.2.length:Int))))
def uk (y:bw):Bool:= !decide ((40:Int)<(y.2.1.length:Int))&&(!decide ((40:Int)<(y.2.2.1.length:Int))&&(!decide ((40:Int)<(y.2.2.2.1.length:Int))&&(!decide ((40:Int)<(y.2.2.2.2.1.length:Int))&& !decide ((40:Int)<(y.2.2.2.2.2.length:Int)))))
def ic (d:aI):Bool:=qV d&&(d.2.2.2.2.2.2.2.2.2.2.2.2.all uk&&((m7 d).all iV&&(ot d).all tq))
theorem wy {d:aI} (h1:qV d=true) (h2:d.2.2.2.2.2.2.2.2.2.2.2.2.all uk=true):vD d:=by
 unfold qV at h1
 simp only [Bool.and_eq_true,Bool.not_eq_true',decide_eq_false_iff_not] at h1
 obtain ⟨a1,a2,a3,a4⟩:=h1
 refine ⟨by omega,by omega,by omega,by omega,fun y hy=> ?_⟩
 have:=List.all_eq_true.1 h2 y hy
 unfold uk at this
 simp only [Bool.and_eq_true,Bool.not_eq_true',decide_eq_false_iff_not] at this
 obtain ⟨b1,b2,b3,b4,b5⟩:=this
 exact ⟨by omega,by omega,by omega,by omega,by omega⟩
theorem Bk {x:aP} (h:iV x=true):di 6 x:=by
 unfold iV at h
 simp only [Bool.and_eq_true,Bool.not_eq_true',decide_eq_false_iff_not] at h
 exact ⟨by omega,by omega,by decide⟩
theorem CB {d:aI} (h:(m7 d).all iV=true):tD d:=by
 have h:=fun x hx=>Bk (List.all_eq_true.1 h x hx)
 unfold m7 at h
 simp only [List.mem_append,List.mem_flatMap] at h
 refine ⟨h _ (.inl (.inl (.inl qE))),h _ (.inl (.inl (.inl qE))),h _ (.inl (.inl (.inl qE))),h _ (.inl (.inl (.inl qE))),fun b hb=>⟨h _ (.inl (.inl (.inr ⟨b,hb,by simp [AV]⟩))),h _ (.inl (.inl (.inr ⟨b,hb,by simp [AV]⟩)))⟩,fun c hc=>h _ (.inl (.inr ⟨c,hc,by simp [BA]⟩)),fun y hy=> ?_⟩
 have hy':=fun x hx=>h x (.inr ⟨y,hy,hx⟩)
 unfold zw at hy'
 simp only [List.mem_append,List.mem_flatMap] at hy'
 exact ⟨fun x hx=>hy' _ (.inl (.inl (.inl (.inl ⟨x,hx,by simp [xL]⟩)))),fun x hx=>hy' _ (.inl (.inl (.inl (.inr ⟨x,hx,by simp [AZ]⟩)))),fun x hx=>hy' _ (.inl (.inl (.inr ⟨x,hx,by simp [AU]⟩))),fun x hx=>⟨hy' _ (.inl (.inr ⟨x,hx,by simp [z5]⟩)),hy' _ (.inl (.inr ⟨x,hx,by simp [z5]⟩))⟩,fun x hx=>hy' _ (.inr ⟨x,hx,by simp [AX]⟩)⟩
theorem vV {d:aI} (h:ic d=true):vD d∧tD d:=by
 unfold ic at h
 simp only [Bool.and_eq_true] at h
 exact ⟨wy h.1 h.2.1,CB h.2.2.1⟩
theorem FN {l:List (aP)}:cw Tryz.prog S1 24 [0] [.rw Rp.frac tt l] (fun _=> .is (.bool (l.all iV))):=by
 refine h_ dj (fun _ _=>by kernel_rfl) fun hb=> ?_
 refine cr Tryz.func24 Tryz.ntmps24 fun X w0 hE=> ?_
 simp only [ar,Nat.zero_add,Nat.reduceAdd]
 repeat' first|kernel_rfl|apply Bt.mk|refine nx ?_|refine bi rfl cB ?_|refine bh rfl ?_|refine bj rfl ?_|apply ae|refine aO rfl ?_|exact cB|intro _
 refine bn fun a w h=> ?_
 refine aY (fun k a u=>∃ i:Nat,i+k=l.length∧(l.take i).all iV=true∧TS w0 X [] [(3, .is (.int .i64 (i:Int))),(0, .rw Rp.frac tt l)] 28 a u) l.length ⟨0,by omega,rfl,h.keep [3,0]⟩ ?_
 clear h
 rintro k a u ⟨i,hi,ha,h⟩
 by_cases hlt:i<l.length
 ·obtain ⟨x,hx⟩:∃ x,l[i]? =some x:=⟨_,List.getElem?_eq_getElem hlt⟩
  have hc:decide ((i:Int)<(l.length:Int))=true:=decide_eq_true qO
  have hw:IntKind.i64.wrap ((i:Int)+1)=((i+1:Nat):Int):=az qO qO
  cases g0:decide ((6:Int)<(x.1.2.length:Int))
  rotate_left
  ·rw [gV hx (show iV x=false by unfold iV;rw [g0];rfl)]
   refine aD h ?_
   clear h
   repeat' first|kernel_rfl|apply Bt.mk|refine nx ?_|refine bi rfl cB ?_|refine bh rfl ?_|refine bj rfl ?_|apply ae|refine aO rfl ?_|exact cB|intro _
  cases g1:decide ((6:Int)<(x.2.2.length:Int))
  rotate_left
  ·rw [gV hx (show iV x=false by unfold iV;rw [g0,g1];rfl)]
   refine aD h ?_
   clear h
   repeat' first|kernel_rfl|apply Bt.mk|refine nx ?_|refine bi rfl cB ?_|refine bh rfl ?_|refine bj rfl ?_|apply ae|refine aO rfl ?_|exact cB|intro _
  have hn:=o9 hx (show iV x=true by unfold iV;rw [g0,g1];rfl) ha
  refine aD h ?_
  clear h
  repeat' first|kernel_rfl|exact bq fun _ _ h=>⟨k - 1,by omega,i+1,by omega,hn,h.keep [3,0]⟩|apply Bt.mk|refine nx ?_|refine bi rfl cB ?_|refine bh rfl ?_|refine bj rfl ?_|apply ae|refine aO rfl ?_|exact cB|intro _
 ·have hil:i=l.length:=qO
  have hc:decide ((i:Int)<(l.length:Int))=false:=decide_eq_false qO
  rw [hil,List.take_length] at ha
  rw [ha]
  refine aD h ?_
  clear h
  repeat' first|kernel_rfl|apply Bt.mk|refine nx ?_|refine bi rfl cB ?_|refine bh rfl ?_|refine bj rfl ?_|apply ae|refine aO rfl ?_|exact cB|intro _
theorem Cn {l:List (List UInt8)}:cw Tryz.prog S1 26 [0] [.rw Rp.str tt l] (fun _=> .is (.bool (l.all tq))):=by
 refine h_ dj (fun _ _=>by kernel_rfl) fun hb=> ?_
 refine cr Tryz.func26 Tryz.ntmps26 fun X w0 hE=> ?_
 simp only [ar,Nat.zero_add,Nat.reduceAdd]
 repeat' first|kernel_rfl|apply Bt.mk|refine nx ?_|apply ae|refine aO rfl ?_|exact cB|intro _
 refine bn fun a w h=> ?_
 refine aY (fun k a u=>∃ i:Nat,i+k=l.length∧(l.take i).all tq=true∧TS w0 X [] [(3, .is (.int .i64 (i:Int))),(0, .rw Rp.str tt l)] 16 a u) l.length ⟨0,by omega,rfl,h.keep [3,0]⟩ ?_
 clear h
 rintro k a u ⟨i,hi,ha,h⟩
 by_cases hlt:i<l.length
 ·obtain ⟨x,hx⟩:∃ x,l[i]? =some x:=⟨_,List.getElem?_eq_getElem hlt⟩
  have hc:decide ((i:Int)<(l.length:Int))=true:=decide_eq_true qO
  have hw:IntKind.i64.wrap ((i:Int)+1)=((i+1:Nat):Int):=az qO qO
  cases g0:decide ((70:Int)<(x.length:Int))
  rotate_left
  ·rw [gV hx (show tq x=false by unfold tq;rw [g0];rfl)]
   refine aD h ?_
   clear h
   repeat' first|kernel_rfl|apply Bt.mk|refine nx ?_|apply ae|refine aO rfl ?_|exact cB|intro _
  have hn:=o9 hx (show tq x=true by unfold tq;rw [g0];rfl) ha
  refine aD h ?_
  clear h
  repeat' first|kernel_rfl|exact bq fun _ _ h=>⟨k - 1,by omega,i+1,by omega,hn,h.keep [3,0]⟩|apply Bt.mk|refine nx ?_|apply ae|refine aO rfl ?_|exact cB|intro _
 ·have hil:i=l.length:=qO
  have hc:decide ((i:Int)<(l.length:Int))=false:=decide_eq_false qO
  rw [hil,List.take_length] at ha
  rw [ha]
  refine aD h ?_
  clear h
  repeat' first|kernel_rfl|apply Bt.mk|refine nx ?_|apply ae|refine aO rfl ?_|exact cB|intro _
theorem DP {d:aI}:cw Tryz.prog S1 6 [0] [.ra ai d] (fun _=> .is (.bool (ic d))):=by
 cases h0:decide ((20:Int)<(d.2.2.1.length:Int))
 rotate_left
 ·rw [show ic d=false by unfold ic qV;rw [h0];rfl]
  refine cr Tryz.func6 Tryz.ntmps6 fun X w hE=> ?_
  simp only [ar,Nat.zero_add,Nat.reduceAdd]
  repeat' first|kernel_rfl|apply Bt.mk|refine nx ?_|refine bi rfl cB ?_|refine bh rfl ?_|refine bj rfl ?_|apply ae|refine aO rfl ?_|exact cB|intro _
 cases h1:decide ((70:Int)<(d.2.2.2.2.2.2.2.2.2.2.1.length:Int))
 rotate_left
 ·rw [show ic d=false by unfold ic qV;rw [h0,h1];rfl]
  refine cr Tryz.func6 Tryz.ntmps6 fun X w hE=> ?_
  simp only [ar,Nat.zero_add,Nat.reduceAdd]
  repeat' first|kernel_rfl|apply Bt.mk|refine nx ?_|refine bi rfl cB ?_|refine bh rfl ?_|refine bj rfl ?_|apply ae|refine aO rfl ?_|exact cB|intro _
 cases h2:decide ((260:Int)<(d.2.2.2.2.2.2.2.2.2.2.2.1.length:Int))
 rotate_left
 ·rw [show ic d=false by unfold ic qV;rw [h0,h1,h2];rfl]
  refine cr Tryz.func6 Tryz.ntmps6 fun X w hE=> ?_
  simp only [ar,Nat.zero_add,Nat.reduceAdd]
  repeat' first|kernel_rfl|apply Bt.mk|refine nx ?_|refine bi rfl cB ?_|refine bh rfl ?_|refine bj rfl ?_|apply ae|refine aO rfl ?_|exact cB|intro _
 cases h3:decide ((45:Int)<(d.2.2.2.2.2.2.2.2.2.2.2.2.length:Int))
 rotate_left
 ·rw [show ic d=false by unfold ic qV;rw [h0,h1,h2,h3];rfl]
  refine cr Tryz.func6 Tryz.ntmps6 fun X w hE=> ?_
  simp only [ar,Nat.zero_add,Nat.reduceAdd]
  repeat' first|kernel_rfl|apply Bt.mk|refine nx ?_|refine bi rfl cB ?_|refine bh rfl ?_|refine bj rfl ?_|apply ae|refine aO rfl ?_|exact cB|intro _
 have hcb:qV d=true:=by unfold qV;rw [h0,h1,h2,h3];rfl
 have hys:=of_decide_eq_false h3
 refine cr Tryz.func6 Tryz.ntmps6 fun X w0 hE=> ?_
 simp only [ar,Nat.zero_add,Nat.reduceAdd]
 repeat' first|kernel_rfl|apply Bt.mk|refine nx ?_|refine bi rfl cB ?_|refine bh rfl ?_|refine bj rfl ?_|apply ae|refine aO rfl ?_|exact cB|intro _
 refine bn fun a w h=> ?_
 rename_i r1
 refine aY (fun k a u=>∃ i:Nat,i+k=(d.2.2.2.2.2.2.2.2.2.2.2.2).length∧((d.2.2.2.2.2.2.2.2.2.2.2.2).take i).all uk=true∧TS w0 (r1::X) [(r1, .ra ai d)] [(3, .is (.int .i64 (i:Int))),(1, .is (.pointer (some ⟨r1,0,none⟩)))] 75 a u) (d.2.2.2.2.2.2.2.2.2.2.2.2).length ⟨0,by omega,rfl,h.keep [3,1]⟩ ?_
 clear h
 rintro k a u ⟨i,hi,ha,h⟩
 by_cases hlt:i<(d.2.2.2.2.2.2.2.2.2.2.2.2).length
 ·obtain ⟨y,hx⟩:∃ y,(d.2.2.2.2.2.2.2.2.2.2.2.2)[i]? =some y:=⟨_,List.getElem?_eq_getElem hlt⟩
  have hc:decide ((i:Int)<((d.2.2.2.2.2.2.2.2.2.2.2.2).length:Int))=true:=decide_eq_true qO
  have hw:IntKind.i64.wrap ((i:Int)+1)=((i+1:Nat):Int):=az qO qO
  cases g0:decide ((40:Int)<(y.2.1.length:Int))
  rotate_left
  ·rw [show ic d=false by unfold ic;rw [hcb,gV hx (show uk y=false by unfold uk;rw [g0];rfl)];rfl]
   refine aD h ?_
   clear h
   repeat' first|kernel_rfl|apply Bt.mk|refine nx ?_|refine bi rfl cB ?_|refine bh rfl ?_|refine bj rfl ?_|apply ae|refine aO rfl ?_|exact cB|intro _
  cases g1:decide ((40:Int)<(y.2.2.1.length:Int))
  rotate_left
  ·rw [show ic d=false by unfold ic;rw [hcb,gV hx (show uk y=false by unfold uk;rw [g0,g1];rfl)];rfl]
   refine aD h ?_
   clear h
   repeat' first|kernel_rfl|apply Bt.mk|refine nx ?_|refine bi rfl cB ?_|refine bh rfl ?_|refine bj rfl ?_|apply ae|refine aO rfl ?_|exact cB|intro _
  cases g2:decide ((40:Int)<(y.2.2.2.1.length:Int))
  rotate_left
  ·rw [show ic d=false by unfold ic;rw [hcb,gV hx (show uk y=false by unfold uk;rw [g0,g1,g2];rfl)];rfl]
   refine aD h ?_
   clear h
   repeat' first|kernel_rfl|apply Bt.mk|refine nx ?_|refine bi rfl cB ?_|refine bh rfl ?_|refine bj rfl ?_|apply ae|refine aO rfl ?_|exact cB|intro _
  cases g3:decide ((40:Int)<(y.2.2.2.2.1.length:Int))
  rotate_left
  ·rw [show ic d=false by unfold ic;rw [hcb,gV hx (show uk y=false by unfold uk;rw [g0,g1,g2,g3];rfl)];rfl]
   refine aD h ?_
   clear h
   repeat' first|kernel_rfl|apply Bt.mk|refine nx ?_|refine bi rfl cB ?_|refine bh rfl ?_|refine bj rfl ?_|apply ae|refine aO rfl ?_|exact cB|intro _
  cases g4:decide ((40:Int)<(y.2.2.2.2.2.length:Int))
  rotate_left
  ·rw [show ic d=false by unfold ic;rw [hcb,gV hx (show uk y=false by unfold uk;rw [g0,g1,g2,g3,g4];rfl)];rfl]
   refine aD h ?_
   clear h
   repeat' first|kernel_rfl|apply Bt.mk|refine nx ?_|refine bi rfl cB ?_|refine bh rfl ?_|refine bj rfl ?_|apply ae|refine aO rfl ?_|exact cB|intro _
  have hn:=o9 hx (show uk y=true by unfold uk;rw [g0,g1,g2,g3,g4];rfl) ha
  refine aD h ?_
  clear h
  repeat' first|kernel_rfl|exact bq fun _ _ h=>⟨k - 1,by omega,i+1,by omega,hn,h.drop.keep [3,1]⟩|apply Bt.mk|refine nx ?_|refine bi rfl cB ?_|refine bh rfl ?_|refine bj rfl ?_|apply ae|refine aO rfl ?_|exact cB|intro _
 ·have hil:i=(d.2.2.2.2.2.2.2.2.2.2.2.2).length:=qO
  have hc:decide ((i:Int)<((d.2.2.2.2.2.2.2.2.2.2.2.2).length:Int))=false:=decide_eq_false qO
  rw [hil,List.take_length] at ha
  have hcnt:=wy hcb ha
  have kR:=Fv hcnt
  have kT:=Br hcnt
  have kf:=FN (l:=m7 d)
  have kg:=Cn (l:=ot d)
  rw [show ic d=((m7 d).all iV&&(ot d).all tq) by unfold ic;rw [hcb,ha];rfl]
  cases hf:(m7 d).all iV
  ·rw [hf] at kf
   rw [Bool.false_and]
   refine aD h ?_
   clear h
   repeat' first|kernel_rfl|apply Bt.mk|refine nx ?_|refine bi rfl cB ?_|refine bh rfl ?_|refine bj rfl ?_|apply ae|refine aO rfl ?_|exact cB|intro _
  ·rw [hf] at kf
   rw [Bool.true_and]
   refine aD h ?_
   clear h
   repeat' first|kernel_rfl|apply Bt.mk|refine nx ?_|refine bi rfl cB ?_|refine bh rfl ?_|refine bj rfl ?_|apply ae|refine aO rfl ?_|exact cB|intro _
end Go.Proofs.YtjjkikchncfekaaGreatDoor
