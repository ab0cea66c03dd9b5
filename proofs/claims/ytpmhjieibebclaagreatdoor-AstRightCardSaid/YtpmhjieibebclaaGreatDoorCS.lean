/- Reading of structs and rows that are told by the types of their blocks; rows of texts of the call's own. No program stands in it. -/
import Derived.Test.YtpmhjieibebclaaGreatDoorCQ
set_option maxHeartbeats 4000000
set_option maxRecDepth 20000
set_option synthInstance.maxHeartbeats 400000
set_option synthInstance.maxSize 4000
set_option linter.unusedSimpArgs false
set_option linter.unusedVariables false
namespace Go.Proofs.YtpmhjieibebclaaGreatDoor
open Go Go.RowKit
variable {C k i s:Nat} {ty:TypeId} {X:List Nat} {w:World}
instance {B:Nat}:Gp B B:=⟨Nat.le_refl _⟩
class oM (ts:List TypeId) (C:Nat) {α:Type} (r:Rp α) (a:α) (T:outParam aa):Prop where
 ok:∀ {X:List Nat} {w:World} {v:Value},r.rd w (ca ts C X w) a [v]→T.holds X w v
instance {ts:List TypeId} {C:Nat} {l:List UInt8}:oM ts C Rp.str l (.is (Tx l)):=⟨fun ⟨t,e,h⟩=>by
 injection e with e _
 subst e
 show Value.string t=_
 rw [FV t,h]⟩
instance {ts:List TypeId} {C:Nat} {k:IntKind} {x:Int}:oM ts C (Rp.int k) x (.is (.int k x)):=⟨fun h=>by
 injection (show [_]=[_] from h) with e _⟩
instance {ts:List TypeId} {C:Nat} {b:Bool}:oM ts C Rp.bool b (.is (.bool b)):=⟨fun h=>by
 injection (show [_]=[_] from h) with e _⟩
instance {ts:List TypeId} {C:Nat} {α:Type} {r:Rp α} {l:List α}:oM ts C r.row l (.tc r.row ts C l):=⟨fun h=>h⟩
instance {ts:List TypeId} {C:Nat} {l:List Int}:oM ts C Rp.limbs l (.tc Rp.limbs ts C l):=⟨fun h=>h⟩
theorem ai.aggT{α β:Type} {r:Rp α} {r':Rp β} {g:α→β} {a:α} {ts:List TypeId} {o:Nat} (h:aZ r o r' g) (hk:KC r' k):ai (.tr r ts C a) o k true (.tr r' ts C (g a)):=⟨(fun h=>by cases h),fun {X w v} ⟨cs,e,hr⟩=>by
 obtain ⟨c1,c2,c3,e2,hl,h2⟩:=h.ok hr
 refine ⟨c2,(r'.len h2).trans hk.ok,fun j u hu=> ?_,fun u hu _=>⟨c2,hu rfl,h2⟩⟩
 have hj:=(List.getElem?_eq_some_iff.1 hu).1
 rw [e]
 show (cs.toArray)[o+j]? =some u
 rw [List.getElem?_toArray,e2,List.append_assoc,List.getElem?_append_right qO,show o+j - c1.length=j by omega,List.getElem?_append_left hj]
 exact hu⟩
theorem ai.cellT{α β:Type} {r:Rp α} {r':Rp β} {g:α→β} {a:α} {ts:List TypeId} {o:Nat} {T:aa} (h:aZ r o r' g) (hk:KC r' 1) (hs:oM ts C r' (g a) T):ai (.tr r ts C a) o 1 false T:=⟨fun _=>rfl,fun {X w v} ⟨cs,e,hr⟩=>by
 obtain ⟨c1,c2,c3,e2,hl,h2⟩:=h.ok hr
 refine ⟨c2,(r'.len h2).trans hk.ok,fun j u hu=> ?_,fun u _ hu=>hs.ok (by rw [←hu rfl];exact h2)⟩
 have hj:=(List.getElem?_eq_some_iff.1 hu).1
 rw [e]
 show (cs.toArray)[o+j]? =some u
 rw [List.getElem?_toArray,e2,List.append_assoc,List.getElem?_append_right qO,show o+j - c1.length=j by omega,List.getElem?_append_left hj]
 exact hu⟩
instance {α β:Type} {r:Rp α} {r':Rp β} {g:α→β} {a:α} {ts:List TypeId} {C o k:Nat} [h:aZ r o r' g] [hk:KC r' k]:ai (.tr r ts C a) o k true (.tr r' ts C (g a)):=ai.aggT h hk
instance {α β:Type} {r:Rp α} {r':Rp β} {g:α→β} {a:α} {ts:List TypeId} {C o:Nat} {T:aa} [h:aZ r o r' g] [hk:KC r' 1] [hs:oM ts C r' (g a) T]:ai (.tr r ts C a) o 1 false T:=ai.cellT h hk hs
def aa.tp {α:Type} (r:Rp α) (ts:List TypeId) (C:Nat) (a:α):aa:=⟨fun X w v=>∃ b o cs,v= .pointer (some ⟨b,o,none⟩)∧ca ts C X w b∧w.rangeAt b o cs∧r.rd w (ca ts C X w) a cs,
 fun ⟨b,o,cs,e,hb,h1,h2⟩ hk hX=>⟨b,o,cs,e,ca.mono hk hX b hb,gu h1 (hk.block b hb.1.1 hb.1.2),r.upT h2 hk hX⟩⟩
theorem IT{α:Type} {r:Rp α} {ts:List TypeId} {l:List α} {v:Value} (h:(aa.tc r.row ts C l).holds X w v):(aa.rw r tt l).holds X w v:=⟨fun _ _=>trivial,r.row.unT h⟩
section
variable {P:Program} {w00:World} {N:Nat} {L:List Loc} {E:List (Nat×aa)} {d:Nat} {t0:TypeId} {pos:String} {af:Array Edge} {gd:Option (Nat×Bool)} {ats:Array TypeId}
theorem yD{α:Type} {r:Rp α} {ts:List TypeId} {l:List α} [ho:ck E s (.tc r.row ts C l)] [ht:cP P ty k]:au P w00 N L E ⟨some d, .call { callee:= .builtin .len,args:= #[.tmp s],argTypes:= #[ty] },t0,pos,af,gd⟩ (.is (.int .i64 l.length)):=by
 constructor
 intro X ρ w hc hf hN hm hsl
 have h:=hsl _ ho.mem qJ
 have hs:au P w00 0 [] [(s, .rw r tt l)] ⟨some d, .call { callee:= .builtin .len,args:= #[.tmp s],argTypes:= #[ty] },t0,pos,af,gd⟩ (.is (.int .i64 l.length)):=iA
 exact hs.run X ρ w hc hf (Nat.zero_le _) ⟨(fun _ h=>by cases h),hm.far,List.nodup_nil,hm.below⟩ fun p hp _=>by
  obtain rfl:=List.mem_singleton.1 hp
  exact IT h
theorem xO{α:Type} {r:Rp α} {ts:List TypeId} {l:List α} {a:α} {o oi:Operand} {j:Nat} [ho:bD E o (.tc r.row ts C l)] [hi:bD E oi (.is (.int .i64 (j:Int)))] [kc:KC r k] [ht:cP P ty k] (ha:l[j]? =some a):au P w00 N L E ⟨some d, .indexAddr ty o oi,t0,pos,af,gd⟩ (.tp r ts C a):=by
 constructor
 intro X ρ w hc _ hN hm hsl
 obtain ⟨A,n,c,e,h1,h2,h3,h4,h5⟩:=ho.get (X:=X) (w:=w) hc fun p hp e=>hsl p hp qS
 have e1:ρ o= .slice A n c:=by simpa using e
 have e2:ρ oi= .int .i64 (j:Int):=hi.get (X:=X) (w:=w) hc fun p hp e=>hsl p hp qS
 have hj:j<n:=by rw [←h1];exact (List.getElem?_eq_some_iff.1 ha).1
 obtain ⟨b,off,rfl,hb,hcell⟩:=h5 qO
 obtain ⟨cs,hcs,hr⟩:=hcell j a ha
 obtain ⟨el,hu,hsz⟩:=ht.ok
 have hk:=kc.ok
 have hz:(sizeOf el).run P w= .ok k w:=by
  cases hq:P.info? el with
  |none=>rw [hq] at hsz;cases hsz
  |some q=>
   rw [hq] at hsz
   have:q.size=k:=by simpa using hsz
   simp [sizeOf,typeInfo,hq,this]
 have hrun:(execOp ρ ⟨some d, .indexAddr ty o oi,t0,pos,af,gd⟩).run P w= .ok (.value (.pointer (some ⟨b,off+j*k,none⟩))) w:=by
  unfold execOp
  have hji:(0:Int)≤(j:Int)∧(j:Int)<(n:Int):=⟨by omega,by omega⟩
  simp only [e1,e2,Instr.indexAt,asIntOf,Sem.run_bind,Sem.run_pure,Result.andThen_ok,run_underlying hu w,hji,and_self,if_true,hz,Int.toNat_natCast,Addr.add_mid]
 unfold Yields
 rw [hrun]
 refine ⟨⟨b,off+j*k,cs,rfl,hb,fun i u hu=> ?_,hr⟩,Below.refl _ _⟩
 have:=hcs i u hu
 rwa [hk] at this
theorem xX{α β:Type} {r:Rp α} {r':Rp β} {a:α} {g:α→β} {ts:List TypeId} {fo:Nat} {ag:Bool} [hs:ck E s (.tp r ts C a)] [hf:aq P ty i fo k ag] [hn:aZ r fo r' g]:au P w00 N L E ⟨some d, .fieldAddr ty (.tmp s) i,t0,pos,af,gd⟩ (.tp r' ts C (g a)):=by
 constructor
 intro X ρ w hc _ hN hm hsl
 obtain ⟨b,o,cs,e,hb,hra,hr⟩:=hsl _ hs.mem qI
 have e':ρ (.tmp s)= .pointer (some ⟨b,o,none⟩):=e
 obtain ⟨c1,c2,c3,e2,hl,h2⟩:=hn.ok hr
 obtain ⟨fs,f,h1,h3,h4,h5,h6,_⟩:=hf.ok
 have hz:(sizeOf f.type).run P w= .ok k w:=by
  cases hq:P.info? f.type with
  |none=>rw [hq] at h5;cases h5
  |some q=>
   rw [hq] at h5
   have:q.size=k:=by simpa using h5
   simp [sizeOf,typeInfo,hq,this]
 have hrun:(execOp ρ ⟨some d, .fieldAddr ty (.tmp s) i,t0,pos,af,gd⟩).run P w= .ok (.value (.pointer (some ⟨b,o+fo,none⟩))) w:=by
  unfold execOp
  simp only [e',Instr.fieldAt,Instr.sureAddr,fieldPlace,Sem.run_bind,Sem.run_pure,Result.andThen_ok,run_underlying h1 w,h3,hz,h6,if_false,h4,Addr.add_mid]
 unfold Yields
 rw [hrun]
 refine ⟨⟨b,o+fo,c2,rfl,hb,?_,h2⟩,Below.refl _ _⟩
 rw [←hl]
 exact oQ (by rw [←e2];exact hra)
theorem vt{α:Type} {r:Rp α} {a:α} {ts:List TypeId} [hs:ck E s (.tp r ts C a)] [kc:KC r k] [ht:fw P ty k true]:au P w00 N L E ⟨some d, .load ty (.tmp s),t0,pos,af,gd⟩ (.tr r ts C a):=by
 constructor
 intro X ρ w hc _ hN hm hsl
 obtain ⟨b,o,cs,e,hb,h1,h2⟩:=hsl _ hs.mem qI
 have e':ρ (.tmp s)= .pointer (some ⟨b,o,none⟩):=e
 obtain ⟨dd,hu,hd⟩:=ht.row
 have hi:(P.info? ty).map (·.size)=some cs.length:=by rw [r.len h2,kc.ok];exact ht.size
 have hrun:(execOp ρ ⟨some d, .load ty (.tmp s),t0,pos,af,gd⟩).run P w= .ok (.value (.agg cs.toArray)) w:=by
  unfold execOp
  simp only [e',run_loadAt_mid w b o ty cs dd h1 hu hd hi,Sem.run_bind,Sem.run_pure,Result.andThen_ok]
 unfold Yields
 rw [hrun]
 exact ⟨⟨cs,rfl,h2⟩,Below.refl _ _⟩
theorem uU{α:Type} {r:Rp α} {a:α} {ts:List TypeId} {T:aa} [hs:ck E s (.tp r ts C a)] [kc:KC r 1] [ht:fw P ty 1 false] [hn:oM ts C r a T]:au P w00 N L E ⟨some d, .load ty (.tmp s),t0,pos,af,gd⟩ T:=by
 constructor
 intro X ρ w hc hf hN hm hsl
 obtain ⟨b,o,cs,e,hb,h1,h2⟩:=hsl _ hs.mem qI
 have hl:=(r.len h2).trans kc.ok
 obtain ⟨u,rfl⟩:∃ u,cs=[u]:=List.length_eq_one_iff.1 hl
 have hcell:w.cell? ⟨b,o,none⟩=some u:=by simpa using h1 0 u rfl
 have e1:ρ (.tmp s)= .pointer (some ⟨b,o,none⟩):=e
 obtain ⟨dd,hu,hd⟩:=ht.row
 have hag:(isAgg ty).run P w= .ok false w:=by
  unfold isAgg
  rw [Sem.run_bind,run_underlying hu w]
  cases dd<;>first|rfl|cases hd
 have hrun:(execOp ρ ⟨some d, .load ty (.tmp s),t0,pos,af,gd⟩).run P w= .ok (.value u) w:=by
  unfold execOp
  simp only [e1,Instr.loadAt,Instr.sureAddr,loadVar,Sem.run_bind,Sem.run_pure,Result.andThen_ok,hag,run_load,hcell,if_false,Bool.false_eq_true]
 unfold Yields
 rw [hrun]
 exact ⟨hn.ok h2,Below.refl _ _⟩
end
theorem x4 (l:List (List UInt8)):(l.map fun t=>(t,[Tx t])).flatMap Prod.snd=l.map Tx:=by
 induction l with
 |nil=>rfl
 |cons t l ih=>rw [List.map_cons,List.flatMap_cons,ih];rfl
instance {ts:List TypeId} {C:Nat} {vs:List Value} {l:List (List UInt8)} [h:IG 64 vs l]:vh (.vs vs) Rp.str ts C l:=⟨fun {X w v} ⟨b,e,hb,hc⟩=>by
 have hv:=h.ok
 have hl:=h.len
 subst hv
 rw [List.length_map] at e
 refine ⟨_,l.length,l.map fun t=>(t,[Tx t]),e,by rw [List.map_map];exact List.map_id _,fun q hq=> ?_,?_,fun _ g hg=> ?_⟩
 ·obtain ⟨t,_,rfl⟩:=List.mem_map.1 hq
  exact ⟨_,rfl,bu t⟩
 ·rw [x4]
  exact ⟨by rw [List.length_map];exact (Nat.mul_one _).symm,Nat.le_refl _,by unfold maxLen;omega,(fun h=>by cases h),fun _=>⟨b,0,rfl,hb.1,fun j u hu=>by rw [Nat.zero_add];exact hc j u hu⟩⟩
 ·have hg:b=g:=by simpa [fh] using hg
  exact hg▸hb⟩
theorem Fs{α:Type} {r:Rp α} {ts:List TypeId} {A:Option Addr} {n c:Nat} {l:List α} (h:su r w (ca ts C X w) A n c l):(aa.sr r ts C l).holds X w (.slice A n c):=by
 obtain ⟨h1,h2,h3,h4,h5⟩:=h
 have hl:∀ m,m≤l.length→∃ ps:List (α×List Value),ps.map Prod.fst=l.take m∧(∀ q∈ps,r.rd w (ca ts C X w) q.1 q.2)∧(0<m→∃ b off,A=some ⟨b,off,none⟩∧ca ts C X w b∧∀ j u,(ps.flatMap Prod.snd)[j]? =some u→w.cell? ⟨b,off+j,none⟩=some u)∧(ps.flatMap Prod.snd).length=m*r.k:=by
  intro m
  induction m with
  |zero=>intro _;exact ⟨[],rfl,(fun _ h=>by cases h),(fun h=>absurd h qO),by simp⟩
  |succ m ih=>
   intro hm
   obtain ⟨ps,g1,g2,g3,g4⟩:=ih qO
   obtain ⟨a,ha⟩:∃ a,l[m]? =some a:=⟨_,List.getElem?_eq_getElem qO⟩
   obtain ⟨b,off,eA,hb,hc⟩:=h5 qO
   obtain ⟨cs,hcs,hr⟩:=hc m a ha
   refine ⟨ps++[(a,cs)],by rw [List.map_append,g1,fQ ha];rfl,fun q hq=> ?_,fun _=>⟨b,off,eA,hb,fun j u hu=> ?_⟩,?_⟩
   ·rcases List.mem_append.1 hq with hq|hq
    ·exact g2 q hq
    ·rw [List.mem_singleton.1 hq];exact hr
   ·rw [List.flatMap_append] at hu
    by_cases hj:j<m*r.k
    ·rw [List.getElem?_append_left (by rw [g4];exact hj)] at hu
     have hm0:0<m:=by
      rcases Nat.eq_zero_or_pos m with e|e
      ·rw [e,Nat.zero_mul] at hj;omega
      ·exact e
     obtain ⟨b',off',eA',_,hc'⟩:=g3 hm0
     rw [eA] at eA'
     injection eA' with eA'
     injection eA' with e1 e2
     subst e1;subst e2
     exact hc' j u hu
    ·rw [List.getElem?_append_right (by rw [g4];omega),g4] at hu
     have hu:cs[j - m*r.k]? =some u:=by simpa using hu
     have:=hcs (j - m*r.k) u hu
     rw [Nat.add_assoc] at this
     rwa [show m*r.k+(j - m*r.k)=j by omega] at this
   ·rw [List.flatMap_append,List.length_append,g4]
    simp [r.len hr,Nat.add_mul]
 obtain ⟨ps,g1,g2,g3,g4⟩:=hl l.length (Nat.le_refl _)
 rw [List.take_length] at g1
 refine ⟨A,c,ps,by rw [h1],g1,g2,⟨g4,by rw [h1];exact h2,h3,h4,fun hn=> ?_⟩,fun hn g hg=> ?_⟩
 ·obtain ⟨b,off,eA,hb,hc⟩:=g3 hn
  exact ⟨b,off,eA,hb.1.1,hc⟩
 ·obtain ⟨b,off,eA,hb,hc⟩:=g3 hn
  rw [eA] at hg
  have hg:b=g:=by simpa [fh] using hg
  exact hg▸hb.1
instance {α:Type} {r:Rp α} {ts:List TypeId} {C:Nat} {l:List α}:vh (.tc r.row ts C l) r ts C l:=⟨fun {X w v} h=>by
 obtain ⟨A,n,c,e,h⟩:=h
 have e:v= .slice A n c:=by simpa using e
 rw [e]
 exact Fs h⟩
theorem G4{P:Program} {w00:World} {N:Nat} {L:List Loc} {E:List (Nat×aa)} {d:Nat} {t0:TypeId} {pos:String} {af:Array Edge} {gd:Option (Nat×Bool)} (ts:List TypeId) (C:Nat) {e:TypeId} {n:Nat} {ps:List (Nat×Operand)} {vs:List Value} {l:List (List UInt8)} (r:pp P ty e 1) [h:G_ E ps 0 vs] [tl:IG 64 vs l] (hn:Nat.beq vs.length n=true) (hp:0<n):au P w00 N L E ⟨some d, .buildSlice ty n ps.toArray,t0,pos,af,gd⟩ (.to Rp.str e ts C w00.heap.size l):=by
 constructor
 intro X ρ w hc hf hN hm hsl
 have hn:=Nat.eq_of_beq_eq_true hn
 have hvs:=h.get (X:=X) (w:=w) (ρ:=ρ) hc fun p hp hm=>hsl p hp (by
  simp only [Op.operands]
  obtain ⟨q,hq,e⟩:=List.mem_map.1 hm
  simp
  exact ⟨q.1,by rw [←e];exact hq⟩)
 have hv:=tl.ok
 have hl64:=tl.len
 subst hv
 rw [List.length_map] at hn
 obtain ⟨hu,i,z,hi,hz,hs,hzc⟩:=r.ok
 have hsz:(sizeOf e).run P w= .ok 1 w:=by simp [sizeOf,typeInfo,hi,hs]
 have hze:(zeroValue e).run P w= .ok z w:=by simp [zeroValue,typeInfo,hi,hz]
 obtain ⟨c',ef,ec⟩:=qt (l.map Tx) 0 ((Array.range (n*1)).map (z.cells[· %z.cells.size]!)) (fun v hv=>by obtain ⟨t,_,rfl⟩:=List.mem_map.1 hv;rfl) (by simp [hn])
 have ec':c'=(l.map Tx).toArray:=by
  obtain ⟨g1,_,g2⟩:=ec
  apply Array.ext_getElem?
  intro j
  refine Eq.trans ?_ (List.getElem?_toArray (xs:=l.map Tx)).symm
  by_cases hj:j<l.length
  ·obtain ⟨t,ht⟩:∃ t,(l.map Tx)[j]? =some t:=⟨_,List.getElem?_eq_getElem (by rw [List.length_map];exact hj)⟩
   rw [ht]
   have:=g2 j t ht
   rwa [Nat.zero_add] at this
  ·rw [List.getElem?_eq_none (by rw [List.length_map];omega),Array.getElem?_eq_none (by rw [g1];simp;omega)]
 subst ec'
 have hps:(ps.toArray.map fun (i,x)=>(i,ρ x)).toList=lG 0 (l.map Tx):=by rw [←hvs];simp
 have hrun:(Instr.buildSlice ty n (ps.toArray.map fun (i,x)=>(i,ρ x))).run P w= .ok (.slice (some ⟨w.heap.size,0,none⟩) n n) (w.alloc (.cells (l.map Tx).toArray e)):=by
  have hbig:¬ 2^24<n*1:=qO
  unfold Instr.buildSlice
  simp only [Sem.run_bind,run_underlying hu w,Result.andThen_ok,hsz,if_neg hbig,hps,Sem.run_pure,if_neg (show ¬ n*1=0 by omega),hze,ef]
  rfl
 have hb':Below w.heap.size w (w.alloc (.cells (l.map Tx).toArray e)):=(Below.refl _ _).alloc (Nat.le_refl _) _
 unfold Yields execOp
 simp only [Sem.run_bind,hrun,Result.andThen_ok,Sem.run_pure]
 refine ⟨⟨some ⟨w.heap.size,0,none⟩,n,l.map fun t=>(t,[Tx t]),by rw [hn],by rw [List.map_map];exact List.map_id _,fun q hq=> ?_,?_,fun g hg=> ?_⟩,hb'⟩
 ·obtain ⟨t,_,rfl⟩:=List.mem_map.1 hq
  exact ⟨_,rfl,bu t⟩
 ·rw [x4,hn]
  exact cS.lit 1 e w hm.below.size _ n (by rw [List.length_map,hn,Nat.mul_one]) qO
 ·have hg:w.heap.size=g:=by simpa [fh] using hg
  subst hg
  exact ⟨by rw [ak];exact Nat.lt_succ_self _,fun hx=>by have:=hm.far _ hx;omega⟩
theorem eU{α β:Type} {g:α→List β} {l:List α} {x:α} {b:List β} {y:List β} (h:l[i]? =some x) (hy:g x=y):b++(l.take i).flatMap g++y=b++(l.take (i+1)).flatMap g:=by
 rw [fQ h,List.flatMap_append,List.append_assoc,←hy]
 simp
theorem dD {α β:Type} {g:α→List β} {c:Nat}:∀ {l:List α},(∀ x∈l,(g x).length≤c)→(l.flatMap g).length≤l.length*c
 |[],_=>by simp
 |x::l,h=>by
  have h1:=h x List.mem_cons_self
  have h2:=dD (l:=l) fun y hy=>h y (List.mem_cons_of_mem _ hy)
  rw [List.flatMap_cons,List.length_append,List.length_cons,Nat.add_mul,Nat.one_mul]
  omega
theorem eN{α β:Type} {g:α→List β} {c:Nat} {l:List α} (h:∀ x∈l,(g x).length≤c):((l.take i).flatMap g).length≤l.length*c:=by
 have h1:=dD (l:=l.take i) fun x hx=>h x (List.mem_of_mem_take hx)
 have h2:(l.take i).length*c≤l.length*c:=Nat.mul_le_mul (by rw [List.length_take];exact Nat.min_le_right _ _) (Nat.le_refl c)
 omega
structure qX (d:aj):Prop where
 br:d.2.2.1.length≤20
 cl:d.2.2.2.2.2.2.2.2.2.2.1.length≤70
 en:d.2.2.2.2.2.2.2.2.2.2.2.1.length≤260
 ys:d.2.2.2.2.2.2.2.2.2.2.2.2.length≤45
 yr:∀ y∈d.2.2.2.2.2.2.2.2.2.2.2.2,y.2.1.length≤40∧y.2.2.1.length≤40∧y.2.2.2.1.length≤40∧y.2.2.2.2.1.length≤40∧y.2.2.2.2.2.length≤40
def Du (b:dJ):List aR:=[b.1,b.2]
def D_ (c:ej):List aR:=[c.2.2]
def zC (h:gk):List aR:=[h.2.2]
def Dz (b:gl):List aR:=[b.2.2]
def Ds (x:fb):List aR:=[x.2.2.2.2.2.2]
def CI (s:eS):List aR:=[s.2.1,s.2.2]
def Dw (s:gK):List aR:=[s.2]
def Ca (y:aX):List aR:=y.2.1.flatMap zC++y.2.2.1.flatMap Dz++y.2.2.2.1.flatMap Ds++y.2.2.2.2.1.flatMap CI++y.2.2.2.2.2.flatMap Dw
def mV (d:aj):List aR:=[d.2.2.2.1,d.2.2.2.2.1,d.2.2.2.2.2.2.2.1,d.2.2.2.2.2.2.2.2.1]++d.2.2.1.flatMap Du++d.2.2.2.2.2.2.2.2.2.2.1.flatMap D_++d.2.2.2.2.2.2.2.2.2.2.2.2.flatMap Ca
def Ea (c:ej):List (List UInt8):=[c.1]
def Dk (h:gk):List (List UInt8):=[h.1,h.2.1]
def Bd (b:gl):List (List UInt8):=[b.1,b.2.1]
def zv (x:fb):List (List UInt8):=[x.2.1,x.2.2.2.1,x.2.2.2.2.1,x.2.2.2.2.2.1]
def Dt (s:eS):List (List UInt8):=[s.1]
def Dx (s:gK):List (List UInt8):=[s.1]
def Br (y:aX):List (List UInt8):=y.2.1.flatMap Dk++y.2.2.1.flatMap Bd++y.2.2.2.1.flatMap zv++y.2.2.2.2.1.flatMap Dt++y.2.2.2.2.2.flatMap Dx
def nH (d:aj):List (List UInt8):=[d.1,d.2.1]++d.2.2.2.2.2.2.2.2.2.2.2.1++d.2.2.2.2.2.2.2.2.2.2.1.flatMap Ea++d.2.2.2.2.2.2.2.2.2.2.2.2.flatMap Br
theorem E6 {y:aX} (h:y.2.1.length≤40∧y.2.2.1.length≤40∧y.2.2.2.1.length≤40∧y.2.2.2.2.1.length≤40∧y.2.2.2.2.2.length≤40):(Ca y).length≤240:=by
 obtain ⟨h1,h2,h3,h4,h5⟩:=h
 have g1:=dD (l:=y.2.1) (g:=zC) (c:=1) fun _ _=>Nat.le_refl _
 have g2:=dD (l:=y.2.2.1) (g:=Dz) (c:=1) fun _ _=>Nat.le_refl _
 have g3:=dD (l:=y.2.2.2.1) (g:=Ds) (c:=1) fun _ _=>Nat.le_refl _
 have g4:=dD (l:=y.2.2.2.2.1) (g:=CI) (c:=2) fun _ _=>Nat.le_refl _
 have g5:=dD (l:=y.2.2.2.2.2) (g:=Dw) (c:=1) fun _ _=>Nat.le_refl _
 unfold Ca
 simp only [List.length_append]
 omega
theorem Ee {y:aX} (h:y.2.1.length≤40∧y.2.2.1.length≤40∧y.2.2.2.1.length≤40∧y.2.2.2.2.1.length≤40∧y.2.2.2.2.2.length≤40):(Br y).length≤400:=by
 obtain ⟨h1,h2,h3,h4,h5⟩:=h
 have g1:=dD (l:=y.2.1) (g:=Dk) (c:=2) fun _ _=>Nat.le_refl _
 have g2:=dD (l:=y.2.2.1) (g:=Bd) (c:=2) fun _ _=>Nat.le_refl _
 have g3:=dD (l:=y.2.2.2.1) (g:=zv) (c:=4) fun _ _=>Nat.le_refl _
 have g4:=dD (l:=y.2.2.2.2.1) (g:=Dt) (c:=1) fun _ _=>Nat.le_refl _
 have g5:=dD (l:=y.2.2.2.2.2) (g:=Dx) (c:=1) fun _ _=>Nat.le_refl _
 unfold Br
 simp only [List.length_append]
 omega
theorem tG{α:Type} {r:Rp α} {a:α} {v:Value} (h:(aa.ra r a).holds X w v):(aa.tr r [] w.heap.size a).holds X w v:=by
 obtain ⟨cs,e,h⟩:=h
 exact ⟨cs,e,r.more h fun b hb=>⟨hb, .inl hb.1⟩⟩
theorem FM:pp Tryz.prog 62 27 4:=⟨Tryz.underlying62,by
 obtain ⟨i,h1,h2,h3,h4⟩:∃ i,Tryz.prog.info? 27=some i∧i.zero=some (.agg #[.bool false, .slice none 0 0, .bool false, .slice none 0 0])∧i.size=4∧i.bytes=64:=info_parts qK
 exact ⟨i,_,h1,h2,h3,rfl⟩⟩
theorem iT:iz Tryz.prog 62 27 4 64:=⟨Tryz.underlying62,by decide,by
 obtain ⟨i,h1,h2,h3,h4⟩:∃ i,Tryz.prog.info? 27=some i∧i.zero=some (.agg #[.bool false, .slice none 0 0, .bool false, .slice none 0 0])∧i.size=4∧i.bytes=64:=info_parts qK
 exact ⟨i,_,h1,h2,h3,h4,rfl⟩⟩
theorem Fu:pp Tryz.prog 29 9 1:=⟨Tryz.underlying29,by
 obtain ⟨i,h1,h2,h3,h4⟩:∃ i,Tryz.prog.info? 9=some i∧i.zero=some (Tx [])∧i.size=1∧i.bytes=16:=info_parts qK
 exact ⟨i,_,h1,h2,h3,rfl⟩⟩
theorem hZ:iz Tryz.prog 29 9 1 16:=⟨Tryz.underlying29,by decide,by
 obtain ⟨i,h1,h2,h3,h4⟩:∃ i,Tryz.prog.info? 9=some i∧i.zero=some (Tx [])∧i.size=1∧i.bytes=16:=info_parts qK
 exact ⟨i,_,h1,h2,h3,h4,rfl⟩⟩
instance:iw 27 []:=⟨fun h=>by cases h⟩
def JW (C:Nat) (w:World):Prop:=C≤w.heap.size
theorem bU {p:Prop} (h:p:=by first|exact yD|exact xO (by assumption)|exact xX|exact vt|exact uU|exact gW (by assumption)|exact fO|exact jE|exact l8 (by assumption)|exact cO (r:=Rp.frac) [] C FM rfl (by decide) (by decide) (by decide)|exact nu (r:=Rp.frac) (hn:=aZ.fst)|exact nu (r:=Rp.frac) (hn:=aZ.tail (n:=2) (k:=2) ⟨rfl⟩ aZ.self rfl)|exact nu (r:=Rp.num) (hn:=aZ.tail (n:=1) (k:=1) ⟨rfl⟩ aZ.self rfl)|exact yl|exact tM|exact dt|exact dE|exact du|exact bm|exact eI|exact eH|exact lm|exact lk|exact iE (by first|assumption|rfl)|exact iA|exact lZ (by first|assumption|rfl)|exact dh (by assumption)|exact dA|exact d8.nil|exact bG.nil|exact bE.nil|exact G4 [] w0.heap.size Fu rfl (by decide)|exact sc trivial kR|exact sc trivial kT|exact sc trivial kf|exact sc trivial kg|exact Cv.rfl'):p:=h
theorem xM {d:aj} (hc:qX d) (C:Nat):bW Tryz.prog (JW C) 12 [0] [.tr ab [] C d] (fun B=> .to Rp.frac 27 [] C B (mV d)):=by
 refine cr Tryz.func12 Tryz.ntmps12 fun X w0 hE=> ?_
 haveI hLE:Gp C w0.heap.size:=⟨hE⟩
 repeat' first|kernel_rfl|apply Bt.mk|refine nx ?_|apply az|apply aW|apply ae|refine aQ rfl ?_|exact bU|intro _
 refine aY fun a w h=> ?_
 rename_i r1
 obtain ⟨b0,hb0⟩:∃ b,b=[d.2.2.2.1,d.2.2.2.2.1,d.2.2.2.2.2.2.2.1,d.2.2.2.2.2.2.2.2.1]:=⟨_,rfl⟩
 have hl0:b0.length≤4:=by rw [hb0];have:=hc.en;simp<;>omega
 have hcb:=hc.br
 have hcc:=hc.cl
 have hcs:=hc.ys
 have e0:b0++((d.2.2.1).take 0).flatMap Du=b0:=by simp
 refine aO (fun kbrR a u=>∃ ibrR:Nat,ibrR+kbrR=(d.2.2.1).length∧TS w0 (r1::X) [(r1, .tr ab [] C d)] [(3, .to Rp.frac 27 [] C w0.heap.size (b0++((d.2.2.1).take ibrR).flatMap Du)),(4, .is (.int .i64 (ibrR:Int))),(1, .is (.pointer (some ⟨r1,0,none⟩)))] 159 a u) (d.2.2.1).length ⟨0,by omega,by rw [e0,hb0];exact h.keep [3,4,1]⟩ ?_
 clear h e0
 rintro kbrR a u ⟨ibrR,hiibrR,h⟩
 by_cases hlt:ibrR<(d.2.2.1).length
 ·obtain ⟨x,hx⟩:∃ x,(d.2.2.1)[ibrR]? =some x:=⟨_,List.getElem?_eq_getElem hlt⟩
  have hcd:decide ((ibrR:Int)<((d.2.2.1).length:Int))=true:=decide_eq_true qO
  have hw:IntKind.i64.wrap ((ibrR:Int)+1)=((ibrR+1:Nat):Int):=aA qO qO
  have hlen:(b0++((d.2.2.1).take ibrR).flatMap Du).length≤40000:=by
   have:=eN (l:=d.2.2.1) (i:=ibrR) (g:=Du) (c:=2) fun _ _=>Nat.le_refl _
   rw [List.length_append]
   omega
  have htk:=eU (b:=b0) (g:=Du) hx rfl
  refine aB h ?_
  clear h
  repeat' first|kernel_rfl|(refine dk [4,1] (Nat.le_refl _) hE (fun _ _ ht=>ht.mem.below.size) iT (by simp only [List.length_cons,List.length_nil];omega) qD qK ?_)|exact a8 fun _ _ h=>⟨kbrR - 1,by omega,ibrR+1,by omega,by rw [←htk];exact h.keep [3,4,1]⟩|apply Bt.mk|refine nx ?_|apply ar (id:=5) [] [] 14|apply az|apply aW|apply ae|refine aQ rfl ?_|exact bU|(intro _;simp only[cf,ci,cm,List.map,List.cons_append,List.nil_append])|intro _
 ·have hil:ibrR=(d.2.2.1).length:=qO
  have hcd:decide ((ibrR:Int)<((d.2.2.1).length:Int))=false:=decide_eq_false qO
  rw [show (d.2.2.1).take ibrR=d.2.2.1 by rw [hil,List.take_length]] at h
  obtain ⟨b1,hb1⟩:∃ b,b=b0++(d.2.2.1).flatMap Du:=⟨_,rfl⟩
  rw [←hb1] at h
  have hlb1:b1.length≤44:=by
   rw [hb1,List.length_append]
   have:=dD (l:=d.2.2.1) (g:=Du) (c:=2) fun _ _=>Nat.le_refl _
   omega
  refine aB h ?_
  clear h
  repeat' first|kernel_rfl|apply Bt.mk|refine nx ?_|apply az|apply aW|apply ae|refine aQ rfl ?_|exact bU|intro _
  refine aY fun a w h=> ?_
  have e0:b1++((d.2.2.2.2.2.2.2.2.2.2.1).take 0).flatMap D_=b1:=by simp
  refine aO (fun kclR a u=>∃ iclR:Nat,iclR+kclR=(d.2.2.2.2.2.2.2.2.2.2.1).length∧TS w0 (r1::X) [(r1, .tr ab [] C d)] [(3, .to Rp.frac 27 [] C w0.heap.size (b1++((d.2.2.2.2.2.2.2.2.2.2.1).take iclR).flatMap D_)),(5, .is (.int .i64 (iclR:Int))),(1, .is (.pointer (some ⟨r1,0,none⟩)))] 159 a u) (d.2.2.2.2.2.2.2.2.2.2.1).length ⟨0,by omega,by rw [e0];exact h.keep [3,5,1]⟩ ?_
  clear h e0
  rintro kclR a u ⟨iclR,hiiclR,h⟩
  by_cases hlt:iclR<(d.2.2.2.2.2.2.2.2.2.2.1).length
  ·obtain ⟨x,hx⟩:∃ x,(d.2.2.2.2.2.2.2.2.2.2.1)[iclR]? =some x:=⟨_,List.getElem?_eq_getElem hlt⟩
   have hcd:decide ((iclR:Int)<((d.2.2.2.2.2.2.2.2.2.2.1).length:Int))=true:=decide_eq_true qO
   have hw:IntKind.i64.wrap ((iclR:Int)+1)=((iclR+1:Nat):Int):=aA qO qO
   have hlen:(b1++((d.2.2.2.2.2.2.2.2.2.2.1).take iclR).flatMap D_).length≤40000:=by
    have:=eN (l:=d.2.2.2.2.2.2.2.2.2.2.1) (i:=iclR) (g:=D_) (c:=1) fun _ _=>Nat.le_refl _
    rw [List.length_append]
    omega
   have htk:=eU (b:=b1) (g:=D_) hx rfl
   refine aB h ?_
   clear h
   repeat' first|kernel_rfl|(refine dk [5,1] (Nat.le_refl _) hE (fun _ _ ht=>ht.mem.below.size) iT (by simp only [List.length_cons,List.length_nil];omega) qD qK ?_)|exact a8 fun _ _ h=>⟨kclR - 1,by omega,iclR+1,by omega,by rw [←htk];exact h.keep [3,5,1]⟩|apply Bt.mk|refine nx ?_|apply az|apply aW|apply ae|refine aQ rfl ?_|exact bU|(intro _;simp only[cf,ci,cm,List.map,List.cons_append,List.nil_append])|intro _
  ·have hil:iclR=(d.2.2.2.2.2.2.2.2.2.2.1).length:=qO
   have hcd:decide ((iclR:Int)<((d.2.2.2.2.2.2.2.2.2.2.1).length:Int))=false:=decide_eq_false qO
   rw [show (d.2.2.2.2.2.2.2.2.2.2.1).take iclR=d.2.2.2.2.2.2.2.2.2.2.1 by rw [hil,List.take_length]] at h
   obtain ⟨b2,hb2⟩:∃ b,b=b1++(d.2.2.2.2.2.2.2.2.2.2.1).flatMap D_:=⟨_,rfl⟩
   rw [←hb2] at h
   have hlb2:b2.length≤114:=by
    rw [hb2,List.length_append]
    have:=dD (l:=d.2.2.2.2.2.2.2.2.2.2.1) (g:=D_) (c:=1) fun _ _=>Nat.le_refl _
    omega
   refine aB h ?_
   clear h
   repeat' first|kernel_rfl|apply Bt.mk|refine nx ?_|apply az|apply aW|apply ae|refine aQ rfl ?_|exact bU|intro _
   refine aY fun a w h=> ?_
   have e0:b2++((d.2.2.2.2.2.2.2.2.2.2.2.2).take 0).flatMap Ca=b2:=by simp
   refine aO (fun kk a u=>∃ k0:Nat,k0+kk=(d.2.2.2.2.2.2.2.2.2.2.2.2).length∧TS w0 (r1::X) [(r1, .tr ab [] C d)] [(3, .to Rp.frac 27 [] C w0.heap.size (b2++((d.2.2.2.2.2.2.2.2.2.2.2.2).take k0).flatMap Ca)),(6, .is (.int .i64 (k0:Int))),(1, .is (.pointer (some ⟨r1,0,none⟩)))] 159 a u) (d.2.2.2.2.2.2.2.2.2.2.2.2).length ⟨0,by omega,by rw [e0];exact h.keep [3,6,1]⟩ ?_
   clear h e0
   rintro kk a u ⟨k0,hik0,h⟩
   by_cases hlt:k0<(d.2.2.2.2.2.2.2.2.2.2.2.2).length
   ·obtain ⟨y,hxy⟩:∃ x,(d.2.2.2.2.2.2.2.2.2.2.2.2)[k0]? =some x:=⟨_,List.getElem?_eq_getElem hlt⟩
    have hcd:decide ((k0:Int)<((d.2.2.2.2.2.2.2.2.2.2.2.2).length:Int))=true:=decide_eq_true qO
    have hw:IntKind.i64.wrap ((k0:Int)+1)=((k0+1:Nat):Int):=aA qO qO
    have hx:=hxy
    have hy:=hc.yr y (List.mem_of_getElem? hx)
    obtain ⟨c0,hc0⟩:∃ b,b=b2++((d.2.2.2.2.2.2.2.2.2.2.2.2).take k0).flatMap Ca:=⟨_,rfl⟩
    rw [←hc0] at h
    have hlc0:c0.length≤114+45*240:=by
     rw [hc0,List.length_append]
     have h1:=eN (l:=d.2.2.2.2.2.2.2.2.2.2.2.2) (i:=k0) (g:=Ca) (c:=240) fun y hy=>E6 (hc.yr y hy)
     have h2:(d.2.2.2.2.2.2.2.2.2.2.2.2).length*240≤45*240:=Nat.mul_le_mul hc.ys (Nat.le_refl _)
     omega
    refine aB h ?_
    clear h
    repeat' first|kernel_rfl|apply Bt.mk|refine nx ?_|apply az|apply aW|apply ae|refine aQ rfl ?_|exact bU|intro _
    refine aY fun a w h=> ?_
    rename_i r7
    obtain ⟨hy1,hy2,hy3,hy4,hy5⟩:=hy
    have e0:c0++((y.2.1).take 0).flatMap zC=c0:=by simp
    refine aO (fun k1 a u=>∃ i1:Nat,i1+k1=(y.2.1).length∧TS w0 (r7::r1::X) [(r7, .tr aw [] C y),(r1, .tr ab [] C d)] [(3, .to Rp.frac 27 [] C w0.heap.size (c0++((y.2.1).take i1).flatMap zC)),(8, .is (.int .i64 (i1:Int))),(6, .is (.int .i64 (k0:Int))),(7, .is (.pointer (some ⟨r7,0,none⟩))),(1, .is (.pointer (some ⟨r1,0,none⟩)))] 159 a u) (y.2.1).length ⟨0,by omega,by rw [e0];exact h.keep [3,8,6,7,1]⟩ ?_
    clear h e0
    rintro k1 a u ⟨i1,hii1,h⟩
    by_cases hlt:i1<(y.2.1).length
    ·obtain ⟨x,hx⟩:∃ x,(y.2.1)[i1]? =some x:=⟨_,List.getElem?_eq_getElem hlt⟩
     have hcd:decide ((i1:Int)<((y.2.1).length:Int))=true:=decide_eq_true qO
     have hw:IntKind.i64.wrap ((i1:Int)+1)=((i1+1:Nat):Int):=aA qO qO
     have hlen:(c0++((y.2.1).take i1).flatMap zC).length≤40000:=by
      have:=eN (l:=y.2.1) (i:=i1) (g:=zC) (c:=1) fun _ _=>Nat.le_refl _
      rw [List.length_append]
      omega
     have htk:=eU (b:=c0) (g:=zC) hx rfl
     refine aB h ?_
     clear h
     repeat' first|kernel_rfl|(refine dk [8,6,7,1] (Nat.le_refl _) hE (fun _ _ ht=>ht.mem.below.size) iT (by simp only [List.length_cons,List.length_nil];omega) qD qK ?_)|exact a8 fun _ _ h=>⟨k1 - 1,by omega,i1+1,by omega,by rw [←htk];exact h.keep [3,8,6,7,1]⟩|apply Bt.mk|refine nx ?_|apply az|apply aW|apply ae|refine aQ rfl ?_|exact bU|(intro _;simp only[cf,ci,cm,List.map,List.cons_append,List.nil_append])|intro _
    ·have hil:i1=(y.2.1).length:=qO
     have hcd:decide ((i1:Int)<((y.2.1).length:Int))=false:=decide_eq_false qO
     rw [show (y.2.1).take i1=y.2.1 by rw [hil,List.take_length]] at h
     obtain ⟨c1,hc1⟩:∃ b,b=c0++(y.2.1).flatMap zC:=⟨_,rfl⟩
     rw [←hc1] at h
     have hlc1:c1.length≤10954:=by
      rw [hc1,List.length_append]
      have:=dD (l:=y.2.1) (g:=zC) (c:=1) fun _ _=>Nat.le_refl _
      omega
     refine aB h ?_
     clear h
     repeat' first|kernel_rfl|apply Bt.mk|refine nx ?_|apply az|apply aW|apply ae|refine aQ rfl ?_|exact bU|intro _
     refine aY fun a w h=> ?_
     have e0:c1++((y.2.2.1).take 0).flatMap Dz=c1:=by simp
     refine aO (fun k2 a u=>∃ i2:Nat,i2+k2=(y.2.2.1).length∧TS w0 (r7::r1::X) [(r7, .tr aw [] C y),(r1, .tr ab [] C d)] [(3, .to Rp.frac 27 [] C w0.heap.size (c1++((y.2.2.1).take i2).flatMap Dz)),(9, .is (.int .i64 (i2:Int))),(6, .is (.int .i64 (k0:Int))),(7, .is (.pointer (some ⟨r7,0,none⟩))),(1, .is (.pointer (some ⟨r1,0,none⟩)))] 159 a u) (y.2.2.1).length ⟨0,by omega,by rw [e0];exact h.keep [3,9,6,7,1]⟩ ?_
     clear h e0
     rintro k2 a u ⟨i2,hii2,h⟩
     by_cases hlt:i2<(y.2.2.1).length
     ·obtain ⟨x,hx⟩:∃ x,(y.2.2.1)[i2]? =some x:=⟨_,List.getElem?_eq_getElem hlt⟩
      have hcd:decide ((i2:Int)<((y.2.2.1).length:Int))=true:=decide_eq_true qO
      have hw:IntKind.i64.wrap ((i2:Int)+1)=((i2+1:Nat):Int):=aA qO qO
      have hlen:(c1++((y.2.2.1).take i2).flatMap Dz).length≤40000:=by
       have:=eN (l:=y.2.2.1) (i:=i2) (g:=Dz) (c:=1) fun _ _=>Nat.le_refl _
       rw [List.length_append]
       omega
      have htk:=eU (b:=c1) (g:=Dz) hx rfl
      refine aB h ?_
      clear h
      repeat' first|kernel_rfl|(refine dk [9,6,7,1] (Nat.le_refl _) hE (fun _ _ ht=>ht.mem.below.size) iT (by simp only [List.length_cons,List.length_nil];omega) qD qK ?_)|exact a8 fun _ _ h=>⟨k2 - 1,by omega,i2+1,by omega,by rw [←htk];exact h.keep [3,9,6,7,1]⟩|apply Bt.mk|refine nx ?_|apply az|apply aW|apply ae|refine aQ rfl ?_|exact bU|(intro _;simp only[cf,ci,cm,List.map,List.cons_append,List.nil_append])|intro _
     ·have hil:i2=(y.2.2.1).length:=qO
      have hcd:decide ((i2:Int)<((y.2.2.1).length:Int))=false:=decide_eq_false qO
      rw [show (y.2.2.1).take i2=y.2.2.1 by rw [hil,List.take_length]] at h
      obtain ⟨c2,hc2⟩:∃ b,b=c1++(y.2.2.1).flatMap Dz:=⟨_,rfl⟩
      rw [←hc2] at h
      have hlc2:c2.length≤10994:=by
       rw [hc2,List.length_append]
       have:=dD (l:=y.2.2.1) (g:=Dz) (c:=1) fun _ _=>Nat.le_refl _
       omega
      refine aB h ?_
      clear h
      repeat' first|kernel_rfl|apply Bt.mk|refine nx ?_|apply az|apply aW|apply ae|refine aQ rfl ?_|exact bU|intro _
      refine aY fun a w h=> ?_
      have e0:c2++((y.2.2.2.1).take 0).flatMap Ds=c2:=by simp
      refine aO (fun k3 a u=>∃ i3:Nat,i3+k3=(y.2.2.2.1).length∧TS w0 (r7::r1::X) [(r7, .tr aw [] C y),(r1, .tr ab [] C d)] [(3, .to Rp.frac 27 [] C w0.heap.size (c2++((y.2.2.2.1).take i3).flatMap Ds)),(10, .is (.int .i64 (i3:Int))),(6, .is (.int .i64 (k0:Int))),(7, .is (.pointer (some ⟨r7,0,none⟩))),(1, .is (.pointer (some ⟨r1,0,none⟩)))] 159 a u) (y.2.2.2.1).length ⟨0,by omega,by rw [e0];exact h.keep [3,10,6,7,1]⟩ ?_
      clear h e0
      rintro k3 a u ⟨i3,hii3,h⟩
      by_cases hlt:i3<(y.2.2.2.1).length
      ·obtain ⟨x,hx⟩:∃ x,(y.2.2.2.1)[i3]? =some x:=⟨_,List.getElem?_eq_getElem hlt⟩
       have hcd:decide ((i3:Int)<((y.2.2.2.1).length:Int))=true:=decide_eq_true qO
       have hw:IntKind.i64.wrap ((i3:Int)+1)=((i3+1:Nat):Int):=aA qO qO
       have hlen:(c2++((y.2.2.2.1).take i3).flatMap Ds).length≤40000:=by
        have:=eN (l:=y.2.2.2.1) (i:=i3) (g:=Ds) (c:=1) fun _ _=>Nat.le_refl _
        rw [List.length_append]
        omega
       have htk:=eU (b:=c2) (g:=Ds) hx rfl
       refine aB h ?_
       clear h
       repeat' first|kernel_rfl|(refine dk [10,6,7,1] (Nat.le_refl _) hE (fun _ _ ht=>ht.mem.below.size) iT (by simp only [List.length_cons,List.length_nil];omega) qD qK ?_)|exact a8 fun _ _ h=>⟨k3 - 1,by omega,i3+1,by omega,by rw [←htk];exact h.keep [3,10,6,7,1]⟩|apply Bt.mk|refine nx ?_|apply az|apply aW|apply ae|refine aQ rfl ?_|exact bU|(intro _;simp only[cf,ci,cm,List.map,List.cons_append,List.nil_append])|intro _
      ·have hil:i3=(y.2.2.2.1).length:=qO
       have hcd:decide ((i3:Int)<((y.2.2.2.1).length:Int))=false:=decide_eq_false qO
       rw [show (y.2.2.2.1).take i3=y.2.2.2.1 by rw [hil,List.take_length]] at h
       obtain ⟨c3,hc3⟩:∃ b,b=c2++(y.2.2.2.1).flatMap Ds:=⟨_,rfl⟩
       rw [←hc3] at h
       have hlc3:c3.length≤11034:=by
        rw [hc3,List.length_append]
        have:=dD (l:=y.2.2.2.1) (g:=Ds) (c:=1) fun _ _=>Nat.le_refl _
        omega
       refine aB h ?_
       clear h
       repeat' first|kernel_rfl|apply Bt.mk|refine nx ?_|apply az|apply aW|apply ae|refine aQ rfl ?_|exact bU|intro _
       refine aY fun a w h=> ?_
       have e0:c3++((y.2.2.2.2.1).take 0).flatMap CI=c3:=by simp
       refine aO (fun k4 a u=>∃ i4:Nat,i4+k4=(y.2.2.2.2.1).length∧TS w0 (r7::r1::X) [(r7, .tr aw [] C y),(r1, .tr ab [] C d)] [(3, .to Rp.frac 27 [] C w0.heap.size (c3++((y.2.2.2.2.1).take i4).flatMap CI)),(11, .is (.int .i64 (i4:Int))),(6, .is (.int .i64 (k0:Int))),(7, .is (.pointer (some ⟨r7,0,none⟩))),(1, .is (.pointer (some ⟨r1,0,none⟩)))] 159 a u) (y.2.2.2.2.1).length ⟨0,by omega,by rw [e0];exact h.keep [3,11,6,7,1]⟩ ?_
       clear h e0
       rintro k4 a u ⟨i4,hii4,h⟩
       by_cases hlt:i4<(y.2.2.2.2.1).length
       ·obtain ⟨x,hx⟩:∃ x,(y.2.2.2.2.1)[i4]? =some x:=⟨_,List.getElem?_eq_getElem hlt⟩
        have hcd:decide ((i4:Int)<((y.2.2.2.2.1).length:Int))=true:=decide_eq_true qO
        have hw:IntKind.i64.wrap ((i4:Int)+1)=((i4+1:Nat):Int):=aA qO qO
        have hlen:(c3++((y.2.2.2.2.1).take i4).flatMap CI).length≤40000:=by
         have:=eN (l:=y.2.2.2.2.1) (i:=i4) (g:=CI) (c:=2) fun _ _=>Nat.le_refl _
         rw [List.length_append]
         omega
        have htk:=eU (b:=c3) (g:=CI) hx rfl
        refine aB h ?_
        clear h
        repeat' first|kernel_rfl|(refine dk [11,6,7,1] (Nat.le_refl _) hE (fun _ _ ht=>ht.mem.below.size) iT (by simp only [List.length_cons,List.length_nil];omega) qD qK ?_)|exact a8 fun _ _ h=>⟨k4 - 1,by omega,i4+1,by omega,by rw [←htk];exact h.keep [3,11,6,7,1]⟩|apply Bt.mk|refine nx ?_|apply ar (id:=29) [] [] 14|apply az|apply aW|apply ae|refine aQ rfl ?_|exact bU|(intro _;simp only[cf,ci,cm,List.map,List.cons_append,List.nil_append])|intro _
       ·have hil:i4=(y.2.2.2.2.1).length:=qO
        have hcd:decide ((i4:Int)<((y.2.2.2.2.1).length:Int))=false:=decide_eq_false qO
        rw [show (y.2.2.2.2.1).take i4=y.2.2.2.2.1 by rw [hil,List.take_length]] at h
        obtain ⟨c4,hc4⟩:∃ b,b=c3++(y.2.2.2.2.1).flatMap CI:=⟨_,rfl⟩
        rw [←hc4] at h
        have hlc4:c4.length≤11114:=by
         rw [hc4,List.length_append]
         have:=dD (l:=y.2.2.2.2.1) (g:=CI) (c:=2) fun _ _=>Nat.le_refl _
         omega
        refine aB h ?_
        clear h
        repeat' first|kernel_rfl|apply Bt.mk|refine nx ?_|apply az|apply aW|apply ae|refine aQ rfl ?_|exact bU|intro _
        refine aY fun a w h=> ?_
        have e0:c4++((y.2.2.2.2.2).take 0).flatMap Dw=c4:=by simp
        refine aO (fun k5 a u=>∃ i5:Nat,i5+k5=(y.2.2.2.2.2).length∧TS w0 (r7::r1::X) [(r7, .tr aw [] C y),(r1, .tr ab [] C d)] [(3, .to Rp.frac 27 [] C w0.heap.size (c4++((y.2.2.2.2.2).take i5).flatMap Dw)),(12, .is (.int .i64 (i5:Int))),(6, .is (.int .i64 (k0:Int))),(7, .is (.pointer (some ⟨r7,0,none⟩))),(1, .is (.pointer (some ⟨r1,0,none⟩)))] 159 a u) (y.2.2.2.2.2).length ⟨0,by omega,by rw [e0];exact h.keep [3,12,6,7,1]⟩ ?_
        clear h e0
        rintro k5 a u ⟨i5,hii5,h⟩
        by_cases hlt:i5<(y.2.2.2.2.2).length
        ·obtain ⟨x,hx⟩:∃ x,(y.2.2.2.2.2)[i5]? =some x:=⟨_,List.getElem?_eq_getElem hlt⟩
         have hcd:decide ((i5:Int)<((y.2.2.2.2.2).length:Int))=true:=decide_eq_true qO
         have hw:IntKind.i64.wrap ((i5:Int)+1)=((i5+1:Nat):Int):=aA qO qO
         have hlen:(c4++((y.2.2.2.2.2).take i5).flatMap Dw).length≤40000:=by
          have:=eN (l:=y.2.2.2.2.2) (i:=i5) (g:=Dw) (c:=1) fun _ _=>Nat.le_refl _
          rw [List.length_append]
          omega
         have htk:=eU (b:=c4) (g:=Dw) hx rfl
         refine aB h ?_
         clear h
         repeat' first|kernel_rfl|(refine dk [12,6,7,1] (Nat.le_refl _) hE (fun _ _ ht=>ht.mem.below.size) iT (by simp only [List.length_cons,List.length_nil];omega) qD qK ?_)|exact a8 fun _ _ h=>⟨k5 - 1,by omega,i5+1,by omega,by rw [←htk];exact h.keep [3,12,6,7,1]⟩|apply Bt.mk|refine nx ?_|apply az|apply aW|apply ae|refine aQ rfl ?_|exact bU|(intro _;simp only[cf,ci,cm,List.map,List.cons_append,List.nil_append])|intro _
        ·have hil:i5=(y.2.2.2.2.2).length:=qO
         have hcd:decide ((i5:Int)<((y.2.2.2.2.2).length:Int))=false:=decide_eq_false qO
         rw [show (y.2.2.2.2.2).take i5=y.2.2.2.2.2 by rw [hil,List.take_length]] at h
         obtain ⟨c5,hc5⟩:∃ b,b=c4++(y.2.2.2.2.2).flatMap Dw:=⟨_,rfl⟩
         rw [←hc5] at h
         have hlc5:c5.length≤11154:=by
          rw [hc5,List.length_append]
          have:=dD (l:=y.2.2.2.2.2) (g:=Dw) (c:=1) fun _ _=>Nat.le_refl _
          omega
         have htk:c5=b2++((d.2.2.2.2.2.2.2.2.2.2.2.2).take (k0+1)).flatMap Ca:=by
          rw [←eU hxy rfl,←hc0,hc5,hc4,hc3,hc2,hc1]
          unfold Ca
          simp only [List.append_assoc]
         rw [htk] at h
         refine aB h ?_
         clear h
         repeat' first|kernel_rfl|exact a8 fun _ _ h=>⟨kk - 1,by omega,k0+1,by omega,h.drop.keep [3,6,1]⟩|apply Bt.mk|refine nx ?_|apply az|apply aW|apply ae|refine aQ rfl ?_|exact bU|intro _
   ·have hil:k0=(d.2.2.2.2.2.2.2.2.2.2.2.2).length:=qO
    have hcd:decide ((k0:Int)<((d.2.2.2.2.2.2.2.2.2.2.2.2).length:Int))=false:=decide_eq_false qO
    rw [show (d.2.2.2.2.2.2.2.2.2.2.2.2).take k0=d.2.2.2.2.2.2.2.2.2.2.2.2 by rw [hil,List.take_length]] at h
    have efin:b2++(d.2.2.2.2.2.2.2.2.2.2.2.2).flatMap Ca=mV d:=by
     rw [hb2,hb1,hb0]
     rfl
    rw [efin] at h
    refine aB h ?_
    clear h
    repeat' first|kernel_rfl|apply Bt.mk|refine nx ?_|apply az|apply aW|apply ae|refine aQ rfl ?_|exact bU|intro _
theorem Iv {d:aj} (hc:qX d):bW Tryz.prog S1 12 [0] [.ra ab d] (fun _=> .rw Rp.frac tt (mV d)):=⟨(xM hc 0).ent,fN.const.down,fun {X w vs} hG hX ha=>by
 obtain ⟨v,rfl,h⟩:=ha.one
 refine ((xM hc w.heap.size).run (X:=X) (w:=w) (vs:=[v]) (Nat.le_refl w.heap.size) hX ⟨tG h,trivial⟩).mono ?_
 rintro e w' ⟨v',rfl,hT,hB⟩
 exact ⟨v',rfl,Dr hT,hB⟩⟩
theorem DW {d:aj} (hc:qX d):bW Tryz.prog S1 14 [0] [.ra ab d] (fun _=> .rw Rp.str tt (nH d)):=by
 refine Ii (As':=fun B=>[.tr ab [] B d]) Tryz.func14 rfl Tryz.ntmps14 qE (fun _ _=>by kernel_rfl) (fun {X w vs} ha=>by
  obtain ⟨v,rfl,h⟩:=ha.one
  exact ⟨tG h,trivial⟩) fun X w0 hE=> ?_
 repeat' first|kernel_rfl|(refine dk [1] (Nat.le_refl _) (Nat.le_refl _) (fun _ _ ht=>ht.mem.below.size) hZ (by have:=hc.en;simp only [List.length_cons,List.length_nil];omega) qD qK ?_)|apply Bt.mk|refine nx ?_|apply az|apply aW|apply ae|refine aQ rfl ?_|exact bU|(intro _;simp only[cf,ci,cm,List.map,List.cons_append,List.nil_append])|intro _
 refine aY fun a w h=> ?_
 rename_i r1
 obtain ⟨b0,hb0⟩:∃ b,b=([d.1,d.2.1]++d.2.2.2.2.2.2.2.2.2.2.2.1):=⟨_,rfl⟩
 have hl0:b0.length≤262:=by rw [hb0];have:=hc.en;simp<;>omega
 have hcb:=hc.br
 have hcc:=hc.cl
 have hcs:=hc.ys
 have e0:b0++((d.2.2.2.2.2.2.2.2.2.2.1).take 0).flatMap Ea=b0:=by simp
 refine aO (fun kclS a u=>∃ iclS:Nat,iclS+kclS=(d.2.2.2.2.2.2.2.2.2.2.1).length∧TS w0 (r1::X) [(r1, .tr ab [] w0.heap.size d)] [(3, .to Rp.str 9 [] w0.heap.size w0.heap.size (b0++((d.2.2.2.2.2.2.2.2.2.2.1).take iclS).flatMap Ea)),(4, .is (.int .i64 (iclS:Int))),(1, .is (.pointer (some ⟨r1,0,none⟩)))] 150 a u) (d.2.2.2.2.2.2.2.2.2.2.1).length ⟨0,by omega,by rw [e0,hb0];exact h.keep [3,4,1]⟩ ?_
 clear h e0
 rintro kclS a u ⟨iclS,hiiclS,h⟩
 by_cases hlt:iclS<(d.2.2.2.2.2.2.2.2.2.2.1).length
 ·obtain ⟨x,hx⟩:∃ x,(d.2.2.2.2.2.2.2.2.2.2.1)[iclS]? =some x:=⟨_,List.getElem?_eq_getElem hlt⟩
  have hcd:decide ((iclS:Int)<((d.2.2.2.2.2.2.2.2.2.2.1).length:Int))=true:=decide_eq_true qO
  have hw:IntKind.i64.wrap ((iclS:Int)+1)=((iclS+1:Nat):Int):=aA qO qO
  have hlen:(b0++((d.2.2.2.2.2.2.2.2.2.2.1).take iclS).flatMap Ea).length≤40000:=by
   have:=eN (l:=d.2.2.2.2.2.2.2.2.2.2.1) (i:=iclS) (g:=Ea) (c:=1) fun _ _=>Nat.le_refl _
   rw [List.length_append]
   omega
  have htk:=eU (b:=b0) (g:=Ea) hx rfl
  refine aB h ?_
  clear h
  repeat' first|kernel_rfl|(refine dk [4,1] (Nat.le_refl _) (Nat.le_refl _) (fun _ _ ht=>ht.mem.below.size) hZ (by simp only [List.length_cons,List.length_nil];omega) qD qK ?_)|exact a8 fun _ _ h=>⟨kclS - 1,by omega,iclS+1,by omega,by rw [←htk];exact h.keep [3,4,1]⟩|apply Bt.mk|refine nx ?_|apply az|apply aW|apply ae|refine aQ rfl ?_|exact bU|(intro _;simp only[cf,ci,cm,List.map,List.cons_append,List.nil_append])|intro _
 ·have hil:iclS=(d.2.2.2.2.2.2.2.2.2.2.1).length:=qO
  have hcd:decide ((iclS:Int)<((d.2.2.2.2.2.2.2.2.2.2.1).length:Int))=false:=decide_eq_false qO
  rw [show (d.2.2.2.2.2.2.2.2.2.2.1).take iclS=d.2.2.2.2.2.2.2.2.2.2.1 by rw [hil,List.take_length]] at h
  obtain ⟨b1,hb1⟩:∃ b,b=b0++(d.2.2.2.2.2.2.2.2.2.2.1).flatMap Ea:=⟨_,rfl⟩
  rw [←hb1] at h
  have hlb1:b1.length≤332:=by
   rw [hb1,List.length_append]
   have:=dD (l:=d.2.2.2.2.2.2.2.2.2.2.1) (g:=Ea) (c:=1) fun _ _=>Nat.le_refl _
   omega
  refine aB h ?_
  clear h
  repeat' first|kernel_rfl|apply Bt.mk|refine nx ?_|apply az|apply aW|apply ae|refine aQ rfl ?_|exact bU|intro _
  refine aY fun a w h=> ?_
  have e0:b1++((d.2.2.2.2.2.2.2.2.2.2.2.2).take 0).flatMap Br=b1:=by simp
  refine aO (fun kk a u=>∃ k0:Nat,k0+kk=(d.2.2.2.2.2.2.2.2.2.2.2.2).length∧TS w0 (r1::X) [(r1, .tr ab [] w0.heap.size d)] [(3, .to Rp.str 9 [] w0.heap.size w0.heap.size (b1++((d.2.2.2.2.2.2.2.2.2.2.2.2).take k0).flatMap Br)),(5, .is (.int .i64 (k0:Int))),(1, .is (.pointer (some ⟨r1,0,none⟩)))] 150 a u) (d.2.2.2.2.2.2.2.2.2.2.2.2).length ⟨0,by omega,by rw [e0];exact h.keep [3,5,1]⟩ ?_
  clear h e0
  rintro kk a u ⟨k0,hik0,h⟩
  by_cases hlt:k0<(d.2.2.2.2.2.2.2.2.2.2.2.2).length
  ·obtain ⟨y,hxy⟩:∃ x,(d.2.2.2.2.2.2.2.2.2.2.2.2)[k0]? =some x:=⟨_,List.getElem?_eq_getElem hlt⟩
   have hcd:decide ((k0:Int)<((d.2.2.2.2.2.2.2.2.2.2.2.2).length:Int))=true:=decide_eq_true qO
   have hw:IntKind.i64.wrap ((k0:Int)+1)=((k0+1:Nat):Int):=aA qO qO
   have hx:=hxy
   have hy:=hc.yr y (List.mem_of_getElem? hx)
   obtain ⟨c0,hc0⟩:∃ b,b=b1++((d.2.2.2.2.2.2.2.2.2.2.2.2).take k0).flatMap Br:=⟨_,rfl⟩
   rw [←hc0] at h
   have hlc0:c0.length≤332+45*400:=by
    rw [hc0,List.length_append]
    have h1:=eN (l:=d.2.2.2.2.2.2.2.2.2.2.2.2) (i:=k0) (g:=Br) (c:=400) fun y hy=>Ee (hc.yr y hy)
    have h2:(d.2.2.2.2.2.2.2.2.2.2.2.2).length*400≤45*400:=Nat.mul_le_mul hc.ys (Nat.le_refl _)
    omega
   refine aB h ?_
   clear h
   repeat' first|kernel_rfl|apply Bt.mk|refine nx ?_|apply az|apply aW|apply ae|refine aQ rfl ?_|exact bU|intro _
   refine aY fun a w h=> ?_
   rename_i r7
   obtain ⟨hy1,hy2,hy3,hy4,hy5⟩:=hy
   have e0:c0++((y.2.1).take 0).flatMap Dk=c0:=by simp
   refine aO (fun k1 a u=>∃ i1:Nat,i1+k1=(y.2.1).length∧TS w0 (r7::r1::X) [(r7, .tr aw [] w0.heap.size y),(r1, .tr ab [] w0.heap.size d)] [(3, .to Rp.str 9 [] w0.heap.size w0.heap.size (c0++((y.2.1).take i1).flatMap Dk)),(7, .is (.int .i64 (i1:Int))),(5, .is (.int .i64 (k0:Int))),(6, .is (.pointer (some ⟨r7,0,none⟩))),(1, .is (.pointer (some ⟨r1,0,none⟩)))] 150 a u) (y.2.1).length ⟨0,by omega,by rw [e0];exact h.keep [3,7,5,6,1]⟩ ?_
   clear h e0
   rintro k1 a u ⟨i1,hii1,h⟩
   by_cases hlt:i1<(y.2.1).length
   ·obtain ⟨x,hx⟩:∃ x,(y.2.1)[i1]? =some x:=⟨_,List.getElem?_eq_getElem hlt⟩
    have hcd:decide ((i1:Int)<((y.2.1).length:Int))=true:=decide_eq_true qO
    have hw:IntKind.i64.wrap ((i1:Int)+1)=((i1+1:Nat):Int):=aA qO qO
    have hlen:(c0++((y.2.1).take i1).flatMap Dk).length≤40000:=by
     have:=eN (l:=y.2.1) (i:=i1) (g:=Dk) (c:=2) fun _ _=>Nat.le_refl _
     rw [List.length_append]
     omega
    have htk:=eU (b:=c0) (g:=Dk) hx rfl
    refine aB h ?_
    clear h
    repeat' first|kernel_rfl|(refine dk [7,5,6,1] (Nat.le_refl _) (Nat.le_refl _) (fun _ _ ht=>ht.mem.below.size) hZ (by simp only [List.length_cons,List.length_nil];omega) qD qK ?_)|exact a8 fun _ _ h=>⟨k1 - 1,by omega,i1+1,by omega,by rw [←htk];exact h.keep [3,7,5,6,1]⟩|apply Bt.mk|refine nx ?_|apply ar (id:=14) [] [] 14|apply az|apply aW|apply ae|refine aQ rfl ?_|exact bU|(intro _;simp only[cf,ci,cm,List.map,List.cons_append,List.nil_append])|intro _
   ·have hil:i1=(y.2.1).length:=qO
    have hcd:decide ((i1:Int)<((y.2.1).length:Int))=false:=decide_eq_false qO
    rw [show (y.2.1).take i1=y.2.1 by rw [hil,List.take_length]] at h
    obtain ⟨c1,hc1⟩:∃ b,b=c0++(y.2.1).flatMap Dk:=⟨_,rfl⟩
    rw [←hc1] at h
    have hlc1:c1.length≤18412:=by
     rw [hc1,List.length_append]
     have:=dD (l:=y.2.1) (g:=Dk) (c:=2) fun _ _=>Nat.le_refl _
     omega
    refine aB h ?_
    clear h
    repeat' first|kernel_rfl|apply Bt.mk|refine nx ?_|apply az|apply aW|apply ae|refine aQ rfl ?_|exact bU|intro _
    refine aY fun a w h=> ?_
    have e0:c1++((y.2.2.1).take 0).flatMap Bd=c1:=by simp
    refine aO (fun k2 a u=>∃ i2:Nat,i2+k2=(y.2.2.1).length∧TS w0 (r7::r1::X) [(r7, .tr aw [] w0.heap.size y),(r1, .tr ab [] w0.heap.size d)] [(3, .to Rp.str 9 [] w0.heap.size w0.heap.size (c1++((y.2.2.1).take i2).flatMap Bd)),(8, .is (.int .i64 (i2:Int))),(5, .is (.int .i64 (k0:Int))),(6, .is (.pointer (some ⟨r7,0,none⟩))),(1, .is (.pointer (some ⟨r1,0,none⟩)))] 150 a u) (y.2.2.1).length ⟨0,by omega,by rw [e0];exact h.keep [3,8,5,6,1]⟩ ?_
    clear h e0
    rintro k2 a u ⟨i2,hii2,h⟩
    by_cases hlt:i2<(y.2.2.1).length
    ·obtain ⟨x,hx⟩:∃ x,(y.2.2.1)[i2]? =some x:=⟨_,List.getElem?_eq_getElem hlt⟩
     have hcd:decide ((i2:Int)<((y.2.2.1).length:Int))=true:=decide_eq_true qO
     have hw:IntKind.i64.wrap ((i2:Int)+1)=((i2+1:Nat):Int):=aA qO qO
     have hlen:(c1++((y.2.2.1).take i2).flatMap Bd).length≤40000:=by
      have:=eN (l:=y.2.2.1) (i:=i2) (g:=Bd) (c:=2) fun _ _=>Nat.le_refl _
      rw [List.length_append]
      omega
     have htk:=eU (b:=c1) (g:=Bd) hx rfl
     refine aB h ?_
     clear h
     repeat' first|kernel_rfl|(refine dk [8,5,6,1] (Nat.le_refl _) (Nat.le_refl _) (fun _ _ ht=>ht.mem.below.size) hZ (by simp only [List.length_cons,List.length_nil];omega) qD qK ?_)|exact a8 fun _ _ h=>⟨k2 - 1,by omega,i2+1,by omega,by rw [←htk];exact h.keep [3,8,5,6,1]⟩|apply Bt.mk|refine nx ?_|apply ar (id:=18) [] [] 14|apply az|apply aW|apply ae|refine aQ rfl ?_|exact bU|(intro _;simp only[cf,ci,cm,List.map,List.cons_append,List.nil_append])|intro _
    ·have hil:i2=(y.2.2.1).length:=qO
     have hcd:decide ((i2:Int)<((y.2.2.1).length:Int))=false:=decide_eq_false qO
     rw [show (y.2.2.1).take i2=y.2.2.1 by rw [hil,List.take_length]] at h
     obtain ⟨c2,hc2⟩:∃ b,b=c1++(y.2.2.1).flatMap Bd:=⟨_,rfl⟩
     rw [←hc2] at h
     have hlc2:c2.length≤18492:=by
      rw [hc2,List.length_append]
      have:=dD (l:=y.2.2.1) (g:=Bd) (c:=2) fun _ _=>Nat.le_refl _
      omega
     refine aB h ?_
     clear h
     repeat' first|kernel_rfl|apply Bt.mk|refine nx ?_|apply az|apply aW|apply ae|refine aQ rfl ?_|exact bU|intro _
     refine aY fun a w h=> ?_
     have e0:c2++((y.2.2.2.1).take 0).flatMap zv=c2:=by simp
     refine aO (fun k3 a u=>∃ i3:Nat,i3+k3=(y.2.2.2.1).length∧TS w0 (r7::r1::X) [(r7, .tr aw [] w0.heap.size y),(r1, .tr ab [] w0.heap.size d)] [(3, .to Rp.str 9 [] w0.heap.size w0.heap.size (c2++((y.2.2.2.1).take i3).flatMap zv)),(9, .is (.int .i64 (i3:Int))),(5, .is (.int .i64 (k0:Int))),(6, .is (.pointer (some ⟨r7,0,none⟩))),(1, .is (.pointer (some ⟨r1,0,none⟩)))] 150 a u) (y.2.2.2.1).length ⟨0,by omega,by rw [e0];exact h.keep [3,9,5,6,1]⟩ ?_
     clear h e0
     rintro k3 a u ⟨i3,hii3,h⟩
     by_cases hlt:i3<(y.2.2.2.1).length
     ·obtain ⟨x,hx⟩:∃ x,(y.2.2.2.1)[i3]? =some x:=⟨_,List.getElem?_eq_getElem hlt⟩
      have hcd:decide ((i3:Int)<((y.2.2.2.1).length:Int))=true:=decide_eq_true qO
      have hw:IntKind.i64.wrap ((i3:Int)+1)=((i3+1:Nat):Int):=aA qO qO
      have hlen:(c2++((y.2.2.2.1).take i3).flatMap zv).length≤40000:=by
       have:=eN (l:=y.2.2.2.1) (i:=i3) (g:=zv) (c:=4) fun _ _=>Nat.le_refl _
       rw [List.length_append]
       omega
      have htk:=eU (b:=c2) (g:=zv) hx rfl
      refine aB h ?_
      clear h
      repeat' first|kernel_rfl|(refine dk [9,5,6,1] (Nat.le_refl _) (Nat.le_refl _) (fun _ _ ht=>ht.mem.below.size) hZ (by simp only [List.length_cons,List.length_nil];omega) qD qK ?_)|exact a8 fun _ _ h=>⟨k3 - 1,by omega,i3+1,by omega,by rw [←htk];exact h.drop.keep [3,9,5,6,1]⟩|apply Bt.mk|refine nx ?_|apply az|apply aW|apply ae|refine aQ rfl ?_|exact bU|(intro _;simp only[cf,ci,cm,List.map,List.cons_append,List.nil_append])|intro _
     ·have hil:i3=(y.2.2.2.1).length:=qO
      have hcd:decide ((i3:Int)<((y.2.2.2.1).length:Int))=false:=decide_eq_false qO
      rw [show (y.2.2.2.1).take i3=y.2.2.2.1 by rw [hil,List.take_length]] at h
      obtain ⟨c3,hc3⟩:∃ b,b=c2++(y.2.2.2.1).flatMap zv:=⟨_,rfl⟩
      rw [←hc3] at h
      have hlc3:c3.length≤18652:=by
       rw [hc3,List.length_append]
       have:=dD (l:=y.2.2.2.1) (g:=zv) (c:=4) fun _ _=>Nat.le_refl _
       omega
      refine aB h ?_
      clear h
      repeat' first|kernel_rfl|apply Bt.mk|refine nx ?_|apply az|apply aW|apply ae|refine aQ rfl ?_|exact bU|intro _
      refine aY fun a w h=> ?_
      have e0:c3++((y.2.2.2.2.1).take 0).flatMap Dt=c3:=by simp
      refine aO (fun k4 a u=>∃ i4:Nat,i4+k4=(y.2.2.2.2.1).length∧TS w0 (r7::r1::X) [(r7, .tr aw [] w0.heap.size y),(r1, .tr ab [] w0.heap.size d)] [(3, .to Rp.str 9 [] w0.heap.size w0.heap.size (c3++((y.2.2.2.2.1).take i4).flatMap Dt)),(11, .is (.int .i64 (i4:Int))),(5, .is (.int .i64 (k0:Int))),(6, .is (.pointer (some ⟨r7,0,none⟩))),(1, .is (.pointer (some ⟨r1,0,none⟩)))] 150 a u) (y.2.2.2.2.1).length ⟨0,by omega,by rw [e0];exact h.keep [3,11,5,6,1]⟩ ?_
      clear h e0
      rintro k4 a u ⟨i4,hii4,h⟩
      by_cases hlt:i4<(y.2.2.2.2.1).length
      ·obtain ⟨x,hx⟩:∃ x,(y.2.2.2.2.1)[i4]? =some x:=⟨_,List.getElem?_eq_getElem hlt⟩
       have hcd:decide ((i4:Int)<((y.2.2.2.2.1).length:Int))=true:=decide_eq_true qO
       have hw:IntKind.i64.wrap ((i4:Int)+1)=((i4+1:Nat):Int):=aA qO qO
       have hlen:(c3++((y.2.2.2.2.1).take i4).flatMap Dt).length≤40000:=by
        have:=eN (l:=y.2.2.2.2.1) (i:=i4) (g:=Dt) (c:=1) fun _ _=>Nat.le_refl _
        rw [List.length_append]
        omega
       have htk:=eU (b:=c3) (g:=Dt) hx rfl
       refine aB h ?_
       clear h
       repeat' first|kernel_rfl|(refine dk [11,5,6,1] (Nat.le_refl _) (Nat.le_refl _) (fun _ _ ht=>ht.mem.below.size) hZ (by simp only [List.length_cons,List.length_nil];omega) qD qK ?_)|exact a8 fun _ _ h=>⟨k4 - 1,by omega,i4+1,by omega,by rw [←htk];exact h.keep [3,11,5,6,1]⟩|apply Bt.mk|refine nx ?_|apply az|apply aW|apply ae|refine aQ rfl ?_|exact bU|(intro _;simp only[cf,ci,cm,List.map,List.cons_append,List.nil_append])|intro _
      ·have hil:i4=(y.2.2.2.2.1).length:=qO
       have hcd:decide ((i4:Int)<((y.2.2.2.2.1).length:Int))=false:=decide_eq_false qO
       rw [show (y.2.2.2.2.1).take i4=y.2.2.2.2.1 by rw [hil,List.take_length]] at h
       obtain ⟨c4,hc4⟩:∃ b,b=c3++(y.2.2.2.2.1).flatMap Dt:=⟨_,rfl⟩
       rw [←hc4] at h
       have hlc4:c4.length≤18692:=by
        rw [hc4,List.length_append]
        have:=dD (l:=y.2.2.2.2.1) (g:=Dt) (c:=1) fun _ _=>Nat.le_refl _
        omega
       refine aB h ?_
       clear h
       repeat' first|kernel_rfl|apply Bt.mk|refine nx ?_|apply az|apply aW|apply ae|refine aQ rfl ?_|exact bU|intro _
       refine aY fun a w h=> ?_
       have e0:c4++((y.2.2.2.2.2).take 0).flatMap Dx=c4:=by simp
       refine aO (fun k5 a u=>∃ i5:Nat,i5+k5=(y.2.2.2.2.2).length∧TS w0 (r7::r1::X) [(r7, .tr aw [] w0.heap.size y),(r1, .tr ab [] w0.heap.size d)] [(3, .to Rp.str 9 [] w0.heap.size w0.heap.size (c4++((y.2.2.2.2.2).take i5).flatMap Dx)),(12, .is (.int .i64 (i5:Int))),(5, .is (.int .i64 (k0:Int))),(6, .is (.pointer (some ⟨r7,0,none⟩))),(1, .is (.pointer (some ⟨r1,0,none⟩)))] 150 a u) (y.2.2.2.2.2).length ⟨0,by omega,by rw [e0];exact h.keep [3,12,5,6,1]⟩ ?_
       clear h e0
       rintro k5 a u ⟨i5,hii5,h⟩
       by_cases hlt:i5<(y.2.2.2.2.2).length
       ·obtain ⟨x,hx⟩:∃ x,(y.2.2.2.2.2)[i5]? =some x:=⟨_,List.getElem?_eq_getElem hlt⟩
        have hcd:decide ((i5:Int)<((y.2.2.2.2.2).length:Int))=true:=decide_eq_true qO
        have hw:IntKind.i64.wrap ((i5:Int)+1)=((i5+1:Nat):Int):=aA qO qO
        have hlen:(c4++((y.2.2.2.2.2).take i5).flatMap Dx).length≤40000:=by
         have:=eN (l:=y.2.2.2.2.2) (i:=i5) (g:=Dx) (c:=1) fun _ _=>Nat.le_refl _
         rw [List.length_append]
         omega
        have htk:=eU (b:=c4) (g:=Dx) hx rfl
        refine aB h ?_
        clear h
        repeat' first|kernel_rfl|(refine dk [12,5,6,1] (Nat.le_refl _) (Nat.le_refl _) (fun _ _ ht=>ht.mem.below.size) hZ (by simp only [List.length_cons,List.length_nil];omega) qD qK ?_)|exact a8 fun _ _ h=>⟨k5 - 1,by omega,i5+1,by omega,by rw [←htk];exact h.keep [3,12,5,6,1]⟩|apply Bt.mk|refine nx ?_|apply az|apply aW|apply ae|refine aQ rfl ?_|exact bU|(intro _;simp only[cf,ci,cm,List.map,List.cons_append,List.nil_append])|intro _
       ·have hil:i5=(y.2.2.2.2.2).length:=qO
        have hcd:decide ((i5:Int)<((y.2.2.2.2.2).length:Int))=false:=decide_eq_false qO
        rw [show (y.2.2.2.2.2).take i5=y.2.2.2.2.2 by rw [hil,List.take_length]] at h
        obtain ⟨c5,hc5⟩:∃ b,b=c4++(y.2.2.2.2.2).flatMap Dx:=⟨_,rfl⟩
        rw [←hc5] at h
        have hlc5:c5.length≤18732:=by
         rw [hc5,List.length_append]
         have:=dD (l:=y.2.2.2.2.2) (g:=Dx) (c:=1) fun _ _=>Nat.le_refl _
         omega
        have htk:c5=b1++((d.2.2.2.2.2.2.2.2.2.2.2.2).take (k0+1)).flatMap Br:=by
         rw [←eU hxy rfl,←hc0,hc5,hc4,hc3,hc2,hc1]
         unfold Br
         simp only [List.append_assoc]
        rw [htk] at h
        refine aB h ?_
        clear h
        repeat' first|kernel_rfl|exact a8 fun _ _ h=>⟨kk - 1,by omega,k0+1,by omega,h.drop.keep [3,5,1]⟩|apply Bt.mk|refine nx ?_|apply az|apply aW|apply ae|refine aQ rfl ?_|exact bU|intro _
  ·have hil:k0=(d.2.2.2.2.2.2.2.2.2.2.2.2).length:=qO
   have hcd:decide ((k0:Int)<((d.2.2.2.2.2.2.2.2.2.2.2.2).length:Int))=false:=decide_eq_false qO
   rw [show (d.2.2.2.2.2.2.2.2.2.2.2.2).take k0=d.2.2.2.2.2.2.2.2.2.2.2.2 by rw [hil,List.take_length]] at h
   have efin:b1++(d.2.2.2.2.2.2.2.2.2.2.2.2).flatMap Br=nH d:=by
    rw [hb1,hb0]
    rfl
   rw [efin] at h
   refine aB h ?_
   clear h
   repeat' first|kernel_rfl|apply Bt.mk|refine nx ?_|apply az|apply aW|apply ae|refine aQ rfl ?_|exact ⟨fun _ _=>fun _ h=>Dr h⟩|exact bU|intro _
instance:K1 Rp.limbs:=⟨rfl⟩
def ja (x:aR):Bool:= !decide ((6:Int)<(x.1.2.length:Int))&& !decide ((6:Int)<(x.2.2.length:Int))
def rp (t:List UInt8):Bool:= !decide ((70:Int)<(t.length:Int))
theorem ib{α:Type} {p:α→Bool} {l:List α} {x:α} (h:l[i]? =some x) (hp:p x=false):l.all p=false:=by
 rw [Bool.eq_false_iff]
 intro ha
 rw [List.all_eq_true.1 ha x (List.mem_of_getElem? h)] at hp
 cases hp
theorem qp{α:Type} {p:α→Bool} {l:List α} {x:α} (h:l[i]? =some x) (hp:p x=true) (ha:(l.take i).all p=true):(l.take (i+1)).all p=true:=by
 rw [fQ h,List.all_append,ha]
 simp [hp]
def tf (d:aj):Bool:= !decide ((20:Int)<(d.2.2.1.length:Int))&&(!decide ((70:Int)<(d.2.2.2.2.2.2.2.2.2.2.1.length:Int))&&(!decide ((260:Int)<(d.2.2.2.2.2.2.2.2.2.2.2.1.length:Int))&& !decide ((45:Int)<(d.2.2.2.2.2.2.2.2.2.2.2.2.length:Int))))
def wk (y:aX):Bool:= !decide ((40:Int)<(y.2.1.length:Int))&&(!decide ((40:Int)<(y.2.2.1.length:Int))&&(!decide ((40:Int)<(y.2.2.2.1.length:Int))&&(!decide ((40:Int)<(y.2.2.2.2.1.length:Int))&& !decide ((40:Int)<(y.2.2.2.2.2.length:Int)))))
def gG (d:aj):Bool:=tf d&&(d.2.2.2.2.2.2.2.2.2.2.2.2.all wk&&((mV d).all ja&&(nH d).all rp))
theorem yf {d:aj} (h1:tf d=true) (h2:d.2.2.2.2.2.2.2.2.2.2.2.2.all wk=true):qX d:=by
 unfold tf at h1
 simp only [Bool.and_eq_true,Bool.not_eq_true',decide_eq_false_iff_not] at h1
 obtain ⟨a1,a2,a3,a4⟩:=h1
 refine ⟨by omega,by omega,by omega,by omega,fun y hy=> ?_⟩
 have:=List.all_eq_true.1 h2 y hy
 unfold wk at this
 simp only [Bool.and_eq_true,Bool.not_eq_true',decide_eq_false_iff_not] at this
 obtain ⟨b1,b2,b3,b4,b5⟩:=this
 exact ⟨by omega,by omega,by omega,by omega,by omega⟩
theorem DM {x:aR} (h:ja x=true):b6 6 x:=by
 unfold ja at h
 simp only [Bool.and_eq_true,Bool.not_eq_true',decide_eq_false_iff_not] at h
 exact ⟨by omega,by omega,by decide⟩
theorem ET {d:aj} (h:(mV d).all ja=true):nf d:=by
 have h:=fun x hx=>DM (List.all_eq_true.1 h x hx)
 unfold mV at h
 simp only [List.mem_append,List.mem_flatMap] at h
 refine ⟨h _ (.inl (.inl (.inl qE))),h _ (.inl (.inl (.inl qE))),h _ (.inl (.inl (.inl qE))),h _ (.inl (.inl (.inl qE))),fun b hb=>⟨h _ (.inl (.inl (.inr ⟨b,hb,by simp [Du]⟩))),h _ (.inl (.inl (.inr ⟨b,hb,by simp [Du]⟩)))⟩,fun c hc=>h _ (.inl (.inr ⟨c,hc,by simp [D_]⟩)),fun y hy=> ?_⟩
 have hy':=fun x hx=>h x (.inr ⟨y,hy,hx⟩)
 unfold Ca at hy'
 simp only [List.mem_append,List.mem_flatMap] at hy'
 exact ⟨fun x hx=>hy' _ (.inl (.inl (.inl (.inl ⟨x,hx,by simp [zC]⟩)))),fun x hx=>hy' _ (.inl (.inl (.inl (.inr ⟨x,hx,by simp [Dz]⟩)))),fun x hx=>hy' _ (.inl (.inl (.inr ⟨x,hx,by simp [Ds]⟩))),fun x hx=>⟨hy' _ (.inl (.inr ⟨x,hx,by simp [CI]⟩)),hy' _ (.inl (.inr ⟨x,hx,by simp [CI]⟩))⟩,fun x hx=>hy' _ (.inr ⟨x,hx,by simp [Dw]⟩)⟩
theorem xT {d:aj} (h:gG d=true):qX d∧nf d:=by
 unfold gG at h
 simp only [Bool.and_eq_true] at h
 exact ⟨yf h.1 h.2.1,ET h.2.2.1⟩
theorem IU {l:List (aR)}:bW Tryz.prog S1 11 [0] [.rw Rp.frac tt l] (fun _=> .is (.bool (l.all ja))):=by
 refine lH fC (fun _ _=>by kernel_rfl) fun hb=> ?_
 refine cr Tryz.func11 Tryz.ntmps11 fun X w0 hE=> ?_
 repeat' first|kernel_rfl|apply Bt.mk|refine nx ?_|refine aE rfl bU ?_|refine aD rfl ?_|refine aF rfl ?_|apply ae|refine aQ rfl ?_|exact bU|intro _
 refine aY fun a w h=> ?_
 refine aO (fun k a u=>∃ i:Nat,i+k=l.length∧(l.take i).all ja=true∧TS w0 X [] [(3, .is (.int .i64 (i:Int))),(0, .rw Rp.frac tt l)] 28 a u) l.length ⟨0,by omega,rfl,h.keep [3,0]⟩ ?_
 clear h
 rintro k a u ⟨i,hi,ha,h⟩
 by_cases hlt:i<l.length
 ·obtain ⟨x,hx⟩:∃ x,l[i]? =some x:=⟨_,List.getElem?_eq_getElem hlt⟩
  have hc:decide ((i:Int)<(l.length:Int))=true:=decide_eq_true qO
  have hw:IntKind.i64.wrap ((i:Int)+1)=((i+1:Nat):Int):=aA qO qO
  cases g0:decide ((6:Int)<(x.1.2.length:Int))
  rotate_left
  ·rw [ib hx (show ja x=false by unfold ja;rw [g0];rfl)]
   refine aB h ?_
   clear h
   repeat' first|kernel_rfl|apply Bt.mk|refine nx ?_|refine aE rfl bU ?_|refine aD rfl ?_|refine aF rfl ?_|apply ae|refine aQ rfl ?_|exact bU|intro _
  cases g1:decide ((6:Int)<(x.2.2.length:Int))
  rotate_left
  ·rw [ib hx (show ja x=false by unfold ja;rw [g0,g1];rfl)]
   refine aB h ?_
   clear h
   repeat' first|kernel_rfl|apply Bt.mk|refine nx ?_|refine aE rfl bU ?_|refine aD rfl ?_|refine aF rfl ?_|apply ae|refine aQ rfl ?_|exact bU|intro _
  have hn:=qp hx (show ja x=true by unfold ja;rw [g0,g1];rfl) ha
  refine aB h ?_
  clear h
  repeat' first|kernel_rfl|exact a8 fun _ _ h=>⟨k - 1,by omega,i+1,by omega,hn,h.keep [3,0]⟩|apply Bt.mk|refine nx ?_|refine aE rfl bU ?_|refine aD rfl ?_|refine aF rfl ?_|apply ae|refine aQ rfl ?_|exact bU|intro _
 ·have hil:i=l.length:=qO
  have hc:decide ((i:Int)<(l.length:Int))=false:=decide_eq_false qO
  rw [hil,List.take_length] at ha
  rw [ha]
  refine aB h ?_
  clear h
  repeat' first|kernel_rfl|apply Bt.mk|refine nx ?_|refine aE rfl bU ?_|refine aD rfl ?_|refine aF rfl ?_|apply ae|refine aQ rfl ?_|exact bU|intro _
theorem EF {l:List (List UInt8)}:bW Tryz.prog S1 13 [0] [.rw Rp.str tt l] (fun _=> .is (.bool (l.all rp))):=by
 refine lH fC (fun _ _=>by kernel_rfl) fun hb=> ?_
 refine cr Tryz.func13 Tryz.ntmps13 fun X w0 hE=> ?_
 repeat' first|kernel_rfl|apply Bt.mk|refine nx ?_|apply ae|refine aQ rfl ?_|exact bU|intro _
 refine aY fun a w h=> ?_
 refine aO (fun k a u=>∃ i:Nat,i+k=l.length∧(l.take i).all rp=true∧TS w0 X [] [(3, .is (.int .i64 (i:Int))),(0, .rw Rp.str tt l)] 16 a u) l.length ⟨0,by omega,rfl,h.keep [3,0]⟩ ?_
 clear h
 rintro k a u ⟨i,hi,ha,h⟩
 by_cases hlt:i<l.length
 ·obtain ⟨x,hx⟩:∃ x,l[i]? =some x:=⟨_,List.getElem?_eq_getElem hlt⟩
  have hc:decide ((i:Int)<(l.length:Int))=true:=decide_eq_true qO
  have hw:IntKind.i64.wrap ((i:Int)+1)=((i+1:Nat):Int):=aA qO qO
  cases g0:decide ((70:Int)<(x.length:Int))
  rotate_left
  ·rw [ib hx (show rp x=false by unfold rp;rw [g0];rfl)]
   refine aB h ?_
   clear h
   repeat' first|kernel_rfl|apply Bt.mk|refine nx ?_|apply ae|refine aQ rfl ?_|exact bU|intro _
  have hn:=qp hx (show rp x=true by unfold rp;rw [g0];rfl) ha
  refine aB h ?_
  clear h
  repeat' first|kernel_rfl|exact a8 fun _ _ h=>⟨k - 1,by omega,i+1,by omega,hn,h.keep [3,0]⟩|apply Bt.mk|refine nx ?_|apply ae|refine aQ rfl ?_|exact bU|intro _
 ·have hil:i=l.length:=qO
  have hc:decide ((i:Int)<(l.length:Int))=false:=decide_eq_false qO
  rw [hil,List.take_length] at ha
  rw [ha]
  refine aB h ?_
  clear h
  repeat' first|kernel_rfl|apply Bt.mk|refine nx ?_|apply ae|refine aQ rfl ?_|exact bU|intro _
theorem F0 {d:aj}:bW Tryz.prog S1 5 [0] [.ra ab d] (fun _=> .is (.bool (gG d))):=by
 cases h0:decide ((20:Int)<(d.2.2.1.length:Int))
 rotate_left
 ·rw [show gG d=false by unfold gG tf;rw [h0];rfl]
  refine cr Tryz.func5 Tryz.ntmps5 fun X w hE=> ?_
  repeat' first|kernel_rfl|apply Bt.mk|refine nx ?_|refine aE rfl bU ?_|refine aD rfl ?_|refine aF rfl ?_|apply ae|refine aQ rfl ?_|exact bU|intro _
 cases h1:decide ((70:Int)<(d.2.2.2.2.2.2.2.2.2.2.1.length:Int))
 rotate_left
 ·rw [show gG d=false by unfold gG tf;rw [h0,h1];rfl]
  refine cr Tryz.func5 Tryz.ntmps5 fun X w hE=> ?_
  repeat' first|kernel_rfl|apply Bt.mk|refine nx ?_|refine aE rfl bU ?_|refine aD rfl ?_|refine aF rfl ?_|apply ae|refine aQ rfl ?_|exact bU|intro _
 cases h2:decide ((260:Int)<(d.2.2.2.2.2.2.2.2.2.2.2.1.length:Int))
 rotate_left
 ·rw [show gG d=false by unfold gG tf;rw [h0,h1,h2];rfl]
  refine cr Tryz.func5 Tryz.ntmps5 fun X w hE=> ?_
  repeat' first|kernel_rfl|apply Bt.mk|refine nx ?_|refine aE rfl bU ?_|refine aD rfl ?_|refine aF rfl ?_|apply ae|refine aQ rfl ?_|exact bU|intro _
 cases h3:decide ((45:Int)<(d.2.2.2.2.2.2.2.2.2.2.2.2.length:Int))
 rotate_left
 ·rw [show gG d=false by unfold gG tf;rw [h0,h1,h2,h3];rfl]
  refine cr Tryz.func5 Tryz.ntmps5 fun X w hE=> ?_
  repeat' first|kernel_rfl|apply Bt.mk|refine nx ?_|refine aE rfl bU ?_|refine aD rfl ?_|refine aF rfl ?_|apply ae|refine aQ rfl ?_|exact bU|intro _
 have hcb:tf d=true:=by unfold tf;rw [h0,h1,h2,h3];rfl
 have hys:=of_decide_eq_false h3
 refine cr Tryz.func5 Tryz.ntmps5 fun X w0 hE=> ?_
 repeat' first|kernel_rfl|apply Bt.mk|refine nx ?_|refine aE rfl bU ?_|refine aD rfl ?_|refine aF rfl ?_|apply ae|refine aQ rfl ?_|exact bU|intro _
 refine aY fun a w h=> ?_
 rename_i r1
 refine aO (fun k a u=>∃ i:Nat,i+k=(d.2.2.2.2.2.2.2.2.2.2.2.2).length∧((d.2.2.2.2.2.2.2.2.2.2.2.2).take i).all wk=true∧TS w0 (r1::X) [(r1, .ra ab d)] [(3, .is (.int .i64 (i:Int))),(1, .is (.pointer (some ⟨r1,0,none⟩)))] 75 a u) (d.2.2.2.2.2.2.2.2.2.2.2.2).length ⟨0,by omega,rfl,h.keep [3,1]⟩ ?_
 clear h
 rintro k a u ⟨i,hi,ha,h⟩
 by_cases hlt:i<(d.2.2.2.2.2.2.2.2.2.2.2.2).length
 ·obtain ⟨y,hx⟩:∃ y,(d.2.2.2.2.2.2.2.2.2.2.2.2)[i]? =some y:=⟨_,List.getElem?_eq_getElem hlt⟩
  have hc:decide ((i:Int)<((d.2.2.2.2.2.2.2.2.2.2.2.2).length:Int))=true:=decide_eq_true qO
  have hw:IntKind.i64.wrap ((i:Int)+1)=((i+1:Nat):Int):=aA qO qO
  cases g0:decide ((40:Int)<(y.2.1.length:Int))
  rotate_left
  ·rw [show gG d=false by unfold gG;rw [hcb,ib hx (show wk y=false by unfold wk;rw [g0];rfl)];rfl]
   refine aB h ?_
   clear h
   repeat' first|kernel_rfl|apply Bt.mk|refine nx ?_|refine aE rfl bU ?_|refine aD rfl ?_|refine aF rfl ?_|apply ae|refine aQ rfl ?_|exact bU|intro _
  cases g1:decide ((40:Int)<(y.2.2.1.length:Int))
  rotate_left
  ·rw [show gG d=false by unfold gG;rw [hcb,ib hx (show wk y=false by unfold wk;rw [g0,g1];rfl)];rfl]
   refine aB h ?_
   clear h
   repeat' first|kernel_rfl|apply Bt.mk|refine nx ?_|refine aE rfl bU ?_|refine aD rfl ?_|refine aF rfl ?_|apply ae|refine aQ rfl ?_|exact bU|intro _
  cases g2:decide ((40:Int)<(y.2.2.2.1.length:Int))
  rotate_left
  ·rw [show gG d=false by unfold gG;rw [hcb,ib hx (show wk y=false by unfold wk;rw [g0,g1,g2];rfl)];rfl]
   refine aB h ?_
   clear h
   repeat' first|kernel_rfl|apply Bt.mk|refine nx ?_|refine aE rfl bU ?_|refine aD rfl ?_|refine aF rfl ?_|apply ae|refine aQ rfl ?_|exact bU|intro _
  cases g3:decide ((40:Int)<(y.2.2.2.2.1.length:Int))
  rotate_left
  ·rw [show gG d=false by unfold gG;rw [hcb,ib hx (show wk y=false by unfold wk;rw [g0,g1,g2,g3];rfl)];rfl]
   refine aB h ?_
   clear h
   repeat' first|kernel_rfl|apply Bt.mk|refine nx ?_|refine aE rfl bU ?_|refine aD rfl ?_|refine aF rfl ?_|apply ae|refine aQ rfl ?_|exact bU|intro _
  cases g4:decide ((40:Int)<(y.2.2.2.2.2.length:Int))
  rotate_left
  ·rw [show gG d=false by unfold gG;rw [hcb,ib hx (show wk y=false by unfold wk;rw [g0,g1,g2,g3,g4];rfl)];rfl]
   refine aB h ?_
   clear h
   repeat' first|kernel_rfl|apply Bt.mk|refine nx ?_|refine aE rfl bU ?_|refine aD rfl ?_|refine aF rfl ?_|apply ae|refine aQ rfl ?_|exact bU|intro _
  have hn:=qp hx (show wk y=true by unfold wk;rw [g0,g1,g2,g3,g4];rfl) ha
  refine aB h ?_
  clear h
  repeat' first|kernel_rfl|exact a8 fun _ _ h=>⟨k - 1,by omega,i+1,by omega,hn,h.drop.keep [3,1]⟩|apply Bt.mk|refine nx ?_|refine aE rfl bU ?_|refine aD rfl ?_|refine aF rfl ?_|apply ae|refine aQ rfl ?_|exact bU|intro _
 ·have hil:i=(d.2.2.2.2.2.2.2.2.2.2.2.2).length:=qO
  have hc:decide ((i:Int)<((d.2.2.2.2.2.2.2.2.2.2.2.2).length:Int))=false:=decide_eq_false qO
  rw [hil,List.take_length] at ha
  have hcnt:=yf hcb ha
  have kR:=Iv hcnt
  have kT:=DW hcnt
  have kf:=IU (l:=mV d)
  have kg:=EF (l:=nH d)
  rw [show gG d=((mV d).all ja&&(nH d).all rp) by unfold gG;rw [hcb,ha];rfl]
  cases hf:(mV d).all ja
  ·rw [hf] at kf
   rw [Bool.false_and]
   refine aB h ?_
   clear h
   repeat' first|kernel_rfl|apply Bt.mk|refine nx ?_|refine aE rfl bU ?_|refine aD rfl ?_|refine aF rfl ?_|apply ae|refine aQ rfl ?_|exact bU|intro _
  ·rw [hf] at kf
   rw [Bool.true_and]
   refine aB h ?_
   clear h
   repeat' first|kernel_rfl|apply Bt.mk|refine nx ?_|refine aE rfl bU ?_|refine aD rfl ?_|refine aF rfl ?_|apply ae|refine aQ rfl ?_|exact bU|intro _
end Go.Proofs.YtpmhjieibebclaaGreatDoor
