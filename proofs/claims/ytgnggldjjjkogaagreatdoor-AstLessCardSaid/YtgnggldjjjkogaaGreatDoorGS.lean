/- Reading of structs and rows that are told by the types of their blocks; rows of texts of the call's own. No program stands in it. -/
import Derived.Test.YtgnggldjjjkogaaGreatDoorGQ
set_option maxHeartbeats 4000000
set_option maxRecDepth 20000
set_option synthInstance.maxHeartbeats 400000
set_option synthInstance.maxSize 4000
set_option linter.unusedSimpArgs false
set_option linter.unusedVariables false
namespace Go.Proofs.YtgnggldjjjkogaaGreatDoor
open Go Go.RowKit
instance {B:Nat}:LeB B B:=⟨Nat.le_refl _⟩
class ScalT (ts:List TypeId) (C:Nat) {α:Type} (r:Rp α) (a:α) (T:outParam VTy):Prop where
 ok:∀ {X:List Nat} {w:World} {v:Value},r.rd w (FreeT ts C X w) a [v]→T.holds X w v
instance {ts:List TypeId} {C:Nat} {l:List UInt8}:ScalT ts C Rp.str l (.is (Tx l)):=⟨fun ⟨t,e,h⟩=>by
 injection e with e _
 subst e
 show Value.string t=_
 rw [tx_of t,h]⟩
instance {ts:List TypeId} {C:Nat} {k:IntKind} {x:Int}:ScalT ts C (Rp.int k) x (.is (.int k x)):=⟨fun h=>by
 injection (show [_]=[_] from h) with e _⟩
instance {ts:List TypeId} {C:Nat} {b:Bool}:ScalT ts C Rp.bool b (.is (.bool b)):=⟨fun h=>by
 injection (show [_]=[_] from h) with e _⟩
instance {ts:List TypeId} {C:Nat} {α:Type} {r:Rp α} {l:List α}:ScalT ts C r.row l (.tc r.row ts C l):=⟨fun h=>h⟩
instance {ts:List TypeId} {C:Nat} {l:List Int}:ScalT ts C Rp.limbs l (.tc Rp.limbs ts C l):=⟨fun h=>h⟩
theorem PartC.aggT {α β:Type} {r:Rp α} {r':Rp β} {g:α→β} {a:α} {ts:List TypeId} {C o k:Nat} (h:FaC r o r' g) (hk:KC r' k):PartC (.tr r ts C a) o k true (.tr r' ts C (g a)):=⟨(fun h=>by cases h),fun {X w v} ⟨cs,e,hr⟩=>by
 obtain ⟨c1,c2,c3,e2,hl,h2⟩:=h.ok hr
 refine ⟨c2,(r'.len h2).trans hk.ok,fun j u hu=> ?_,fun u hu _=>⟨c2,hu rfl,h2⟩⟩
 have hj:=(List.getElem?_eq_some_iff.1 hu).1
 rw [e]
 show (cs.toArray)[o+j]? =some u
 rw [List.getElem?_toArray,e2,List.append_assoc,List.getElem?_append_right (by omega),show o+j - c1.length=j by omega,List.getElem?_append_left hj]
 exact hu⟩
theorem PartC.cellT {α β:Type} {r:Rp α} {r':Rp β} {g:α→β} {a:α} {ts:List TypeId} {C o:Nat} {T:VTy} (h:FaC r o r' g) (hk:KC r' 1) (hs:ScalT ts C r' (g a) T):PartC (.tr r ts C a) o 1 false T:=⟨fun _=>rfl,fun {X w v} ⟨cs,e,hr⟩=>by
 obtain ⟨c1,c2,c3,e2,hl,h2⟩:=h.ok hr
 refine ⟨c2,(r'.len h2).trans hk.ok,fun j u hu=> ?_,fun u _ hu=>hs.ok (by rw [←hu rfl];exact h2)⟩
 have hj:=(List.getElem?_eq_some_iff.1 hu).1
 rw [e]
 show (cs.toArray)[o+j]? =some u
 rw [List.getElem?_toArray,e2,List.append_assoc,List.getElem?_append_right (by omega),show o+j - c1.length=j by omega,List.getElem?_append_left hj]
 exact hu⟩
instance {α β:Type} {r:Rp α} {r':Rp β} {g:α→β} {a:α} {ts:List TypeId} {C o k:Nat} [h:FaC r o r' g] [hk:KC r' k]:PartC (.tr r ts C a) o k true (.tr r' ts C (g a)):=PartC.aggT h hk
instance {α β:Type} {r:Rp α} {r':Rp β} {g:α→β} {a:α} {ts:List TypeId} {C o:Nat} {T:VTy} [h:FaC r o r' g] [hk:KC r' 1] [hs:ScalT ts C r' (g a) T]:PartC (.tr r ts C a) o 1 false T:=PartC.cellT h hk hs
def VTy.tp {α:Type} (r:Rp α) (ts:List TypeId) (C:Nat) (a:α):VTy:=⟨fun X w v=>∃ b o cs,v= .pointer (some ⟨b,o,none⟩)∧FreeT ts C X w b∧w.rangeAt b o cs∧r.rd w (FreeT ts C X w) a cs,
 fun ⟨b,o,cs,e,hb,h1,h2⟩ hk hX=>⟨b,o,cs,e,FreeT.mono hk hX b hb,rangeAt_keep h1 (hk.block b hb.1.1 hb.1.2),r.upT h2 hk hX⟩⟩
theorem tc_rw {α:Type} {r:Rp α} {ts:List TypeId} {C:Nat} {l:List α} {X:List Nat} {w:World} {v:Value} (h:(VTy.tc r.row ts C l).holds X w v):(VTy.rw r tt l).holds X w v:=⟨fun _ _=>trivial,r.row.unT h⟩
section
variable {P:Program} {w00:World} {N:Nat} {L:List Loc} {E:List (Nat×VTy)} {d:Nat} {t0:TypeId} {pos:String} {af:Array Edge} {gd:Option (Nat×Bool)} {ats:Array TypeId}
theorem st_lenT {α:Type} {r:Rp α} {ts:List TypeId} {C:Nat} {l:List α} {s k:Nat} {ty:TypeId} [ho:Look E s (.tc r.row ts C l)] [ht:SliceC P ty k]:StepT P w00 N L E ⟨some d, .call { callee:= .builtin .len,args:= #[.tmp s],argTypes:= #[ty] },t0,pos,af,gd⟩ (.is (.int .i64 l.length)):=by
 constructor
 intro X ρ w hc hf hN hm hsl
 have h:=hsl _ ho.mem (by simp [Op.operands,Call.operands])
 have hs:StepT P w00 0 [] [(s, .rw r tt l)] ⟨some d, .call { callee:= .builtin .len,args:= #[.tmp s],argTypes:= #[ty] },t0,pos,af,gd⟩ (.is (.int .i64 l.length)):=st_len'
 exact hs.run X ρ w hc hf (Nat.zero_le _) ⟨(fun _ h=>by cases h),hm.far,List.nodup_nil,hm.below⟩ fun p hp _=>by
  obtain rfl:=List.mem_singleton.1 hp
  exact tc_rw h
theorem st_idxT {α:Type} {r:Rp α} {ts:List TypeId} {C:Nat} {l:List α} {a:α} {o oi:Operand} {ty:TypeId} {j k:Nat} [ho:OpC E o (.tc r.row ts C l)] [hi:OpC E oi (.is (.int .i64 (j:Int)))] [kc:KC r k] [ht:SliceC P ty k] (ha:l[j]? =some a):StepT P w00 N L E ⟨some d, .indexAddr ty o oi,t0,pos,af,gd⟩ (.tp r ts C a):=by
 constructor
 intro X ρ w hc _ hN hm hsl
 obtain ⟨A,n,c,e,h1,h2,h3,h4,h5⟩:=ho.get (X:=X) (w:=w) hc fun p hp e=>hsl p hp (by simp [Op.operands,e])
 have e1:ρ o= .slice A n c:=by simpa using e
 have e2:ρ oi= .int .i64 (j:Int):=hi.get (X:=X) (w:=w) hc fun p hp e=>hsl p hp (by simp [Op.operands,e])
 have hj:j<n:=by rw [←h1];exact (List.getElem?_eq_some_iff.1 ha).1
 obtain ⟨b,off,rfl,hb,hcell⟩:=h5 (by omega)
 obtain ⟨cs,hcs,hr⟩:=hcell j a ha
 obtain ⟨el,hu,hsz⟩:=ht.ok
 have hk:=kc.ok
 have hz:(sizeOf el).run P w= .ok k w:=by
  cases hq:P.info? el with
  |none=>rw [hq] at hsz;cases hsz
  |some q=>
   rw [hq] at hsz
   have:q.size=k:=by simpa using hsz
   simp [sizeOf,typeInfo,hq,this]
 have hrun:(execOp ρ ⟨some d, .indexAddr ty o oi,t0,pos,af,gd⟩).run P w= .ok (.value (.pointer (some ⟨b,off+j*k,none⟩))) w:=by
  unfold execOp
  have hji:(0:Int)≤(j:Int)∧(j:Int)<(n:Int):=⟨by omega,by omega⟩
  simp only [e1,e2,Instr.indexAt,asIntOf,Sem.run_bind,Sem.run_pure,Result.andThen_ok,run_underlying hu w,hji,and_self,if_true,hz,Int.toNat_natCast,Addr.add_mid]
 unfold Yields
 rw [hrun]
 refine ⟨⟨b,off+j*k,cs,rfl,hb,fun i u hu=> ?_,hr⟩,Below.refl _ _⟩
 have:=hcs i u hu
 rwa [hk] at this
theorem st_fldT {α β:Type} {r:Rp α} {r':Rp β} {a:α} {g:α→β} {ts:List TypeId} {C:Nat} {ty:TypeId} {s i fo k:Nat} {ag:Bool} [hs:Look E s (.tp r ts C a)] [hf:FieldC P ty i fo k ag] [hn:FaC r fo r' g]:StepT P w00 N L E ⟨some d, .fieldAddr ty (.tmp s) i,t0,pos,af,gd⟩ (.tp r' ts C (g a)):=by
 constructor
 intro X ρ w hc _ hN hm hsl
 obtain ⟨b,o,cs,e,hb,hra,hr⟩:=hsl _ hs.mem (by simp [Op.operands])
 have e':ρ (.tmp s)= .pointer (some ⟨b,o,none⟩):=e
 obtain ⟨c1,c2,c3,e2,hl,h2⟩:=hn.ok hr
 obtain ⟨fs,f,h1,h3,h4,h5,h6,_⟩:=hf.ok
 have hz:(sizeOf f.type).run P w= .ok k w:=by
  cases hq:P.info? f.type with
  |none=>rw [hq] at h5;cases h5
  |some q=>
   rw [hq] at h5
   have:q.size=k:=by simpa using h5
   simp [sizeOf,typeInfo,hq,this]
 have hrun:(execOp ρ ⟨some d, .fieldAddr ty (.tmp s) i,t0,pos,af,gd⟩).run P w= .ok (.value (.pointer (some ⟨b,o+fo,none⟩))) w:=by
  unfold execOp
  simp only [e',Instr.fieldAt,Instr.sureAddr,fieldPlace,Sem.run_bind,Sem.run_pure,Result.andThen_ok,run_underlying h1 w,h3,hz,h6,if_false,h4,Addr.add_mid]
 unfold Yields
 rw [hrun]
 refine ⟨⟨b,o+fo,c2,rfl,hb,?_,h2⟩,Below.refl _ _⟩
 rw [←hl]
 exact rangeAt_mid (by rw [←e2];exact hra)
theorem st_loadT {α:Type} {r:Rp α} {a:α} {ts:List TypeId} {C:Nat} {ty:TypeId} {s k:Nat} [hs:Look E s (.tp r ts C a)] [kc:KC r k] [ht:TyC P ty k true]:StepT P w00 N L E ⟨some d, .load ty (.tmp s),t0,pos,af,gd⟩ (.tr r ts C a):=by
 constructor
 intro X ρ w hc _ hN hm hsl
 obtain ⟨b,o,cs,e,hb,h1,h2⟩:=hsl _ hs.mem (by simp [Op.operands])
 have e':ρ (.tmp s)= .pointer (some ⟨b,o,none⟩):=e
 obtain ⟨dd,hu,hd⟩:=ht.row
 have hi:(P.info? ty).map (·.size)=some cs.length:=by rw [r.len h2,kc.ok];exact ht.size
 have hrun:(execOp ρ ⟨some d, .load ty (.tmp s),t0,pos,af,gd⟩).run P w= .ok (.value (.agg cs.toArray)) w:=by
  unfold execOp
  simp only [e',run_loadAt_mid w b o ty cs dd h1 hu hd hi,Sem.run_bind,Sem.run_pure,Result.andThen_ok]
 unfold Yields
 rw [hrun]
 exact ⟨⟨cs,rfl,h2⟩,Below.refl _ _⟩
theorem st_loadU {α:Type} {r:Rp α} {a:α} {ts:List TypeId} {C:Nat} {ty:TypeId} {s:Nat} {T:VTy} [hs:Look E s (.tp r ts C a)] [kc:KC r 1] [ht:TyC P ty 1 false] [hn:ScalT ts C r a T]:StepT P w00 N L E ⟨some d, .load ty (.tmp s),t0,pos,af,gd⟩ T:=by
 constructor
 intro X ρ w hc hf hN hm hsl
 obtain ⟨b,o,cs,e,hb,h1,h2⟩:=hsl _ hs.mem (by simp [Op.operands])
 have hl:=(r.len h2).trans kc.ok
 obtain ⟨u,rfl⟩:∃ u,cs=[u]:=List.length_eq_one_iff.1 hl
 have hcell:w.cell? ⟨b,o,none⟩=some u:=by simpa using h1 0 u rfl
 have e1:ρ (.tmp s)= .pointer (some ⟨b,o,none⟩):=e
 obtain ⟨dd,hu,hd⟩:=ht.row
 have hag:(isAgg ty).run P w= .ok false w:=by
  unfold isAgg
  rw [Sem.run_bind,run_underlying hu w]
  cases dd<;>first|rfl|cases hd
 have hrun:(execOp ρ ⟨some d, .load ty (.tmp s),t0,pos,af,gd⟩).run P w= .ok (.value u) w:=by
  unfold execOp
  simp only [e1,Instr.loadAt,Instr.sureAddr,loadVar,Sem.run_bind,Sem.run_pure,Result.andThen_ok,hag,run_load,hcell,if_false,Bool.false_eq_true]
 unfold Yields
 rw [hrun]
 exact ⟨hn.ok h2,Below.refl _ _⟩
end
theorem vs_flat (l:List (List UInt8)):(l.map fun t=>(t,[Tx t])).flatMap Prod.snd=l.map Tx:=by
 induction l with
 |nil=>rfl
 |cons t l ih=>rw [List.map_cons,List.flatMap_cons,ih];rfl
instance {ts:List TypeId} {C:Nat} {vs:List Value} {l:List (List UInt8)} [h:TxL 64 vs l]:AsSr (.vs vs) Rp.str ts C l:=⟨fun {X w v} ⟨b,e,hb,hc⟩=>by
 have hv:=h.ok
 have hl:=h.len
 subst hv
 rw [List.length_map] at e
 refine ⟨_,l.length,l.map fun t=>(t,[Tx t]),e,by rw [List.map_map];exact List.map_id _,fun q hq=> ?_,?_,fun _ g hg=> ?_⟩
 ·obtain ⟨t,_,rfl⟩:=List.mem_map.1 hq
  exact ⟨_,rfl,data_mk t⟩
 ·rw [vs_flat]
  exact ⟨by rw [List.length_map];exact (Nat.mul_one _).symm,Nat.le_refl _,by unfold maxLen;omega,(fun h=>by cases h),fun _=>⟨b,0,rfl,hb.1,fun j u hu=>by rw [Nat.zero_add];exact hc j u hu⟩⟩
 ·have hg:b=g:=by simpa [blk] using hg
  exact hg▸hb⟩
theorem row_src {α:Type} {r:Rp α} {ts:List TypeId} {C:Nat} {X:List Nat} {w:World} {A:Option Addr} {n c:Nat} {l:List α} (h:SlR r w (FreeT ts C X w) A n c l):(VTy.sr r ts C l).holds X w (.slice A n c):=by
 obtain ⟨h1,h2,h3,h4,h5⟩:=h
 have hl:∀ m,m≤l.length→∃ ps:List (α×List Value),ps.map Prod.fst=l.take m∧(∀ q∈ps,r.rd w (FreeT ts C X w) q.1 q.2)∧(0<m→∃ b off,A=some ⟨b,off,none⟩∧FreeT ts C X w b∧∀ j u,(ps.flatMap Prod.snd)[j]? =some u→w.cell? ⟨b,off+j,none⟩=some u)∧(ps.flatMap Prod.snd).length=m*r.k:=by
  intro m
  induction m with
  |zero=>intro _;exact ⟨[],rfl,(fun _ h=>by cases h),(fun h=>absurd h (by omega)),by simp⟩
  |succ m ih=>
   intro hm
   obtain ⟨ps,g1,g2,g3,g4⟩:=ih (by omega)
   obtain ⟨a,ha⟩:∃ a,l[m]? =some a:=⟨_,List.getElem?_eq_getElem (by omega)⟩
   obtain ⟨b,off,eA,hb,hc⟩:=h5 (by omega)
   obtain ⟨cs,hcs,hr⟩:=hc m a ha
   refine ⟨ps++[(a,cs)],by rw [List.map_append,g1,tk_snoc ha];rfl,fun q hq=> ?_,fun _=>⟨b,off,eA,hb,fun j u hu=> ?_⟩,?_⟩
   ·rcases List.mem_append.1 hq with hq|hq
    ·exact g2 q hq
    ·rw [List.mem_singleton.1 hq];exact hr
   ·rw [List.flatMap_append] at hu
    by_cases hj:j<m*r.k
    ·rw [List.getElem?_append_left (by rw [g4];exact hj)] at hu
     have hm0:0<m:=by
      rcases Nat.eq_zero_or_pos m with e|e
      ·rw [e,Nat.zero_mul] at hj;omega
      ·exact e
     obtain ⟨b',off',eA',_,hc'⟩:=g3 hm0
     rw [eA] at eA'
     injection eA' with eA'
     injection eA' with e1 e2
     subst e1;subst e2
     exact hc' j u hu
    ·rw [List.getElem?_append_right (by rw [g4];omega),g4] at hu
     have hu:cs[j - m*r.k]? =some u:=by simpa using hu
     have:=hcs (j - m*r.k) u hu
     rw [Nat.add_assoc] at this
     rwa [show m*r.k+(j - m*r.k)=j by omega] at this
   ·rw [List.flatMap_append,List.length_append,g4]
    simp [r.len hr,Nat.add_mul]
 obtain ⟨ps,g1,g2,g3,g4⟩:=hl l.length (Nat.le_refl _)
 rw [List.take_length] at g1
 refine ⟨A,c,ps,by rw [h1],g1,g2,⟨g4,by rw [h1];exact h2,h3,h4,fun hn=> ?_⟩,fun hn g hg=> ?_⟩
 ·obtain ⟨b,off,eA,hb,hc⟩:=g3 hn
  exact ⟨b,off,eA,hb.1.1,hc⟩
 ·obtain ⟨b,off,eA,hb,hc⟩:=g3 hn
  rw [eA] at hg
  have hg:b=g:=by simpa [blk] using hg
  exact hg▸hb.1
instance {α:Type} {r:Rp α} {ts:List TypeId} {C:Nat} {l:List α}:AsSr (.tc r.row ts C l) r ts C l:=⟨fun {X w v} h=>by
 obtain ⟨A,n,c,e,h⟩:=h
 have e:v= .slice A n c:=by simpa using e
 rw [e]
 exact row_src h⟩
theorem vs_new {P:Program} {w00:World} {N:Nat} {L:List Loc} {E:List (Nat×VTy)} {d:Nat} {t0:TypeId} {pos:String} {af:Array Edge} {gd:Option (Nat×Bool)} (ts:List TypeId) (C:Nat) {ty e:TypeId} {n:Nat} {ps:List (Nat×Operand)} {vs:List Value} {l:List (List UInt8)} (r:ElS P ty e 1) [h:IsL E ps 0 vs] [tl:TxL 64 vs l] (hn:Nat.beq vs.length n=true) (hp:0<n):StepT P w00 N L E ⟨some d, .buildSlice ty n ps.toArray,t0,pos,af,gd⟩ (.to Rp.str e ts C w00.heap.size l):=by
 constructor
 intro X ρ w hc hf hN hm hsl
 have hn:=Nat.eq_of_beq_eq_true hn
 have hvs:=h.get (X:=X) (w:=w) (ρ:=ρ) hc fun p hp hm=>hsl p hp (by
  simp only [Op.operands]
  obtain ⟨q,hq,e⟩:=List.mem_map.1 hm
  simp
  exact ⟨q.1,by rw [←e];exact hq⟩)
 have hv:=tl.ok
 have hl64:=tl.len
 subst hv
 rw [List.length_map] at hn
 obtain ⟨hu,i,z,hi,hz,hs,hzc⟩:=r.ok
 have hsz:(sizeOf e).run P w= .ok 1 w:=by simp [sizeOf,typeInfo,hi,hs]
 have hze:(zeroValue e).run P w= .ok z w:=by simp [zeroValue,typeInfo,hi,hz]
 obtain ⟨c',ef,ec⟩:=fill_row (l.map Tx) 0 ((Array.range (n*1)).map (z.cells[· %z.cells.size]!)) (fun v hv=>by obtain ⟨t,_,rfl⟩:=List.mem_map.1 hv;rfl) (by simp [hn])
 have ec':c'=(l.map Tx).toArray:=by
  obtain ⟨g1,_,g2⟩:=ec
  apply Array.ext_getElem?
  intro j
  refine Eq.trans ?_ (List.getElem?_toArray (xs:=l.map Tx)).symm
  by_cases hj:j<l.length
  ·obtain ⟨t,ht⟩:∃ t,(l.map Tx)[j]? =some t:=⟨_,List.getElem?_eq_getElem (by rw [List.length_map];exact hj)⟩
   rw [ht]
   have:=g2 j t ht
   rwa [Nat.zero_add] at this
  ·rw [List.getElem?_eq_none (by rw [List.length_map];omega),Array.getElem?_eq_none (by rw [g1];simp;omega)]
 subst ec'
 have hps:(ps.toArray.map fun (i,x)=>(i,ρ x)).toList=enumF 0 (l.map Tx):=by rw [←hvs];simp
 have hrun:(Instr.buildSlice ty n (ps.toArray.map fun (i,x)=>(i,ρ x))).run P w= .ok (.slice (some ⟨w.heap.size,0,none⟩) n n) (w.alloc (.cells (l.map Tx).toArray e)):=by
  have hbig:¬ 2^24<n*1:=by omega
  unfold Instr.buildSlice
  simp only [Sem.run_bind,run_underlying hu w,Result.andThen_ok,hsz,if_neg hbig,hps,Sem.run_pure,if_neg (show ¬ n*1=0 by omega),hze,ef]
  rfl
 have hb':Below w.heap.size w (w.alloc (.cells (l.map Tx).toArray e)):=(Below.refl _ _).alloc (Nat.le_refl _) _
 unfold Yields execOp
 simp only [Sem.run_bind,hrun,Result.andThen_ok,Sem.run_pure]
 refine ⟨⟨some ⟨w.heap.size,0,none⟩,n,l.map fun t=>(t,[Tx t]),by rw [hn],by rw [List.map_map];exact List.map_id _,fun q hq=> ?_,?_,fun g hg=> ?_⟩,hb'⟩
 ·obtain ⟨t,_,rfl⟩:=List.mem_map.1 hq
  exact ⟨_,rfl,data_mk t⟩
 ·rw [vs_flat,hn]
  exact OwnV.lit 1 e w hm.below.size _ n (by rw [List.length_map,hn,Nat.mul_one]) (by omega)
 ·have hg:w.heap.size=g:=by simpa [blk] using hg
  subst hg
  exact ⟨by rw [size_one];exact Nat.lt_succ_self _,fun hx=>by have:=hm.far _ hx;omega⟩
theorem fm_snoc {α β:Type} {g:α→List β} {l:List α} {i:Nat} {x:α} {b:List β} {y:List β} (h:l[i]? =some x) (hy:g x=y):b++(l.take i).flatMap g++y=b++(l.take (i+1)).flatMap g:=by
 rw [tk_snoc h,List.flatMap_append,List.append_assoc,←hy]
 simp
theorem fm_len {α β:Type} {g:α→List β} {c:Nat}:∀ {l:List α},(∀ x∈l,(g x).length≤c)→(l.flatMap g).length≤l.length*c
 |[],_=>by simp
 |x::l,h=>by
  have h1:=h x List.mem_cons_self
  have h2:=fm_len (l:=l) fun y hy=>h y (List.mem_cons_of_mem _ hy)
  rw [List.flatMap_cons,List.length_append,List.length_cons,Nat.add_mul,Nat.one_mul]
  omega
theorem fm_take {α β:Type} {g:α→List β} {c i:Nat} {l:List α} (h:∀ x∈l,(g x).length≤c):((l.take i).flatMap g).length≤l.length*c:=by
 have h1:=fm_len (l:=l.take i) fun x hx=>h x (List.mem_of_mem_take hx)
 have h2:(l.take i).length*c≤l.length*c:=Nat.mul_le_mul (by rw [List.length_take];exact Nat.min_le_right _ _) (Nat.le_refl c)
 omega
structure CntF (d:TyFiling):Prop where
 br:d.2.2.1.length≤20
 cl:d.2.2.2.2.2.2.2.2.2.2.1.length≤70
 en:d.2.2.2.2.2.2.2.2.2.2.2.1.length≤260
 ys:d.2.2.2.2.2.2.2.2.2.2.2.2.length≤45
 yr:∀ y∈d.2.2.2.2.2.2.2.2.2.2.2.2,y.2.1.length≤40∧y.2.2.1.length≤40∧y.2.2.2.1.length≤40∧y.2.2.2.2.1.length≤40∧y.2.2.2.2.2.length≤40
def brR (b:TyBracket):List RawQ:=[b.1,b.2]
def clR (c:TyClass):List RawQ:=[c.2.2]
def hoR (h:TyHold):List RawQ:=[h.2.2]
def boR (b:TyBook):List RawQ:=[b.2.2]
def deR (x:TyDeal):List RawQ:=[x.2.2.2.2.2.2]
def stR (s:TyStock):List RawQ:=[s.2.1,s.2.2]
def soR (s:TySold):List RawQ:=[s.2]
def yrR (y:TyYear):List RawQ:=y.2.1.flatMap hoR++y.2.2.1.flatMap boR++y.2.2.2.1.flatMap deR++y.2.2.2.2.1.flatMap stR++y.2.2.2.2.2.flatMap soR
def ratsL (d:TyFiling):List RawQ:=[d.2.2.2.1,d.2.2.2.2.1,d.2.2.2.2.2.2.2.1,d.2.2.2.2.2.2.2.2.1]++d.2.2.1.flatMap brR++d.2.2.2.2.2.2.2.2.2.2.1.flatMap clR++d.2.2.2.2.2.2.2.2.2.2.2.2.flatMap yrR
def clS (c:TyClass):List (List UInt8):=[c.1]
def hoS (h:TyHold):List (List UInt8):=[h.1,h.2.1]
def boS (b:TyBook):List (List UInt8):=[b.1,b.2.1]
def deS (x:TyDeal):List (List UInt8):=[x.2.1,x.2.2.2.1,x.2.2.2.2.1,x.2.2.2.2.2.1]
def stS (s:TyStock):List (List UInt8):=[s.1]
def soS (s:TySold):List (List UInt8):=[s.1]
def yrS (y:TyYear):List (List UInt8):=y.2.1.flatMap hoS++y.2.2.1.flatMap boS++y.2.2.2.1.flatMap deS++y.2.2.2.2.1.flatMap stS++y.2.2.2.2.2.flatMap soS
def textsL (d:TyFiling):List (List UInt8):=[d.1,d.2.1]++d.2.2.2.2.2.2.2.2.2.2.2.1++d.2.2.2.2.2.2.2.2.2.2.1.flatMap clS++d.2.2.2.2.2.2.2.2.2.2.2.2.flatMap yrS
theorem yrR_len {y:TyYear} (h:y.2.1.length≤40∧y.2.2.1.length≤40∧y.2.2.2.1.length≤40∧y.2.2.2.2.1.length≤40∧y.2.2.2.2.2.length≤40):(yrR y).length≤240:=by
 obtain ⟨h1,h2,h3,h4,h5⟩:=h
 have g1:=fm_len (l:=y.2.1) (g:=hoR) (c:=1) fun _ _=>Nat.le_refl _
 have g2:=fm_len (l:=y.2.2.1) (g:=boR) (c:=1) fun _ _=>Nat.le_refl _
 have g3:=fm_len (l:=y.2.2.2.1) (g:=deR) (c:=1) fun _ _=>Nat.le_refl _
 have g4:=fm_len (l:=y.2.2.2.2.1) (g:=stR) (c:=2) fun _ _=>Nat.le_refl _
 have g5:=fm_len (l:=y.2.2.2.2.2) (g:=soR) (c:=1) fun _ _=>Nat.le_refl _
 unfold yrR
 simp only [List.length_append]
 omega
theorem yrS_len {y:TyYear} (h:y.2.1.length≤40∧y.2.2.1.length≤40∧y.2.2.2.1.length≤40∧y.2.2.2.2.1.length≤40∧y.2.2.2.2.2.length≤40):(yrS y).length≤400:=by
 obtain ⟨h1,h2,h3,h4,h5⟩:=h
 have g1:=fm_len (l:=y.2.1) (g:=hoS) (c:=2) fun _ _=>Nat.le_refl _
 have g2:=fm_len (l:=y.2.2.1) (g:=boS) (c:=2) fun _ _=>Nat.le_refl _
 have g3:=fm_len (l:=y.2.2.2.1) (g:=deS) (c:=4) fun _ _=>Nat.le_refl _
 have g4:=fm_len (l:=y.2.2.2.2.1) (g:=stS) (c:=1) fun _ _=>Nat.le_refl _
 have g5:=fm_len (l:=y.2.2.2.2.2) (g:=soS) (c:=1) fun _ _=>Nat.le_refl _
 unfold yrS
 simp only [List.length_append]
 omega
theorem ra_old {α:Type} {r:Rp α} {a:α} {X:List Nat} {w:World} {v:Value} (h:(VTy.ra r a).holds X w v):(VTy.tr r [] w.heap.size a).holds X w v:=by
 obtain ⟨cs,e,h⟩:=h
 exact ⟨cs,e,r.more h fun b hb=>⟨hb, .inl hb.1⟩⟩
theorem els_rat:ElS Tryz.prog 70 26 4:=⟨Tryz.underlying70,by
 obtain ⟨i,h1,h2,h3,h4⟩:∃ i,Tryz.prog.info? 26=some i∧i.zero=some (.agg #[.bool false, .slice none 0 0, .bool false, .slice none 0 0])∧i.size=4∧i.bytes=64:=info_parts (by kernel_rfl)
 exact ⟨i,_,h1,h2,h3,rfl⟩⟩
theorem elem_rat:ElemV Tryz.prog 70 26 4 64:=⟨Tryz.underlying70,by decide,by
 obtain ⟨i,h1,h2,h3,h4⟩:∃ i,Tryz.prog.info? 26=some i∧i.zero=some (.agg #[.bool false, .slice none 0 0, .bool false, .slice none 0 0])∧i.size=4∧i.bytes=64:=info_parts (by kernel_rfl)
 exact ⟨i,_,h1,h2,h3,h4,rfl⟩⟩
theorem els_str:ElS Tryz.prog 38 9 1:=⟨Tryz.underlying38,by
 obtain ⟨i,h1,h2,h3,h4⟩:∃ i,Tryz.prog.info? 9=some i∧i.zero=some (Tx [])∧i.size=1∧i.bytes=16:=info_parts (by kernel_rfl)
 exact ⟨i,_,h1,h2,h3,rfl⟩⟩
theorem elem_str:ElemV Tryz.prog 38 9 1 16:=⟨Tryz.underlying38,by decide,by
 obtain ⟨i,h1,h2,h3,h4⟩:∃ i,Tryz.prog.info? 9=some i∧i.zero=some (Tx [])∧i.size=1∧i.bytes=16:=info_parts (by kernel_rfl)
 exact ⟨i,_,h1,h2,h3,h4,rfl⟩⟩
instance:NiT 26 []:=⟨fun h=>by cases h⟩
theorem c_rats {d:TyFiling} (hc:CntF d):Ctr Tryz.prog S1 49 [0] [.ra rpFiling d] (fun _=> .rw Rp.frac tt (ratsL d)):=by
 refine c7_M (As':=fun B=>[.tr rpFiling [] B d]) Tryz.func49 rfl Tryz.ntmps49 (by simp) (fun _ _=>by kernel_rfl) (fun {X w vs} ha=>by
  obtain ⟨v,rfl,h⟩:=ha.one
  exact ⟨ra_old h,trivial⟩) fun X w0 hE=> ?_
 simp only [argE,Nat.zero_add,Nat.reduceAdd]
 repeat' first|kernel_rfl|apply g_seq|apply g_reg|apply g_nil|apply o_all|apply o_go|exact OpsT.nil|exact GuardC.nil|exact UndefC.nil|apply g_box|apply g_all|apply g_stf|apply g_stw|apply g_sto|apply g_asg|apply g_st|apply g_skip|apply g_ct|apply g_cf|apply g_ret|refine r_1 rfl ?_|apply g_blk|apply g_eb|apply g_ex|apply e_t|apply e_h|refine e_o rfl ?_|apply r_t|apply r_b|apply g_cl|exact st_lenT|exact st_idxT (by assumption)|exact st_fldT|exact st_loadT|exact st_loadU|exact st_add' (by assumption)|exact st_rowT (r:=Rp.frac) [] w0.heap.size els_rat rfl (by decide) (by decide) (by decide)|exact st_move'|exact st_assign'|exact st_load'|exact st_fieldAddr'|exact st_lss' (by first|assumption|rfl)|exact st_len'|exact st_indexAddr' (by assumption)|exact st_loadE'|exact Cv.rfl'|(intro _;simp only[newX,newL,ptrs,List.map,List.cons_append,List.nil_append])|intro _
 refine g_stop fun a w h=> ?_
 rename_i r1
 obtain ⟨b0,hb0⟩:∃ b,b=[d.2.2.2.1,d.2.2.2.2.1,d.2.2.2.2.2.2.2.1,d.2.2.2.2.2.2.2.2.1]:=⟨_,rfl⟩
 have hl0:b0.length≤4:=by rw [hb0];have:=hc.en;simp<;>omega
 have hcb:=hc.br
 have hcc:=hc.cl
 have hcs:=hc.ys
 have e0:b0++((d.2.2.1).take 0).flatMap brR=b0:=by simp
 refine cw_loop (fun kbrR a u=>∃ ibrR:Nat,ibrR+kbrR=(d.2.2.1).length∧TS w0 (r1::X) [(r1, .tr rpFiling [] w0.heap.size d)] [(3, .to Rp.frac 26 [] w0.heap.size w0.heap.size (b0++((d.2.2.1).take ibrR).flatMap brR)),(4, .is (.int .i64 (ibrR:Int))),(1, .is (.pointer (some ⟨r1,0,none⟩)))] 159 a u) (d.2.2.1).length ⟨0,by omega,by rw [e0,hb0];exact h.keep [3,4,1]⟩ ?_
 clear h e0
 rintro kbrR a u ⟨ibrR,hiibrR,h⟩
 by_cases hlt:ibrR<(d.2.2.1).length
 ·obtain ⟨x,hx⟩:∃ x,(d.2.2.1)[ibrR]? =some x:=⟨_,List.getElem?_eq_getElem hlt⟩
  have hcd:decide ((ibrR:Int)<((d.2.2.1).length:Int))=true:=decide_eq_true (by omega)
  have hw:IntKind.i64.wrap ((ibrR:Int)+1)=((ibrR+1:Nat):Int):=i64_small (by omega) (by omega)
  have hlen:(b0++((d.2.2.1).take ibrR).flatMap brR).length≤40000:=by
   have:=fm_take (l:=d.2.2.1) (i:=ibrR) (g:=brR) (c:=2) fun _ _=>Nat.le_refl _
   rw [List.length_append]
   omega
  have htk:=fm_snoc (b:=b0) (g:=brR) hx rfl
  refine g_of h ?_
  clear h
  repeat' first|kernel_rfl|(refine g_appT [4,1] (Nat.le_refl _) (Nat.le_refl _) (fun _ _ ht=>ht.mem.below.size) elem_rat (by simp only [List.length_cons,List.length_nil];omega) (by decide) (by kernel_rfl) ?_)|exact g_done fun _ _ h=>⟨kbrR - 1,by omega,ibrR+1,by omega,by rw [←htk];exact h.keep [3,4,1]⟩|apply g_seq|apply g_reg|apply g_nil|apply g_draw (id:=5) [] [] 14|apply o_all|apply o_go|exact OpsT.nil|exact GuardC.nil|exact UndefC.nil|apply g_box|apply g_all|apply g_stf|apply g_stw|apply g_sto|apply g_asg|apply g_st|apply g_skip|apply g_ct|apply g_cf|apply g_ret|refine r_1 rfl ?_|apply g_blk|apply g_eb|apply g_ex|apply e_t|apply e_h|refine e_o rfl ?_|apply r_t|apply r_b|apply g_cl|exact st_lenT|exact st_idxT (by assumption)|exact st_fldT|exact st_loadT|exact st_loadU|exact st_add' (by assumption)|exact st_rowT (r:=Rp.frac) [] w0.heap.size els_rat rfl (by decide) (by decide) (by decide)|exact st_move'|exact st_assign'|exact st_load'|exact st_fieldAddr'|exact st_lss' (by first|assumption|rfl)|exact st_len'|exact st_indexAddr' (by assumption)|exact st_loadE'|exact Cv.rfl'|(intro _;simp only[newX,newL,ptrs,List.map,List.cons_append,List.nil_append])|intro _
 ·have hil:ibrR=(d.2.2.1).length:=by omega
  have hcd:decide ((ibrR:Int)<((d.2.2.1).length:Int))=false:=decide_eq_false (by omega)
  rw [show (d.2.2.1).take ibrR=d.2.2.1 by rw [hil,List.take_length]] at h
  obtain ⟨b1,hb1⟩:∃ b,b=b0++(d.2.2.1).flatMap brR:=⟨_,rfl⟩
  rw [←hb1] at h
  have hlb1:b1.length≤44:=by
   rw [hb1,List.length_append]
   have:=fm_len (l:=d.2.2.1) (g:=brR) (c:=2) fun _ _=>Nat.le_refl _
   omega
  refine g_of h ?_
  clear h
  repeat' first|kernel_rfl|apply g_seq|apply g_reg|apply g_nil|apply o_all|apply o_go|exact OpsT.nil|exact GuardC.nil|exact UndefC.nil|apply g_box|apply g_all|apply g_stf|apply g_stw|apply g_sto|apply g_asg|apply g_st|apply g_skip|apply g_ct|apply g_cf|apply g_ret|refine r_1 rfl ?_|apply g_blk|apply g_eb|apply g_ex|apply e_t|apply e_h|refine e_o rfl ?_|apply r_t|apply r_b|apply g_cl|exact st_lenT|exact st_idxT (by assumption)|exact st_fldT|exact st_loadT|exact st_loadU|exact st_add' (by assumption)|exact st_rowT (r:=Rp.frac) [] w0.heap.size els_rat rfl (by decide) (by decide) (by decide)|exact st_move'|exact st_assign'|exact st_load'|exact st_fieldAddr'|exact st_lss' (by first|assumption|rfl)|exact st_len'|exact st_indexAddr' (by assumption)|exact st_loadE'|exact Cv.rfl'|(intro _;simp only[newX,newL,ptrs,List.map,List.cons_append,List.nil_append])|intro _
  refine g_stop fun a w h=> ?_
  have e0:b1++((d.2.2.2.2.2.2.2.2.2.2.1).take 0).flatMap clR=b1:=by simp
  refine cw_loop (fun kclR a u=>∃ iclR:Nat,iclR+kclR=(d.2.2.2.2.2.2.2.2.2.2.1).length∧TS w0 (r1::X) [(r1, .tr rpFiling [] w0.heap.size d)] [(3, .to Rp.frac 26 [] w0.heap.size w0.heap.size (b1++((d.2.2.2.2.2.2.2.2.2.2.1).take iclR).flatMap clR)),(5, .is (.int .i64 (iclR:Int))),(1, .is (.pointer (some ⟨r1,0,none⟩)))] 159 a u) (d.2.2.2.2.2.2.2.2.2.2.1).length ⟨0,by omega,by rw [e0];exact h.keep [3,5,1]⟩ ?_
  clear h e0
  rintro kclR a u ⟨iclR,hiiclR,h⟩
  by_cases hlt:iclR<(d.2.2.2.2.2.2.2.2.2.2.1).length
  ·obtain ⟨x,hx⟩:∃ x,(d.2.2.2.2.2.2.2.2.2.2.1)[iclR]? =some x:=⟨_,List.getElem?_eq_getElem hlt⟩
   have hcd:decide ((iclR:Int)<((d.2.2.2.2.2.2.2.2.2.2.1).length:Int))=true:=decide_eq_true (by omega)
   have hw:IntKind.i64.wrap ((iclR:Int)+1)=((iclR+1:Nat):Int):=i64_small (by omega) (by omega)
   have hlen:(b1++((d.2.2.2.2.2.2.2.2.2.2.1).take iclR).flatMap clR).length≤40000:=by
    have:=fm_take (l:=d.2.2.2.2.2.2.2.2.2.2.1) (i:=iclR) (g:=clR) (c:=1) fun _ _=>Nat.le_refl _
    rw [List.length_append]
    omega
   have htk:=fm_snoc (b:=b1) (g:=clR) hx rfl
   refine g_of h ?_
   clear h
   repeat' first|kernel_rfl|(refine g_appT [5,1] (Nat.le_refl _) (Nat.le_refl _) (fun _ _ ht=>ht.mem.below.size) elem_rat (by simp only [List.length_cons,List.length_nil];omega) (by decide) (by kernel_rfl) ?_)|exact g_done fun _ _ h=>⟨kclR - 1,by omega,iclR+1,by omega,by rw [←htk];exact h.keep [3,5,1]⟩|apply g_seq|apply g_reg|apply g_nil|apply o_all|apply o_go|exact OpsT.nil|exact GuardC.nil|exact UndefC.nil|apply g_box|apply g_all|apply g_stf|apply g_stw|apply g_sto|apply g_asg|apply g_st|apply g_skip|apply g_ct|apply g_cf|apply g_ret|refine r_1 rfl ?_|apply g_blk|apply g_eb|apply g_ex|apply e_t|apply e_h|refine e_o rfl ?_|apply r_t|apply r_b|apply g_cl|exact st_lenT|exact st_idxT (by assumption)|exact st_fldT|exact st_loadT|exact st_loadU|exact st_add' (by assumption)|exact st_rowT (r:=Rp.frac) [] w0.heap.size els_rat rfl (by decide) (by decide) (by decide)|exact st_move'|exact st_assign'|exact st_load'|exact st_fieldAddr'|exact st_lss' (by first|assumption|rfl)|exact st_len'|exact st_indexAddr' (by assumption)|exact st_loadE'|exact Cv.rfl'|(intro _;simp only[newX,newL,ptrs,List.map,List.cons_append,List.nil_append])|intro _
  ·have hil:iclR=(d.2.2.2.2.2.2.2.2.2.2.1).length:=by omega
   have hcd:decide ((iclR:Int)<((d.2.2.2.2.2.2.2.2.2.2.1).length:Int))=false:=decide_eq_false (by omega)
   rw [show (d.2.2.2.2.2.2.2.2.2.2.1).take iclR=d.2.2.2.2.2.2.2.2.2.2.1 by rw [hil,List.take_length]] at h
   obtain ⟨b2,hb2⟩:∃ b,b=b1++(d.2.2.2.2.2.2.2.2.2.2.1).flatMap clR:=⟨_,rfl⟩
   rw [←hb2] at h
   have hlb2:b2.length≤114:=by
    rw [hb2,List.length_append]
    have:=fm_len (l:=d.2.2.2.2.2.2.2.2.2.2.1) (g:=clR) (c:=1) fun _ _=>Nat.le_refl _
    omega
   refine g_of h ?_
   clear h
   repeat' first|kernel_rfl|apply g_seq|apply g_reg|apply g_nil|apply o_all|apply o_go|exact OpsT.nil|exact GuardC.nil|exact UndefC.nil|apply g_box|apply g_all|apply g_stf|apply g_stw|apply g_sto|apply g_asg|apply g_st|apply g_skip|apply g_ct|apply g_cf|apply g_ret|refine r_1 rfl ?_|apply g_blk|apply g_eb|apply g_ex|apply e_t|apply e_h|refine e_o rfl ?_|apply r_t|apply r_b|apply g_cl|exact st_lenT|exact st_idxT (by assumption)|exact st_fldT|exact st_loadT|exact st_loadU|exact st_add' (by assumption)|exact st_rowT (r:=Rp.frac) [] w0.heap.size els_rat rfl (by decide) (by decide) (by decide)|exact st_move'|exact st_assign'|exact st_load'|exact st_fieldAddr'|exact st_lss' (by first|assumption|rfl)|exact st_len'|exact st_indexAddr' (by assumption)|exact st_loadE'|exact Cv.rfl'|(intro _;simp only[newX,newL,ptrs,List.map,List.cons_append,List.nil_append])|intro _
   refine g_stop fun a w h=> ?_
   have e0:b2++((d.2.2.2.2.2.2.2.2.2.2.2.2).take 0).flatMap yrR=b2:=by simp
   refine cw_loop (fun kk a u=>∃ k0:Nat,k0+kk=(d.2.2.2.2.2.2.2.2.2.2.2.2).length∧TS w0 (r1::X) [(r1, .tr rpFiling [] w0.heap.size d)] [(3, .to Rp.frac 26 [] w0.heap.size w0.heap.size (b2++((d.2.2.2.2.2.2.2.2.2.2.2.2).take k0).flatMap yrR)),(6, .is (.int .i64 (k0:Int))),(1, .is (.pointer (some ⟨r1,0,none⟩)))] 159 a u) (d.2.2.2.2.2.2.2.2.2.2.2.2).length ⟨0,by omega,by rw [e0];exact h.keep [3,6,1]⟩ ?_
   clear h e0
   rintro kk a u ⟨k0,hik0,h⟩
   by_cases hlt:k0<(d.2.2.2.2.2.2.2.2.2.2.2.2).length
   ·obtain ⟨y,hxy⟩:∃ x,(d.2.2.2.2.2.2.2.2.2.2.2.2)[k0]? =some x:=⟨_,List.getElem?_eq_getElem hlt⟩
    have hcd:decide ((k0:Int)<((d.2.2.2.2.2.2.2.2.2.2.2.2).length:Int))=true:=decide_eq_true (by omega)
    have hw:IntKind.i64.wrap ((k0:Int)+1)=((k0+1:Nat):Int):=i64_small (by omega) (by omega)
    have hx:=hxy
    have hy:=hc.yr y (List.mem_of_getElem? hx)
    obtain ⟨c0,hc0⟩:∃ b,b=b2++((d.2.2.2.2.2.2.2.2.2.2.2.2).take k0).flatMap yrR:=⟨_,rfl⟩
    rw [←hc0] at h
    have hlc0:c0.length≤114+45*240:=by
     rw [hc0,List.length_append]
     have h1:=fm_take (l:=d.2.2.2.2.2.2.2.2.2.2.2.2) (i:=k0) (g:=yrR) (c:=240) fun y hy=>yrR_len (hc.yr y hy)
     have h2:(d.2.2.2.2.2.2.2.2.2.2.2.2).length*240≤45*240:=Nat.mul_le_mul hc.ys (Nat.le_refl _)
     omega
    refine g_of h ?_
    clear h
    repeat' first|kernel_rfl|apply g_seq|apply g_reg|apply g_nil|apply o_all|apply o_go|exact OpsT.nil|exact GuardC.nil|exact UndefC.nil|apply g_box|apply g_all|apply g_stf|apply g_stw|apply g_sto|apply g_asg|apply g_st|apply g_skip|apply g_ct|apply g_cf|apply g_ret|refine r_1 rfl ?_|apply g_blk|apply g_eb|apply g_ex|apply e_t|apply e_h|refine e_o rfl ?_|apply r_t|apply r_b|apply g_cl|exact st_lenT|exact st_idxT (by assumption)|exact st_fldT|exact st_loadT|exact st_loadU|exact st_add' (by assumption)|exact st_rowT (r:=Rp.frac) [] w0.heap.size els_rat rfl (by decide) (by decide) (by decide)|exact st_move'|exact st_assign'|exact st_load'|exact st_fieldAddr'|exact st_lss' (by first|assumption|rfl)|exact st_len'|exact st_indexAddr' (by assumption)|exact st_loadE'|exact Cv.rfl'|(intro _;simp only[newX,newL,ptrs,List.map,List.cons_append,List.nil_append])|intro _
    refine g_stop fun a w h=> ?_
    rename_i r7
    obtain ⟨hy1,hy2,hy3,hy4,hy5⟩:=hy
    have e0:c0++((y.2.1).take 0).flatMap hoR=c0:=by simp
    refine cw_loop (fun k1 a u=>∃ i1:Nat,i1+k1=(y.2.1).length∧TS w0 (r7::r1::X) [(r7, .tr rpYear [] w0.heap.size y),(r1, .tr rpFiling [] w0.heap.size d)] [(3, .to Rp.frac 26 [] w0.heap.size w0.heap.size (c0++((y.2.1).take i1).flatMap hoR)),(8, .is (.int .i64 (i1:Int))),(6, .is (.int .i64 (k0:Int))),(7, .is (.pointer (some ⟨r7,0,none⟩))),(1, .is (.pointer (some ⟨r1,0,none⟩)))] 159 a u) (y.2.1).length ⟨0,by omega,by rw [e0];exact h.keep [3,8,6,7,1]⟩ ?_
    clear h e0
    rintro k1 a u ⟨i1,hii1,h⟩
    by_cases hlt:i1<(y.2.1).length
    ·obtain ⟨x,hx⟩:∃ x,(y.2.1)[i1]? =some x:=⟨_,List.getElem?_eq_getElem hlt⟩
     have hcd:decide ((i1:Int)<((y.2.1).length:Int))=true:=decide_eq_true (by omega)
     have hw:IntKind.i64.wrap ((i1:Int)+1)=((i1+1:Nat):Int):=i64_small (by omega) (by omega)
     have hlen:(c0++((y.2.1).take i1).flatMap hoR).length≤40000:=by
      have:=fm_take (l:=y.2.1) (i:=i1) (g:=hoR) (c:=1) fun _ _=>Nat.le_refl _
      rw [List.length_append]
      omega
     have htk:=fm_snoc (b:=c0) (g:=hoR) hx rfl
     refine g_of h ?_
     clear h
     repeat' first|kernel_rfl|(refine g_appT [8,6,7,1] (Nat.le_refl _) (Nat.le_refl _) (fun _ _ ht=>ht.mem.below.size) elem_rat (by simp only [List.length_cons,List.length_nil];omega) (by decide) (by kernel_rfl) ?_)|exact g_done fun _ _ h=>⟨k1 - 1,by omega,i1+1,by omega,by rw [←htk];exact h.keep [3,8,6,7,1]⟩|apply g_seq|apply g_reg|apply g_nil|apply o_all|apply o_go|exact OpsT.nil|exact GuardC.nil|exact UndefC.nil|apply g_box|apply g_all|apply g_stf|apply g_stw|apply g_sto|apply g_asg|apply g_st|apply g_skip|apply g_ct|apply g_cf|apply g_ret|refine r_1 rfl ?_|apply g_blk|apply g_eb|apply g_ex|apply e_t|apply e_h|refine e_o rfl ?_|apply r_t|apply r_b|apply g_cl|exact st_lenT|exact st_idxT (by assumption)|exact st_fldT|exact st_loadT|exact st_loadU|exact st_add' (by assumption)|exact st_rowT (r:=Rp.frac) [] w0.heap.size els_rat rfl (by decide) (by decide) (by decide)|exact st_move'|exact st_assign'|exact st_load'|exact st_fieldAddr'|exact st_lss' (by first|assumption|rfl)|exact st_len'|exact st_indexAddr' (by assumption)|exact st_loadE'|exact Cv.rfl'|(intro _;simp only[newX,newL,ptrs,List.map,List.cons_append,List.nil_append])|intro _
    ·have hil:i1=(y.2.1).length:=by omega
     have hcd:decide ((i1:Int)<((y.2.1).length:Int))=false:=decide_eq_false (by omega)
     rw [show (y.2.1).take i1=y.2.1 by rw [hil,List.take_length]] at h
     obtain ⟨c1,hc1⟩:∃ b,b=c0++(y.2.1).flatMap hoR:=⟨_,rfl⟩
     rw [←hc1] at h
     have hlc1:c1.length≤10954:=by
      rw [hc1,List.length_append]
      have:=fm_len (l:=y.2.1) (g:=hoR) (c:=1) fun _ _=>Nat.le_refl _
      omega
     refine g_of h ?_
     clear h
     repeat' first|kernel_rfl|apply g_seq|apply g_reg|apply g_nil|apply o_all|apply o_go|exact OpsT.nil|exact GuardC.nil|exact UndefC.nil|apply g_box|apply g_all|apply g_stf|apply g_stw|apply g_sto|apply g_asg|apply g_st|apply g_skip|apply g_ct|apply g_cf|apply g_ret|refine r_1 rfl ?_|apply g_blk|apply g_eb|apply g_ex|apply e_t|apply e_h|refine e_o rfl ?_|apply r_t|apply r_b|apply g_cl|exact st_lenT|exact st_idxT (by assumption)|exact st_fldT|exact st_loadT|exact st_loadU|exact st_add' (by assumption)|exact st_rowT (r:=Rp.frac) [] w0.heap.size els_rat rfl (by decide) (by decide) (by decide)|exact st_move'|exact st_assign'|exact st_load'|exact st_fieldAddr'|exact st_lss' (by first|assumption|rfl)|exact st_len'|exact st_indexAddr' (by assumption)|exact st_loadE'|exact Cv.rfl'|(intro _;simp only[newX,newL,ptrs,List.map,List.cons_append,List.nil_append])|intro _
     refine g_stop fun a w h=> ?_
     have e0:c1++((y.2.2.1).take 0).flatMap boR=c1:=by simp
     refine cw_loop (fun k2 a u=>∃ i2:Nat,i2+k2=(y.2.2.1).length∧TS w0 (r7::r1::X) [(r7, .tr rpYear [] w0.heap.size y),(r1, .tr rpFiling [] w0.heap.size d)] [(3, .to Rp.frac 26 [] w0.heap.size w0.heap.size (c1++((y.2.2.1).take i2).flatMap boR)),(9, .is (.int .i64 (i2:Int))),(6, .is (.int .i64 (k0:Int))),(7, .is (.pointer (some ⟨r7,0,none⟩))),(1, .is (.pointer (some ⟨r1,0,none⟩)))] 159 a u) (y.2.2.1).length ⟨0,by omega,by rw [e0];exact h.keep [3,9,6,7,1]⟩ ?_
     clear h e0
     rintro k2 a u ⟨i2,hii2,h⟩
     by_cases hlt:i2<(y.2.2.1).length
     ·obtain ⟨x,hx⟩:∃ x,(y.2.2.1)[i2]? =some x:=⟨_,List.getElem?_eq_getElem hlt⟩
      have hcd:decide ((i2:Int)<((y.2.2.1).length:Int))=true:=decide_eq_true (by omega)
      have hw:IntKind.i64.wrap ((i2:Int)+1)=((i2+1:Nat):Int):=i64_small (by omega) (by omega)
      have hlen:(c1++((y.2.2.1).take i2).flatMap boR).length≤40000:=by
       have:=fm_take (l:=y.2.2.1) (i:=i2) (g:=boR) (c:=1) fun _ _=>Nat.le_refl _
       rw [List.length_append]
       omega
      have htk:=fm_snoc (b:=c1) (g:=boR) hx rfl
      refine g_of h ?_
      clear h
      repeat' first|kernel_rfl|(refine g_appT [9,6,7,1] (Nat.le_refl _) (Nat.le_refl _) (fun _ _ ht=>ht.mem.below.size) elem_rat (by simp only [List.length_cons,List.length_nil];omega) (by decide) (by kernel_rfl) ?_)|exact g_done fun _ _ h=>⟨k2 - 1,by omega,i2+1,by omega,by rw [←htk];exact h.keep [3,9,6,7,1]⟩|apply g_seq|apply g_reg|apply g_nil|apply o_all|apply o_go|exact OpsT.nil|exact GuardC.nil|exact UndefC.nil|apply g_box|apply g_all|apply g_stf|apply g_stw|apply g_sto|apply g_asg|apply g_st|apply g_skip|apply g_ct|apply g_cf|apply g_ret|refine r_1 rfl ?_|apply g_blk|apply g_eb|apply g_ex|apply e_t|apply e_h|refine e_o rfl ?_|apply r_t|apply r_b|apply g_cl|exact st_lenT|exact st_idxT (by assumption)|exact st_fldT|exact st_loadT|exact st_loadU|exact st_add' (by assumption)|exact st_rowT (r:=Rp.frac) [] w0.heap.size els_rat rfl (by decide) (by decide) (by decide)|exact st_move'|exact st_assign'|exact st_load'|exact st_fieldAddr'|exact st_lss' (by first|assumption|rfl)|exact st_len'|exact st_indexAddr' (by assumption)|exact st_loadE'|exact Cv.rfl'|(intro _;simp only[newX,newL,ptrs,List.map,List.cons_append,List.nil_append])|intro _
     ·have hil:i2=(y.2.2.1).length:=by omega
      have hcd:decide ((i2:Int)<((y.2.2.1).length:Int))=false:=decide_eq_false (by omega)
      rw [show (y.2.2.1).take i2=y.2.2.1 by rw [hil,List.take_length]] at h
      obtain ⟨c2,hc2⟩:∃ b,b=c1++(y.2.2.1).flatMap boR:=⟨_,rfl⟩
      rw [←hc2] at h
      have hlc2:c2.length≤10994:=by
       rw [hc2,List.length_append]
       have:=fm_len (l:=y.2.2.1) (g:=boR) (c:=1) fun _ _=>Nat.le_refl _
       omega
      refine g_of h ?_
      clear h
      repeat' first|kernel_rfl|apply g_seq|apply g_reg|apply g_nil|apply o_all|apply o_go|exact OpsT.nil|exact GuardC.nil|exact UndefC.nil|apply g_box|apply g_all|apply g_stf|apply g_stw|apply g_sto|apply g_asg|apply g_st|apply g_skip|apply g_ct|apply g_cf|apply g_ret|refine r_1 rfl ?_|apply g_blk|apply g_eb|apply g_ex|apply e_t|apply e_h|refine e_o rfl ?_|apply r_t|apply r_b|apply g_cl|exact st_lenT|exact st_idxT (by assumption)|exact st_fldT|exact st_loadT|exact st_loadU|exact st_add' (by assumption)|exact st_rowT (r:=Rp.frac) [] w0.heap.size els_rat rfl (by decide) (by decide) (by decide)|exact st_move'|exact st_assign'|exact st_load'|exact st_fieldAddr'|exact st_lss' (by first|assumption|rfl)|exact st_len'|exact st_indexAddr' (by assumption)|exact st_loadE'|exact Cv.rfl'|(intro _;simp only[newX,newL,ptrs,List.map,List.cons_append,List.nil_append])|intro _
      refine g_stop fun a w h=> ?_
      have e0:c2++((y.2.2.2.1).take 0).flatMap deR=c2:=by simp
      refine cw_loop (fun k3 a u=>∃ i3:Nat,i3+k3=(y.2.2.2.1).length∧TS w0 (r7::r1::X) [(r7, .tr rpYear [] w0.heap.size y),(r1, .tr rpFiling [] w0.heap.size d)] [(3, .to Rp.frac 26 [] w0.heap.size w0.heap.size (c2++((y.2.2.2.1).take i3).flatMap deR)),(10, .is (.int .i64 (i3:Int))),(6, .is (.int .i64 (k0:Int))),(7, .is (.pointer (some ⟨r7,0,none⟩))),(1, .is (.pointer (some ⟨r1,0,none⟩)))] 159 a u) (y.2.2.2.1).length ⟨0,by omega,by rw [e0];exact h.keep [3,10,6,7,1]⟩ ?_
      clear h e0
      rintro k3 a u ⟨i3,hii3,h⟩
      by_cases hlt:i3<(y.2.2.2.1).length
      ·obtain ⟨x,hx⟩:∃ x,(y.2.2.2.1)[i3]? =some x:=⟨_,List.getElem?_eq_getElem hlt⟩
       have hcd:decide ((i3:Int)<((y.2.2.2.1).length:Int))=true:=decide_eq_true (by omega)
       have hw:IntKind.i64.wrap ((i3:Int)+1)=((i3+1:Nat):Int):=i64_small (by omega) (by omega)
       have hlen:(c2++((y.2.2.2.1).take i3).flatMap deR).length≤40000:=by
        have:=fm_take (l:=y.2.2.2.1) (i:=i3) (g:=deR) (c:=1) fun _ _=>Nat.le_refl _
        rw [List.length_append]
        omega
       have htk:=fm_snoc (b:=c2) (g:=deR) hx rfl
       refine g_of h ?_
       clear h
       repeat' first|kernel_rfl|(refine g_appT [10,6,7,1] (Nat.le_refl _) (Nat.le_refl _) (fun _ _ ht=>ht.mem.below.size) elem_rat (by simp only [List.length_cons,List.length_nil];omega) (by decide) (by kernel_rfl) ?_)|exact g_done fun _ _ h=>⟨k3 - 1,by omega,i3+1,by omega,by rw [←htk];exact h.keep [3,10,6,7,1]⟩|apply g_seq|apply g_reg|apply g_nil|apply o_all|apply o_go|exact OpsT.nil|exact GuardC.nil|exact UndefC.nil|apply g_box|apply g_all|apply g_stf|apply g_stw|apply g_sto|apply g_asg|apply g_st|apply g_skip|apply g_ct|apply g_cf|apply g_ret|refine r_1 rfl ?_|apply g_blk|apply g_eb|apply g_ex|apply e_t|apply e_h|refine e_o rfl ?_|apply r_t|apply r_b|apply g_cl|exact st_lenT|exact st_idxT (by assumption)|exact st_fldT|exact st_loadT|exact st_loadU|exact st_add' (by assumption)|exact st_rowT (r:=Rp.frac) [] w0.heap.size els_rat rfl (by decide) (by decide) (by decide)|exact st_move'|exact st_assign'|exact st_load'|exact st_fieldAddr'|exact st_lss' (by first|assumption|rfl)|exact st_len'|exact st_indexAddr' (by assumption)|exact st_loadE'|exact Cv.rfl'|(intro _;simp only[newX,newL,ptrs,List.map,List.cons_append,List.nil_append])|intro _
      ·have hil:i3=(y.2.2.2.1).length:=by omega
       have hcd:decide ((i3:Int)<((y.2.2.2.1).length:Int))=false:=decide_eq_false (by omega)
       rw [show (y.2.2.2.1).take i3=y.2.2.2.1 by rw [hil,List.take_length]] at h
       obtain ⟨c3,hc3⟩:∃ b,b=c2++(y.2.2.2.1).flatMap deR:=⟨_,rfl⟩
       rw [←hc3] at h
       have hlc3:c3.length≤11034:=by
        rw [hc3,List.length_append]
        have:=fm_len (l:=y.2.2.2.1) (g:=deR) (c:=1) fun _ _=>Nat.le_refl _
        omega
       refine g_of h ?_
       clear h
       repeat' first|kernel_rfl|apply g_seq|apply g_reg|apply g_nil|apply o_all|apply o_go|exact OpsT.nil|exact GuardC.nil|exact UndefC.nil|apply g_box|apply g_all|apply g_stf|apply g_stw|apply g_sto|apply g_asg|apply g_st|apply g_skip|apply g_ct|apply g_cf|apply g_ret|refine r_1 rfl ?_|apply g_blk|apply g_eb|apply g_ex|apply e_t|apply e_h|refine e_o rfl ?_|apply r_t|apply r_b|apply g_cl|exact st_lenT|exact st_idxT (by assumption)|exact st_fldT|exact st_loadT|exact st_loadU|exact st_add' (by assumption)|exact st_rowT (r:=Rp.frac) [] w0.heap.size els_rat rfl (by decide) (by decide) (by decide)|exact st_move'|exact st_assign'|exact st_load'|exact st_fieldAddr'|exact st_lss' (by first|assumption|rfl)|exact st_len'|exact st_indexAddr' (by assumption)|exact st_loadE'|exact Cv.rfl'|(intro _;simp only[newX,newL,ptrs,List.map,List.cons_append,List.nil_append])|intro _
       refine g_stop fun a w h=> ?_
       have e0:c3++((y.2.2.2.2.1).take 0).flatMap stR=c3:=by simp
       refine cw_loop (fun k4 a u=>∃ i4:Nat,i4+k4=(y.2.2.2.2.1).length∧TS w0 (r7::r1::X) [(r7, .tr rpYear [] w0.heap.size y),(r1, .tr rpFiling [] w0.heap.size d)] [(3, .to Rp.frac 26 [] w0.heap.size w0.heap.size (c3++((y.2.2.2.2.1).take i4).flatMap stR)),(11, .is (.int .i64 (i4:Int))),(6, .is (.int .i64 (k0:Int))),(7, .is (.pointer (some ⟨r7,0,none⟩))),(1, .is (.pointer (some ⟨r1,0,none⟩)))] 159 a u) (y.2.2.2.2.1).length ⟨0,by omega,by rw [e0];exact h.keep [3,11,6,7,1]⟩ ?_
       clear h e0
       rintro k4 a u ⟨i4,hii4,h⟩
       by_cases hlt:i4<(y.2.2.2.2.1).length
       ·obtain ⟨x,hx⟩:∃ x,(y.2.2.2.2.1)[i4]? =some x:=⟨_,List.getElem?_eq_getElem hlt⟩
        have hcd:decide ((i4:Int)<((y.2.2.2.2.1).length:Int))=true:=decide_eq_true (by omega)
        have hw:IntKind.i64.wrap ((i4:Int)+1)=((i4+1:Nat):Int):=i64_small (by omega) (by omega)
        have hlen:(c3++((y.2.2.2.2.1).take i4).flatMap stR).length≤40000:=by
         have:=fm_take (l:=y.2.2.2.2.1) (i:=i4) (g:=stR) (c:=2) fun _ _=>Nat.le_refl _
         rw [List.length_append]
         omega
        have htk:=fm_snoc (b:=c3) (g:=stR) hx rfl
        refine g_of h ?_
        clear h
        repeat' first|kernel_rfl|(refine g_appT [11,6,7,1] (Nat.le_refl _) (Nat.le_refl _) (fun _ _ ht=>ht.mem.below.size) elem_rat (by simp only [List.length_cons,List.length_nil];omega) (by decide) (by kernel_rfl) ?_)|exact g_done fun _ _ h=>⟨k4 - 1,by omega,i4+1,by omega,by rw [←htk];exact h.keep [3,11,6,7,1]⟩|apply g_seq|apply g_reg|apply g_nil|apply g_draw (id:=29) [] [] 14|apply o_all|apply o_go|exact OpsT.nil|exact GuardC.nil|exact UndefC.nil|apply g_box|apply g_all|apply g_stf|apply g_stw|apply g_sto|apply g_asg|apply g_st|apply g_skip|apply g_ct|apply g_cf|apply g_ret|refine r_1 rfl ?_|apply g_blk|apply g_eb|apply g_ex|apply e_t|apply e_h|refine e_o rfl ?_|apply r_t|apply r_b|apply g_cl|exact st_lenT|exact st_idxT (by assumption)|exact st_fldT|exact st_loadT|exact st_loadU|exact st_add' (by assumption)|exact st_rowT (r:=Rp.frac) [] w0.heap.size els_rat rfl (by decide) (by decide) (by decide)|exact st_move'|exact st_assign'|exact st_load'|exact st_fieldAddr'|exact st_lss' (by first|assumption|rfl)|exact st_len'|exact st_indexAddr' (by assumption)|exact st_loadE'|exact Cv.rfl'|(intro _;simp only[newX,newL,ptrs,List.map,List.cons_append,List.nil_append])|intro _
       ·have hil:i4=(y.2.2.2.2.1).length:=by omega
        have hcd:decide ((i4:Int)<((y.2.2.2.2.1).length:Int))=false:=decide_eq_false (by omega)
        rw [show (y.2.2.2.2.1).take i4=y.2.2.2.2.1 by rw [hil,List.take_length]] at h
        obtain ⟨c4,hc4⟩:∃ b,b=c3++(y.2.2.2.2.1).flatMap stR:=⟨_,rfl⟩
        rw [←hc4] at h
        have hlc4:c4.length≤11114:=by
         rw [hc4,List.length_append]
         have:=fm_len (l:=y.2.2.2.2.1) (g:=stR) (c:=2) fun _ _=>Nat.le_refl _
         omega
        refine g_of h ?_
        clear h
        repeat' first|kernel_rfl|apply g_seq|apply g_reg|apply g_nil|apply o_all|apply o_go|exact OpsT.nil|exact GuardC.nil|exact UndefC.nil|apply g_box|apply g_all|apply g_stf|apply g_stw|apply g_sto|apply g_asg|apply g_st|apply g_skip|apply g_ct|apply g_cf|apply g_ret|refine r_1 rfl ?_|apply g_blk|apply g_eb|apply g_ex|apply e_t|apply e_h|refine e_o rfl ?_|apply r_t|apply r_b|apply g_cl|exact st_lenT|exact st_idxT (by assumption)|exact st_fldT|exact st_loadT|exact st_loadU|exact st_add' (by assumption)|exact st_rowT (r:=Rp.frac) [] w0.heap.size els_rat rfl (by decide) (by decide) (by decide)|exact st_move'|exact st_assign'|exact st_load'|exact st_fieldAddr'|exact st_lss' (by first|assumption|rfl)|exact st_len'|exact st_indexAddr' (by assumption)|exact st_loadE'|exact Cv.rfl'|(intro _;simp only[newX,newL,ptrs,List.map,List.cons_append,List.nil_append])|intro _
        refine g_stop fun a w h=> ?_
        have e0:c4++((y.2.2.2.2.2).take 0).flatMap soR=c4:=by simp
        refine cw_loop (fun k5 a u=>∃ i5:Nat,i5+k5=(y.2.2.2.2.2).length∧TS w0 (r7::r1::X) [(r7, .tr rpYear [] w0.heap.size y),(r1, .tr rpFiling [] w0.heap.size d)] [(3, .to Rp.frac 26 [] w0.heap.size w0.heap.size (c4++((y.2.2.2.2.2).take i5).flatMap soR)),(12, .is (.int .i64 (i5:Int))),(6, .is (.int .i64 (k0:Int))),(7, .is (.pointer (some ⟨r7,0,none⟩))),(1, .is (.pointer (some ⟨r1,0,none⟩)))] 159 a u) (y.2.2.2.2.2).length ⟨0,by omega,by rw [e0];exact h.keep [3,12,6,7,1]⟩ ?_
        clear h e0
        rintro k5 a u ⟨i5,hii5,h⟩
        by_cases hlt:i5<(y.2.2.2.2.2).length
        ·obtain ⟨x,hx⟩:∃ x,(y.2.2.2.2.2)[i5]? =some x:=⟨_,List.getElem?_eq_getElem hlt⟩
         have hcd:decide ((i5:Int)<((y.2.2.2.2.2).length:Int))=true:=decide_eq_true (by omega)
         have hw:IntKind.i64.wrap ((i5:Int)+1)=((i5+1:Nat):Int):=i64_small (by omega) (by omega)
         have hlen:(c4++((y.2.2.2.2.2).take i5).flatMap soR).length≤40000:=by
          have:=fm_take (l:=y.2.2.2.2.2) (i:=i5) (g:=soR) (c:=1) fun _ _=>Nat.le_refl _
          rw [List.length_append]
          omega
         have htk:=fm_snoc (b:=c4) (g:=soR) hx rfl
         refine g_of h ?_
         clear h
         repeat' first|kernel_rfl|(refine g_appT [12,6,7,1] (Nat.le_refl _) (Nat.le_refl _) (fun _ _ ht=>ht.mem.below.size) elem_rat (by simp only [List.length_cons,List.length_nil];omega) (by decide) (by kernel_rfl) ?_)|exact g_done fun _ _ h=>⟨k5 - 1,by omega,i5+1,by omega,by rw [←htk];exact h.keep [3,12,6,7,1]⟩|apply g_seq|apply g_reg|apply g_nil|apply o_all|apply o_go|exact OpsT.nil|exact GuardC.nil|exact UndefC.nil|apply g_box|apply g_all|apply g_stf|apply g_stw|apply g_sto|apply g_asg|apply g_st|apply g_skip|apply g_ct|apply g_cf|apply g_ret|refine r_1 rfl ?_|apply g_blk|apply g_eb|apply g_ex|apply e_t|apply e_h|refine e_o rfl ?_|apply r_t|apply r_b|apply g_cl|exact st_lenT|exact st_idxT (by assumption)|exact st_fldT|exact st_loadT|exact st_loadU|exact st_add' (by assumption)|exact st_rowT (r:=Rp.frac) [] w0.heap.size els_rat rfl (by decide) (by decide) (by decide)|exact st_move'|exact st_assign'|exact st_load'|exact st_fieldAddr'|exact st_lss' (by first|assumption|rfl)|exact st_len'|exact st_indexAddr' (by assumption)|exact st_loadE'|exact Cv.rfl'|(intro _;simp only[newX,newL,ptrs,List.map,List.cons_append,List.nil_append])|intro _
        ·have hil:i5=(y.2.2.2.2.2).length:=by omega
         have hcd:decide ((i5:Int)<((y.2.2.2.2.2).length:Int))=false:=decide_eq_false (by omega)
         rw [show (y.2.2.2.2.2).take i5=y.2.2.2.2.2 by rw [hil,List.take_length]] at h
         obtain ⟨c5,hc5⟩:∃ b,b=c4++(y.2.2.2.2.2).flatMap soR:=⟨_,rfl⟩
         rw [←hc5] at h
         have hlc5:c5.length≤11154:=by
          rw [hc5,List.length_append]
          have:=fm_len (l:=y.2.2.2.2.2) (g:=soR) (c:=1) fun _ _=>Nat.le_refl _
          omega
         have htk:c5=b2++((d.2.2.2.2.2.2.2.2.2.2.2.2).take (k0+1)).flatMap yrR:=by
          rw [←fm_snoc hxy rfl,←hc0,hc5,hc4,hc3,hc2,hc1]
          unfold yrR
          simp only [List.append_assoc]
         rw [htk] at h
         refine g_of h ?_
         clear h
         repeat' first|kernel_rfl|exact g_done fun _ _ h=>⟨kk - 1,by omega,k0+1,by omega,h.drop.keep [3,6,1]⟩|apply g_seq|apply g_reg|apply g_nil|apply o_all|apply o_go|exact OpsT.nil|exact GuardC.nil|exact UndefC.nil|apply g_box|apply g_all|apply g_stf|apply g_stw|apply g_sto|apply g_asg|apply g_st|apply g_skip|apply g_ct|apply g_cf|apply g_ret|refine r_1 rfl ?_|apply g_blk|apply g_eb|apply g_ex|apply e_t|apply e_h|refine e_o rfl ?_|apply r_t|apply r_b|apply g_cl|exact st_lenT|exact st_idxT (by assumption)|exact st_fldT|exact st_loadT|exact st_loadU|exact st_add' (by assumption)|exact st_rowT (r:=Rp.frac) [] w0.heap.size els_rat rfl (by decide) (by decide) (by decide)|exact st_move'|exact st_assign'|exact st_load'|exact st_fieldAddr'|exact st_lss' (by first|assumption|rfl)|exact st_len'|exact st_indexAddr' (by assumption)|exact st_loadE'|exact Cv.rfl'|(intro _;simp only[newX,newL,ptrs,List.map,List.cons_append,List.nil_append])|intro _
   ·have hil:k0=(d.2.2.2.2.2.2.2.2.2.2.2.2).length:=by omega
    have hcd:decide ((k0:Int)<((d.2.2.2.2.2.2.2.2.2.2.2.2).length:Int))=false:=decide_eq_false (by omega)
    rw [show (d.2.2.2.2.2.2.2.2.2.2.2.2).take k0=d.2.2.2.2.2.2.2.2.2.2.2.2 by rw [hil,List.take_length]] at h
    have efin:b2++(d.2.2.2.2.2.2.2.2.2.2.2.2).flatMap yrR=ratsL d:=by
     rw [hb2,hb1,hb0]
     rfl
    rw [efin] at h
    refine g_of h ?_
    clear h
    repeat' first|kernel_rfl|apply g_seq|apply g_reg|apply g_nil|apply o_all|apply o_go|exact OpsT.nil|exact GuardC.nil|exact UndefC.nil|apply g_box|apply g_all|apply g_stf|apply g_stw|apply g_sto|apply g_asg|apply g_st|apply g_skip|apply g_ct|apply g_cf|apply g_ret|refine r_1 rfl ?_|apply g_blk|apply g_eb|apply g_ex|apply e_t|apply e_h|refine e_o rfl ?_|apply r_t|apply r_b|apply g_cl|exact st_lenT|exact st_idxT (by assumption)|exact st_fldT|exact st_loadT|exact st_loadU|exact st_add' (by assumption)|exact st_rowT (r:=Rp.frac) [] w0.heap.size els_rat rfl (by decide) (by decide) (by decide)|exact st_move'|exact st_assign'|exact st_load'|exact st_fieldAddr'|exact st_lss' (by first|assumption|rfl)|exact st_len'|exact st_indexAddr' (by assumption)|exact st_loadE'|exact ⟨fun _ _=>fun _ h=>to_rw h⟩|exact Cv.rfl'|(intro _;simp only[newX,newL,ptrs,List.map,List.cons_append,List.nil_append])|intro _
theorem c_texts {d:TyFiling} (hc:CntF d):Ctr Tryz.prog S1 51 [0] [.ra rpFiling d] (fun _=> .rw Rp.str tt (textsL d)):=by
 refine c7_M (As':=fun B=>[.tr rpFiling [] B d]) Tryz.func51 rfl Tryz.ntmps51 (by simp) (fun _ _=>by kernel_rfl) (fun {X w vs} ha=>by
  obtain ⟨v,rfl,h⟩:=ha.one
  exact ⟨ra_old h,trivial⟩) fun X w0 hE=> ?_
 simp only [argE,Nat.zero_add,Nat.reduceAdd]
 repeat' first|kernel_rfl|(refine g_appT [1] (Nat.le_refl _) (Nat.le_refl _) (fun _ _ ht=>ht.mem.below.size) elem_str (by have:=hc.en;simp only [List.length_cons,List.length_nil];omega) (by decide) (by kernel_rfl) ?_)|apply g_seq|apply g_reg|apply g_nil|apply o_all|apply o_go|exact OpsT.nil|exact GuardC.nil|exact UndefC.nil|apply g_box|apply g_all|apply g_stf|apply g_stw|apply g_sto|apply g_asg|apply g_st|apply g_skip|apply g_ct|apply g_cf|apply g_ret|refine r_1 rfl ?_|apply g_blk|apply g_eb|apply g_ex|apply e_t|apply e_h|refine e_o rfl ?_|apply r_t|apply r_b|apply g_cl|exact st_lenT|exact st_idxT (by assumption)|exact st_fldT|exact st_loadT|exact st_loadU|exact st_add' (by assumption)|exact vs_new [] w0.heap.size els_str rfl (by decide)|exact st_move'|exact st_assign'|exact st_load'|exact st_fieldAddr'|exact st_lss' (by first|assumption|rfl)|exact st_len'|exact st_indexAddr' (by assumption)|exact st_loadE'|exact Cv.rfl'|(intro _;simp only[newX,newL,ptrs,List.map,List.cons_append,List.nil_append])|intro _
 refine g_stop fun a w h=> ?_
 rename_i r1
 obtain ⟨b0,hb0⟩:∃ b,b=([d.1,d.2.1]++d.2.2.2.2.2.2.2.2.2.2.2.1):=⟨_,rfl⟩
 have hl0:b0.length≤262:=by rw [hb0];have:=hc.en;simp<;>omega
 have hcb:=hc.br
 have hcc:=hc.cl
 have hcs:=hc.ys
 have e0:b0++((d.2.2.2.2.2.2.2.2.2.2.1).take 0).flatMap clS=b0:=by simp
 refine cw_loop (fun kclS a u=>∃ iclS:Nat,iclS+kclS=(d.2.2.2.2.2.2.2.2.2.2.1).length∧TS w0 (r1::X) [(r1, .tr rpFiling [] w0.heap.size d)] [(3, .to Rp.str 9 [] w0.heap.size w0.heap.size (b0++((d.2.2.2.2.2.2.2.2.2.2.1).take iclS).flatMap clS)),(4, .is (.int .i64 (iclS:Int))),(1, .is (.pointer (some ⟨r1,0,none⟩)))] 150 a u) (d.2.2.2.2.2.2.2.2.2.2.1).length ⟨0,by omega,by rw [e0,hb0];exact h.keep [3,4,1]⟩ ?_
 clear h e0
 rintro kclS a u ⟨iclS,hiiclS,h⟩
 by_cases hlt:iclS<(d.2.2.2.2.2.2.2.2.2.2.1).length
 ·obtain ⟨x,hx⟩:∃ x,(d.2.2.2.2.2.2.2.2.2.2.1)[iclS]? =some x:=⟨_,List.getElem?_eq_getElem hlt⟩
  have hcd:decide ((iclS:Int)<((d.2.2.2.2.2.2.2.2.2.2.1).length:Int))=true:=decide_eq_true (by omega)
  have hw:IntKind.i64.wrap ((iclS:Int)+1)=((iclS+1:Nat):Int):=i64_small (by omega) (by omega)
  have hlen:(b0++((d.2.2.2.2.2.2.2.2.2.2.1).take iclS).flatMap clS).length≤40000:=by
   have:=fm_take (l:=d.2.2.2.2.2.2.2.2.2.2.1) (i:=iclS) (g:=clS) (c:=1) fun _ _=>Nat.le_refl _
   rw [List.length_append]
   omega
  have htk:=fm_snoc (b:=b0) (g:=clS) hx rfl
  refine g_of h ?_
  clear h
  repeat' first|kernel_rfl|(refine g_appT [4,1] (Nat.le_refl _) (Nat.le_refl _) (fun _ _ ht=>ht.mem.below.size) elem_str (by simp only [List.length_cons,List.length_nil];omega) (by decide) (by kernel_rfl) ?_)|exact g_done fun _ _ h=>⟨kclS - 1,by omega,iclS+1,by omega,by rw [←htk];exact h.keep [3,4,1]⟩|apply g_seq|apply g_reg|apply g_nil|apply o_all|apply o_go|exact OpsT.nil|exact GuardC.nil|exact UndefC.nil|apply g_box|apply g_all|apply g_stf|apply g_stw|apply g_sto|apply g_asg|apply g_st|apply g_skip|apply g_ct|apply g_cf|apply g_ret|refine r_1 rfl ?_|apply g_blk|apply g_eb|apply g_ex|apply e_t|apply e_h|refine e_o rfl ?_|apply r_t|apply r_b|apply g_cl|exact st_lenT|exact st_idxT (by assumption)|exact st_fldT|exact st_loadT|exact st_loadU|exact st_add' (by assumption)|exact vs_new [] w0.heap.size els_str rfl (by decide)|exact st_move'|exact st_assign'|exact st_load'|exact st_fieldAddr'|exact st_lss' (by first|assumption|rfl)|exact st_len'|exact st_indexAddr' (by assumption)|exact st_loadE'|exact Cv.rfl'|(intro _;simp only[newX,newL,ptrs,List.map,List.cons_append,List.nil_append])|intro _
 ·have hil:iclS=(d.2.2.2.2.2.2.2.2.2.2.1).length:=by omega
  have hcd:decide ((iclS:Int)<((d.2.2.2.2.2.2.2.2.2.2.1).length:Int))=false:=decide_eq_false (by omega)
  rw [show (d.2.2.2.2.2.2.2.2.2.2.1).take iclS=d.2.2.2.2.2.2.2.2.2.2.1 by rw [hil,List.take_length]] at h
  obtain ⟨b1,hb1⟩:∃ b,b=b0++(d.2.2.2.2.2.2.2.2.2.2.1).flatMap clS:=⟨_,rfl⟩
  rw [←hb1] at h
  have hlb1:b1.length≤332:=by
   rw [hb1,List.length_append]
   have:=fm_len (l:=d.2.2.2.2.2.2.2.2.2.2.1) (g:=clS) (c:=1) fun _ _=>Nat.le_refl _
   omega
  refine g_of h ?_
  clear h
  repeat' first|kernel_rfl|apply g_seq|apply g_reg|apply g_nil|apply o_all|apply o_go|exact OpsT.nil|exact GuardC.nil|exact UndefC.nil|apply g_box|apply g_all|apply g_stf|apply g_stw|apply g_sto|apply g_asg|apply g_st|apply g_skip|apply g_ct|apply g_cf|apply g_ret|refine r_1 rfl ?_|apply g_blk|apply g_eb|apply g_ex|apply e_t|apply e_h|refine e_o rfl ?_|apply r_t|apply r_b|apply g_cl|exact st_lenT|exact st_idxT (by assumption)|exact st_fldT|exact st_loadT|exact st_loadU|exact st_add' (by assumption)|exact vs_new [] w0.heap.size els_str rfl (by decide)|exact st_move'|exact st_assign'|exact st_load'|exact st_fieldAddr'|exact st_lss' (by first|assumption|rfl)|exact st_len'|exact st_indexAddr' (by assumption)|exact st_loadE'|exact Cv.rfl'|(intro _;simp only[newX,newL,ptrs,List.map,List.cons_append,List.nil_append])|intro _
  refine g_stop fun a w h=> ?_
  have e0:b1++((d.2.2.2.2.2.2.2.2.2.2.2.2).take 0).flatMap yrS=b1:=by simp
  refine cw_loop (fun kk a u=>∃ k0:Nat,k0+kk=(d.2.2.2.2.2.2.2.2.2.2.2.2).length∧TS w0 (r1::X) [(r1, .tr rpFiling [] w0.heap.size d)] [(3, .to Rp.str 9 [] w0.heap.size w0.heap.size (b1++((d.2.2.2.2.2.2.2.2.2.2.2.2).take k0).flatMap yrS)),(5, .is (.int .i64 (k0:Int))),(1, .is (.pointer (some ⟨r1,0,none⟩)))] 150 a u) (d.2.2.2.2.2.2.2.2.2.2.2.2).length ⟨0,by omega,by rw [e0];exact h.keep [3,5,1]⟩ ?_
  clear h e0
  rintro kk a u ⟨k0,hik0,h⟩
  by_cases hlt:k0<(d.2.2.2.2.2.2.2.2.2.2.2.2).length
  ·obtain ⟨y,hxy⟩:∃ x,(d.2.2.2.2.2.2.2.2.2.2.2.2)[k0]? =some x:=⟨_,List.getElem?_eq_getElem hlt⟩
   have hcd:decide ((k0:Int)<((d.2.2.2.2.2.2.2.2.2.2.2.2).length:Int))=true:=decide_eq_true (by omega)
   have hw:IntKind.i64.wrap ((k0:Int)+1)=((k0+1:Nat):Int):=i64_small (by omega) (by omega)
   have hx:=hxy
   have hy:=hc.yr y (List.mem_of_getElem? hx)
   obtain ⟨c0,hc0⟩:∃ b,b=b1++((d.2.2.2.2.2.2.2.2.2.2.2.2).take k0).flatMap yrS:=⟨_,rfl⟩
   rw [←hc0] at h
   have hlc0:c0.length≤332+45*400:=by
    rw [hc0,List.length_append]
    have h1:=fm_take (l:=d.2.2.2.2.2.2.2.2.2.2.2.2) (i:=k0) (g:=yrS) (c:=400) fun y hy=>yrS_len (hc.yr y hy)
    have h2:(d.2.2.2.2.2.2.2.2.2.2.2.2).length*400≤45*400:=Nat.mul_le_mul hc.ys (Nat.le_refl _)
    omega
   refine g_of h ?_
   clear h
   repeat' first|kernel_rfl|apply g_seq|apply g_reg|apply g_nil|apply o_all|apply o_go|exact OpsT.nil|exact GuardC.nil|exact UndefC.nil|apply g_box|apply g_all|apply g_stf|apply g_stw|apply g_sto|apply g_asg|apply g_st|apply g_skip|apply g_ct|apply g_cf|apply g_ret|refine r_1 rfl ?_|apply g_blk|apply g_eb|apply g_ex|apply e_t|apply e_h|refine e_o rfl ?_|apply r_t|apply r_b|apply g_cl|exact st_lenT|exact st_idxT (by assumption)|exact st_fldT|exact st_loadT|exact st_loadU|exact st_add' (by assumption)|exact vs_new [] w0.heap.size els_str rfl (by decide)|exact st_move'|exact st_assign'|exact st_load'|exact st_fieldAddr'|exact st_lss' (by first|assumption|rfl)|exact st_len'|exact st_indexAddr' (by assumption)|exact st_loadE'|exact Cv.rfl'|(intro _;simp only[newX,newL,ptrs,List.map,List.cons_append,List.nil_append])|intro _
   refine g_stop fun a w h=> ?_
   rename_i r7
   obtain ⟨hy1,hy2,hy3,hy4,hy5⟩:=hy
   have e0:c0++((y.2.1).take 0).flatMap hoS=c0:=by simp
   refine cw_loop (fun k1 a u=>∃ i1:Nat,i1+k1=(y.2.1).length∧TS w0 (r7::r1::X) [(r7, .tr rpYear [] w0.heap.size y),(r1, .tr rpFiling [] w0.heap.size d)] [(3, .to Rp.str 9 [] w0.heap.size w0.heap.size (c0++((y.2.1).take i1).flatMap hoS)),(7, .is (.int .i64 (i1:Int))),(5, .is (.int .i64 (k0:Int))),(6, .is (.pointer (some ⟨r7,0,none⟩))),(1, .is (.pointer (some ⟨r1,0,none⟩)))] 150 a u) (y.2.1).length ⟨0,by omega,by rw [e0];exact h.keep [3,7,5,6,1]⟩ ?_
   clear h e0
   rintro k1 a u ⟨i1,hii1,h⟩
   by_cases hlt:i1<(y.2.1).length
   ·obtain ⟨x,hx⟩:∃ x,(y.2.1)[i1]? =some x:=⟨_,List.getElem?_eq_getElem hlt⟩
    have hcd:decide ((i1:Int)<((y.2.1).length:Int))=true:=decide_eq_true (by omega)
    have hw:IntKind.i64.wrap ((i1:Int)+1)=((i1+1:Nat):Int):=i64_small (by omega) (by omega)
    have hlen:(c0++((y.2.1).take i1).flatMap hoS).length≤40000:=by
     have:=fm_take (l:=y.2.1) (i:=i1) (g:=hoS) (c:=2) fun _ _=>Nat.le_refl _
     rw [List.length_append]
     omega
    have htk:=fm_snoc (b:=c0) (g:=hoS) hx rfl
    refine g_of h ?_
    clear h
    repeat' first|kernel_rfl|(refine g_appT [7,5,6,1] (Nat.le_refl _) (Nat.le_refl _) (fun _ _ ht=>ht.mem.below.size) elem_str (by simp only [List.length_cons,List.length_nil];omega) (by decide) (by kernel_rfl) ?_)|exact g_done fun _ _ h=>⟨k1 - 1,by omega,i1+1,by omega,by rw [←htk];exact h.keep [3,7,5,6,1]⟩|apply g_seq|apply g_reg|apply g_nil|apply g_draw (id:=14) [] [] 14|apply o_all|apply o_go|exact OpsT.nil|exact GuardC.nil|exact UndefC.nil|apply g_box|apply g_all|apply g_stf|apply g_stw|apply g_sto|apply g_asg|apply g_st|apply g_skip|apply g_ct|apply g_cf|apply g_ret|refine r_1 rfl ?_|apply g_blk|apply g_eb|apply g_ex|apply e_t|apply e_h|refine e_o rfl ?_|apply r_t|apply r_b|apply g_cl|exact st_lenT|exact st_idxT (by assumption)|exact st_fldT|exact st_loadT|exact st_loadU|exact st_add' (by assumption)|exact vs_new [] w0.heap.size els_str rfl (by decide)|exact st_move'|exact st_assign'|exact st_load'|exact st_fieldAddr'|exact st_lss' (by first|assumption|rfl)|exact st_len'|exact st_indexAddr' (by assumption)|exact st_loadE'|exact Cv.rfl'|(intro _;simp only[newX,newL,ptrs,List.map,List.cons_append,List.nil_append])|intro _
   ·have hil:i1=(y.2.1).length:=by omega
    have hcd:decide ((i1:Int)<((y.2.1).length:Int))=false:=decide_eq_false (by omega)
    rw [show (y.2.1).take i1=y.2.1 by rw [hil,List.take_length]] at h
    obtain ⟨c1,hc1⟩:∃ b,b=c0++(y.2.1).flatMap hoS:=⟨_,rfl⟩
    rw [←hc1] at h
    have hlc1:c1.length≤18412:=by
     rw [hc1,List.length_append]
     have:=fm_len (l:=y.2.1) (g:=hoS) (c:=2) fun _ _=>Nat.le_refl _
     omega
    refine g_of h ?_
    clear h
    repeat' first|kernel_rfl|apply g_seq|apply g_reg|apply g_nil|apply o_all|apply o_go|exact OpsT.nil|exact GuardC.nil|exact UndefC.nil|apply g_box|apply g_all|apply g_stf|apply g_stw|apply g_sto|apply g_asg|apply g_st|apply g_skip|apply g_ct|apply g_cf|apply g_ret|refine r_1 rfl ?_|apply g_blk|apply g_eb|apply g_ex|apply e_t|apply e_h|refine e_o rfl ?_|apply r_t|apply r_b|apply g_cl|exact st_lenT|exact st_idxT (by assumption)|exact st_fldT|exact st_loadT|exact st_loadU|exact st_add' (by assumption)|exact vs_new [] w0.heap.size els_str rfl (by decide)|exact st_move'|exact st_assign'|exact st_load'|exact st_fieldAddr'|exact st_lss' (by first|assumption|rfl)|exact st_len'|exact st_indexAddr' (by assumption)|exact st_loadE'|exact Cv.rfl'|(intro _;simp only[newX,newL,ptrs,List.map,List.cons_append,List.nil_append])|intro _
    refine g_stop fun a w h=> ?_
    have e0:c1++((y.2.2.1).take 0).flatMap boS=c1:=by simp
    refine cw_loop (fun k2 a u=>∃ i2:Nat,i2+k2=(y.2.2.1).length∧TS w0 (r7::r1::X) [(r7, .tr rpYear [] w0.heap.size y),(r1, .tr rpFiling [] w0.heap.size d)] [(3, .to Rp.str 9 [] w0.heap.size w0.heap.size (c1++((y.2.2.1).take i2).flatMap boS)),(8, .is (.int .i64 (i2:Int))),(5, .is (.int .i64 (k0:Int))),(6, .is (.pointer (some ⟨r7,0,none⟩))),(1, .is (.pointer (some ⟨r1,0,none⟩)))] 150 a u) (y.2.2.1).length ⟨0,by omega,by rw [e0];exact h.keep [3,8,5,6,1]⟩ ?_
    clear h e0
    rintro k2 a u ⟨i2,hii2,h⟩
    by_cases hlt:i2<(y.2.2.1).length
    ·obtain ⟨x,hx⟩:∃ x,(y.2.2.1)[i2]? =some x:=⟨_,List.getElem?_eq_getElem hlt⟩
     have hcd:decide ((i2:Int)<((y.2.2.1).length:Int))=true:=decide_eq_true (by omega)
     have hw:IntKind.i64.wrap ((i2:Int)+1)=((i2+1:Nat):Int):=i64_small (by omega) (by omega)
     have hlen:(c1++((y.2.2.1).take i2).flatMap boS).length≤40000:=by
      have:=fm_take (l:=y.2.2.1) (i:=i2) (g:=boS) (c:=2) fun _ _=>Nat.le_refl _
      rw [List.length_append]
      omega
     have htk:=fm_snoc (b:=c1) (g:=boS) hx rfl
     refine g_of h ?_
     clear h
     repeat' first|kernel_rfl|(refine g_appT [8,5,6,1] (Nat.le_refl _) (Nat.le_refl _) (fun _ _ ht=>ht.mem.below.size) elem_str (by simp only [List.length_cons,List.length_nil];omega) (by decide) (by kernel_rfl) ?_)|exact g_done fun _ _ h=>⟨k2 - 1,by omega,i2+1,by omega,by rw [←htk];exact h.keep [3,8,5,6,1]⟩|apply g_seq|apply g_reg|apply g_nil|apply g_draw (id:=18) [] [] 14|apply o_all|apply o_go|exact OpsT.nil|exact GuardC.nil|exact UndefC.nil|apply g_box|apply g_all|apply g_stf|apply g_stw|apply g_sto|apply g_asg|apply g_st|apply g_skip|apply g_ct|apply g_cf|apply g_ret|refine r_1 rfl ?_|apply g_blk|apply g_eb|apply g_ex|apply e_t|apply e_h|refine e_o rfl ?_|apply r_t|apply r_b|apply g_cl|exact st_lenT|exact st_idxT (by assumption)|exact st_fldT|exact st_loadT|exact st_loadU|exact st_add' (by assumption)|exact vs_new [] w0.heap.size els_str rfl (by decide)|exact st_move'|exact st_assign'|exact st_load'|exact st_fieldAddr'|exact st_lss' (by first|assumption|rfl)|exact st_len'|exact st_indexAddr' (by assumption)|exact st_loadE'|exact Cv.rfl'|(intro _;simp only[newX,newL,ptrs,List.map,List.cons_append,List.nil_append])|intro _
    ·have hil:i2=(y.2.2.1).length:=by omega
     have hcd:decide ((i2:Int)<((y.2.2.1).length:Int))=false:=decide_eq_false (by omega)
     rw [show (y.2.2.1).take i2=y.2.2.1 by rw [hil,List.take_length]] at h
     obtain ⟨c2,hc2⟩:∃ b,b=c1++(y.2.2.1).flatMap boS:=⟨_,rfl⟩
     rw [←hc2] at h
     have hlc2:c2.length≤18492:=by
      rw [hc2,List.length_append]
      have:=fm_len (l:=y.2.2.1) (g:=boS) (c:=2) fun _ _=>Nat.le_refl _
      omega
     refine g_of h ?_
     clear h
     repeat' first|kernel_rfl|apply g_seq|apply g_reg|apply g_nil|apply o_all|apply o_go|exact OpsT.nil|exact GuardC.nil|exact UndefC.nil|apply g_box|apply g_all|apply g_stf|apply g_stw|apply g_sto|apply g_asg|apply g_st|apply g_skip|apply g_ct|apply g_cf|apply g_ret|refine r_1 rfl ?_|apply g_blk|apply g_eb|apply g_ex|apply e_t|apply e_h|refine e_o rfl ?_|apply r_t|apply r_b|apply g_cl|exact st_lenT|exact st_idxT (by assumption)|exact st_fldT|exact st_loadT|exact st_loadU|exact st_add' (by assumption)|exact vs_new [] w0.heap.size els_str rfl (by decide)|exact st_move'|exact st_assign'|exact st_load'|exact st_fieldAddr'|exact st_lss' (by first|assumption|rfl)|exact st_len'|exact st_indexAddr' (by assumption)|exact st_loadE'|exact Cv.rfl'|(intro _;simp only[newX,newL,ptrs,List.map,List.cons_append,List.nil_append])|intro _
     refine g_stop fun a w h=> ?_
     have e0:c2++((y.2.2.2.1).take 0).flatMap deS=c2:=by simp
     refine cw_loop (fun k3 a u=>∃ i3:Nat,i3+k3=(y.2.2.2.1).length∧TS w0 (r7::r1::X) [(r7, .tr rpYear [] w0.heap.size y),(r1, .tr rpFiling [] w0.heap.size d)] [(3, .to Rp.str 9 [] w0.heap.size w0.heap.size (c2++((y.2.2.2.1).take i3).flatMap deS)),(9, .is (.int .i64 (i3:Int))),(5, .is (.int .i64 (k0:Int))),(6, .is (.pointer (some ⟨r7,0,none⟩))),(1, .is (.pointer (some ⟨r1,0,none⟩)))] 150 a u) (y.2.2.2.1).length ⟨0,by omega,by rw [e0];exact h.keep [3,9,5,6,1]⟩ ?_
     clear h e0
     rintro k3 a u ⟨i3,hii3,h⟩
     by_cases hlt:i3<(y.2.2.2.1).length
     ·obtain ⟨x,hx⟩:∃ x,(y.2.2.2.1)[i3]? =some x:=⟨_,List.getElem?_eq_getElem hlt⟩
      have hcd:decide ((i3:Int)<((y.2.2.2.1).length:Int))=true:=decide_eq_true (by omega)
      have hw:IntKind.i64.wrap ((i3:Int)+1)=((i3+1:Nat):Int):=i64_small (by omega) (by omega)
      have hlen:(c2++((y.2.2.2.1).take i3).flatMap deS).length≤40000:=by
       have:=fm_take (l:=y.2.2.2.1) (i:=i3) (g:=deS) (c:=4) fun _ _=>Nat.le_refl _
       rw [List.length_append]
       omega
      have htk:=fm_snoc (b:=c2) (g:=deS) hx rfl
      refine g_of h ?_
      clear h
      repeat' first|kernel_rfl|(refine g_appT [9,5,6,1] (Nat.le_refl _) (Nat.le_refl _) (fun _ _ ht=>ht.mem.below.size) elem_str (by simp only [List.length_cons,List.length_nil];omega) (by decide) (by kernel_rfl) ?_)|exact g_done fun _ _ h=>⟨k3 - 1,by omega,i3+1,by omega,by rw [←htk];exact h.drop.keep [3,9,5,6,1]⟩|apply g_seq|apply g_reg|apply g_nil|apply o_all|apply o_go|exact OpsT.nil|exact GuardC.nil|exact UndefC.nil|apply g_box|apply g_all|apply g_stf|apply g_stw|apply g_sto|apply g_asg|apply g_st|apply g_skip|apply g_ct|apply g_cf|apply g_ret|refine r_1 rfl ?_|apply g_blk|apply g_eb|apply g_ex|apply e_t|apply e_h|refine e_o rfl ?_|apply r_t|apply r_b|apply g_cl|exact st_lenT|exact st_idxT (by assumption)|exact st_fldT|exact st_loadT|exact st_loadU|exact st_add' (by assumption)|exact vs_new [] w0.heap.size els_str rfl (by decide)|exact st_move'|exact st_assign'|exact st_load'|exact st_fieldAddr'|exact st_lss' (by first|assumption|rfl)|exact st_len'|exact st_indexAddr' (by assumption)|exact st_loadE'|exact Cv.rfl'|(intro _;simp only[newX,newL,ptrs,List.map,List.cons_append,List.nil_append])|intro _
     ·have hil:i3=(y.2.2.2.1).length:=by omega
      have hcd:decide ((i3:Int)<((y.2.2.2.1).length:Int))=false:=decide_eq_false (by omega)
      rw [show (y.2.2.2.1).take i3=y.2.2.2.1 by rw [hil,List.take_length]] at h
      obtain ⟨c3,hc3⟩:∃ b,b=c2++(y.2.2.2.1).flatMap deS:=⟨_,rfl⟩
      rw [←hc3] at h
      have hlc3:c3.length≤18652:=by
       rw [hc3,List.length_append]
       have:=fm_len (l:=y.2.2.2.1) (g:=deS) (c:=4) fun _ _=>Nat.le_refl _
       omega
      refine g_of h ?_
      clear h
      repeat' first|kernel_rfl|apply g_seq|apply g_reg|apply g_nil|apply o_all|apply o_go|exact OpsT.nil|exact GuardC.nil|exact UndefC.nil|apply g_box|apply g_all|apply g_stf|apply g_stw|apply g_sto|apply g_asg|apply g_st|apply g_skip|apply g_ct|apply g_cf|apply g_ret|refine r_1 rfl ?_|apply g_blk|apply g_eb|apply g_ex|apply e_t|apply e_h|refine e_o rfl ?_|apply r_t|apply r_b|apply g_cl|exact st_lenT|exact st_idxT (by assumption)|exact st_fldT|exact st_loadT|exact st_loadU|exact st_add' (by assumption)|exact vs_new [] w0.heap.size els_str rfl (by decide)|exact st_move'|exact st_assign'|exact st_load'|exact st_fieldAddr'|exact st_lss' (by first|assumption|rfl)|exact st_len'|exact st_indexAddr' (by assumption)|exact st_loadE'|exact Cv.rfl'|(intro _;simp only[newX,newL,ptrs,List.map,List.cons_append,List.nil_append])|intro _
      refine g_stop fun a w h=> ?_
      have e0:c3++((y.2.2.2.2.1).take 0).flatMap stS=c3:=by simp
      refine cw_loop (fun k4 a u=>∃ i4:Nat,i4+k4=(y.2.2.2.2.1).length∧TS w0 (r7::r1::X) [(r7, .tr rpYear [] w0.heap.size y),(r1, .tr rpFiling [] w0.heap.size d)] [(3, .to Rp.str 9 [] w0.heap.size w0.heap.size (c3++((y.2.2.2.2.1).take i4).flatMap stS)),(11, .is (.int .i64 (i4:Int))),(5, .is (.int .i64 (k0:Int))),(6, .is (.pointer (some ⟨r7,0,none⟩))),(1, .is (.pointer (some ⟨r1,0,none⟩)))] 150 a u) (y.2.2.2.2.1).length ⟨0,by omega,by rw [e0];exact h.keep [3,11,5,6,1]⟩ ?_
      clear h e0
      rintro k4 a u ⟨i4,hii4,h⟩
      by_cases hlt:i4<(y.2.2.2.2.1).length
      ·obtain ⟨x,hx⟩:∃ x,(y.2.2.2.2.1)[i4]? =some x:=⟨_,List.getElem?_eq_getElem hlt⟩
       have hcd:decide ((i4:Int)<((y.2.2.2.2.1).length:Int))=true:=decide_eq_true (by omega)
       have hw:IntKind.i64.wrap ((i4:Int)+1)=((i4+1:Nat):Int):=i64_small (by omega) (by omega)
       have hlen:(c3++((y.2.2.2.2.1).take i4).flatMap stS).length≤40000:=by
        have:=fm_take (l:=y.2.2.2.2.1) (i:=i4) (g:=stS) (c:=1) fun _ _=>Nat.le_refl _
        rw [List.length_append]
        omega
       have htk:=fm_snoc (b:=c3) (g:=stS) hx rfl
       refine g_of h ?_
       clear h
       repeat' first|kernel_rfl|(refine g_appT [11,5,6,1] (Nat.le_refl _) (Nat.le_refl _) (fun _ _ ht=>ht.mem.below.size) elem_str (by simp only [List.length_cons,List.length_nil];omega) (by decide) (by kernel_rfl) ?_)|exact g_done fun _ _ h=>⟨k4 - 1,by omega,i4+1,by omega,by rw [←htk];exact h.keep [3,11,5,6,1]⟩|apply g_seq|apply g_reg|apply g_nil|apply o_all|apply o_go|exact OpsT.nil|exact GuardC.nil|exact UndefC.nil|apply g_box|apply g_all|apply g_stf|apply g_stw|apply g_sto|apply g_asg|apply g_st|apply g_skip|apply g_ct|apply g_cf|apply g_ret|refine r_1 rfl ?_|apply g_blk|apply g_eb|apply g_ex|apply e_t|apply e_h|refine e_o rfl ?_|apply r_t|apply r_b|apply g_cl|exact st_lenT|exact st_idxT (by assumption)|exact st_fldT|exact st_loadT|exact st_loadU|exact st_add' (by assumption)|exact vs_new [] w0.heap.size els_str rfl (by decide)|exact st_move'|exact st_assign'|exact st_load'|exact st_fieldAddr'|exact st_lss' (by first|assumption|rfl)|exact st_len'|exact st_indexAddr' (by assumption)|exact st_loadE'|exact Cv.rfl'|(intro _;simp only[newX,newL,ptrs,List.map,List.cons_append,List.nil_append])|intro _
      ·have hil:i4=(y.2.2.2.2.1).length:=by omega
       have hcd:decide ((i4:Int)<((y.2.2.2.2.1).length:Int))=false:=decide_eq_false (by omega)
       rw [show (y.2.2.2.2.1).take i4=y.2.2.2.2.1 by rw [hil,List.take_length]] at h
       obtain ⟨c4,hc4⟩:∃ b,b=c3++(y.2.2.2.2.1).flatMap stS:=⟨_,rfl⟩
       rw [←hc4] at h
       have hlc4:c4.length≤18692:=by
        rw [hc4,List.length_append]
        have:=fm_len (l:=y.2.2.2.2.1) (g:=stS) (c:=1) fun _ _=>Nat.le_refl _
        omega
       refine g_of h ?_
       clear h
       repeat' first|kernel_rfl|apply g_seq|apply g_reg|apply g_nil|apply o_all|apply o_go|exact OpsT.nil|exact GuardC.nil|exact UndefC.nil|apply g_box|apply g_all|apply g_stf|apply g_stw|apply g_sto|apply g_asg|apply g_st|apply g_skip|apply g_ct|apply g_cf|apply g_ret|refine r_1 rfl ?_|apply g_blk|apply g_eb|apply g_ex|apply e_t|apply e_h|refine e_o rfl ?_|apply r_t|apply r_b|apply g_cl|exact st_lenT|exact st_idxT (by assumption)|exact st_fldT|exact st_loadT|exact st_loadU|exact st_add' (by assumption)|exact vs_new [] w0.heap.size els_str rfl (by decide)|exact st_move'|exact st_assign'|exact st_load'|exact st_fieldAddr'|exact st_lss' (by first|assumption|rfl)|exact st_len'|exact st_indexAddr' (by assumption)|exact st_loadE'|exact Cv.rfl'|(intro _;simp only[newX,newL,ptrs,List.map,List.cons_append,List.nil_append])|intro _
       refine g_stop fun a w h=> ?_
       have e0:c4++((y.2.2.2.2.2).take 0).flatMap soS=c4:=by simp
       refine cw_loop (fun k5 a u=>∃ i5:Nat,i5+k5=(y.2.2.2.2.2).length∧TS w0 (r7::r1::X) [(r7, .tr rpYear [] w0.heap.size y),(r1, .tr rpFiling [] w0.heap.size d)] [(3, .to Rp.str 9 [] w0.heap.size w0.heap.size (c4++((y.2.2.2.2.2).take i5).flatMap soS)),(12, .is (.int .i64 (i5:Int))),(5, .is (.int .i64 (k0:Int))),(6, .is (.pointer (some ⟨r7,0,none⟩))),(1, .is (.pointer (some ⟨r1,0,none⟩)))] 150 a u) (y.2.2.2.2.2).length ⟨0,by omega,by rw [e0];exact h.keep [3,12,5,6,1]⟩ ?_
       clear h e0
       rintro k5 a u ⟨i5,hii5,h⟩
       by_cases hlt:i5<(y.2.2.2.2.2).length
       ·obtain ⟨x,hx⟩:∃ x,(y.2.2.2.2.2)[i5]? =some x:=⟨_,List.getElem?_eq_getElem hlt⟩
        have hcd:decide ((i5:Int)<((y.2.2.2.2.2).length:Int))=true:=decide_eq_true (by omega)
        have hw:IntKind.i64.wrap ((i5:Int)+1)=((i5+1:Nat):Int):=i64_small (by omega) (by omega)
        have hlen:(c4++((y.2.2.2.2.2).take i5).flatMap soS).length≤40000:=by
         have:=fm_take (l:=y.2.2.2.2.2) (i:=i5) (g:=soS) (c:=1) fun _ _=>Nat.le_refl _
         rw [List.length_append]
         omega
        have htk:=fm_snoc (b:=c4) (g:=soS) hx rfl
        refine g_of h ?_
        clear h
        repeat' first|kernel_rfl|(refine g_appT [12,5,6,1] (Nat.le_refl _) (Nat.le_refl _) (fun _ _ ht=>ht.mem.below.size) elem_str (by simp only [List.length_cons,List.length_nil];omega) (by decide) (by kernel_rfl) ?_)|exact g_done fun _ _ h=>⟨k5 - 1,by omega,i5+1,by omega,by rw [←htk];exact h.keep [3,12,5,6,1]⟩|apply g_seq|apply g_reg|apply g_nil|apply o_all|apply o_go|exact OpsT.nil|exact GuardC.nil|exact UndefC.nil|apply g_box|apply g_all|apply g_stf|apply g_stw|apply g_sto|apply g_asg|apply g_st|apply g_skip|apply g_ct|apply g_cf|apply g_ret|refine r_1 rfl ?_|apply g_blk|apply g_eb|apply g_ex|apply e_t|apply e_h|refine e_o rfl ?_|apply r_t|apply r_b|apply g_cl|exact st_lenT|exact st_idxT (by assumption)|exact st_fldT|exact st_loadT|exact st_loadU|exact st_add' (by assumption)|exact vs_new [] w0.heap.size els_str rfl (by decide)|exact st_move'|exact st_assign'|exact st_load'|exact st_fieldAddr'|exact st_lss' (by first|assumption|rfl)|exact st_len'|exact st_indexAddr' (by assumption)|exact st_loadE'|exact Cv.rfl'|(intro _;simp only[newX,newL,ptrs,List.map,List.cons_append,List.nil_append])|intro _
       ·have hil:i5=(y.2.2.2.2.2).length:=by omega
        have hcd:decide ((i5:Int)<((y.2.2.2.2.2).length:Int))=false:=decide_eq_false (by omega)
        rw [show (y.2.2.2.2.2).take i5=y.2.2.2.2.2 by rw [hil,List.take_length]] at h
        obtain ⟨c5,hc5⟩:∃ b,b=c4++(y.2.2.2.2.2).flatMap soS:=⟨_,rfl⟩
        rw [←hc5] at h
        have hlc5:c5.length≤18732:=by
         rw [hc5,List.length_append]
         have:=fm_len (l:=y.2.2.2.2.2) (g:=soS) (c:=1) fun _ _=>Nat.le_refl _
         omega
        have htk:c5=b1++((d.2.2.2.2.2.2.2.2.2.2.2.2).take (k0+1)).flatMap yrS:=by
         rw [←fm_snoc hxy rfl,←hc0,hc5,hc4,hc3,hc2,hc1]
         unfold yrS
         simp only [List.append_assoc]
        rw [htk] at h
        refine g_of h ?_
        clear h
        repeat' first|kernel_rfl|exact g_done fun _ _ h=>⟨kk - 1,by omega,k0+1,by omega,h.drop.keep [3,5,1]⟩|apply g_seq|apply g_reg|apply g_nil|apply o_all|apply o_go|exact OpsT.nil|exact GuardC.nil|exact UndefC.nil|apply g_box|apply g_all|apply g_stf|apply g_stw|apply g_sto|apply g_asg|apply g_st|apply g_skip|apply g_ct|apply g_cf|apply g_ret|refine r_1 rfl ?_|apply g_blk|apply g_eb|apply g_ex|apply e_t|apply e_h|refine e_o rfl ?_|apply r_t|apply r_b|apply g_cl|exact st_lenT|exact st_idxT (by assumption)|exact st_fldT|exact st_loadT|exact st_loadU|exact st_add' (by assumption)|exact vs_new [] w0.heap.size els_str rfl (by decide)|exact st_move'|exact st_assign'|exact st_load'|exact st_fieldAddr'|exact st_lss' (by first|assumption|rfl)|exact st_len'|exact st_indexAddr' (by assumption)|exact st_loadE'|exact Cv.rfl'|(intro _;simp only[newX,newL,ptrs,List.map,List.cons_append,List.nil_append])|intro _
  ·have hil:k0=(d.2.2.2.2.2.2.2.2.2.2.2.2).length:=by omega
   have hcd:decide ((k0:Int)<((d.2.2.2.2.2.2.2.2.2.2.2.2).length:Int))=false:=decide_eq_false (by omega)
   rw [show (d.2.2.2.2.2.2.2.2.2.2.2.2).take k0=d.2.2.2.2.2.2.2.2.2.2.2.2 by rw [hil,List.take_length]] at h
   have efin:b1++(d.2.2.2.2.2.2.2.2.2.2.2.2).flatMap yrS=textsL d:=by
    rw [hb1,hb0]
    rfl
   rw [efin] at h
   refine g_of h ?_
   clear h
   repeat' first|kernel_rfl|apply g_seq|apply g_reg|apply g_nil|apply o_all|apply o_go|exact OpsT.nil|exact GuardC.nil|exact UndefC.nil|apply g_box|apply g_all|apply g_stf|apply g_stw|apply g_sto|apply g_asg|apply g_st|apply g_skip|apply g_ct|apply g_cf|apply g_ret|refine r_1 rfl ?_|apply g_blk|apply g_eb|apply g_ex|apply e_t|apply e_h|refine e_o rfl ?_|apply r_t|apply r_b|apply g_cl|exact st_lenT|exact st_idxT (by assumption)|exact st_fldT|exact st_loadT|exact st_loadU|exact st_add' (by assumption)|exact vs_new [] w0.heap.size els_str rfl (by decide)|exact st_move'|exact st_assign'|exact st_load'|exact st_fieldAddr'|exact st_lss' (by first|assumption|rfl)|exact st_len'|exact st_indexAddr' (by assumption)|exact st_loadE'|exact ⟨fun _ _=>fun _ h=>to_rw h⟩|exact Cv.rfl'|(intro _;simp only[newX,newL,ptrs,List.map,List.cons_append,List.nil_append])|intro _
instance:K1 Rp.limbs:=⟨rfl⟩
def fewR8 (x:RawQ):Bool:= !decide ((6:Int)<(x.1.2.length:Int))&& !decide ((6:Int)<(x.2.2.length:Int))
def shtB (t:List UInt8):Bool:= !decide ((70:Int)<(t.length:Int))
theorem all_stop {α:Type} {p:α→Bool} {l:List α} {i:Nat} {x:α} (h:l[i]? =some x) (hp:p x=false):l.all p=false:=by
 rw [Bool.eq_false_iff]
 intro ha
 rw [List.all_eq_true.1 ha x (List.mem_of_getElem? h)] at hp
 cases hp
theorem all_step {α:Type} {p:α→Bool} {l:List α} {i:Nat} {x:α} (h:l[i]? =some x) (hp:p x=true) (ha:(l.take i).all p=true):(l.take (i+1)).all p=true:=by
 rw [tk_snoc h,List.all_append,ha]
 simp [hp]
def cntB (d:TyFiling):Bool:= !decide ((20:Int)<(d.2.2.1.length:Int))&&(!decide ((70:Int)<(d.2.2.2.2.2.2.2.2.2.2.1.length:Int))&&(!decide ((260:Int)<(d.2.2.2.2.2.2.2.2.2.2.2.1.length:Int))&& !decide ((45:Int)<(d.2.2.2.2.2.2.2.2.2.2.2.2.length:Int))))
def ycB (y:TyYear):Bool:= !decide ((40:Int)<(y.2.1.length:Int))&&(!decide ((40:Int)<(y.2.2.1.length:Int))&&(!decide ((40:Int)<(y.2.2.2.1.length:Int))&&(!decide ((40:Int)<(y.2.2.2.2.1.length:Int))&& !decide ((40:Int)<(y.2.2.2.2.2.length:Int)))))
def fewA (d:TyFiling):Bool:=cntB d&&(d.2.2.2.2.2.2.2.2.2.2.2.2.all ycB&&((ratsL d).all fewR8&&(textsL d).all shtB))
theorem cntF_of {d:TyFiling} (h1:cntB d=true) (h2:d.2.2.2.2.2.2.2.2.2.2.2.2.all ycB=true):CntF d:=by
 unfold cntB at h1
 simp only [Bool.and_eq_true,Bool.not_eq_true',decide_eq_false_iff_not] at h1
 obtain ⟨a1,a2,a3,a4⟩:=h1
 refine ⟨by omega,by omega,by omega,by omega,fun y hy=> ?_⟩
 have:=List.all_eq_true.1 h2 y hy
 unfold ycB at this
 simp only [Bool.and_eq_true,Bool.not_eq_true',decide_eq_false_iff_not] at this
 obtain ⟨b1,b2,b3,b4,b5⟩:=this
 exact ⟨by omega,by omega,by omega,by omega,by omega⟩
theorem fewQ_of {x:RawQ} (h:fewR8 x=true):fewQ 6 x:=by
 unfold fewR8 at h
 simp only [Bool.and_eq_true,Bool.not_eq_true',decide_eq_false_iff_not] at h
 exact ⟨by omega,by omega,by decide⟩
theorem FewF_of {d:TyFiling} (h:(ratsL d).all fewR8=true):FewF d:=by
 have h:=fun x hx=>fewQ_of (List.all_eq_true.1 h x hx)
 unfold ratsL at h
 simp only [List.mem_append,List.mem_flatMap] at h
 refine ⟨h _ (.inl (.inl (.inl (by simp)))),h _ (.inl (.inl (.inl (by simp)))),h _ (.inl (.inl (.inl (by simp)))),h _ (.inl (.inl (.inl (by simp)))),fun b hb=>⟨h _ (.inl (.inl (.inr ⟨b,hb,by simp [brR]⟩))),h _ (.inl (.inl (.inr ⟨b,hb,by simp [brR]⟩)))⟩,fun c hc=>h _ (.inl (.inr ⟨c,hc,by simp [clR]⟩)),fun y hy=> ?_⟩
 have hy':=fun x hx=>h x (.inr ⟨y,hy,hx⟩)
 unfold yrR at hy'
 simp only [List.mem_append,List.mem_flatMap] at hy'
 exact ⟨fun x hx=>hy' _ (.inl (.inl (.inl (.inl ⟨x,hx,by simp [hoR]⟩)))),fun x hx=>hy' _ (.inl (.inl (.inl (.inr ⟨x,hx,by simp [boR]⟩)))),fun x hx=>hy' _ (.inl (.inl (.inr ⟨x,hx,by simp [deR]⟩))),fun x hx=>⟨hy' _ (.inl (.inr ⟨x,hx,by simp [stR]⟩)),hy' _ (.inl (.inr ⟨x,hx,by simp [stR]⟩))⟩,fun x hx=>hy' _ (.inr ⟨x,hx,by simp [soR]⟩)⟩
theorem fewA_of {d:TyFiling} (h:fewA d=true):CntF d∧FewF d:=by
 unfold fewA at h
 simp only [Bool.and_eq_true] at h
 exact ⟨cntF_of h.1 h.2.1,FewF_of h.2.2.1⟩
theorem c_few {l:List (RawQ)}:Ctr Tryz.prog S1 48 [0] [.rw Rp.frac tt l] (fun _=> .is (.bool (l.all fewR8))):=by
 refine ctrF rw_maxA (fun _ _=>by kernel_rfl) fun hb=> ?_
 refine ctr Tryz.func48 rfl Tryz.ntmps48 (by simp) (fun _ _=>by kernel_rfl) fun X w0 hE=> ?_
 simp only [argE,Nat.zero_add,Nat.reduceAdd]
 repeat' first|kernel_rfl|apply g_seq|apply g_reg|apply g_nil|apply g_box|apply g_all|apply g_stf|apply g_stw|apply g_sto|apply g_asg|refine g_run rfl inferInstance (by first|exact st_idxR (by assumption)|exact st_loadR|exact st_loadS|exact st_len'|exact st_fldE (r:=Rp.frac) (hn:=FaC.fst)|exact st_fldE (r:=Rp.frac) (hn:=FaC.tail (n:=2) (k:=2) ⟨rfl⟩ FaC.self rfl)|exact st_fldE (r:=Rp.num) (hn:=FaC.tail (n:=1) (k:=1) ⟨rfl⟩ FaC.self rfl)|exact st_lenL|exact st_slen|exact st_move'|exact st_load'|exact st_fieldAddr'|exact st_gtr' (by first|assumption|rfl)|exact st_len'|exact st_indexAddr' (by assumption)|exact st_loadE') (by kernel_rfl) ?_|refine g_sk rfl inferInstance rfl (by kernel_rfl) ?_|refine g_un rfl inferInstance (by kernel_rfl) ?_|apply g_st|apply g_skip|apply g_ct|apply g_cf|apply g_ret|refine r_1 rfl ?_|apply g_blk|apply g_eb|apply g_ex|apply e_t|apply e_h|refine e_o rfl ?_|apply r_t|apply r_b|apply g_cl|exact st_idxR (by assumption)|exact st_loadR|exact st_loadS|exact st_len'|exact st_add' (by assumption)|exact st_fldE (r:=Rp.frac) (hn:=FaC.fst)|exact st_fldE (r:=Rp.frac) (hn:=FaC.tail (n:=2) (k:=2) ⟨rfl⟩ FaC.self rfl)|exact st_fldE (r:=Rp.num) (hn:=FaC.tail (n:=1) (k:=1) ⟨rfl⟩ FaC.self rfl)|exact st_lenL|exact st_slen|exact st_move'|exact st_assign'|exact st_load'|exact st_fieldAddr'|exact st_or_f'|exact st_or_t'|exact st_lss' (by first|assumption|rfl)|exact st_gtr' (by first|assumption|rfl)|exact st_len'|exact st_indexAddr' (by assumption)|exact st_loadE'|exact Cv.rfl'|intro _
 refine g_stop fun a w h=> ?_
 refine cw_loop (fun k a u=>∃ i:Nat,i+k=l.length∧(l.take i).all fewR8=true∧TS w0 X [] [(3, .is (.int .i64 (i:Int))),(0, .rw Rp.frac tt l)] 28 a u) l.length ⟨0,by omega,rfl,h.keep [3,0]⟩ ?_
 clear h
 rintro k a u ⟨i,hi,ha,h⟩
 by_cases hlt:i<l.length
 ·obtain ⟨x,hx⟩:∃ x,l[i]? =some x:=⟨_,List.getElem?_eq_getElem hlt⟩
  have hc:decide ((i:Int)<(l.length:Int))=true:=decide_eq_true (by omega)
  have hw:IntKind.i64.wrap ((i:Int)+1)=((i+1:Nat):Int):=i64_small (by omega) (by omega)
  cases g0:decide ((6:Int)<(x.1.2.length:Int))
  rotate_left
  ·rw [all_stop hx (show fewR8 x=false by unfold fewR8;rw [g0];rfl)]
   refine g_of h ?_
   clear h
   repeat' first|kernel_rfl|apply g_seq|apply g_reg|apply g_nil|apply g_box|apply g_all|apply g_stf|apply g_stw|apply g_sto|apply g_asg|refine g_run rfl inferInstance (by first|exact st_idxR (by assumption)|exact st_loadR|exact st_loadS|exact st_len'|exact st_fldE (r:=Rp.frac) (hn:=FaC.fst)|exact st_fldE (r:=Rp.frac) (hn:=FaC.tail (n:=2) (k:=2) ⟨rfl⟩ FaC.self rfl)|exact st_fldE (r:=Rp.num) (hn:=FaC.tail (n:=1) (k:=1) ⟨rfl⟩ FaC.self rfl)|exact st_lenL|exact st_slen|exact st_move'|exact st_load'|exact st_fieldAddr'|exact st_gtr' (by first|assumption|rfl)|exact st_len'|exact st_indexAddr' (by assumption)|exact st_loadE') (by kernel_rfl) ?_|refine g_sk rfl inferInstance rfl (by kernel_rfl) ?_|refine g_un rfl inferInstance (by kernel_rfl) ?_|apply g_st|apply g_skip|apply g_ct|apply g_cf|apply g_ret|refine r_1 rfl ?_|apply g_blk|apply g_eb|apply g_ex|apply e_t|apply e_h|refine e_o rfl ?_|apply r_t|apply r_b|apply g_cl|exact st_idxR (by assumption)|exact st_loadR|exact st_loadS|exact st_len'|exact st_add' (by assumption)|exact st_fldE (r:=Rp.frac) (hn:=FaC.fst)|exact st_fldE (r:=Rp.frac) (hn:=FaC.tail (n:=2) (k:=2) ⟨rfl⟩ FaC.self rfl)|exact st_fldE (r:=Rp.num) (hn:=FaC.tail (n:=1) (k:=1) ⟨rfl⟩ FaC.self rfl)|exact st_lenL|exact st_slen|exact st_move'|exact st_assign'|exact st_load'|exact st_fieldAddr'|exact st_or_f'|exact st_or_t'|exact st_lss' (by first|assumption|rfl)|exact st_gtr' (by first|assumption|rfl)|exact st_len'|exact st_indexAddr' (by assumption)|exact st_loadE'|exact Cv.rfl'|intro _
  cases g1:decide ((6:Int)<(x.2.2.length:Int))
  rotate_left
  ·rw [all_stop hx (show fewR8 x=false by unfold fewR8;rw [g0,g1];rfl)]
   refine g_of h ?_
   clear h
   repeat' first|kernel_rfl|apply g_seq|apply g_reg|apply g_nil|apply g_box|apply g_all|apply g_stf|apply g_stw|apply g_sto|apply g_asg|refine g_run rfl inferInstance (by first|exact st_idxR (by assumption)|exact st_loadR|exact st_loadS|exact st_len'|exact st_fldE (r:=Rp.frac) (hn:=FaC.fst)|exact st_fldE (r:=Rp.frac) (hn:=FaC.tail (n:=2) (k:=2) ⟨rfl⟩ FaC.self rfl)|exact st_fldE (r:=Rp.num) (hn:=FaC.tail (n:=1) (k:=1) ⟨rfl⟩ FaC.self rfl)|exact st_lenL|exact st_slen|exact st_move'|exact st_load'|exact st_fieldAddr'|exact st_gtr' (by first|assumption|rfl)|exact st_len'|exact st_indexAddr' (by assumption)|exact st_loadE') (by kernel_rfl) ?_|refine g_sk rfl inferInstance rfl (by kernel_rfl) ?_|refine g_un rfl inferInstance (by kernel_rfl) ?_|apply g_st|apply g_skip|apply g_ct|apply g_cf|apply g_ret|refine r_1 rfl ?_|apply g_blk|apply g_eb|apply g_ex|apply e_t|apply e_h|refine e_o rfl ?_|apply r_t|apply r_b|apply g_cl|exact st_idxR (by assumption)|exact st_loadR|exact st_loadS|exact st_len'|exact st_add' (by assumption)|exact st_fldE (r:=Rp.frac) (hn:=FaC.fst)|exact st_fldE (r:=Rp.frac) (hn:=FaC.tail (n:=2) (k:=2) ⟨rfl⟩ FaC.self rfl)|exact st_fldE (r:=Rp.num) (hn:=FaC.tail (n:=1) (k:=1) ⟨rfl⟩ FaC.self rfl)|exact st_lenL|exact st_slen|exact st_move'|exact st_assign'|exact st_load'|exact st_fieldAddr'|exact st_or_f'|exact st_or_t'|exact st_lss' (by first|assumption|rfl)|exact st_gtr' (by first|assumption|rfl)|exact st_len'|exact st_indexAddr' (by assumption)|exact st_loadE'|exact Cv.rfl'|intro _
  have hn:=all_step hx (show fewR8 x=true by unfold fewR8;rw [g0,g1];rfl) ha
  refine g_of h ?_
  clear h
  repeat' first|kernel_rfl|exact g_done fun _ _ h=>⟨k - 1,by omega,i+1,by omega,hn,h.keep [3,0]⟩|apply g_seq|apply g_reg|apply g_nil|apply g_box|apply g_all|apply g_stf|apply g_stw|apply g_sto|apply g_asg|refine g_run rfl inferInstance (by first|exact st_idxR (by assumption)|exact st_loadR|exact st_loadS|exact st_len'|exact st_fldE (r:=Rp.frac) (hn:=FaC.fst)|exact st_fldE (r:=Rp.frac) (hn:=FaC.tail (n:=2) (k:=2) ⟨rfl⟩ FaC.self rfl)|exact st_fldE (r:=Rp.num) (hn:=FaC.tail (n:=1) (k:=1) ⟨rfl⟩ FaC.self rfl)|exact st_lenL|exact st_slen|exact st_move'|exact st_load'|exact st_fieldAddr'|exact st_gtr' (by first|assumption|rfl)|exact st_len'|exact st_indexAddr' (by assumption)|exact st_loadE') (by kernel_rfl) ?_|refine g_sk rfl inferInstance rfl (by kernel_rfl) ?_|refine g_un rfl inferInstance (by kernel_rfl) ?_|apply g_st|apply g_skip|apply g_ct|apply g_cf|apply g_ret|refine r_1 rfl ?_|apply g_blk|apply g_eb|apply g_ex|apply e_t|apply e_h|refine e_o rfl ?_|apply r_t|apply r_b|apply g_cl|exact st_idxR (by assumption)|exact st_loadR|exact st_loadS|exact st_len'|exact st_add' (by assumption)|exact st_fldE (r:=Rp.frac) (hn:=FaC.fst)|exact st_fldE (r:=Rp.frac) (hn:=FaC.tail (n:=2) (k:=2) ⟨rfl⟩ FaC.self rfl)|exact st_fldE (r:=Rp.num) (hn:=FaC.tail (n:=1) (k:=1) ⟨rfl⟩ FaC.self rfl)|exact st_lenL|exact st_slen|exact st_move'|exact st_assign'|exact st_load'|exact st_fieldAddr'|exact st_or_f'|exact st_or_t'|exact st_lss' (by first|assumption|rfl)|exact st_gtr' (by first|assumption|rfl)|exact st_len'|exact st_indexAddr' (by assumption)|exact st_loadE'|exact Cv.rfl'|intro _
 ·have hil:i=l.length:=by omega
  have hc:decide ((i:Int)<(l.length:Int))=false:=decide_eq_false (by omega)
  rw [hil,List.take_length] at ha
  rw [ha]
  refine g_of h ?_
  clear h
  repeat' first|kernel_rfl|apply g_seq|apply g_reg|apply g_nil|apply g_box|apply g_all|apply g_stf|apply g_stw|apply g_sto|apply g_asg|refine g_run rfl inferInstance (by first|exact st_idxR (by assumption)|exact st_loadR|exact st_loadS|exact st_len'|exact st_fldE (r:=Rp.frac) (hn:=FaC.fst)|exact st_fldE (r:=Rp.frac) (hn:=FaC.tail (n:=2) (k:=2) ⟨rfl⟩ FaC.self rfl)|exact st_fldE (r:=Rp.num) (hn:=FaC.tail (n:=1) (k:=1) ⟨rfl⟩ FaC.self rfl)|exact st_lenL|exact st_slen|exact st_move'|exact st_load'|exact st_fieldAddr'|exact st_gtr' (by first|assumption|rfl)|exact st_len'|exact st_indexAddr' (by assumption)|exact st_loadE') (by kernel_rfl) ?_|refine g_sk rfl inferInstance rfl (by kernel_rfl) ?_|refine g_un rfl inferInstance (by kernel_rfl) ?_|apply g_st|apply g_skip|apply g_ct|apply g_cf|apply g_ret|refine r_1 rfl ?_|apply g_blk|apply g_eb|apply g_ex|apply e_t|apply e_h|refine e_o rfl ?_|apply r_t|apply r_b|apply g_cl|exact st_idxR (by assumption)|exact st_loadR|exact st_loadS|exact st_len'|exact st_add' (by assumption)|exact st_fldE (r:=Rp.frac) (hn:=FaC.fst)|exact st_fldE (r:=Rp.frac) (hn:=FaC.tail (n:=2) (k:=2) ⟨rfl⟩ FaC.self rfl)|exact st_fldE (r:=Rp.num) (hn:=FaC.tail (n:=1) (k:=1) ⟨rfl⟩ FaC.self rfl)|exact st_lenL|exact st_slen|exact st_move'|exact st_assign'|exact st_load'|exact st_fieldAddr'|exact st_or_f'|exact st_or_t'|exact st_lss' (by first|assumption|rfl)|exact st_gtr' (by first|assumption|rfl)|exact st_len'|exact st_indexAddr' (by assumption)|exact st_loadE'|exact Cv.rfl'|intro _
theorem c_short {l:List (List UInt8)}:Ctr Tryz.prog S1 50 [0] [.rw Rp.str tt l] (fun _=> .is (.bool (l.all shtB))):=by
 refine ctrF rw_maxA (fun _ _=>by kernel_rfl) fun hb=> ?_
 refine ctr Tryz.func50 rfl Tryz.ntmps50 (by simp) (fun _ _=>by kernel_rfl) fun X w0 hE=> ?_
 simp only [argE,Nat.zero_add,Nat.reduceAdd]
 repeat' first|kernel_rfl|apply g_seq|apply g_reg|apply g_nil|apply g_box|apply g_all|apply g_stf|apply g_stw|apply g_sto|apply g_asg|apply g_st|apply g_skip|apply g_ct|apply g_cf|apply g_ret|refine r_1 rfl ?_|apply g_blk|apply g_eb|apply g_ex|apply e_t|apply e_h|refine e_o rfl ?_|apply r_t|apply r_b|apply g_cl|exact st_idxR (by assumption)|exact st_loadR|exact st_loadS|exact st_len'|exact st_add' (by assumption)|exact st_lenL|exact st_slen|exact st_move'|exact st_assign'|exact st_load'|exact st_lss' (by first|assumption|rfl)|exact st_gtr' (by first|assumption|rfl)|exact st_len'|exact st_indexAddr' (by assumption)|exact st_loadE'|exact Cv.rfl'|intro _
 refine g_stop fun a w h=> ?_
 refine cw_loop (fun k a u=>∃ i:Nat,i+k=l.length∧(l.take i).all shtB=true∧TS w0 X [] [(3, .is (.int .i64 (i:Int))),(0, .rw Rp.str tt l)] 16 a u) l.length ⟨0,by omega,rfl,h.keep [3,0]⟩ ?_
 clear h
 rintro k a u ⟨i,hi,ha,h⟩
 by_cases hlt:i<l.length
 ·obtain ⟨x,hx⟩:∃ x,l[i]? =some x:=⟨_,List.getElem?_eq_getElem hlt⟩
  have hc:decide ((i:Int)<(l.length:Int))=true:=decide_eq_true (by omega)
  have hw:IntKind.i64.wrap ((i:Int)+1)=((i+1:Nat):Int):=i64_small (by omega) (by omega)
  cases g0:decide ((70:Int)<(x.length:Int))
  rotate_left
  ·rw [all_stop hx (show shtB x=false by unfold shtB;rw [g0];rfl)]
   refine g_of h ?_
   clear h
   repeat' first|kernel_rfl|apply g_seq|apply g_reg|apply g_nil|apply g_box|apply g_all|apply g_stf|apply g_stw|apply g_sto|apply g_asg|apply g_st|apply g_skip|apply g_ct|apply g_cf|apply g_ret|refine r_1 rfl ?_|apply g_blk|apply g_eb|apply g_ex|apply e_t|apply e_h|refine e_o rfl ?_|apply r_t|apply r_b|apply g_cl|exact st_idxR (by assumption)|exact st_loadR|exact st_loadS|exact st_len'|exact st_add' (by assumption)|exact st_lenL|exact st_slen|exact st_move'|exact st_assign'|exact st_load'|exact st_lss' (by first|assumption|rfl)|exact st_gtr' (by first|assumption|rfl)|exact st_len'|exact st_indexAddr' (by assumption)|exact st_loadE'|exact Cv.rfl'|intro _
  have hn:=all_step hx (show shtB x=true by unfold shtB;rw [g0];rfl) ha
  refine g_of h ?_
  clear h
  repeat' first|kernel_rfl|exact g_done fun _ _ h=>⟨k - 1,by omega,i+1,by omega,hn,h.keep [3,0]⟩|apply g_seq|apply g_reg|apply g_nil|apply g_box|apply g_all|apply g_stf|apply g_stw|apply g_sto|apply g_asg|apply g_st|apply g_skip|apply g_ct|apply g_cf|apply g_ret|refine r_1 rfl ?_|apply g_blk|apply g_eb|apply g_ex|apply e_t|apply e_h|refine e_o rfl ?_|apply r_t|apply r_b|apply g_cl|exact st_idxR (by assumption)|exact st_loadR|exact st_loadS|exact st_len'|exact st_add' (by assumption)|exact st_lenL|exact st_slen|exact st_move'|exact st_assign'|exact st_load'|exact st_lss' (by first|assumption|rfl)|exact st_gtr' (by first|assumption|rfl)|exact st_len'|exact st_indexAddr' (by assumption)|exact st_loadE'|exact Cv.rfl'|intro _
 ·have hil:i=l.length:=by omega
  have hc:decide ((i:Int)<(l.length:Int))=false:=decide_eq_false (by omega)
  rw [hil,List.take_length] at ha
  rw [ha]
  refine g_of h ?_
  clear h
  repeat' first|kernel_rfl|apply g_seq|apply g_reg|apply g_nil|apply g_box|apply g_all|apply g_stf|apply g_stw|apply g_sto|apply g_asg|apply g_st|apply g_skip|apply g_ct|apply g_cf|apply g_ret|refine r_1 rfl ?_|apply g_blk|apply g_eb|apply g_ex|apply e_t|apply e_h|refine e_o rfl ?_|apply r_t|apply r_b|apply g_cl|exact st_idxR (by assumption)|exact st_loadR|exact st_loadS|exact st_len'|exact st_add' (by assumption)|exact st_lenL|exact st_slen|exact st_move'|exact st_assign'|exact st_load'|exact st_lss' (by first|assumption|rfl)|exact st_gtr' (by first|assumption|rfl)|exact st_len'|exact st_indexAddr' (by assumption)|exact st_loadE'|exact Cv.rfl'|intro _
theorem c_Few {d:TyFiling}:Ctr Tryz.prog S1 17 [0] [.ra rpFiling d] (fun _=> .is (.bool (fewA d))):=by
 cases h0:decide ((20:Int)<(d.2.2.1.length:Int))
 rotate_left
 ·rw [show fewA d=false by unfold fewA cntB;rw [h0];rfl]
  refine ctr Tryz.func17 rfl Tryz.ntmps17 (by simp) (fun _ _=>by kernel_rfl) fun X w hE=> ?_
  simp only [argE,Nat.zero_add,Nat.reduceAdd]
  repeat' first|kernel_rfl|apply g_seq|apply g_reg|apply g_nil|apply g_box|apply g_all|apply g_stf|apply g_stw|apply g_sto|apply g_asg|refine g_run rfl inferInstance (by first|exact st_loadR|exact st_loadS|exact st_len'|exact sc trivial kR|exact sc trivial kT|exact sc trivial kf|exact sc trivial kg|exact st_load'|exact st_fieldAddr'|exact st_gtr' (by first|assumption|rfl)|exact st_len'|exact st_loadE') (by kernel_rfl) ?_|refine g_sk rfl inferInstance rfl (by kernel_rfl) ?_|refine g_un rfl inferInstance (by kernel_rfl) ?_|apply g_st|apply g_skip|apply g_ct|apply g_cf|apply g_ret|refine r_1 rfl ?_|apply g_blk|apply g_eb|apply g_ex|apply e_t|apply e_h|refine e_o rfl ?_|apply r_t|apply r_b|apply g_cl|exact st_idxR (by assumption)|exact st_loadR|exact st_loadS|exact st_len'|exact st_add' (by assumption)|exact sc trivial kR|exact sc trivial kT|exact sc trivial kf|exact sc trivial kg|exact st_move'|exact st_assign'|exact st_load'|exact st_fieldAddr'|exact st_and_t'|exact st_and_f'|exact st_or_f'|exact st_or_t'|exact st_lss' (by first|assumption|rfl)|exact st_gtr' (by first|assumption|rfl)|exact st_len'|exact st_indexAddr' (by assumption)|exact st_loadE'|exact Cv.rfl'|intro _
 cases h1:decide ((70:Int)<(d.2.2.2.2.2.2.2.2.2.2.1.length:Int))
 rotate_left
 ·rw [show fewA d=false by unfold fewA cntB;rw [h0,h1];rfl]
  refine ctr Tryz.func17 rfl Tryz.ntmps17 (by simp) (fun _ _=>by kernel_rfl) fun X w hE=> ?_
  simp only [argE,Nat.zero_add,Nat.reduceAdd]
  repeat' first|kernel_rfl|apply g_seq|apply g_reg|apply g_nil|apply g_box|apply g_all|apply g_stf|apply g_stw|apply g_sto|apply g_asg|refine g_run rfl inferInstance (by first|exact st_loadR|exact st_loadS|exact st_len'|exact sc trivial kR|exact sc trivial kT|exact sc trivial kf|exact sc trivial kg|exact st_load'|exact st_fieldAddr'|exact st_gtr' (by first|assumption|rfl)|exact st_len'|exact st_loadE') (by kernel_rfl) ?_|refine g_sk rfl inferInstance rfl (by kernel_rfl) ?_|refine g_un rfl inferInstance (by kernel_rfl) ?_|apply g_st|apply g_skip|apply g_ct|apply g_cf|apply g_ret|refine r_1 rfl ?_|apply g_blk|apply g_eb|apply g_ex|apply e_t|apply e_h|refine e_o rfl ?_|apply r_t|apply r_b|apply g_cl|exact st_idxR (by assumption)|exact st_loadR|exact st_loadS|exact st_len'|exact st_add' (by assumption)|exact sc trivial kR|exact sc trivial kT|exact sc trivial kf|exact sc trivial kg|exact st_move'|exact st_assign'|exact st_load'|exact st_fieldAddr'|exact st_and_t'|exact st_and_f'|exact st_or_f'|exact st_or_t'|exact st_lss' (by first|assumption|rfl)|exact st_gtr' (by first|assumption|rfl)|exact st_len'|exact st_indexAddr' (by assumption)|exact st_loadE'|exact Cv.rfl'|intro _
 cases h2:decide ((260:Int)<(d.2.2.2.2.2.2.2.2.2.2.2.1.length:Int))
 rotate_left
 ·rw [show fewA d=false by unfold fewA cntB;rw [h0,h1,h2];rfl]
  refine ctr Tryz.func17 rfl Tryz.ntmps17 (by simp) (fun _ _=>by kernel_rfl) fun X w hE=> ?_
  simp only [argE,Nat.zero_add,Nat.reduceAdd]
  repeat' first|kernel_rfl|apply g_seq|apply g_reg|apply g_nil|apply g_box|apply g_all|apply g_stf|apply g_stw|apply g_sto|apply g_asg|refine g_run rfl inferInstance (by first|exact st_loadR|exact st_loadS|exact st_len'|exact sc trivial kR|exact sc trivial kT|exact sc trivial kf|exact sc trivial kg|exact st_load'|exact st_fieldAddr'|exact st_gtr' (by first|assumption|rfl)|exact st_len'|exact st_loadE') (by kernel_rfl) ?_|refine g_sk rfl inferInstance rfl (by kernel_rfl) ?_|refine g_un rfl inferInstance (by kernel_rfl) ?_|apply g_st|apply g_skip|apply g_ct|apply g_cf|apply g_ret|refine r_1 rfl ?_|apply g_blk|apply g_eb|apply g_ex|apply e_t|apply e_h|refine e_o rfl ?_|apply r_t|apply r_b|apply g_cl|exact st_idxR (by assumption)|exact st_loadR|exact st_loadS|exact st_len'|exact st_add' (by assumption)|exact sc trivial kR|exact sc trivial kT|exact sc trivial kf|exact sc trivial kg|exact st_move'|exact st_assign'|exact st_load'|exact st_fieldAddr'|exact st_and_t'|exact st_and_f'|exact st_or_f'|exact st_or_t'|exact st_lss' (by first|assumption|rfl)|exact st_gtr' (by first|assumption|rfl)|exact st_len'|exact st_indexAddr' (by assumption)|exact st_loadE'|exact Cv.rfl'|intro _
 cases h3:decide ((45:Int)<(d.2.2.2.2.2.2.2.2.2.2.2.2.length:Int))
 rotate_left
 ·rw [show fewA d=false by unfold fewA cntB;rw [h0,h1,h2,h3];rfl]
  refine ctr Tryz.func17 rfl Tryz.ntmps17 (by simp) (fun _ _=>by kernel_rfl) fun X w hE=> ?_
  simp only [argE,Nat.zero_add,Nat.reduceAdd]
  repeat' first|kernel_rfl|apply g_seq|apply g_reg|apply g_nil|apply g_box|apply g_all|apply g_stf|apply g_stw|apply g_sto|apply g_asg|refine g_run rfl inferInstance (by first|exact st_loadR|exact st_loadS|exact st_len'|exact sc trivial kR|exact sc trivial kT|exact sc trivial kf|exact sc trivial kg|exact st_load'|exact st_fieldAddr'|exact st_gtr' (by first|assumption|rfl)|exact st_len'|exact st_loadE') (by kernel_rfl) ?_|refine g_sk rfl inferInstance rfl (by kernel_rfl) ?_|refine g_un rfl inferInstance (by kernel_rfl) ?_|apply g_st|apply g_skip|apply g_ct|apply g_cf|apply g_ret|refine r_1 rfl ?_|apply g_blk|apply g_eb|apply g_ex|apply e_t|apply e_h|refine e_o rfl ?_|apply r_t|apply r_b|apply g_cl|exact st_idxR (by assumption)|exact st_loadR|exact st_loadS|exact st_len'|exact st_add' (by assumption)|exact sc trivial kR|exact sc trivial kT|exact sc trivial kf|exact sc trivial kg|exact st_move'|exact st_assign'|exact st_load'|exact st_fieldAddr'|exact st_and_t'|exact st_and_f'|exact st_or_f'|exact st_or_t'|exact st_lss' (by first|assumption|rfl)|exact st_gtr' (by first|assumption|rfl)|exact st_len'|exact st_indexAddr' (by assumption)|exact st_loadE'|exact Cv.rfl'|intro _
 have hcb:cntB d=true:=by unfold cntB;rw [h0,h1,h2,h3];rfl
 have hys:=of_decide_eq_false h3
 refine ctr Tryz.func17 rfl Tryz.ntmps17 (by simp) (fun _ _=>by kernel_rfl) fun X w0 hE=> ?_
 simp only [argE,Nat.zero_add,Nat.reduceAdd]
 repeat' first|kernel_rfl|apply g_seq|apply g_reg|apply g_nil|apply g_box|apply g_all|apply g_stf|apply g_stw|apply g_sto|apply g_asg|refine g_run rfl inferInstance (by first|exact st_loadR|exact st_loadS|exact st_len'|exact sc trivial kR|exact sc trivial kT|exact sc trivial kf|exact sc trivial kg|exact st_load'|exact st_fieldAddr'|exact st_gtr' (by first|assumption|rfl)|exact st_len'|exact st_loadE') (by kernel_rfl) ?_|refine g_sk rfl inferInstance rfl (by kernel_rfl) ?_|refine g_un rfl inferInstance (by kernel_rfl) ?_|apply g_st|apply g_skip|apply g_ct|apply g_cf|apply g_ret|refine r_1 rfl ?_|apply g_blk|apply g_eb|apply g_ex|apply e_t|apply e_h|refine e_o rfl ?_|apply r_t|apply r_b|apply g_cl|exact st_idxR (by assumption)|exact st_loadR|exact st_loadS|exact st_len'|exact st_add' (by assumption)|exact sc trivial kR|exact sc trivial kT|exact sc trivial kf|exact sc trivial kg|exact st_move'|exact st_assign'|exact st_load'|exact st_fieldAddr'|exact st_and_t'|exact st_and_f'|exact st_or_f'|exact st_or_t'|exact st_lss' (by first|assumption|rfl)|exact st_gtr' (by first|assumption|rfl)|exact st_len'|exact st_indexAddr' (by assumption)|exact st_loadE'|exact Cv.rfl'|intro _
 refine g_stop fun a w h=> ?_
 rename_i r1
 refine cw_loop (fun k a u=>∃ i:Nat,i+k=(d.2.2.2.2.2.2.2.2.2.2.2.2).length∧((d.2.2.2.2.2.2.2.2.2.2.2.2).take i).all ycB=true∧TS w0 (r1::X) [(r1, .ra rpFiling d)] [(3, .is (.int .i64 (i:Int))),(1, .is (.pointer (some ⟨r1,0,none⟩)))] 75 a u) (d.2.2.2.2.2.2.2.2.2.2.2.2).length ⟨0,by omega,rfl,h.keep [3,1]⟩ ?_
 clear h
 rintro k a u ⟨i,hi,ha,h⟩
 by_cases hlt:i<(d.2.2.2.2.2.2.2.2.2.2.2.2).length
 ·obtain ⟨y,hx⟩:∃ y,(d.2.2.2.2.2.2.2.2.2.2.2.2)[i]? =some y:=⟨_,List.getElem?_eq_getElem hlt⟩
  have hc:decide ((i:Int)<((d.2.2.2.2.2.2.2.2.2.2.2.2).length:Int))=true:=decide_eq_true (by omega)
  have hw:IntKind.i64.wrap ((i:Int)+1)=((i+1:Nat):Int):=i64_small (by omega) (by omega)
  cases g0:decide ((40:Int)<(y.2.1.length:Int))
  rotate_left
  ·rw [show fewA d=false by unfold fewA;rw [hcb,all_stop hx (show ycB y=false by unfold ycB;rw [g0];rfl)];rfl]
   refine g_of h ?_
   clear h
   repeat' first|kernel_rfl|apply g_seq|apply g_reg|apply g_nil|apply g_box|apply g_all|apply g_stf|apply g_stw|apply g_sto|apply g_asg|refine g_run rfl inferInstance (by first|exact st_loadR|exact st_loadS|exact st_len'|exact sc trivial kR|exact sc trivial kT|exact sc trivial kf|exact sc trivial kg|exact st_load'|exact st_fieldAddr'|exact st_gtr' (by first|assumption|rfl)|exact st_len'|exact st_loadE') (by kernel_rfl) ?_|refine g_sk rfl inferInstance rfl (by kernel_rfl) ?_|refine g_un rfl inferInstance (by kernel_rfl) ?_|apply g_st|apply g_skip|apply g_ct|apply g_cf|apply g_ret|refine r_1 rfl ?_|apply g_blk|apply g_eb|apply g_ex|apply e_t|apply e_h|refine e_o rfl ?_|apply r_t|apply r_b|apply g_cl|exact st_idxR (by assumption)|exact st_loadR|exact st_loadS|exact st_len'|exact st_add' (by assumption)|exact sc trivial kR|exact sc trivial kT|exact sc trivial kf|exact sc trivial kg|exact st_move'|exact st_assign'|exact st_load'|exact st_fieldAddr'|exact st_and_t'|exact st_and_f'|exact st_or_f'|exact st_or_t'|exact st_lss' (by first|assumption|rfl)|exact st_gtr' (by first|assumption|rfl)|exact st_len'|exact st_indexAddr' (by assumption)|exact st_loadE'|exact Cv.rfl'|intro _
  cases g1:decide ((40:Int)<(y.2.2.1.length:Int))
  rotate_left
  ·rw [show fewA d=false by unfold fewA;rw [hcb,all_stop hx (show ycB y=false by unfold ycB;rw [g0,g1];rfl)];rfl]
   refine g_of h ?_
   clear h
   repeat' first|kernel_rfl|apply g_seq|apply g_reg|apply g_nil|apply g_box|apply g_all|apply g_stf|apply g_stw|apply g_sto|apply g_asg|refine g_run rfl inferInstance (by first|exact st_loadR|exact st_loadS|exact st_len'|exact sc trivial kR|exact sc trivial kT|exact sc trivial kf|exact sc trivial kg|exact st_load'|exact st_fieldAddr'|exact st_gtr' (by first|assumption|rfl)|exact st_len'|exact st_loadE') (by kernel_rfl) ?_|refine g_sk rfl inferInstance rfl (by kernel_rfl) ?_|refine g_un rfl inferInstance (by kernel_rfl) ?_|apply g_st|apply g_skip|apply g_ct|apply g_cf|apply g_ret|refine r_1 rfl ?_|apply g_blk|apply g_eb|apply g_ex|apply e_t|apply e_h|refine e_o rfl ?_|apply r_t|apply r_b|apply g_cl|exact st_idxR (by assumption)|exact st_loadR|exact st_loadS|exact st_len'|exact st_add' (by assumption)|exact sc trivial kR|exact sc trivial kT|exact sc trivial kf|exact sc trivial kg|exact st_move'|exact st_assign'|exact st_load'|exact st_fieldAddr'|exact st_and_t'|exact st_and_f'|exact st_or_f'|exact st_or_t'|exact st_lss' (by first|assumption|rfl)|exact st_gtr' (by first|assumption|rfl)|exact st_len'|exact st_indexAddr' (by assumption)|exact st_loadE'|exact Cv.rfl'|intro _
  cases g2:decide ((40:Int)<(y.2.2.2.1.length:Int))
  rotate_left
  ·rw [show fewA d=false by unfold fewA;rw [hcb,all_stop hx (show ycB y=false by unfold ycB;rw [g0,g1,g2];rfl)];rfl]
   refine g_of h ?_
   clear h
   repeat' first|kernel_rfl|apply g_seq|apply g_reg|apply g_nil|apply g_box|apply g_all|apply g_stf|apply g_stw|apply g_sto|apply g_asg|refine g_run rfl inferInstance (by first|exact st_loadR|exact st_loadS|exact st_len'|exact sc trivial kR|exact sc trivial kT|exact sc trivial kf|exact sc trivial kg|exact st_load'|exact st_fieldAddr'|exact st_gtr' (by first|assumption|rfl)|exact st_len'|exact st_loadE') (by kernel_rfl) ?_|refine g_sk rfl inferInstance rfl (by kernel_rfl) ?_|refine g_un rfl inferInstance (by kernel_rfl) ?_|apply g_st|apply g_skip|apply g_ct|apply g_cf|apply g_ret|refine r_1 rfl ?_|apply g_blk|apply g_eb|apply g_ex|apply e_t|apply e_h|refine e_o rfl ?_|apply r_t|apply r_b|apply g_cl|exact st_idxR (by assumption)|exact st_loadR|exact st_loadS|exact st_len'|exact st_add' (by assumption)|exact sc trivial kR|exact sc trivial kT|exact sc trivial kf|exact sc trivial kg|exact st_move'|exact st_assign'|exact st_load'|exact st_fieldAddr'|exact st_and_t'|exact st_and_f'|exact st_or_f'|exact st_or_t'|exact st_lss' (by first|assumption|rfl)|exact st_gtr' (by first|assumption|rfl)|exact st_len'|exact st_indexAddr' (by assumption)|exact st_loadE'|exact Cv.rfl'|intro _
  cases g3:decide ((40:Int)<(y.2.2.2.2.1.length:Int))
  rotate_left
  ·rw [show fewA d=false by unfold fewA;rw [hcb,all_stop hx (show ycB y=false by unfold ycB;rw [g0,g1,g2,g3];rfl)];rfl]
   refine g_of h ?_
   clear h
   repeat' first|kernel_rfl|apply g_seq|apply g_reg|apply g_nil|apply g_box|apply g_all|apply g_stf|apply g_stw|apply g_sto|apply g_asg|refine g_run rfl inferInstance (by first|exact st_loadR|exact st_loadS|exact st_len'|exact sc trivial kR|exact sc trivial kT|exact sc trivial kf|exact sc trivial kg|exact st_load'|exact st_fieldAddr'|exact st_gtr' (by first|assumption|rfl)|exact st_len'|exact st_loadE') (by kernel_rfl) ?_|refine g_sk rfl inferInstance rfl (by kernel_rfl) ?_|refine g_un rfl inferInstance (by kernel_rfl) ?_|apply g_st|apply g_skip|apply g_ct|apply g_cf|apply g_ret|refine r_1 rfl ?_|apply g_blk|apply g_eb|apply g_ex|apply e_t|apply e_h|refine e_o rfl ?_|apply r_t|apply r_b|apply g_cl|exact st_idxR (by assumption)|exact st_loadR|exact st_loadS|exact st_len'|exact st_add' (by assumption)|exact sc trivial kR|exact sc trivial kT|exact sc trivial kf|exact sc trivial kg|exact st_move'|exact st_assign'|exact st_load'|exact st_fieldAddr'|exact st_and_t'|exact st_and_f'|exact st_or_f'|exact st_or_t'|exact st_lss' (by first|assumption|rfl)|exact st_gtr' (by first|assumption|rfl)|exact st_len'|exact st_indexAddr' (by assumption)|exact st_loadE'|exact Cv.rfl'|intro _
  cases g4:decide ((40:Int)<(y.2.2.2.2.2.length:Int))
  rotate_left
  ·rw [show fewA d=false by unfold fewA;rw [hcb,all_stop hx (show ycB y=false by unfold ycB;rw [g0,g1,g2,g3,g4];rfl)];rfl]
   refine g_of h ?_
   clear h
   repeat' first|kernel_rfl|apply g_seq|apply g_reg|apply g_nil|apply g_box|apply g_all|apply g_stf|apply g_stw|apply g_sto|apply g_asg|refine g_run rfl inferInstance (by first|exact st_loadR|exact st_loadS|exact st_len'|exact sc trivial kR|exact sc trivial kT|exact sc trivial kf|exact sc trivial kg|exact st_load'|exact st_fieldAddr'|exact st_gtr' (by first|assumption|rfl)|exact st_len'|exact st_loadE') (by kernel_rfl) ?_|refine g_sk rfl inferInstance rfl (by kernel_rfl) ?_|refine g_un rfl inferInstance (by kernel_rfl) ?_|apply g_st|apply g_skip|apply g_ct|apply g_cf|apply g_ret|refine r_1 rfl ?_|apply g_blk|apply g_eb|apply g_ex|apply e_t|apply e_h|refine e_o rfl ?_|apply r_t|apply r_b|apply g_cl|exact st_idxR (by assumption)|exact st_loadR|exact st_loadS|exact st_len'|exact st_add' (by assumption)|exact sc trivial kR|exact sc trivial kT|exact sc trivial kf|exact sc trivial kg|exact st_move'|exact st_assign'|exact st_load'|exact st_fieldAddr'|exact st_and_t'|exact st_and_f'|exact st_or_f'|exact st_or_t'|exact st_lss' (by first|assumption|rfl)|exact st_gtr' (by first|assumption|rfl)|exact st_len'|exact st_indexAddr' (by assumption)|exact st_loadE'|exact Cv.rfl'|intro _
  have hn:=all_step hx (show ycB y=true by unfold ycB;rw [g0,g1,g2,g3,g4];rfl) ha
  refine g_of h ?_
  clear h
  repeat' first|kernel_rfl|exact g_done fun _ _ h=>⟨k - 1,by omega,i+1,by omega,hn,h.drop.keep [3,1]⟩|apply g_seq|apply g_reg|apply g_nil|apply g_box|apply g_all|apply g_stf|apply g_stw|apply g_sto|apply g_asg|refine g_run rfl inferInstance (by first|exact st_loadR|exact st_loadS|exact st_len'|exact sc trivial kR|exact sc trivial kT|exact sc trivial kf|exact sc trivial kg|exact st_load'|exact st_fieldAddr'|exact st_gtr' (by first|assumption|rfl)|exact st_len'|exact st_loadE') (by kernel_rfl) ?_|refine g_sk rfl inferInstance rfl (by kernel_rfl) ?_|refine g_un rfl inferInstance (by kernel_rfl) ?_|apply g_st|apply g_skip|apply g_ct|apply g_cf|apply g_ret|refine r_1 rfl ?_|apply g_blk|apply g_eb|apply g_ex|apply e_t|apply e_h|refine e_o rfl ?_|apply r_t|apply r_b|apply g_cl|exact st_idxR (by assumption)|exact st_loadR|exact st_loadS|exact st_len'|exact st_add' (by assumption)|exact sc trivial kR|exact sc trivial kT|exact sc trivial kf|exact sc trivial kg|exact st_move'|exact st_assign'|exact st_load'|exact st_fieldAddr'|exact st_and_t'|exact st_and_f'|exact st_or_f'|exact st_or_t'|exact st_lss' (by first|assumption|rfl)|exact st_gtr' (by first|assumption|rfl)|exact st_len'|exact st_indexAddr' (by assumption)|exact st_loadE'|exact Cv.rfl'|intro _
 ·have hil:i=(d.2.2.2.2.2.2.2.2.2.2.2.2).length:=by omega
  have hc:decide ((i:Int)<((d.2.2.2.2.2.2.2.2.2.2.2.2).length:Int))=false:=decide_eq_false (by omega)
  rw [hil,List.take_length] at ha
  have hcnt:=cntF_of hcb ha
  have kR:=c_rats hcnt
  have kT:=c_texts hcnt
  have kf:=c_few (l:=ratsL d)
  have kg:=c_short (l:=textsL d)
  rw [show fewA d=((ratsL d).all fewR8&&(textsL d).all shtB) by unfold fewA;rw [hcb,ha];rfl]
  cases hf:(ratsL d).all fewR8
  ·rw [hf] at kf
   rw [Bool.false_and]
   refine g_of h ?_
   clear h
   repeat' first|kernel_rfl|apply g_seq|apply g_reg|apply g_nil|apply g_box|apply g_all|apply g_stf|apply g_stw|apply g_sto|apply g_asg|refine g_run rfl inferInstance (by first|exact st_loadR|exact st_loadS|exact st_len'|exact sc trivial kR|exact sc trivial kT|exact sc trivial kf|exact sc trivial kg|exact st_load'|exact st_fieldAddr'|exact st_gtr' (by first|assumption|rfl)|exact st_len'|exact st_loadE') (by kernel_rfl) ?_|refine g_sk rfl inferInstance rfl (by kernel_rfl) ?_|refine g_un rfl inferInstance (by kernel_rfl) ?_|apply g_st|apply g_skip|apply g_ct|apply g_cf|apply g_ret|refine r_1 rfl ?_|apply g_blk|apply g_eb|apply g_ex|apply e_t|apply e_h|refine e_o rfl ?_|apply r_t|apply r_b|apply g_cl|exact st_idxR (by assumption)|exact st_loadR|exact st_loadS|exact st_len'|exact st_add' (by assumption)|exact sc trivial kR|exact sc trivial kT|exact sc trivial kf|exact sc trivial kg|exact st_move'|exact st_assign'|exact st_load'|exact st_fieldAddr'|exact st_and_t'|exact st_and_f'|exact st_or_f'|exact st_or_t'|exact st_lss' (by first|assumption|rfl)|exact st_gtr' (by first|assumption|rfl)|exact st_len'|exact st_indexAddr' (by assumption)|exact st_loadE'|exact Cv.rfl'|intro _
  ·rw [hf] at kf
   rw [Bool.true_and]
   refine g_of h ?_
   clear h
   repeat' first|kernel_rfl|apply g_seq|apply g_reg|apply g_nil|apply g_box|apply g_all|apply g_stf|apply g_stw|apply g_sto|apply g_asg|refine g_run rfl inferInstance (by first|exact st_loadR|exact st_loadS|exact st_len'|exact sc trivial kR|exact sc trivial kT|exact sc trivial kf|exact sc trivial kg|exact st_load'|exact st_fieldAddr'|exact st_gtr' (by first|assumption|rfl)|exact st_len'|exact st_loadE') (by kernel_rfl) ?_|refine g_sk rfl inferInstance rfl (by kernel_rfl) ?_|refine g_un rfl inferInstance (by kernel_rfl) ?_|apply g_st|apply g_skip|apply g_ct|apply g_cf|apply g_ret|refine r_1 rfl ?_|apply g_blk|apply g_eb|apply g_ex|apply e_t|apply e_h|refine e_o rfl ?_|apply r_t|apply r_b|apply g_cl|exact st_idxR (by assumption)|exact st_loadR|exact st_loadS|exact st_len'|exact st_add' (by assumption)|exact sc trivial kR|exact sc trivial kT|exact sc trivial kf|exact sc trivial kg|exact st_move'|exact st_assign'|exact st_load'|exact st_fieldAddr'|exact st_and_t'|exact st_and_f'|exact st_or_f'|exact st_or_t'|exact st_lss' (by first|assumption|rfl)|exact st_gtr' (by first|assumption|rfl)|exact st_len'|exact st_indexAddr' (by assumption)|exact st_loadE'|exact Cv.rfl'|intro _
end Go.Proofs.YtgnggldjjjkogaaGreatDoor
