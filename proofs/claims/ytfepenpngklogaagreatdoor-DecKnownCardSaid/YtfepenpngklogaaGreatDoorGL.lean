/- Kinds of arguments; calls of function values by their contracts; limbs read one by one; fractions and the whole numbers next to them. -/
import Derived.Test.YtfepenpngklogaaGreatDoorGG
import Derived.Test.YtfepenpngklogaaGreatDoorGJ
import Derived.Test.YtfepenpngklogaaGreatDoorGK
import Derived.Test.YtfepenpngklogaaGreatDoorGI
import Derived.Test.YtfepenpngklogaaGreatDoorGB
set_option maxHeartbeats 4000000
set_option maxRecDepth 20000
set_option linter.unusedSimpArgs false
set_option linter.unusedVariables false
namespace Go.Proofs.YtfepenpngklogaaGreatDoor
open Go Go.RowKit
variable {L K B d L0 n i:Nat} {p q:Rat} {M N:Int} {X:List Nat} {w w00:World} {f:FuncId} {E:List (Nat×VTy)} {t0:TypeId} {pos:String} {af:Array Edge} {gd:Option (Nat×Bool)} {o0:Operand} {x:RawQ} {v:Value} {l:List RawQ} {u:Bool} {T0:VTy}
instance {T:VTy} {q:Rat} {L:Nat} [a:AsQ T q L]:AsK 1 T (.qa q L):=⟨a.ok⟩
instance {T:VTy} {N:Int} {L:Nat} [a:AsN T N L]:AsK 2 T (.na N L):=⟨a.ok⟩
instance {T:VTy} {q:Rat} {L:Nat} [a:AsC T q L]:AsK 3 T (.qc q L):=⟨a.ok⟩
instance {T:VTy} {x:RawQ} {L:Nat} [a:AsX T x L]:AsK 4 T (.qx x L):=⟨a.ok⟩
class AsM (T:VTy) (N:outParam Int) (L:outParam Nat):Prop where
 ok:∀ {X w v},T.holds X w v→(VTy.nc N L).holds X w v
instance {N:Int} {L:Nat}:AsM (.nc N L) N L:=⟨fun h=>h⟩
instance {N:Int} {L B:Nat}:AsM (.nn N L B) N L:=⟨fun h=>nwn_ex h⟩
instance {N:Int} {L B:Nat} {T:VTy} [a:AsM T N L]:AsM (.und B T) N L:=⟨fun h=>a.ok (und_weak h)⟩
instance {N:Int} {L B:Nat} {T:VTy} [a:AsN T N L]:AsN (.und B T) N L:=⟨fun h=>a.ok (und_weak h)⟩
class AsY (T:VTy) (x:outParam RawI) (L:outParam Nat):Prop where
 ok:∀ {X w v},T.holds X w v→(VTy.nx x L).holds X w v
instance {x:RawI} {L:Nat}:AsY (.nx x L) x L:=⟨fun h=>h⟩
instance {x:RawI} {L B:Nat} {T:VTy} [a:AsY T x L]:AsY (.und B T) x L:=⟨fun h=>a.ok (und_weak h)⟩
instance {T:VTy} {N:Int} {L:Nat} [a:AsM T N L]:AsK 5 T (.nc N L):=⟨a.ok⟩
instance {T:VTy} {x:RawI} {L:Nat} [a:AsY T x L]:AsK 6 T (.nx x L):=⟨a.ok⟩
instance {T:VTy} {x:RawQ} [a:AsZ T x]:AsK 7 T (.qz x):=⟨a.ok⟩
instance {T:VTy} {K:Nat} {l:List RawQ} [a:AsW T Rp.frac (fewQ K) l]:AsK 8 T (.rq K l):=⟨a.ok⟩
instance {K:Nat} {l:List RawQ}:AsW (.rq K l) Rp.frac (fewQ K) l:=⟨fun h=>h⟩
instance:StabG Tab:=⟨Tab.below⟩
instance {q:Rat} {L:Nat}:DownC fun B=> .qn q L B:=⟨fun hB h=>nw_le h hB⟩
instance {q:Rat} {L:Nat}:DownC fun B=> .qg q L B:=⟨fun hB h=>nw_le h hB⟩
instance {N:Int} {L:Nat}:DownC fun B=> .nn N L B:=⟨fun hB h=>nwn_le h hB⟩
instance OpsK.name {E:List (Nat×VTy)} {f:FuncId} {os:List Operand} {k:Nat} {ks:List Nat} {As:List VTy} [t:OpsK E os ks As]:OpsK E (.func f::os) (k::ks) (.fv f [] []::As):=
 ⟨fun hc hf hs=>⟨⟨[],[],hf f,trivial,trivial⟩,t.get hc hf fun p hp hm=>hs p hp (List.mem_cons_of_mem _ hm)⟩⟩
section
variable {P:Program} {G:World→Prop} {w00:World} {N:Nat} {L:List Loc} {E:List (Nat×VTy)} {d:Nat} {t0:TypeId} {pos:String} {af:Array Edge} {gd:Option (Nat×Bool)} {ats:Array TypeId}
theorem scv{s:Nat} {os:List Operand} {ks:List Nat} {As:List VTy} {T:Nat→VTy} [hs:Look E s (.fv f [] [])] [k:OpsK E os ks As] [sg:StabG G] (hG:G w00) (h:Ctr P G f ks As T):
 StepT P w00 N L E ⟨some d, .call { callee:= .value (.tmp s),args:=os.toArray,argTypes:=ats },t0,pos,af,gd⟩ (T w00.heap.size):=by
 constructor
 intro X ρ w hc hf hN hm hsl
 obtain ⟨vs,us,e0,g1,g2⟩:=hsl _ hs.mem qJ
 have e:=k.get (X:=X) (w:=w) hc hf fun p hp he=>hsl p hp (by simp [Op.operands,Call.operands,he])
 match vs,us,g1,g2 with
 |[],[],_,_=>
  have e':ρ (.tmp s)= .func (.func f) #[] #[]:=e0
  have hr:(execOp ρ ⟨some d, .call { callee:= .value (.tmp s),args:=os.toArray,argTypes:=ats },t0,pos,af,gd⟩).run P w= .ok (.enter f (os.map ρ).toArray) w:=by
   have hen:=h.ent
   clear hsl h hm hN hc e k hf e0
   go_simp
   exact hen _ _
  unfold Yields
  rw [hr]
  refine (h.run (sg.stab hG hm.below) hm.far e).mono ?_
  rintro e w' ⟨v,rfl,hT,hB⟩
  exact ⟨v,rfl,h.down hm.below.size hT,hB⟩
theorem Ctr.weak{ks:List Nat} {As:List VTy} {T T':Nat→VTy} [dn:DownC T'] (h:Ctr P G f ks As T) (hi:∀ {B:Nat} {X:List Nat} {w:World} {v:Value},(T B).holds X w v→(T' B).holds X w v):Ctr P G f ks As T':=
 ⟨h.ent,dn.down,fun hG hX ha=>(h.run hG hX ha).mono fun _ _ g=>g.imp fun _=>hi⟩
theorem ctrQ{L:Nat} {T:Nat→VTy} [dn:DownC T] (he:Enters P f) (h1:Lq p L→Ctr P G f [3] [.qc p L] T) (h2:∀ x,qrt x=false→p=0→0<L→Ctr P G f [4] [.qx x L] T):Ctr P G f [1] [.qa p L] T:=
 ⟨he,dn.down,fun hG hX ha=>by
  obtain ⟨v,rfl,g⟩:=ha.one
  obtain ⟨x,rfl,g'⟩:=qa_raw g
  cases hq:qrt x with
  |true=>have g2:=qx_qc hq g';exact (h1 (qc_Lq g2)).run hG hX ⟨g2,trivial⟩
  |false=>exact (h2 x hq (qv_wrong hq) (qx_pos g')).run hG hX ⟨g',trivial⟩⟩
theorem ctrM{N:Int} {L:Nat} {T:Nat→VTy} [dn:DownC T] (he:Enters P f) (h:∀ x:RawI,Whole N x.1 x.2→Ctr P G f [6] [.nx x L] T):Ctr P G f [5] [.nc N L] T:=
 ⟨he,dn.down,fun hG hX ha=>by
  obtain ⟨v,rfl,x,⟨hw,hl⟩,g⟩:=ha.one
  exact (h x hw).run hG hX ⟨⟨x,⟨rfl,hw.len hl⟩,g⟩,trivial⟩⟩
def VTy.pl (x:Int):VTy:=⟨fun X w v=>∃ b o,v= .pointer (some ⟨b,o,none⟩)∧Free X w b∧w.cell? ⟨b,o,none⟩=some (.int .u32 x),fun ⟨b,o,e,hb,h⟩ hk hX=>⟨b,o,e,Free.mono hk hX b hb,(World.cell?_of_block (hk.block b hb.1 hb.2)).trans h⟩⟩
theorem st_limbAt {o:Operand} {xs:List Int} {x:Int} {ty:TypeId} [ho:OpC E o (.rc Rp.limbs xs)] [ht:SliceC P ty 1] (hx:xs[0]? =some x):StepT P w00 N L E ⟨some d, .indexAddr ty o (.const (.int .i64 0)),t0,pos,af,gd⟩ (.pl x):=by
 constructor
 intro X ρ w hc _ hN hm hsl
 obtain ⟨A,n,c,e,⟨hs,hf⟩,_⟩:=ho.get (X:=X) (w:=w) hc fun p hp e=>hsl p hp qS
 have e1:ρ o= .slice A n c:=by simpa using e
 have e2:ρ (.const (.int .i64 0))= .int .i64 0:=hc _
 have hj:0<n:=by rw [←hs.1];exact (List.getElem?_eq_some_iff.1 hx).1
 obtain ⟨b,off,y,rfl,hb,hy,hcell⟩:=hs.at_ hj
 rw [hx] at hy
 injection hy with hy
 subst hy
 obtain ⟨el,hu,hsz⟩:=ht.ok
 have hz:(sizeOf el).run P w= .ok 1 w:=by
  cases hq:P.info? el with
  |none=>rw [hq] at hsz;cases hsz
  |some q=>
   rw [hq] at hsz
   have:q.size=1:=by simpa using hsz
   simp [sizeOf,typeInfo,hq,this]
 have hrun:(execOp ρ ⟨some d, .indexAddr ty o (.const (.int .i64 0)),t0,pos,af,gd⟩).run P w= .ok (.value (.pointer (some ⟨b,off+0*1,none⟩))) w:=by
  unfold execOp
  have hji:(0:Int)≤0∧(0:Int)<(n:Int):=⟨by omega,by omega⟩
  have hj0:(0:Int).toNat=0:=rfl
  simp only [e1,e2,Instr.indexAt,asIntOf,Sem.run_bind,Sem.run_pure,Result.andThen_ok,run_underlying hu w,hji,and_self,if_true,hz,hj0,Addr.add_mid]
 unfold Yields
 rw [hrun]
 exact ⟨⟨b,_,rfl,hf hj b rfl,hcell⟩,Below.refl _ _⟩
end
section
variable {w00:World} {N:Nat} {L:List Loc} {E:List (Nat×VTy)} {d:Nat} {t0:TypeId} {pos:String} {af:Array Edge} {gd:Option (Nat×Bool)} {ats:Array TypeId}
theorem st_limb {x:Int} {s:Nat} [ho:Look E s (.pl x)]:StepT Tryz.prog w00 N L E ⟨some d, .load 100 (.tmp s),t0,pos,af,gd⟩ (.is (.int .u32 x)):=by
 constructor
 intro X ρ w hc _ hN hm hsl
 obtain ⟨b,o,e,hb,h1⟩:=hsl _ ho.mem qI
 have e':ρ (.tmp s)= .pointer (some ⟨b,o,none⟩):=e
 clear hc hsl ho hm e
 unfold Yields
 go_simp
 exact ⟨rfl,Below.refl _ _⟩
theorem st_rem2 {o:Operand} {x:Int} {t1:TypeId} [h0:OpC E o (.is (.int .u32 x))] (hx:0≤x):StepT Tryz.prog w00 N L E ⟨some d, .binOp .rem 100 o (.const (.int .u32 2)) t1,t0,pos,af,gd⟩ (.is (.int .u32 (x%2))):=by
 constructor
 intro X ρ w hc _ hN hm hsl
 have e0:ρ o= .int .u32 x:=h0.get (X:=X) (w:=w) hc fun p hp e=>hsl p hp qS
 have e1:ρ (.const (.int .u32 2))= .int .u32 2:=hc _
 have e2:x.tmod 2=x%2:=Int.tmod_eq_emod_of_nonneg hx
 have hr:IntKind.u32.wrap (x%2)=x%2:=by rw [IntKind.wrap_u32];omega
 clear hc hsl h0
 unfold Yields
 go_simp
 exact ⟨rfl,Below.refl _ _⟩
end
def fr (q:Rat):Rat:=q - (q.floor:Rat)
def cl (q:Rat):Int:= -(-q).floor
def hf (q:Rat):Int:=bif decide (2*fr q<1) || (decide (2*fr q=1)&&decide (q.floor%2=0)) then q.floor else q.floor+1
theorem fl_le (q:Rat):(q.floor:Rat)≤q:=Rat.floor_le q
theorem fl_lt (q:Rat):q<(q.floor:Rat)+1:=by have:= @Rat.lt_floor q;grind
theorem fr_0 (q:Rat):0≤fr q:=by have:=fl_le q;unfold fr;grind
theorem fr_1 (q:Rat):fr q<1:=by have:=fl_lt q;unfold fr;grind
theorem hf_bounds (q:Rat):2*((hf q:Rat) - q)≤1∧2*(q - hf q)≤1:=by
 have h1:=fr_0 q
 have h2:=fr_1 q
 have e:q=q.floor+fr q:=by unfold fr;grind
 unfold hf
 by_cases h3:2*fr q<1
 ·rw [decide_eq_true h3,Bool.true_or,cond_true];grind
 ·by_cases h4:2*fr q=1
  ·cases h5:decide (q.floor%2=0)
   ·rw [decide_eq_false h3,Bool.and_false,Bool.or_false,cond_false,Rat.intCast_add];show 2*(_+(1:Rat) - _)≤_∧2*(_ - (_+(1:Rat)))≤_;grind
   ·rw [decide_eq_true h4,Bool.and_true,Bool.or_true,cond_true];grind
  ·rw [decide_eq_false h3,decide_eq_false h4,Bool.false_and,Bool.or_false,cond_false,Rat.intCast_add];show 2*(_+(1:Rat) - _)≤_∧2*(_ - (_+(1:Rat)))≤_;grind
theorem hf_even(h:2*fr q=1):hf q%2=0:=by
 unfold hf
 rw [decide_eq_true h,decide_eq_false (show ¬ 2*fr q<1 by grind),Bool.true_and,Bool.false_or]
 by_cases h5:q.floor%2=0
 ·rw [decide_eq_true h5];exact h5
 ·rw [decide_eq_false h5,cond_false];omega
theorem hf_uniq{n:Int} (h1:2*((n:Rat) - q)≤1) (h2:2*(q - n)≤1) (h3:2*((n:Rat) - q)=1∨2*(q - n)=1→n%2=0):hf q=n:=by
 obtain ⟨g1,g2⟩:=hf_bounds q
 have hd:∀ {a b:Int},a<b→(a:Rat)+1≤b:=fun {a b} h=>by
  have:=Rat.intCast_le_intCast.2 (show a+1≤b by omega)
  rwa [Rat.intCast_add] at this
 have f0:=fr_0 q
 have f1:=fr_1 q
 have hev:2*((hf q:Rat) - q)=1∨2*(q - hf q)=1→hf q%2=0:=by
  intro h
  apply hf_even
  have e:q=q.floor+fr q:=by unfold fr;grind
  have hh:hf q=q.floor∨hf q=q.floor+1:=by
   unfold hf
   cases (decide (2*fr q<1) || (decide (2*fr q=1)&&decide (q.floor%2=0)))<;>simp
  rcases hh with hh|hh
  ·rw [hh] at h;grind
  ·rw [hh,Rat.intCast_add] at h
   have:((1:Int):Rat)=1:=rfl
   rw [this] at h
   grind
 rcases Int.lt_trichotomy (hf q) n with h|h|h
 ·have:=hd h
  have a1:=h3 (by grind)
  have a2:=hev (by grind)
  have:=Rat.intCast_le_intCast.2 (show hf q+2≤n by omega)
  rw [Rat.intCast_add] at this
  have e2:((2:Int):Rat)=2:=rfl
  rw [e2] at this
  grind
 ·exact h
 ·have:=hd h
  have a1:=h3 (by grind)
  have a2:=hev (by grind)
  have:=Rat.intCast_le_intCast.2 (show n+2≤hf q by omega)
  rw [Rat.intCast_add] at this
  have e2:((2:Int):Rat)=2:=rfl
  rw [e2] at this
  grind
theorem hf_half(h:2*((hf q:Rat) - q)=1∨2*(q - hf q)=1):hf q%2=0:=by
 have f0:=fr_0 q
 have f1:=fr_1 q
 apply hf_even
 have e:q=q.floor+fr q:=by unfold fr;grind
 have hh:hf q=q.floor∨hf q=q.floor+1:=by
  unfold hf
  cases (decide (2*fr q<1) || (decide (2*fr q=1)&&decide (q.floor%2=0)))<;>simp
 rcases hh with hh|hh
 ·rw [hh] at h;grind
 ·rw [hh,Rat.intCast_add] at h
  have:((1:Int):Rat)=1:=rfl
  rw [this] at h
  grind
theorem hf_neg (q:Rat):hf (-q)= -hf q:=by
 obtain ⟨g1,g2⟩:=hf_bounds q
 refine hf_uniq (by rw [Rat.intCast_neg];grind) (by rw [Rat.intCast_neg];grind) fun h=> ?_
 rw [Rat.intCast_neg] at h
 have:=hf_half (q:=q) (by grind)
 omega
theorem hf_int (n:Int):hf (n:Rat)=n:=hf_uniq (by grind) (by grind) (fun h=>by grind)
theorem hf_mono(h:p≤q):hf p≤hf q:=by
 refine Int.not_lt.1 fun hlt=> ?_
 obtain ⟨g1,g2⟩:=hf_bounds p
 obtain ⟨g3,g4⟩:=hf_bounds q
 have h1:=Rat.intCast_le_intCast.2 (show hf q+1≤hf p by omega)
 rw [Rat.intCast_add] at h1
 have e1:((1:Int):Rat)=1:=rfl
 rw [e1] at h1
 have hpq:p=q:=by grind
 rw [hpq] at hlt
 omega
theorem fl_fdiv (q:Rat):q.num.fdiv (q.den:Int)=q.floor:=by rw [Rat.floor_def,Int.fdiv_eq_ediv_of_nonneg _ (Int.natCast_nonneg _)]
theorem fr_parts (q:Rat):(fr q).num=q.num.fmod (q.den:Int)∧(fr q).den=q.den:=by
 have hd:(q.den:Int)≠0:=by have:=den_pos q;omega
 have hg:(q.num%(q.den:Int)).natAbs.Coprime q.den:=by
  have h1:Int.gcd (q.num%(q.den:Int)) (q.den:Int)=Int.gcd q.num (q.den:Int):=by
   rw [Int.emod_def,Int.gcd_comm,Int.gcd_comm q.num]
   simp [Int.sub_eq_add_neg,←Int.mul_neg]
  have h2:=q.reduced
  unfold Nat.Coprime at h2 ⊢
  simpa [Int.gcd] using h1.trans (by simpa [Int.gcd] using h2)
 have e:(⟨q.num%(q.den:Int),q.den,q.den_nz,hg⟩:Rat)=fr q:=by
  unfold fr
  rw [Rat.mk_eq_divInt]
  have h1:((q.floor:Int):Rat)=Rat.divInt q.floor 1:=(Rat.num_divInt_den (q.floor:Rat)).symm
  have h2:Rat.divInt q.num (q.den:Int) - Rat.divInt q.floor 1=q - (q.floor:Rat):=by rw [Rat.num_divInt_den,h1]
  rw [←h2,Rat.divInt_sub_divInt _ _ hd qD,Int.mul_one,Int.mul_one,Rat.floor_def,Int.emod_def,Int.mul_comm]
 rw [←e]
 exact ⟨(Int.fmod_eq_emod_of_nonneg _ (Int.natCast_nonneg _)).symm,rfl⟩
theorem Lq.fr(h:Lq q L):Lq (fr q) L:=by
 obtain ⟨e1,e2⟩:=fr_parts q
 have hd:(q.den:Int)≠0:=by have:=den_pos q;omega
 exact ⟨by rw [e1];exact fmod_lt' (den_lt h) hd,by rw [e2];exact h.2⟩
theorem fl_abs(h:Lq q L):(q.floor.natAbs:Int)<4294967296^(L+1):=by
 have hd:(q.den:Int)≠0:=by have:=den_pos q;omega
 rw [←fl_fdiv]
 exact fdiv_lt' h.1 hd
theorem side_half (q:Rat):cmpI ((fr q).num+(fr q).num) ((fr q).den:Int)=cmpQ (2*fr q) 1:=by
 have h1:2*fr q<1↔(fr q).num+(fr q).num<((fr q).den:Int):=by
  have:(2*fr q<1)↔fr q<1 / 2:=by constructor<;>intro<;>grind
  rw [this,Rat.lt_iff,show (1 / 2:Rat).num=1 by decide +kernel,show (1 / 2:Rat).den=2 by decide +kernel]
  omega
 have h2:1<2*fr q↔((fr q).den:Int)<(fr q).num+(fr q).num:=by
  have:(1<2*fr q)↔1 / 2<fr q:=by constructor<;>intro<;>grind
  rw [this,Rat.lt_iff,show (1 / 2:Rat).num=1 by decide +kernel,show (1 / 2:Rat).den=2 by decide +kernel]
  omega
 unfold cmpI cmpQ
 by_cases h:2*fr q<1
 ·rw [if_pos h,if_pos (h1.1 h)]
 ·rw [if_neg h,if_neg (fun g=>h (h1.2 g))]
  by_cases e:2*fr q=1
  ·rw [if_pos e,if_pos]
   have:¬ 1<2*fr q:=by grind
   have g1:¬ ((fr q).den:Int)<(fr q).num+(fr q).num:=fun g=>this (h2.2 g)
   have g2:¬ (fr q).num+(fr q).num<((fr q).den:Int):=fun g=>h (h1.2 g)
   omega
  ·rw [if_neg e,if_neg]
   have:=h2.1 (by grind)
   omega
theorem pow0 (L:Nat):((0:Int).natAbs:Int)<4294967296^L:=Int.pow_pos qD
theorem si_rightc{N:Nat} {L:List Loc} {ats:Array TypeId} [OpC E o0 (.qc q L0)] (hE:Tab w00) (hb:L0≤1000):StepT Tryz.prog w00 N L E ⟨some d, .call { callee:= .value (.func 103),args:= #[o0],argTypes:=ats },t0,pos,af,gd⟩ (.is (.bool true)):=
 sc1 ei_right fun X w v0 hX _ hB h0=>by
  obtain ⟨x,⟨hf,hl⟩,g⟩:=h0
  have:=crn_right (hE.below hB) hX (x:=x) (L:=L0) ⟨x,⟨rfl,(hf.len hl).1,(hf.len hl).2,hl.pos⟩,g⟩ hb
  rwa [hf.right] at this
theorem sN_zero{N:Nat} {L:List Loc} :StepT Tryz.prog w00 N L E ⟨some d, .build 25 #[],t0,pos,af,gd⟩ (.nn 0 0 w00.heap.size):=by
 constructor
 intro X ρ w hc _ hN hm hsl
 have hT:(VTy.nn 0 0 w00.heap.size).holds X w (.agg #[.bool false, .slice none 0 0]):=⟨(false,[]),⟨Whole.zero,by decide⟩,[.bool false, .slice none 0 0],rfl,num_rd.2 ⟨none,0,0,rfl,⟨Sl.nil,fun h=>by omega⟩,Dg.nil⟩⟩
 have HT:=Lib.hid hT
 clear hT hsl hm hc
 unfold Yields
 go_simp
 exact ⟨HT.out,Below.refl _ _⟩
theorem nn_nn(e:N=M) (hl:(M.natAbs:Int)<4294967296^K) (v:Value) (h:(VTy.nn N L B).holds X w v):(VTy.nn M K B).holds X w v:=by
 subst e
 obtain ⟨x,⟨h1,_⟩,g⟩:=h
 exact ⟨x,⟨h1,hl⟩,g⟩
theorem nn_fl(h:(VTy.nn (p.num.fdiv (p.den:Int)) L B).holds X w v):(VTy.nn p.floor L B).holds X w v:=by rw [←fl_fdiv];exact h
theorem nn_fl0(h:(VTy.nn 0 0 B).holds X w v):(VTy.nn (Rat.floor 0) L B).holds X w v:=nn_nn (by decide +kernel) (by rw [show Rat.floor 0=0 by decide +kernel];exact pow0 L) v h
theorem nn_eq(e:N=M) (v:Value) (h:(VTy.nn N L B).holds X w v):(VTy.nn M L B).holds X w v:=by rw [←e];exact h
theorem nn_nc(e:N=M) (hl:(M.natAbs:Int)<4294967296^K) (h:(VTy.nn N L B).holds X w v):(VTy.nc M K).holds X w v:=by
 subst e
 obtain ⟨x,⟨h1,_⟩,g⟩:=nwn_ex h
 exact ⟨x,⟨h1,hl⟩,g⟩
theorem qn_qn(e:p=q) (hl:Lq q K) (v:Value) (h:(VTy.qn p L B).holds X w v):(VTy.qn q K B).holds X w v:=by
 subst e
 obtain ⟨x,⟨h1,_⟩,g⟩:=h
 exact ⟨x,⟨h1,hl⟩,g⟩
theorem c_over{k:Int} (hL:L≤400) (hk: -9223372036854775808≤k∧k≤9223372036854775807) (h0:k≠0):Ctr Tryz.prog Tab 128 [2,0] [.na M L, .is (.int .i64 k)] (fun B=> .qn (Rat.divInt M k) (max L 2) B):=by
 refine ctr Tryz.func128 rfl Tryz.ntmps128 qE (fun _ _=>by kernel_rfl) fun X w hE=> ?_
 simp only [argE,Nat.zero_add,Nat.reduceAdd]
 repeat' first|kernel_rfl|apply g_seq|apply g_reg|apply g_nil|apply g_drawE (id:=1) [] [] 8 [6]|apply z_sto|apply z_asg|apply z_cl|apply o_all|apply o_go|exact OpsT.nil|exact GuardC.nil|exact UndefC.nil|apply g_box|apply g_all|apply g_sto|apply g_asg|apply g_st|apply g_skip|apply g_ct|apply g_cf|apply g_ret|refine r_1 rfl ?_|apply g_cl|exact sbn_of hk|exact si_new hE qO h0|exact st_move'|exact st_assign'|exact st_load'|exact st_extract'|exact st_loadE'|exact Cv.rfl'|(intro _;simp only[newX,newL,ptrs,List.map,List.cons_append,List.nil_append])|intro _
theorem c_whole(hL:L≤400):Ctr Tryz.prog Tab 74 [2] [.na M L] (fun B=> .qn (M:Rat) (max L 2) B):=by
 have e:Rat.divInt M 1=(M:Rat):=Rat.num_divInt_den (M:Rat)
 refine ctr Tryz.func74 rfl Tryz.ntmps74 qE (fun _ _=>by kernel_rfl) fun X w hE=> ?_
 simp only [argE,Nat.zero_add,Nat.reduceAdd]
 repeat' first|kernel_rfl|apply g_seq|apply g_reg|apply g_nil|apply g_box|apply g_all|apply g_sto|apply g_asg|apply g_st|apply g_skip|apply g_ct|apply g_cf|apply g_ret|refine r_1 rfl ?_|apply g_cl|exact sc hE (c_over qO qD qD)|exact st_load'|exact st_loadE'|exact ⟨fun _ _ v g=>qn_eq e v g⟩|exact Cv.rfl'|intro _
instance {N:Int} {L:Nat} {q:Rat} {K:Nat}:DownC fun B=> .tup [.nn N L B, .qn q K B]:=⟨fun hB h=>tup_imp (fun _ g=>nwn_le g hB) (fun _ g=>nw_le g hB) _ h⟩
theorem c_parts1(hL:L≤400) (hl:Lq p L):Ctr Tryz.prog Tab 172 [3] [.qc p L] (fun B=> .tup [.nn p.floor (L+1) B, .qn (fr p) L B]):=by
 obtain ⟨en,ed⟩:=fr_parts p
 have hd:(p.den:Int)≠0:=by have:=den_pos p;omega
 have ed':((fr p).den:Int)=p.den:=by rw [ed]
 have hl2:=hl.fr
 refine ctr Tryz.func172 rfl Tryz.ntmps172 qE (fun _ _=>by kernel_rfl) fun X w hE=> ?_
 simp only [argE,Nat.zero_add,Nat.reduceAdd]
 repeat' first|kernel_rfl|apply g_drawJ (id:=4) 8|apply j_go|apply j_keep|exact OpsJ.nil|apply keep_store|apply g_seq|apply g_reg|apply g_nil|apply o_all|apply o_go|exact OpsT.nil|exact GuardC.nil|exact UndefC.nil|apply g_box|apply g_all|apply g_sto|apply g_asg|apply g_st|apply g_skip|apply g_ct|apply g_cf|apply g_ret|refine r_2 rfl ?_|apply g_cl|exact sr_rightc hE qO|exact si_rightc hE qO|exact sbn_div hE qO hd|exact sN_one|exact sb_sum1 qO|exact sr_build|exact st_move'|exact st_assign'|exact st_load'|exact st_fieldAddr'|exact st_extract'|exact st_not' (b:=true) (u:=false) rfl|exact st_not' (b:=false) (u:=true) rfl|exact st_not' rfl|exact st_loadE'|exact ⟨fun _ _=>tup_imp (fun _ g=>nn_fl g) (fun v g=>ndn_qn en ed' hl2 v g)⟩|exact Cv.rfl'|(intro _;simp only[newX,newL,ptrs,List.map,List.cons_append,List.nil_append])|intro _
theorem c_parts0(hL:L≤400) (hq:qrt x=false) (hp:p=0) (h0:0<L):Ctr Tryz.prog Tab 172 [4] [.qx x L] (fun B=> .tup [.nn p.floor (L+1) B, .qn (fr p) L B]):=by
 subst hp
 have hl2:Lq (fr 0) L:=by rw [show fr 0=0 by decide +kernel];exact Lq.zero.mono h0
 have e:((0:Int):Rat)=fr 0:=by decide +kernel
 refine ctr Tryz.func172 rfl Tryz.ntmps172 qE (fun _ _=>by kernel_rfl) fun X w hE=> ?_
 simp only [argE,Nat.zero_add,Nat.reduceAdd]
 repeat' first|kernel_rfl|apply g_drawJ (id:=4) 8|apply j_go|apply j_keep|exact OpsJ.nil|apply keep_store|apply g_seq|apply g_reg|apply g_nil|apply o_all|apply o_go|exact OpsT.nil|exact GuardC.nil|exact UndefC.nil|apply g_box|apply g_all|apply g_sto|apply g_asg|apply g_st|apply g_skip|apply g_ct|apply g_cf|apply g_ret|refine r_2 rfl ?_|apply g_cl|exact si_right hE qO hq|exact sN_zero|exact si_whole hE qD|exact st_move'|exact st_assign'|exact st_load'|exact st_fieldAddr'|exact st_extract'|exact st_not' (b:=true) (u:=false) rfl|exact st_not' (b:=false) (u:=true) rfl|exact st_not' rfl|exact st_loadE'|exact ⟨fun _ _=>tup_imp (fun _ g=>nn_fl0 g) (fun v g=>qn_qn e hl2 v g)⟩|exact Cv.rfl'|(intro _;simp only[newX,newL,ptrs,List.map,List.cons_append,List.nil_append])|intro _
theorem c_parts(hL:L≤400):Ctr Tryz.prog Tab 172 [1] [.qa p L] (fun B=> .tup [.nn p.floor (L+1) B, .qn (fr p) L B]):=ctrQ (fun _ _=>by kernel_rfl) (c_parts1 hL) (fun _ hq hp h0=>c_parts0 hL hq hp h0)
theorem c_side(hK:K≤400):Ctr Tryz.prog Tab 126 [3] [.qc q K] (fun B=> .is (.int .i64 (cmpI (q.num+q.num) (q.den:Int)))):=by
 refine ctr Tryz.func126 rfl Tryz.ntmps126 qE (fun _ _=>by kernel_rfl) fun X w hE=> ?_
 simp only [argE,Nat.zero_add,Nat.reduceAdd]
 repeat' first|kernel_rfl|apply g_seq|apply g_reg|apply g_nil|apply g_draw (id:=1) [] [] 8|apply o_all|apply o_go|exact OpsT.nil|exact GuardC.nil|exact UndefC.nil|apply g_box|apply g_all|apply g_sto|apply g_asg|apply g_st|apply g_skip|apply g_ct|apply g_cf|apply g_ret|refine r_1 rfl ?_|apply g_cl|exact sbn_add qO|exact sb_cmp qO|exact st_assign'|exact st_load'|exact st_fieldAddr'|exact st_loadE'|exact Cv.rfl'|(intro _;simp only[newX,newL,ptrs,List.map,List.cons_append,List.nil_append])|intro _
instance:SliceC Tryz.prog 23 1:=⟨⟨_,Tryz.underlying23,by kernel_rfl⟩⟩
theorem odd_cons{s:Bool} {y:Int} {ys:List Int} (h:Whole N s (y::ys)):0≤y∧N%2=y%2:=by
 have hd:=h.row.dg
 have hv:=h.val
 unfold ival at hv
 rw [h.right,cond_true] at hv
 have e:val 4294967296 (y::ys)=y+4294967296*val 4294967296 ys:=rfl
 have h0:0≤y:=(hd y List.mem_cons_self).1
 refine ⟨h0,?_⟩
 rw [←hv,e]
 unfold sgv
 cases s<;>simp<;>omega
theorem odd_nil{s:Bool} (h:Whole N s []):N%2=0:=by
 have hv:=h.val
 unfold ival at hv
 rw [h.right,cond_true] at hv
 rw [←hv]
 cases s<;>rfl
theorem c_oddX{x:RawI} (hw:Whole M x.1 x.2):Ctr Tryz.prog Tab 127 [6] [.nx x L] (fun _=> .is (.bool (M%2==1))):=by
 cases hx:x.2 with
 |nil=>
  rw [hx] at hw
  have e:(M%2==1)=false:=by rw [odd_nil hw];rfl
  have hc:decide ((0:Int)<(x.2.length:Int))=false:=by rw [hx];rfl
  refine ctr Tryz.func127 rfl Tryz.ntmps127 qE (fun _ _=>by kernel_rfl) fun X w hE=> ?_
  simp only [argE,Nat.zero_add,Nat.reduceAdd]
  repeat' first|kernel_rfl|apply g_seq|apply g_reg|apply g_nil|apply g_box|apply g_all|apply g_sto|apply g_asg|refine g_run rfl inferInstance (by first|exact st_limbAt hy|exact st_limb|exact st_rem2 hy0|exact st_load'|exact st_fieldAddr'|exact st_eq' (by first|assumption|rfl)|exact st_indexAddr' (by assumption)|exact st_loadE') qK ?_|refine g_sk rfl inferInstance rfl qK ?_|refine g_un rfl inferInstance qK ?_|apply g_st|apply g_skip|apply g_ct|apply g_cf|apply g_ret|refine r_1 rfl ?_|apply g_cl|exact st_lenL|exact st_limbAt hy|exact st_limb|exact st_rem2 hy0|exact st_move'|exact st_assign'|exact st_load'|exact st_fieldAddr'|exact st_and_t'|exact st_and_f'|exact st_eq' qG|exact st_gtr' qG|exact st_len'|exact st_indexAddr' qL|exact st_loadE'|exact ⟨fun _ _=>(is_is (congrArg Value.bool e.symm))⟩|exact Cv.rfl'|intro _
 |cons y ys=>
  rw [hx] at hw
  obtain ⟨hy0,e0⟩:=odd_cons hw
  have hy:x.2[0]? =some y:=by rw [hx];rfl
  have e:(M%2==1)=(y%2==1):=by rw [e0]
  have hc:decide ((0:Int)<(x.2.length:Int))=true:=by rw [hx];exact decide_eq_true qE
  refine ctr Tryz.func127 rfl Tryz.ntmps127 qE (fun _ _=>by kernel_rfl) fun X w hE=> ?_
  simp only [argE,Nat.zero_add,Nat.reduceAdd]
  repeat' first|kernel_rfl|apply g_seq|apply g_reg|apply g_nil|apply g_box|apply g_all|apply g_sto|apply g_asg|refine g_run rfl inferInstance (by first|exact st_limbAt hy|exact st_limb|exact st_rem2 hy0|exact st_load'|exact st_fieldAddr'|exact st_eq' (by first|assumption|rfl)|exact st_indexAddr' (by assumption)|exact st_loadE') qK ?_|refine g_sk rfl inferInstance rfl qK ?_|refine g_un rfl inferInstance qK ?_|apply g_st|apply g_skip|apply g_ct|apply g_cf|apply g_ret|refine r_1 rfl ?_|apply g_cl|exact st_lenL|exact st_limbAt hy|exact st_limb|exact st_rem2 hy0|exact st_move'|exact st_assign'|exact st_load'|exact st_fieldAddr'|exact st_and_t'|exact st_and_f'|exact st_eq' qG|exact st_gtr' qG|exact st_len'|exact st_indexAddr' qL|exact st_loadE'|exact ⟨fun _ _=>(is_is (congrArg Value.bool e.symm))⟩|exact Cv.rfl'|intro _
theorem c_odd:Ctr Tryz.prog Tab 127 [5] [.nc M L] (fun _=> .is (.bool (M%2==1))):=ctrM (fun _ _=>by kernel_rfl) fun _ hw=>c_oddX hw
theorem c_uphalf{K2:Nat} (hK:K≤90∧K2≤90):Ctr Tryz.prog Tab 125 [5,3] [.nc M K, .qc q K2] (fun _=> .is (.bool (decide (0<cmpI (q.num+q.num) (q.den:Int)) || ((cmpI (q.num+q.num) (q.den:Int)==0)&&(M%2==1))))):=by
 generalize hs:cmpI (q.num+q.num) (q.den:Int)=z
 cases e1:decide (0<z) with
 |true=>
  have e:(true || ((z==0)&&(M%2==1)))=true:=rfl
  subst hs
  refine ctr Tryz.func125 rfl Tryz.ntmps125 qE (fun _ _=>by kernel_rfl) fun X w hE=> ?_
  simp only [argE,Nat.zero_add,Nat.reduceAdd]
  repeat' first|kernel_rfl|apply g_seq|apply g_reg|apply g_nil|apply g_box|apply g_all|apply g_sto|apply g_asg|refine g_run rfl inferInstance (by first|exact sc hE (c_side qO)|exact sc hE c_odd|exact st_move'|exact st_load'|exact st_and_t'|exact st_and_f'|exact st_eq' qG|exact st_loadE') qK ?_|refine g_sk rfl inferInstance rfl qK ?_|refine g_un rfl inferInstance qK ?_|apply g_st|apply g_skip|apply g_ct|apply g_cf|apply g_ret|refine r_1 rfl ?_|apply g_cl|exact sc hE (c_side qO)|exact sc hE c_odd|exact st_move'|exact st_assign'|exact st_load'|exact st_and_t'|exact st_and_f'|exact st_or_f'|exact st_or_t'|exact st_eq' qG|exact st_gtr' qG|exact st_loadE'|exact ⟨fun _ _=>(is_is (congrArg Value.bool e.symm))⟩|exact Cv.rfl'|intro _
 |false=>
  cases e2:(z==0) with
  |false=>
   have e:(false || (false&&(M%2==1)))=false:=rfl
   subst hs
   refine ctr Tryz.func125 rfl Tryz.ntmps125 qE (fun _ _=>by kernel_rfl) fun X w hE=> ?_
   simp only [argE,Nat.zero_add,Nat.reduceAdd]
   repeat' first|kernel_rfl|apply g_seq|apply g_reg|apply g_nil|apply g_box|apply g_all|apply g_sto|apply g_asg|refine g_run rfl inferInstance (by first|exact sc hE (c_side qO)|exact sc hE c_odd|exact st_move'|exact st_load'|exact st_and_t'|exact st_and_f'|exact st_eq' qG|exact st_loadE') qK ?_|refine g_sk rfl inferInstance rfl qK ?_|refine g_un rfl inferInstance qK ?_|apply g_st|apply g_skip|apply g_ct|apply g_cf|apply g_ret|refine r_1 rfl ?_|apply g_cl|exact sc hE (c_side qO)|exact sc hE c_odd|exact st_move'|exact st_assign'|exact st_load'|exact st_and_t'|exact st_and_f'|exact st_or_f'|exact st_or_t'|exact st_eq' qG|exact st_gtr' qG|exact st_loadE'|exact ⟨fun _ _=>(is_is (congrArg Value.bool e.symm))⟩|exact Cv.rfl'|intro _
  |true=>
   have e:(false || (true&&(M%2==1)))=(M%2==1):=rfl
   subst hs
   refine ctr Tryz.func125 rfl Tryz.ntmps125 qE (fun _ _=>by kernel_rfl) fun X w hE=> ?_
   simp only [argE,Nat.zero_add,Nat.reduceAdd]
   repeat' first|kernel_rfl|apply g_seq|apply g_reg|apply g_nil|apply g_box|apply g_all|apply g_sto|apply g_asg|refine g_run rfl inferInstance (by first|exact sc hE (c_side qO)|exact sc hE c_odd|exact st_move'|exact st_load'|exact st_and_t'|exact st_and_f'|exact st_eq' qG|exact st_loadE') qK ?_|refine g_sk rfl inferInstance rfl qK ?_|refine g_un rfl inferInstance qK ?_|apply g_st|apply g_skip|apply g_ct|apply g_cf|apply g_ret|refine r_1 rfl ?_|apply g_cl|exact sc hE (c_side qO)|exact sc hE c_odd|exact st_move'|exact st_assign'|exact st_load'|exact st_and_t'|exact st_and_f'|exact st_or_f'|exact st_or_t'|exact st_eq' qG|exact st_gtr' qG|exact st_loadE'|exact ⟨fun _ _=>(is_is (congrArg Value.bool e.symm))⟩|exact Cv.rfl'|intro _
theorem c_rounded(hL:L≤80) (hf:Ctr Tryz.prog Tab f [5,3] [.nc p.floor (L+1), .qc (fr p) L] (fun _=> .is (.bool u))):Ctr Tryz.prog Tab 124 [1,0] [.qa p L, .fv f [] []] (fun B=> .nn (bif u then p.floor+1 else p.floor) (L+2) B):=by
 refine ctrF (F:=Lq p L) (fun ha=> ?_) (fun _ _=>by kernel_rfl) fun hl=> ?_
 ·obtain ⟨v,us,rfl,h1,_⟩:=ha.tail
  exact (qa_Lq h1).1
 have ha:=fl_abs hl
 have hp:(4294967296:Int)^(L+2)=4294967296*4294967296^(L+1):=by rw [Int.pow_succ,Int.mul_comm]
 have hb0:(p.floor.natAbs:Int)<4294967296^(L+2):=qO
 have hb1:((p.floor+1).natAbs:Int)<4294967296^(L+2):=qO
 cases u with
 |true=>
  refine ctr Tryz.func124 rfl Tryz.ntmps124 qE (fun _ _=>by kernel_rfl) fun X w hE=> ?_
  simp only [argE,Nat.zero_add,Nat.reduceAdd]
  repeat' first|kernel_rfl|apply g_seq|apply g_reg|apply g_nil|apply g_draw (id:=3) [] [] 3|apply o_all|apply o_go|exact OpsT.nil|exact GuardC.nil|exact UndefC.nil|apply g_box|apply g_all|apply g_sto|apply g_asg|apply g_st|apply g_skip|apply g_ct|apply g_cf|apply g_ret|refine r_1 rfl ?_|apply g_cl|exact sc hE (c_parts qO)|exact scv hE hf|exact sbn_of qO|exact sbn_add qO|exact st_move'|exact st_load'|exact st_extract'|exact st_loadE'|exact ⟨fun _ _=>nn_nn rfl hb1⟩|exact Cv.rfl'|(intro _;simp only[newX,newL,ptrs,List.map,List.cons_append,List.nil_append])|intro _
 |false=>
  refine ctr Tryz.func124 rfl Tryz.ntmps124 qE (fun _ _=>by kernel_rfl) fun X w hE=> ?_
  simp only [argE,Nat.zero_add,Nat.reduceAdd]
  repeat' first|kernel_rfl|apply g_seq|apply g_reg|apply g_nil|apply g_draw (id:=3) [] [] 3|apply o_all|apply o_go|exact OpsT.nil|exact GuardC.nil|exact UndefC.nil|apply g_box|apply g_all|apply g_sto|apply g_asg|apply g_st|apply g_skip|apply g_ct|apply g_cf|apply g_ret|refine r_1 rfl ?_|apply g_cl|exact sc hE (c_parts qO)|exact scv hE hf|exact sbn_of qO|exact sbn_add qO|exact st_move'|exact st_load'|exact st_extract'|exact st_loadE'|exact ⟨fun _ _=>nn_nn rfl hb0⟩|exact Cv.rfl'|(intro _;simp only[newX,newL,ptrs,List.map,List.cons_append,List.nil_append])|intro _
theorem up_half (p:Rat):(bif decide (0<cmpI ((fr p).num+(fr p).num) ((fr p).den:Int)) || ((cmpI ((fr p).num+(fr p).num) ((fr p).den:Int)==0)&&(p.floor%2==1)) then p.floor+1 else p.floor)=hf p:=by
 rw [side_half,show decide (0<cmpQ (2*fr p) 1)=decide (1<2*fr p) from decide_eq_decide.2 cmpQ_gt,show (cmpQ (2*fr p) 1==0)=decide (2*fr p=1) from by rw [Bool.eq_iff_iff,beq_iff_eq,decide_eq_true_eq,cmpQ_zero]]
 unfold hf
 by_cases h:2*fr p<1
 ·rw [decide_eq_true h,decide_eq_false (show ¬ 1<2*fr p by grind),decide_eq_false (show ¬ 2*fr p=1 by grind)];rfl
 ·by_cases h2:2*fr p=1
  ·rw [decide_eq_false h,decide_eq_true h2,decide_eq_false (show ¬ 1<2*fr p by grind)]
   by_cases h3:p.floor%2=0
   ·rw [decide_eq_true h3,show (p.floor%2==1)=false by rw [h3];rfl];rfl
   ·rw [decide_eq_false h3,show (p.floor%2==1)=true by rw [beq_iff_eq];omega];rfl
  ·rw [decide_eq_false h,decide_eq_false h2,decide_eq_true (show 1<2*fr p by grind)];rfl
theorem c_half(hL:L≤80):Ctr Tryz.prog Tab 73 [1] [.qa p L] (fun B=> .nn (hf p) (L+2) B):=by
 refine ctr Tryz.func73 rfl Tryz.ntmps73 qE (fun _ _=>by kernel_rfl) fun X w hE=> ?_
 simp only [argE,Nat.zero_add,Nat.reduceAdd]
 repeat' first|kernel_rfl|apply g_seq|apply g_reg|apply g_nil|apply g_box|apply g_all|apply g_sto|apply g_asg|apply g_st|apply g_skip|apply g_ct|apply g_cf|apply g_ret|refine r_1 rfl ?_|apply g_cl|exact sc hE (c_rounded qO (c_uphalf qO))|exact st_load'|exact st_loadE'|exact ⟨fun _ _=>nn_eq (up_half p)⟩|exact Cv.rfl'|intro _
theorem pow10(h:n≤40):(((10:Int)^n).natAbs:Int)<4294967296^5:=by
 have h1:(10:Int)^n≤10^40:=pow_mono qD h
 have h2:(0:Int)<10^n:=Int.pow_pos qD
 have h3:(10:Int)^40<4294967296^5:=by decide
 omega
theorem c_tens(hn:n≤40):Ctr Tryz.prog Tab 75 [0] [.is (.int .i64 (n:Int))] (fun _=> .nc (10^n) 5):=by
 refine ctr Tryz.func75 rfl Tryz.ntmps75 qE (fun _ _=>by kernel_rfl) fun X w hE=> ?_
 simp only [argE,Nat.zero_add,Nat.reduceAdd]
 repeat' first|kernel_rfl|apply g_seq|apply g_reg|apply g_nil|apply o_all|apply o_go|exact OpsT.nil|exact GuardC.nil|exact UndefC.nil|apply g_box|apply g_all|apply g_sto|apply g_asg|apply g_st|apply g_skip|apply g_ct|apply g_cf|apply g_ret|refine r_1 rfl ?_|apply g_cl|exact sbn_of qO|exact sbn_mul qO|exact st_add' hw|exact st_lss' hc|exact st_move'|exact st_load'|exact st_lss' qG|exact st_loadE'|exact Cv.rfl'|(intro _;simp only[newX,newL,ptrs,List.map,List.cons_append,List.nil_append])|intro _
 refine g_stop fun a w h=> ?_
 refine cw_block ?_
 refine cw_loop (fun k a w=>∃ i:Nat,i+k=n∧TS _ _ [(_,VTy.nc (10^i) 5),(_,VTy.na 0 0)] [(6, .is (.int .i64 (i:Int))),(5, .is (.int .i64 (n:Int))),(3, .is (.pointer (some ⟨_,0,none⟩))),(2, .is (.pointer (some ⟨_,0,none⟩)))] 13 a w) n ⟨0,by omega,(h.keep [6,5,3,2]).locs (.cons (fun _ _ _=>nn_nc rfl qD) (.same .nil))⟩ ?_
 clear h
 rintro k a w ⟨i,hi,h⟩
 by_cases hlt:i<n
 ·have hc:decide ((i:Int)<(n:Int))=true:=decide_eq_true qO
  have hw:=i64_next hlt qO
  refine g_of h ?_
  clear h
  repeat' first|kernel_rfl|exact g_done fun _ _ h=>⟨k - 1,by omega,i+1,by omega,(h.keep [6,5,3,2]).locs (.cons (fun _ _ _=>nn_nc (Int.pow_succ ..).symm (pow10 qO)) (.same .nil))⟩|apply g_seq|apply g_reg|apply g_nil|apply g_mv (s:=6)|apply g_draw (id:=4) [] [] 3|apply o_all|apply o_go|exact OpsT.nil|exact GuardC.nil|exact UndefC.nil|apply g_box|apply g_all|apply g_sto|apply g_asg|apply g_st|apply g_skip|apply g_ct|apply g_cf|apply g_ret|refine r_1 rfl ?_|apply g_blk|apply g_eb|apply g_ex|apply e_t|apply e_h|refine e_o rfl ?_|apply r_t|apply r_b|apply g_cl|exact sbn_of qO|exact sbn_mul qO|exact st_add' hw|exact st_lss' hc|exact st_move'|exact st_load'|exact st_lss' qG|exact st_loadE'|exact Cv.rfl'|(intro _;simp only[newX,newL,ptrs,List.map,List.cons_append,List.nil_append])|intro _
 ·have hc:decide ((i:Int)<(n:Int))=false:=decide_eq_false qO
  obtain rfl:i=n:=qO
  refine g_of h ?_
  clear h
  repeat' first|kernel_rfl|apply g_seq|apply g_reg|apply g_nil|apply g_mv (s:=6)|apply g_draw (id:=4) [] [] 3|apply o_all|apply o_go|exact OpsT.nil|exact GuardC.nil|exact UndefC.nil|apply g_box|apply g_all|apply g_sto|apply g_asg|apply g_st|apply g_skip|apply g_ct|apply g_cf|apply g_ret|refine r_1 rfl ?_|apply g_blk|apply g_eb|apply g_ex|apply e_t|apply e_h|refine e_o rfl ?_|apply r_t|apply r_b|apply g_cl|exact sbn_of qO|exact sbn_mul qO|exact st_add' hw|exact st_lss' hc|exact st_move'|exact st_load'|exact st_lss' qG|exact st_loadE'|exact Cv.rfl'|(intro _;simp only[newX,newL,ptrs,List.map,List.cons_append,List.nil_append])|intro _
instance {N:Int} {L:Nat} {c:Value}:DownC fun B=> .tup [.nn N L B, .is c]:=⟨fun hB h=>tup_imp (fun _ g=>nwn_le g hB) (fun _ g=>g) _ h⟩
theorem c_places(hL:L≤60) (hn:n≤40):Ctr Tryz.prog Tab 33 [1,0] [.qa p L, .is (.int .i64 (n:Int))] (fun B=> .tup [.nn (hf (p*((10^n:Int):Rat))) (L+5+2) B, .is (.int .i64 0)]):=by
 have hc1:decide ((n:Int)<0)=false:=decide_eq_false qO
 have hc2:decide ((40:Int)<(n:Int))=false:=decide_eq_false qO
 refine ctr Tryz.func33 rfl Tryz.ntmps33 qE (fun _ _=>by kernel_rfl) fun X w hE=> ?_
 simp only [argE,Nat.zero_add,Nat.reduceAdd]
 repeat' first|kernel_rfl|apply g_seq|apply g_reg|apply g_nil|apply g_draw (id:=5) [] [] 6|apply o_all|apply o_go|exact OpsT.nil|exact GuardC.nil|exact UndefC.nil|apply g_box|apply g_all|apply g_sto|apply g_asg|apply g_st|apply g_skip|apply g_ct|apply g_cf|apply g_ret|refine r_2 rfl ?_|apply g_blk|apply g_eb|apply g_ex|apply e_t|apply e_h|refine e_o rfl ?_|apply r_t|apply r_b|apply g_cl|exact st_lss' hc1|exact st_gtr' hc2|exact sc hE (c_tens hn)|exact sc hE (c_whole qO)|exact si_mul hE qO|exact sc hE (c_half qO)|exact st_move'|exact st_assign'|exact st_load'|exact st_lss' qG|exact st_gtr' qG|exact st_loadE'|exact Cv.rfl'|(intro _;simp only[newX,newL,ptrs,List.map,List.cons_append,List.nil_append])|intro _
def whq (x:RawQ):Bool:=qrt x&&decide ((qv x).den=1)
instance {L:Nat} {x:RawQ}:AsX (.el Rp.frac (fewQ L) x) x L:=⟨fun ⟨y,h,g⟩=>⟨y,⟨h.1,by rw [←h.1];exact h.2⟩,g⟩⟩
instance {L:Nat} {x:RawQ}:PartC (.el Rp.frac (fewQ L) x) 2 2 true (.nx x.2 L):= .snd fun y h=>⟨by rw [h.1],by rw [←h.1];exact h.2.2.1⟩
theorem rq_den(h:(VTy.rq L l).holds X w v):l.length≤9223372036854775807∧∀ x∈l,qrt x=true→((qv x).den:Int)=iv x.2:=by
 refine ⟨(rq_max h).1,fun x hx hq=> ?_⟩
 obtain ⟨hp,A,n,c,_,hs⟩:=h
 have h2:=hs.1
 obtain ⟨j,hj⟩:=List.mem_iff_getElem?.1 hx
 have hjl:=(List.getElem?_eq_some_iff.1 hj).1
 obtain ⟨b,off,_,_,hc⟩:=hs.2.2.2.2 qO
 obtain ⟨cs,_,g⟩:=hc j x hj
 obtain ⟨c1,c2,rfl,g1,g2⟩:=frac_rd.1 g
 obtain ⟨_,_,_,_,_,d1⟩:=num_rd.1 g1
 obtain ⟨_,_,_,_,_,d2⟩:=num_rd.1 g2
 exact (Frac.of d1 d2 hq).2.2
theorem all_take{f:RawQ→Bool} (hx:l[i]? =some x) (h:(l.take i).all f=true) (hf:f x=true):(l.take (i+1)).all f=true:=by
 rw [take_one hx,List.all_append,h]
 simp [hf]
theorem all_false{f:RawQ→Bool} (hx:l[i]? =some x) (hf:f x=false):l.all f=false:=List.all_eq_false.2 ⟨x,List.mem_of_getElem? hx,by rw [hf];exact Bool.false_ne_true⟩
theorem si_rightX{N:Nat} {L:List Loc} {ats:Array TypeId} [OpC E o0 T0] [a0:AsX T0 x L0] (hE:Tab w00) (hb:L0≤1000) (hu:qrt x=u):
 StepT Tryz.prog w00 N L E ⟨some d, .call { callee:= .value (.func 103),args:= #[o0],argTypes:=ats },t0,pos,af,gd⟩ (.is (.bool u)):=by
 rw [←hu]
 exact sc1 ei_right fun X w v0 hX _ hB h0=>crn_right (hE.below hB) hX (a0.ok h0) hb
theorem c_iswhole(hK:K≤400):Ctr Tryz.prog Tab 47 [8] [.rq K l] (fun _=> .is (.bool (l.all whq))):=by
 refine ctrF (F:=l.length≤9223372036854775807∧∀ x∈l,qrt x=true→((qv x).den:Int)=iv x.2) (fun ha=> ?_) (fun _ _=>by kernel_rfl) fun ⟨hmx,hfd⟩=> ?_
 ·obtain ⟨v,rfl,g⟩:=ha.one
  exact rq_den g
 refine ctr Tryz.func47 rfl Tryz.ntmps47 qE (fun _ _=>by kernel_rfl) fun X w hE=> ?_
 simp only [argE,Nat.zero_add,Nat.reduceAdd]
 repeat' first|kernel_rfl|apply g_seq|apply g_reg|apply g_nil|apply o_all|apply o_go|exact OpsT.nil|exact GuardC.nil|exact UndefC.nil|refine @GuardC.cons _ _ _ _ inferInstance ?_|refine @UndefC.cons _ _ _ inferInstance ?_|apply g_box|apply g_all|apply g_sto|apply g_asg|refine g_run rfl inferInstance (by first|fail) qK ?_|refine g_sk rfl inferInstance rfl qK ?_|refine g_un rfl inferInstance qK ?_|apply g_st|apply g_skip|apply g_ct|apply g_cf|apply g_ret|refine r_1 rfl ?_|apply g_cl|exact st_len'|exact st_lss' hc|exact st_indexAddr' hx|exact st_loadE'|exact st_add' hw|exact sbn_of qO|exact sb_cmp qO|exact si_rightX hE qO hq|exact st_move'|exact st_assign'|exact st_load'|exact st_fieldAddr'|exact st_or_f'|exact st_or_t'|exact st_not' (b:=true) (u:=false) rfl|exact st_not' (b:=false) (u:=true) rfl|exact st_not' rfl|exact st_neq' qG|exact st_lss' qG|exact st_len'|exact st_indexAddr' qL|exact st_loadE'|exact Cv.rfl'|(intro _;simp only[newX,newL,ptrs,List.map,List.cons_append,List.nil_append])|intro _
 refine g_stop fun a w h=> ?_
 refine cw_block ?_
 refine cw_loop (fun k a w=>∃ i:Nat,i+k=l.length∧(l.take i).all whq=true∧TS _ X [] [(7, .is (.int .i64 (i:Int))),(6, .is (.int .i64 l.length)),(5, .rq K l),(2, .is (.bool false)),(0, .rq K l)] 22 a w) l.length ⟨0,by omega,rfl,h.keep [7,6,5,2,0]⟩ ?_
 clear h
 rintro k a w ⟨i,hi,hall,h⟩
 by_cases hlt:i<l.length
 ·obtain ⟨x,hx⟩:∃ x,l[i]? =some x:=⟨_,List.getElem?_eq_getElem hlt⟩
  have hc:decide ((i:Int)<(l.length:Int))=true:=decide_eq_true qO
  have hw:=i64_next hlt hmx
  have hd:=hfd x (List.mem_of_getElem? hx)
  clear hfd
  cases hq:qrt x with
  |false=>
   have hr:l.all whq=false:=all_false hx (by unfold whq;rw [hq];rfl)
   refine g_of h ?_
   clear h
   repeat' first|kernel_rfl|apply g_seq|apply g_reg|apply g_nil|apply g_mv (s:=7)|apply g_draw (id:=4) [(14,true)] [] 9|(apply o_sk;(focus rfl);(focus kernel_rfl))|apply o_all|apply o_go|exact OpsT.nil|exact GuardC.nil|exact UndefC.nil|refine @GuardC.cons _ _ _ _ inferInstance ?_|refine @UndefC.cons _ _ _ inferInstance ?_|apply g_box|apply g_all|apply g_sto|apply g_asg|refine g_run rfl inferInstance (by first|fail) qK ?_|refine g_sk rfl inferInstance rfl qK ?_|refine g_un rfl inferInstance qK ?_|apply g_st|apply g_skip|apply g_ct|apply g_cf|apply g_ret|refine r_1 rfl ?_|apply g_blk|apply g_eb|apply g_ex|apply e_t|apply e_h|refine e_o rfl ?_|apply r_t|apply r_b|apply g_cl|exact st_len'|exact st_lss' hc|exact st_indexAddr' hx|exact st_loadE'|exact st_add' hw|exact sbn_of qO|exact sb_cmp qO|exact si_rightX hE qO hq|exact st_move'|exact st_assign'|exact st_load'|exact st_fieldAddr'|exact st_or_f'|exact st_or_t'|exact st_not' (b:=true) (u:=false) rfl|exact st_not' (b:=false) (u:=true) rfl|exact st_not' rfl|exact st_neq' qG|exact st_lss' qG|exact st_len'|exact st_indexAddr' qL|exact st_loadE'|exact ⟨fun _ _=>(is_is (congrArg Value.bool hr.symm))⟩|exact Cv.rfl'|(intro _;simp only[newX,newL,ptrs,List.map,List.cons_append,List.nil_append])|intro _
  |true=>
   replace hd:=hd hq
   cases hc1:(cmpI (iv x.2) 1 != 0) with
   |true=>
    have hr:l.all whq=false:=all_false hx (by
     unfold whq
     rw [hq,decide_eq_false fun e=> ?_];rfl
     rw [←hd,e] at hc1
     exact absurd hc1 qD)
    refine g_of h ?_
    clear h
    repeat' first|kernel_rfl|apply g_seq|apply g_reg|apply g_nil|apply g_mv (s:=7)|apply g_draw (id:=4) [(14,false)] [] 9|apply o_all|apply o_go|exact OpsT.nil|exact GuardC.nil|exact UndefC.nil|refine @GuardC.cons _ _ _ _ inferInstance ?_|refine @UndefC.cons _ _ _ inferInstance ?_|apply g_box|apply g_all|apply g_sto|apply g_asg|refine g_run rfl inferInstance (by first|fail) qK ?_|refine g_sk rfl inferInstance rfl qK ?_|refine g_un rfl inferInstance qK ?_|apply g_st|apply g_skip|apply g_ct|apply g_cf|apply g_ret|refine r_1 rfl ?_|apply g_blk|apply g_eb|apply g_ex|apply e_t|apply e_h|refine e_o rfl ?_|apply r_t|apply r_b|apply g_cl|exact st_len'|exact st_lss' hc|exact st_indexAddr' hx|exact st_loadE'|exact st_add' hw|exact sbn_of qO|exact sb_cmp qO|exact si_rightX hE qO hq|exact st_move'|exact st_assign'|exact st_load'|exact st_fieldAddr'|exact st_or_f'|exact st_or_t'|exact st_not' (b:=true) (u:=false) rfl|exact st_not' (b:=false) (u:=true) rfl|exact st_not' rfl|exact st_neq' qG|exact st_lss' qG|exact st_len'|exact st_indexAddr' qL|exact st_loadE'|exact ⟨fun _ _=>(is_is (congrArg Value.bool hr.symm))⟩|exact Cv.rfl'|(intro _;simp only[newX,newL,ptrs,List.map,List.cons_append,List.nil_append])|intro _
   |false=>
    have hq2:(l.take (i+1)).all whq=true:=all_take hx hall (by
     unfold whq
     have:cmpI (iv x.2) 1=0:=by simpa using hc1
     rw [cmpI_zero] at this
     rw [hq,decide_eq_true qO];rfl)
    refine g_of h ?_
    clear h
    repeat' first|kernel_rfl|exact g_done fun _ _ h=>⟨k - 1,by omega,i+1,by omega,hq2,((h.keep [7,6,5,2,0]).tail).less (fun b hb=>List.mem_cons_of_mem _ hb) qE⟩|apply g_seq|apply g_reg|apply g_nil|apply g_mv (s:=7)|apply g_draw (id:=4) [(14,false)] [] 9|apply o_all|apply o_go|exact OpsT.nil|exact GuardC.nil|exact UndefC.nil|refine @GuardC.cons _ _ _ _ inferInstance ?_|refine @UndefC.cons _ _ _ inferInstance ?_|apply g_box|apply g_all|apply g_sto|apply g_asg|refine g_run rfl inferInstance (by first|fail) qK ?_|refine g_sk rfl inferInstance rfl qK ?_|refine g_un rfl inferInstance qK ?_|apply g_st|apply g_skip|apply g_ct|apply g_cf|apply g_ret|refine r_1 rfl ?_|apply g_blk|apply g_eb|apply g_ex|apply e_t|apply e_h|refine e_o rfl ?_|apply r_t|apply r_b|apply g_cl|exact st_len'|exact st_lss' hc|exact st_indexAddr' hx|exact st_loadE'|exact st_add' hw|exact sbn_of qO|exact sb_cmp qO|exact si_rightX hE qO hq|exact st_move'|exact st_assign'|exact st_load'|exact st_fieldAddr'|exact st_or_f'|exact st_or_t'|exact st_not' (b:=true) (u:=false) rfl|exact st_not' (b:=false) (u:=true) rfl|exact st_not' rfl|exact st_neq' qG|exact st_lss' qG|exact st_len'|exact st_indexAddr' qL|exact st_loadE'|exact Cv.rfl'|(intro _;simp only[newX,newL,ptrs,List.map,List.cons_append,List.nil_append])|intro _
 ·have hc:decide ((i:Int)<(l.length:Int))=false:=decide_eq_false qO
  have hr:l.all whq=true:=by rw [List.take_of_length_le qO] at hall;exact hall
  refine g_of h ?_
  clear h
  repeat' first|kernel_rfl|apply g_seq|apply g_reg|apply g_nil|apply g_mv (s:=7)|apply g_draw (id:=4) [(14,false)] [] 9|apply o_all|apply o_go|exact OpsT.nil|exact GuardC.nil|exact UndefC.nil|refine @GuardC.cons _ _ _ _ inferInstance ?_|refine @UndefC.cons _ _ _ inferInstance ?_|apply g_box|apply g_all|apply g_sto|apply g_asg|refine g_run rfl inferInstance (by first|fail) qK ?_|refine g_sk rfl inferInstance rfl qK ?_|refine g_un rfl inferInstance qK ?_|apply g_st|apply g_skip|apply g_ct|apply g_cf|apply g_ret|refine r_1 rfl ?_|apply g_blk|apply g_eb|apply g_ex|apply e_t|apply e_h|refine e_o rfl ?_|apply r_t|apply r_b|apply g_cl|exact st_len'|exact st_lss' hc|exact st_indexAddr' hx|exact st_loadE'|exact st_add' hw|exact sbn_of qO|exact sb_cmp qO|exact si_rightX hE qO hq|exact st_move'|exact st_assign'|exact st_load'|exact st_fieldAddr'|exact st_or_f'|exact st_or_t'|exact st_not' (b:=true) (u:=false) rfl|exact st_not' (b:=false) (u:=true) rfl|exact st_not' rfl|exact st_neq' qG|exact st_lss' qG|exact st_len'|exact st_indexAddr' qL|exact st_loadE'|exact ⟨fun _ _=>(is_is (congrArg Value.bool hr.symm))⟩|exact Cv.rfl'|(intro _;simp only[newX,newL,ptrs,List.map,List.cons_append,List.nil_append])|intro _
theorem s4_rightU{N:Nat} {L:List Loc} {ats:Array TypeId} [OpC E o0 T0] [a0:AsX T0 x L0] (hb:L0≤1000) (hu:qrt x=u):StepT Tryz.prog w00 N L E ⟨some d, .call { callee:= .value (.func 91),args:= #[o0],argTypes:=ats },t0,pos,af,gd⟩ (.is (.bool u)):=by
 rw [←hu]
 exact s4_rightX hb
theorem nc_nc(e:N=M) (hl:(M.natAbs:Int)<4294967296^K) (v:Value) (h:(VTy.nc N L).holds X w v):(VTy.nc M K).holds X w v:=by
 subst e
 obtain ⟨x,⟨h1,_⟩,g⟩:=h
 exact ⟨x,⟨h1,hl⟩,g⟩
theorem pow_Lq(h:Lq p L) (hi:i≤40):Lq (p*((10^i:Int):Rat)) (L+5):=
 h.mul ⟨pow10 hi,by show (1:Int)<_;decide⟩
instance {x:RawI} {L:Nat}:AsY (.kn x L) x L:=⟨fun h=>by obtain ⟨y,⟨e,h⟩,g⟩:=kx_ex h;exact ⟨y,⟨e,by rw [←e];exact h⟩,g⟩⟩
instance {x:RawI} {L:Nat}:AsN (.kn x L) (iv x) L:=⟨fun h=>by obtain ⟨y,⟨e,h⟩,g⟩:=kx_ex h;exact ⟨y,⟨by rw [e],h⟩,g⟩⟩
instance {x:RawQ} {L:Nat}:AsX (.kq x L) x L:=⟨fun h=>by obtain ⟨y,⟨e,h⟩,g⟩:=kx_ex h;exact ⟨y,⟨e,by rw [←e];exact h⟩,g⟩⟩
instance {x:RawQ} {L:Nat}:AsQ (.kq x L) (qv x) L:=⟨fun h=>by obtain ⟨y,⟨e,h⟩,g⟩:=kx_ex h;exact ⟨y,⟨by rw [e],h⟩,g⟩⟩
theorem sL_buildK5{N:Nat} {L:List Loc} {o1:Operand} {a b:RawI} [h0:OpC E o0 (.kn a L0)] [h1:OpC E o1 (.kn b L0)] (hl:0<L0):StepT Tryz.prog w00 N L E ⟨some d, .build 36 #[(0,o0),(1,o1)],t0,pos,af,gd⟩ (.kq (a,b) L0):=by
 constructor
 intro X ρ w hc _ hN hm hsl
 obtain ⟨a2,cs,e0,g0⟩:=h0.get (X:=X) (w:=w) hc fun p hp e=>hsl p hp qS
 obtain ⟨b2,ds,e1,g1⟩:=h1.get (X:=X) (w:=w) hc fun p hp e=>hsl p hp qS
 obtain ⟨A,n,c,rfl,_⟩:=num_rd.1 g0
 obtain ⟨A2,n2,c2,rfl,_⟩:=num_rd.1 g1
 have hT:(VTy.kq (a,b) L0).holds X w (.agg #[.bool a.1, .slice A n c, .bool b.1, .slice A2 n2 c2]):=
  ⟨⟨a2,b2,hl⟩,[.bool a.1, .slice A n c]++[.bool b.1, .slice A2 n2 c2],rfl,_,_,rfl,g0,g1⟩
 have HT:=Lib.hid hT
 clear hT hsl hm hc a2 b2 g0 g1 h0 h1
 unfold Yields
 go_simp
 exact ⟨HT.out,Below.refl _ _⟩
section
variable {w00:World} {N:Nat} {L:List Loc} {E:List (Nat×VTy)} {d:Nat} {t0:TypeId} {pos:String} {af:Array Edge} {gd:Option (Nat×Bool)} {ats:Array TypeId}
theorem sR_oneQ[h0:OpC E o0 T0] [a0:AsQ T0 q L0]:StepT Tryz.prog w00 N L E ⟨some d, .buildSlice 87 1 #[(0,o0)],t0,pos,af,gd⟩ (.rv [q] L0):=by
 constructor
 intro X ρ w hc _ hN hm hsl
 have g:=a0.ok (h0.get (X:=X) (w:=w) hc fun p hp e=>hsl p hp qS)
 obtain ⟨x,A,n,c,A2,n2,c2,e0,rfl,f0,g0⟩:=ra_cells g (Nat.le_refl L0)
 have hR:=rv_new (X:=X) (w:=w) (T:=27) (L:=L0) hm.far [(x,[.bool x.1.1, .slice A n c, .bool x.2.1, .slice A2 n2 c2])] (by
  intro p hp
  rw [List.mem_singleton.1 hp];exact ⟨f0,g0⟩) qE
 have HR:=Lib.hid hR
 clear hR hsl hm hc f0 g0 h0 a0 g
 unfold Yields
 go_simp
 exact ⟨⟨[x],rfl,HR.out⟩,(Below.refl _ _).alloc (Nat.le_refl _) _⟩
end
end Go.Proofs.YtfepenpngklogaaGreatDoor
