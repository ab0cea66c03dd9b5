/- Kinds of arguments; calls of function values by their contracts; limbs read one by one; fractions and the whole numbers next to them. -/
import Derived.Test.YtgnggldjjjkogaaGreatDoorGG
import Derived.Test.YtgnggldjjjkogaaGreatDoorGJ
import Derived.Test.YtgnggldjjjkogaaGreatDoorGK
import Derived.Test.YtgnggldjjjkogaaGreatDoorGI
import Derived.Test.YtgnggldjjjkogaaGreatDoorGB
import Derived.Test.YtgnggldjjjkogaaGreatDoorGA
import Derived.Lib.TrimByte
import Derived.Lib.Strings
import Derived.Test.YtgnggldjjjkogaaGreatDoorGC
import Derived.Test.YtgnggldjjjkogaaGreatDoorShelf
set_option maxRecDepth 20000
set_option linter.unusedSimpArgs false
set_option linter.unusedVariables false
namespace Go.Proofs.YtgnggldjjjkogaaGreatDoor
open Go Go.RowKit
instance {T:VTy} {q:Rat} {L:Nat} [a:AsQ T q L]:AsK 1 T (.qa q L):=⟨a.ok⟩
instance {T:VTy} {N:Int} {L:Nat} [a:AsN T N L]:AsK 2 T (.na N L):=⟨a.ok⟩
instance {T:VTy} {q:Rat} {L:Nat} [a:AsC T q L]:AsK 3 T (.qc q L):=⟨a.ok⟩
instance {T:VTy} {x:RawQ} {L:Nat} [a:AsX T x L]:AsK 4 T (.qx x L):=⟨a.ok⟩
class AsM (T:VTy) (N:outParam Int) (L:outParam Nat):Prop where
 ok:∀ {X w v},T.holds X w v→(VTy.nc N L).holds X w v
instance {N:Int} {L:Nat}:AsM (.nc N L) N L:=⟨fun h=>h⟩
instance {N:Int} {L B:Nat}:AsM (.nn N L B) N L:=⟨fun h=>nwn_ex h⟩
instance {N:Int} {L B:Nat} {T:VTy} [a:AsM T N L]:AsM (.und B T) N L:=⟨fun h=>a.ok (und_weak h)⟩
instance {N:Int} {L B:Nat} {T:VTy} [a:AsN T N L]:AsN (.und B T) N L:=⟨fun h=>a.ok (und_weak h)⟩
class AsY (T:VTy) (x:outParam RawI) (L:outParam Nat):Prop where
 ok:∀ {X w v},T.holds X w v→(VTy.nx x L).holds X w v
instance {x:RawI} {L:Nat}:AsY (.nx x L) x L:=⟨fun h=>h⟩
instance {x:RawI} {L B:Nat} {T:VTy} [a:AsY T x L]:AsY (.und B T) x L:=⟨fun h=>a.ok (und_weak h)⟩
instance {T:VTy} {N:Int} {L:Nat} [a:AsM T N L]:AsK 5 T (.nc N L):=⟨a.ok⟩
instance {T:VTy} {x:RawI} {L:Nat} [a:AsY T x L]:AsK 6 T (.nx x L):=⟨a.ok⟩
instance {T:VTy} {x:RawQ} [a:AsZ T x]:AsK 7 T (.qz x):=⟨a.ok⟩
instance {T:VTy} {K:Nat} {l:List RawQ} [a:AsW T Rp.frac (fewQ K) l]:AsK 8 T (.rq K l):=⟨a.ok⟩
instance {K:Nat} {l:List RawQ}:AsW (.rq K l) Rp.frac (fewQ K) l:=⟨fun h=>h⟩
instance:StabG Tab:=⟨Tab.below⟩
instance {q:Rat} {L:Nat}:DownC fun B=> .qn q L B:=⟨fun hB h=>nw_le h hB⟩
instance {q:Rat} {L:Nat}:DownC fun B=> .qg q L B:=⟨fun hB h=>nw_le h hB⟩
instance {N:Int} {L:Nat}:DownC fun B=> .nn N L B:=⟨fun hB h=>nwn_le h hB⟩
instance OpsK.name {E:List (Nat×VTy)} {f:FuncId} {os:List Operand} {k:Nat} {ks:List Nat} {As:List VTy} [t:OpsK E os ks As]:OpsK E (.func f::os) (k::ks) (.fv f [] []::As):=
 ⟨fun hc hf hs=>⟨⟨[],[],hf f,trivial,trivial⟩,t.get hc hf fun p hp hm=>hs p hp (List.mem_cons_of_mem _ hm)⟩⟩
section
variable {P:Program} {G:World→Prop} {w00:World} {N:Nat} {L:List Loc} {E:List (Nat×VTy)} {d:Nat} {t0:TypeId} {pos:String} {af:Array Edge} {gd:Option (Nat×Bool)} {ats:Array TypeId}
theorem scv {f:FuncId} {s:Nat} {os:List Operand} {ks:List Nat} {As:List VTy} {T:Nat→VTy} [hs:Look E s (.fv f [] [])] [k:OpsK E os ks As] [sg:StabG G] (hG:G w00) (h:Ctr P G f ks As T):
 StepT P w00 N L E ⟨some d, .call { callee:= .value (.tmp s),args:=os.toArray,argTypes:=ats },t0,pos,af,gd⟩ (T w00.heap.size):=by
 constructor
 intro X ρ w hc hf hN hm hsl
 obtain ⟨vs,us,e0,g1,g2⟩:=hsl _ hs.mem (by simp [Op.operands,Call.operands])
 have e:=k.get (X:=X) (w:=w) hc hf fun p hp he=>hsl p hp (by simp [Op.operands,Call.operands,he])
 match vs,us,g1,g2 with
 |[],[],_,_=>
  have e':ρ (.tmp s)= .func (.func f) #[] #[]:=e0
  have hr:(execOp ρ ⟨some d, .call { callee:= .value (.tmp s),args:=os.toArray,argTypes:=ats },t0,pos,af,gd⟩).run P w= .ok (.enter f (os.map ρ).toArray) w:=by
   have hen:=h.ent
   clear hsl h hm hN hc e k hf e0
   go_simp
   exact hen _ _
  unfold Yields
  rw [hr]
  refine (h.run (sg.stab hG hm.below) hm.far e).mono ?_
  rintro e w' ⟨v,rfl,hT,hB⟩
  exact ⟨v,rfl,h.down hm.below.size hT,hB⟩
def VTy.pl (x:Int):VTy:=⟨fun X w v=>∃ b o,v= .pointer (some ⟨b,o,none⟩)∧Free X w b∧w.cell? ⟨b,o,none⟩=some (.int .u32 x),fun ⟨b,o,e,hb,h⟩ hk hX=>⟨b,o,e,Free.mono hk hX b hb,(World.cell?_of_block (hk.block b hb.1 hb.2)).trans h⟩⟩
theorem st_limbAt {o:Operand} {xs:List Int} {x:Int} {ty:TypeId} [ho:OpC E o (.rc Rp.limbs xs)] [ht:SliceC P ty 1] (hx:xs[0]? =some x):StepT P w00 N L E ⟨some d, .indexAddr ty o (.const (.int .i64 0)),t0,pos,af,gd⟩ (.pl x):=by
 constructor
 intro X ρ w hc _ hN hm hsl
 obtain ⟨A,n,c,e,⟨hs,hf⟩,_⟩:=ho.get (X:=X) (w:=w) hc fun p hp e=>hsl p hp (by simp [Op.operands,e])
 have e1:ρ o= .slice A n c:=by simpa using e
 have e2:ρ (.const (.int .i64 0))= .int .i64 0:=hc _
 have hj:0<n:=by rw [←hs.1];exact (List.getElem?_eq_some_iff.1 hx).1
 obtain ⟨b,off,y,rfl,hb,hy,hcell⟩:=hs.at_ hj
 rw [hx] at hy
 injection hy with hy
 subst hy
 obtain ⟨el,hu,hsz⟩:=ht.ok
 have hz:(sizeOf el).run P w= .ok 1 w:=by
  cases hq:P.info? el with
  |none=>rw [hq] at hsz;cases hsz
  |some q=>
   rw [hq] at hsz
   have:q.size=1:=by simpa using hsz
   simp [sizeOf,typeInfo,hq,this]
 have hrun:(execOp ρ ⟨some d, .indexAddr ty o (.const (.int .i64 0)),t0,pos,af,gd⟩).run P w= .ok (.value (.pointer (some ⟨b,off+0*1,none⟩))) w:=by
  unfold execOp
  have hji:(0:Int)≤0∧(0:Int)<(n:Int):=⟨by omega,by omega⟩
  have hj0:(0:Int).toNat=0:=rfl
  simp only [e1,e2,Instr.indexAt,asIntOf,Sem.run_bind,Sem.run_pure,Result.andThen_ok,run_underlying hu w,hji,and_self,if_true,hz,hj0,Addr.add_mid]
 unfold Yields
 rw [hrun]
 exact ⟨⟨b,_,rfl,hf hj b rfl,hcell⟩,Below.refl _ _⟩
end
section
variable {w00:World} {N:Nat} {L:List Loc} {E:List (Nat×VTy)} {d:Nat} {t0:TypeId} {pos:String} {af:Array Edge} {gd:Option (Nat×Bool)} {ats:Array TypeId}
theorem st_limb {x:Int} {s:Nat} [ho:Look E s (.pl x)]:StepT Tryz.prog w00 N L E ⟨some d, .load 76 (.tmp s),t0,pos,af,gd⟩ (.is (.int .u32 x)):=by
 constructor
 intro X ρ w hc _ hN hm hsl
 obtain ⟨b,o,e,hb,h1⟩:=hsl _ ho.mem (by simp [Op.operands])
 have e':ρ (.tmp s)= .pointer (some ⟨b,o,none⟩):=e
 clear hc hsl ho hm e
 unfold Yields
 go_simp
 exact ⟨rfl,Below.refl _ _⟩
end
def fr (q:Rat):Rat:=q - (q.floor:Rat)
def cl (q:Rat):Int:= -(-q).floor
def hf (q:Rat):Int:=bif decide (2*fr q<1) || (decide (2*fr q=1)&&decide (q.floor%2=0)) then q.floor else q.floor+1
instance {N:Int} {L:Nat} {q:Rat} {K:Nat}:DownC fun B=> .tup [.nn N L B, .qn q K B]:=⟨fun hB h=>tup_imp (fun _ g=>nwn_le g hB) (fun _ g=>nw_le g hB) _ h⟩
instance:SliceC Tryz.prog 22 1:=⟨⟨_,Tryz.underlying22,by kernel_rfl⟩⟩
instance {N:Int} {L:Nat} {c:Value}:DownC fun B=> .tup [.nn N L B, .is c]:=⟨fun hB h=>tup_imp (fun _ g=>nwn_le g hB) (fun _ g=>g) _ h⟩
instance {L:Nat} {x:RawQ}:AsX (.el Rp.frac (fewQ L) x) x L:=⟨fun ⟨y,h,g⟩=>⟨y,⟨h.1,by rw [←h.1];exact h.2⟩,g⟩⟩
instance {L:Nat} {x:RawQ}:PartC (.el Rp.frac (fewQ L) x) 2 2 true (.nx x.2 L):= .snd fun y h=>⟨by rw [h.1],by rw [←h.1];exact h.2.2.1⟩
instance {x:RawI} {L:Nat}:AsY (.kn x L) x L:=⟨fun h=>by obtain ⟨y,⟨e,h⟩,g⟩:=kx_ex h;exact ⟨y,⟨e,by rw [←e];exact h⟩,g⟩⟩
instance {x:RawI} {L:Nat}:AsN (.kn x L) (iv x) L:=⟨fun h=>by obtain ⟨y,⟨e,h⟩,g⟩:=kx_ex h;exact ⟨y,⟨by rw [e],h⟩,g⟩⟩
instance {x:RawQ} {L:Nat}:AsX (.kq x L) x L:=⟨fun h=>by obtain ⟨y,⟨e,h⟩,g⟩:=kx_ex h;exact ⟨y,⟨e,by rw [←e];exact h⟩,g⟩⟩
instance {x:RawQ} {L:Nat}:AsQ (.kq x L) (qv x) L:=⟨fun h=>by obtain ⟨y,⟨e,h⟩,g⟩:=kx_ex h;exact ⟨y,⟨by rw [e],h⟩,g⟩⟩
section
variable {w00:World} {N:Nat} {L:List Loc} {E:List (Nat×VTy)} {d:Nat} {t0:TypeId} {pos:String} {af:Array Edge} {gd:Option (Nat×Bool)} {ats:Array TypeId}
theorem st_eqB' {o0 o1:Operand} {x y:Bool} {t1:TypeId} {u:Bool} [h0:OpC E o0 (.is (.bool x))] [h1:OpC E o1 (.is (.bool y))] (hu:(x==y)=u):StepT Tryz.prog w00 N L E ⟨some d, .binOp .eql 4 o0 o1 t1,t0,pos,af,gd⟩ (.is (.bool u)):=by
 constructor
 intro X ρ w hc _ hN hm hsl
 have e0:ρ o0= .bool x:=h0.get (X:=X) (w:=w) hc fun p hp e=>hsl p hp (by simp [Op.operands,e])
 have e1:ρ o1= .bool y:=h1.get (X:=X) (w:=w) hc fun p hp e=>hsl p hp (by simp [Op.operands,e])
 clear hc hsl h0 h1
 unfold Yields
 have hb:=Tryz.underlying4
 subst hu
 cases x<;>cases y<;>go_simp<;>exact ⟨rfl,Below.refl _ _⟩
end
def isD (c:UInt8):Bool:=decide (48≤(c.toNat:Int))&&decide ((c.toNat:Int)≤57)
def ng (l:List UInt8):Bool:=l.head? ==some 45
def bd (l:List UInt8):List UInt8:=bif ng l then l.tail else l
def wh (l:List UInt8):List UInt8:=(bd l).takeWhile isD
def r1 (l:List UInt8):List UInt8:=(bd l).dropWhile isD
def sp (l:List UInt8):Bool:=(r1 l).head? ==some 46
def r2 (l:List UInt8):List UInt8:=bif sp l then (r1 l).tail else r1 l
def pc (l:List UInt8):List UInt8:=bif sp l then (r2 l).takeWhile isD else []
def r3 (l:List UInt8):List UInt8:=bif sp l then (r2 l).dropWhile isD else r2 l
def dn (l:List UInt8):Int:=sgv (ng l) (dval (wh l++pc l))
theorem head_tail {l:List UInt8} {c:UInt8} (h:(l.head? ==some c)=true):l=c::l.tail:=by
 cases l with
 |nil=>cases h
 |cons x l=>have:x=c:=by simpa using h
            rw [this];rfl
def sgL (b:Bool) (c:UInt8):List UInt8:=bif b then [c] else []
theorem parts (l:List UInt8):l=sgL (ng l) 45++(wh l++(sgL (sp l) 46++(pc l++r3 l))):=by
 have e1:l=sgL (ng l) 45++bd l:=by
  unfold bd sgL
  cases h:ng l with
  |true=>exact head_tail h
  |false=>rfl
 have e2:bd l=wh l++r1 l:=(List.takeWhile_append_dropWhile).symm
 have e3:r1 l=sgL (sp l) 46++r2 l:=by
  unfold r2 sgL
  cases h:sp l with
  |true=>exact head_tail h
  |false=>rfl
 have e4:r2 l=pc l++r3 l:=by
  unfold pc r3
  cases sp l with
  |true=>exact (List.takeWhile_append_dropWhile).symm
  |false=>rfl
 conv=>lhs;rw [e1,e2,e3,e4]
theorem trimS (l:List UInt8):Lib.trimSuffix (l++[46]) [46]=l:=by
 unfold Lib.trimSuffix Lib.hasSuffix
 rw [if_pos (by rw [List.isSuffixOf_iff_suffix];exact List.suffix_append _ _)]
 simp
abbrev Tx (l:List UInt8):Value:= .string ⟨l.toArray⟩
theorem tx_of (s:ByteArray):s=⟨s.data.toList.toArray⟩:=by cases s;simp
theorem bs_size (l:List UInt8):(⟨l.toArray⟩:ByteArray).size=l.length:=by simp [ByteArray.size]
theorem bs_beq (a b:List UInt8):((⟨a.toArray⟩:ByteArray)==⟨b.toArray⟩)=(a==b):=by
 by_cases h:a=b
 ·subst h
  rw [show (a==a)=true from beq_self_eq_true a]
  show (a.toArray==a.toArray)=true
  exact beq_self_eq_true _
 ·rw [beq_eq_false_iff_ne.2 h]
  show (a.toArray==b.toArray)=false
  exact beq_eq_false_iff_ne.2 fun e=>h (by simpa using e)
class StrC (P:Program) (ty:TypeId):Prop where
 ok:P.underlying ty=some .string
section
variable {P:Program} {w00:World} {N:Nat} {L:List Loc} {E:List (Nat×VTy)} {d:Nat} {t0:TypeId} {pos:String} {af:Array Edge} {gd:Option (Nat×Bool)} {ats:Array TypeId}
theorem st_seq {o0 o1:Operand} {a b:List UInt8} {ty t1:TypeId} {u:Bool} [h0:OpC E o0 (.is (Tx a))] [h1:OpC E o1 (.is (Tx b))] (hu:(a==b)=u):StepT P w00 N L E ⟨some d, .binOp .eql ty o0 o1 t1,t0,pos,af,gd⟩ (.is (.bool u)):=by
 constructor
 intro X ρ w hc _ hN hm hsl
 have e0:ρ o0=Tx a:=h0.get (X:=X) (w:=w) hc fun p hp e=>hsl p hp (by simp [Op.operands,e])
 have e1:ρ o1=Tx b:=h1.get (X:=X) (w:=w) hc fun p hp e=>hsl p hp (by simp [Op.operands,e])
 have e2:=bs_beq a b
 rw [hu] at e2
 clear hc hsl h0 h1
 unfold Yields
 go_simp
 exact ⟨rfl,Below.refl _ _⟩
theorem st_sne {o0 o1:Operand} {a b:List UInt8} {ty t1:TypeId} {u:Bool} [h0:OpC E o0 (.is (Tx a))] [h1:OpC E o1 (.is (Tx b))] (hu:(!(a==b))=u):StepT P w00 N L E ⟨some d, .binOp .neq ty o0 o1 t1,t0,pos,af,gd⟩ (.is (.bool u)):=by
 constructor
 intro X ρ w hc _ hN hm hsl
 have e0:ρ o0=Tx a:=h0.get (X:=X) (w:=w) hc fun p hp e=>hsl p hp (by simp [Op.operands,e])
 have e1:ρ o1=Tx b:=h1.get (X:=X) (w:=w) hc fun p hp e=>hsl p hp (by simp [Op.operands,e])
 have e2:=bs_beq a b
 subst hu
 clear hc hsl h0 h1
 unfold Yields
 go_simp
 exact ⟨rfl,Below.refl _ _⟩
theorem st_slen {o:Operand} {l:List UInt8} {ty:TypeId} [ho:OpC E o (.is (Tx l))] [ht:StrC P ty]:StepT P w00 N L E ⟨some d, .call { callee:= .builtin .len,args:= #[o],argTypes:= #[ty] },t0,pos,af,gd⟩ (.is (.int .i64 (l.length:Int))):=by
 constructor
 intro X ρ w hc _ hN hm hsl
 have e0:ρ o=Tx l:=ho.get (X:=X) (w:=w) hc fun p hp e=>hsl p hp (by simp [Op.operands,Call.operands,e])
 have hu:=ht.ok
 have e2:=bs_size l
 clear hc hsl ho ht
 unfold Yields
 go_simp
 exact ⟨rfl,Below.refl _ _⟩
theorem st_sidx {o oi:Operand} {l:List UInt8} {c:UInt8} {x:Int} {ty:TypeId} [ho:OpC E o (.is (Tx l))] [hi:OpC E oi (.is (.int .i64 x))] [ht:StrC P ty] (hx:0≤x∧l[x.toNat]? =some c):StepT P w00 N L E ⟨some d, .index ty o oi,t0,pos,af,gd⟩ (.is (.int .u8 (c.toNat:Int))):=by
 constructor
 intro X ρ w hc _ hN hm hsl
 have e0:ρ o=Tx l:=ho.get (X:=X) (w:=w) hc fun p hp e=>hsl p hp (by simp [Op.operands,e])
 have e1:ρ oi= .int .i64 x:=hi.get (X:=X) (w:=w) hc fun p hp e=>hsl p hp (by simp [Op.operands,e])
 have hu:=ht.ok
 obtain ⟨hx0,hx1⟩:=hx
 obtain ⟨hlt,hc1⟩:=List.getElem?_eq_some_iff.1 hx1
 have h3:x<(l.length:Int):=by omega
 have e2:∀ h,(⟨l.toArray⟩:ByteArray)[x.toNat]'h=c:=fun h=>hc1
 clear hc hsl ho ht hi hx1
 unfold Yields
 go_simp
 exact ⟨rfl,Below.refl _ _⟩
theorem st_max {o0 o1:Operand} {x y z:Int} {k:IntKind} [h0:OpC E o0 (.is (.int k x))] [h1:OpC E o1 (.is (.int k y))] (hz:max x y=z):StepT P w00 N L E ⟨some d, .call { callee:= .builtin .max,args:= #[o0,o1],argTypes:=ats },t0,pos,af,gd⟩ (.is (.int k z)):=by
 constructor
 intro X ρ w hc _ hN hm hsl
 have e0:ρ o0= .int k x:=h0.get (X:=X) (w:=w) hc fun p hp e=>hsl p hp (by simp [Op.operands,Call.operands,e])
 have e1:ρ o1= .int k y:=h1.get (X:=X) (w:=w) hc fun p hp e=>hsl p hp (by simp [Op.operands,Call.operands,e])
 subst hz
 clear hc hsl h0 h1
 unfold Yields
 go_simp
 exact ⟨rfl,Below.refl _ _⟩
theorem st_sub2 {o0 o1:Operand} {x y z:Int} {k:IntKind} {ty t1:TypeId} [h0:OpC E o0 (.is (.int k x))] [h1:OpC E o1 (.is (.int k y))] (hz:k.wrap (x - y)=z):StepT P w00 N L E ⟨some d, .binOp .sub ty o0 o1 t1,t0,pos,af,gd⟩ (.is (.int k z)):=by
 constructor
 intro X ρ w hc _ hN hm hsl
 have e0:ρ o0= .int k x:=h0.get (X:=X) (w:=w) hc fun p hp e=>hsl p hp (by simp [Op.operands,e])
 have e1:ρ o1= .int k y:=h1.get (X:=X) (w:=w) hc fun p hp e=>hsl p hp (by simp [Op.operands,e])
 clear hc hsl h0 h1
 unfold Yields
 go_simp
 exact ⟨rfl,Below.refl _ _⟩
end
def VTy.cs (c:List Value):VTy:=⟨fun _ _ v=>v.cells=c.toArray,fun h _ _=>h⟩
class CellsC (T:VTy) (c:outParam (List Value)):Prop where
 ok:∀ {X w v},T.holds X w v→v.cells=c.toArray
instance {c:List Value}:CellsC (.cs c) c:=⟨fun h=>h⟩
instance {c:List Value}:CellsC (.is (.agg c.toArray)) c:=⟨fun h=>by rw [show _=_ from h];rfl⟩
instance {l:List UInt8}:CellsC (.is (Tx l)) [Tx l]:=⟨fun h=>by rw [show _=_ from h];rfl⟩
class NthV (c:List Value) (i:Nat) (v:outParam Value):Prop where
 ok:c[i]? =some v
instance {c:List Value} {v:Value}:NthV (v::c) 0 v:=⟨rfl⟩
instance {c:List Value} {u v:Value}:NthV (u::v::c) 1 v:=⟨rfl⟩
instance {c:List Value} {t u v:Value}:NthV (t::u::v::c) 2 v:=⟨rfl⟩
instance {T:VTy} {c:List Value} {i:Nat} {v:Value} [t:CellsC T c] [n:NthV c i v]:PartC T i 1 false (.is v):=⟨fun _=>rfl,fun {X w u} h=>⟨[v],rfl,fun j x hj=>by
 have:j=0∧x=v:=by
  cases j with
  |zero=>exact ⟨rfl,by simpa using hj.symm⟩
  |succ j=>simp at hj
 rw [t.ok h,this.1,this.2]
 simpa using n.ok,fun x _ hx=>by have:=hx rfl;simp at this;exact this.symm⟩⟩
instance {T:VTy} {c:List Value} {a b d:Value} [t:CellsC T (a::b::d::c)]:PartC T 0 3 true (.is (.agg #[a,b,d])):=⟨fun h=>(by cases h),fun {X w u} h=>⟨[a,b,d],rfl,fun j x hj=>by
 rw [t.ok h,Nat.zero_add]
 match j,hj with
 |0,hj=>simpa using hj
 |1,hj=>simpa using hj
 |2,hj=>simpa using hj
 |j+3,hj=>simp at hj,fun x hx _=>hx rfl⟩⟩
class LenC (c:List Value) (k:Nat):Prop where
 ok:c.length=k
instance {a:Value}:LenC [a] 1:=⟨rfl⟩
instance {a b d:Value}:LenC [a,b,d] 3:=⟨rfl⟩
instance ResC.cellC {P:Program} {L:List Loc} {E:List (Nat×VTy)} {s r k:Nat} {ty:TypeId} {c:List Value} [h:Look E s (.is (.pointer (some ⟨r,0,none⟩)))] [hl:LocC L r (.cs c)] [ht:TyC P ty k true] [hk:LenC c k]:ResC P L E (.cell s ty) (.is (.agg c.toArray)):=⟨fun {w00 X n a w} hts=>by
 have e:a.tmps.getD s undef= .pointer (some ⟨r,0,none⟩):=hts.slots _ h.mem
 obtain ⟨_,_,v,ty',hv,hh⟩:=hts.mem.loc _ hl.mem
 obtain ⟨dd,hu,hd⟩:=ht.row
 have hv':v.cells=c.toArray:=hv
 refine ⟨.agg c.toArray,?_,rfl⟩
 have hra:w.rangeAt r 0 c:=fun j u hj=>by
  rw [Nat.zero_add]
  exact cell_at hh (by rw [hv'];simpa using hj)
 have hi:(P.info? ty).map (·.size)=some c.length:=by rw [hk.ok];exact ht.size
 have:=run_loadVar_mid (P:=P) w r 0 ty c dd hra hu hd hi
 unfold resOne
 simp only [e,asAddr,Sem.run_bind,Sem.run_pure,Result.andThen_ok,this]⟩
section
variable {P:Program} {w00:World} {X:List Nat} {L L':List Loc} {E:List (Nat×VTy)} {n:Nat} {a:Act} {w:World} {ops:Array Oper} {rest:List Oper} {Q:Exit→Act→World→Prop} {cs:List Code} {t0:TypeId} {pos:String} {af:Array Edge}
theorem TS.cells {T0:VTy} {r:Nat} {c0 c:List Value} (h:TS w00 X L E n a w) (hu:UpdL L r T0 (.cs c) L') [h0:CellsC T0 c0] (hl:c.length=c0.length):TS w00 X L' E n a (w.setRow r c.toArray):=by
 exact h.write (k:=c.length) (k0:=c.length) (ag:=true) (ag0:=true) (v:= .agg c.toArray) hu (show (Value.agg c.toArray).cells=c.toArray from rfl)
class SetV (c:List Value) (i:Nat) (v:Value) (c':outParam (List Value)):Prop where
 ok:c.set i v=c'∧i<c.length
instance {c:List Value} {u v:Value}:SetV (u::c) 0 v (v::c):=⟨rfl,by simp⟩
instance {c:List Value} {a u v:Value}:SetV (a::u::c) 1 v (a::v::c):=⟨rfl,by simp⟩
instance {c:List Value} {a b u v:Value}:SetV (a::b::u::c) 2 v (a::b::v::c):=⟨rfl,by simp⟩
theorem g_stf {ty:TypeId} {s r i:Nat} {o:Operand} {v:Value} {T0:VTy} {c0 c:List Value} [hs:Look E s (.is (.pointer (some ⟨r,i,none⟩)))] [ho:OpC E o (.is v)] [hu:UpdC L r T0 (.cs c) L'] [h0:CellsC T0 c0] [hc:SetV c0 i v c] [hty:TyC P ty 1 false] (h1:v.oneCell'=true)
 (h:GR P w00 X L' E n ops rest cs Q):GR P w00 X L E n ops (⟨none, .store ty (.tmp s) o,t0,pos,af,none⟩::rest) cs Q:=⟨fun a w ht=>by
 refine wpList_run rfl ?_
 have e1:a.eval (.tmp s)= .pointer (some ⟨r,i,none⟩):=ht.slots _ hs.mem
 have e2:a.eval o=v:=ho.get (X:=X) (w:=w) (fun _=>rfl) fun p hp _=>ht.slots p hp
 obtain ⟨g1,g2,u,ty',g3,g4⟩:=ht.mem.loc _ hu.upd.mem
 rw [h0.ok g3] at g4
 obtain ⟨hc1,hc2⟩:=hc.ok
 have hi:=hty.size
 have hcell:w.cell? ⟨r,i,none⟩=some c0[i]:=cell_at g4 (by simp [hc2])
 have hfro:w.frozen? ⟨r,i,none⟩=false:=by simp [World.frozen?,g4]
 have hadd:(⟨r,i,none⟩:Addr).add 0=⟨r,i,none⟩:=by unfold Addr.add;split<;>simp_all
 have hst:(store ((⟨r,i,none⟩:Addr).add 0) v).run P w= .ok () (w.setRow r c.toArray):=by
  rw [hadd,run_store P w _ v _ h1,hcell]
  simp [hfro,setCell_eq_setRow w r i c0.toArray ty' (0,0) v g4,hc1]
 have hcl:v.cells= #[v]:=cells_one h1
 have hsv:(storeVar ty ⟨r,i,none⟩ v).run P w= .ok () (w.setRow r c.toArray):=by
  cases hq:P.info? ty with
  |none=>simp [hq] at hi
  |some q=>
   have hs:q.size=1:=by simpa [hq] using hi
   simp [storeVar,sizeOf,typeInfo,hq,hcl,hs,storeCells,hst]
 unfold Oper.wp execOp
 simp only [e1,e2,Instr.storeAt,Instr.sureAddr,Sem.run_bind,Sem.run_pure,Result.andThen_ok,hsv]
 exact h.run a _ (ht.cells hu.upd (by rw [←hc1];simp))⟩
theorem g_stw {ty:TypeId} {s r:Nat} {o:Operand} {T0:VTy} {c0 c:List Value} [hs:Look E s (.is (.pointer (some ⟨r,0,none⟩)))] [ho:OpC E o (.is (.agg c.toArray))] [hu:UpdC L r T0 (.cs c) L'] [h0:CellsC T0 c0] [hty:TyC P ty c.length true] (hl:Nat.beq c.length c0.length=true) (h1:c.all (·.oneCell')=true)
 (h:GR P w00 X L' E n ops rest cs Q):GR P w00 X L E n ops (⟨none, .store ty (.tmp s) o,t0,pos,af,none⟩::rest) cs Q:=⟨fun a w ht=>by
 refine wpList_run rfl ?_
 have e1:a.eval (.tmp s)= .pointer (some ⟨r,0,none⟩):=ht.slots _ hs.mem
 have e2:a.eval o= .agg c.toArray:=ho.get (X:=X) (w:=w) (fun _=>rfl) fun p hp _=>ht.slots p hp
 obtain ⟨g1,g2,u,ty',g3,g4⟩:=ht.mem.loc _ hu.upd.mem
 have hl':c.length=c0.length:=Nat.eq_of_beq_eq_true hl
 have hi:=hty.size
 have hst:(storeVar ty ⟨r,0,none⟩ (.agg c.toArray)).run P w= .ok () (w.setRow r c.toArray):=
  run_storeVar_row (P:=P) w r ty' ty u.cells c.toArray g4 (by rw [hi];simp) (by rw [h0.ok g3];simp [hl']) (by simpa using h1)
 unfold Oper.wp execOp
 simp only [e1,e2,Instr.storeAt,Instr.sureAddr,Sem.run_bind,Sem.run_pure,Result.andThen_ok,hst]
 exact h.run a _ (ht.cells hu.upd hl')⟩
def VTy.gh (X0:List Nat) (w0:World):VTy:=⟨fun X w _=>(∀ b∈X,b<w0.heap.size→b∈X0)∧Keeps X0 w0 w,fun {X X' w w' v} ⟨h1,h2⟩ hk hX=>⟨fun b hb hlt=>h1 b (hX b hb (Nat.lt_of_lt_of_le hlt h2.size)) hlt,
 ⟨Nat.le_trans h2.size hk.size,fun b hb hx=>(hk.block b (Nat.lt_of_lt_of_le hb h2.size) fun h=>hx (h1 b h hb)).trans (h2.block b hb hx)⟩⟩⟩
def PGives (w00:World) (X:List Nat) (L:List Loc) (w:World) (T:VTy) (e:Ending) (w':World):Prop:=∃ v,e= .returned v∧T.holds X w' v∧Mem w00 X L w'∧Keeps X w w'
structure PtC (P:Program) (G:World→Prop) (f:FuncId) (T0:VTy) (ks:List Nat) (As:List VTy) (T1 T:VTy):Prop where
 ent:Enters P f
 run:∀ {w00 w:World} {X:List Nat} {L0:List Loc} {r:Nat} {vs:List Value},G w→Mem w00 X ((r,T0)::L0) w→AllH X w As vs→Calls P f (.pointer (some ⟨r,0,none⟩)::vs).toArray w (PGives w00 X ((r,T1)::L0) w T)
class CvC (T:VTy) (T':outParam VTy):Prop where
 ok:∀ {X w v},T.holds X w v→T'.holds X w v
instance {c:List Value}:CvC (.cs c) (.cs c):=⟨fun h=>h⟩
instance {c:List Value}:CvC (.is (.agg c.toArray)) (.cs c):=⟨fun h=>by rw [show _=_ from h];rfl⟩
instance {l:List UInt8}:CvC (.is (Tx l)) (.cs [Tx l]):=⟨fun h=>by rw [show _=_ from h];rfl⟩
class MemE (E:List (Nat×VTy)) (s:Nat) (T:VTy):Prop where
 mem:(s,T)∈E
instance MemE.here {E:List (Nat×VTy)} {s:Nat} {T:VTy}:MemE ((s,T)::E) s T:=⟨List.mem_cons_self⟩
instance (priority:=low) MemE.there {E:List (Nat×VTy)} {s:Nat} {T:VTy} {p:Nat×VTy} [h:MemE E s T]:MemE (p::E) s T:=⟨List.mem_cons_of_mem _ h.mem⟩
class SubL (L0 L:List Loc):Prop where
 sub:∀ p∈L0,p∈L
instance SubL.here {L:List Loc}:SubL L L:=⟨fun _ h=>h⟩
instance (priority:=low) SubL.there {L0 L:List Loc} {p:Loc} [h:SubL L0 L]:SubL L0 (p::L):=⟨fun q hq=>List.mem_cons_of_mem _ (h.sub q hq)⟩
theorem Ctr.mono {G G':World→Prop} {f:FuncId} {ks:List Nat} {As:List VTy} {T:Nat→VTy} (h:Ctr P G f ks As T) (hg:∀ w,G' w→G w):Ctr P G' f ks As T:=⟨h.ent,h.down,fun hG=>h.run (hg _ hG)⟩
end
def VTy.dv (k:IntKind) (β V:Int) (L:Nat):VTy:=⟨fun X w v=>∃ A n c xs,v= .slice A n c∧SlF k w (Free X w) A n c xs∧Dg β xs∧val β xs=V∧n≤L,
 fun ⟨A,n,c,xs,e,h,d,hv,l⟩ hk hX=>⟨A,n,c,xs,e,(h.keep fun b hb=>hk.block b hb.1 hb.2).more (Free.mono hk hX),d,hv,l⟩⟩
def VTy.dr (k:IntKind) (β V:Int) (L:Nat):VTy:=⟨fun X w v=>∃ A n c xs,v= .slice A n c∧SlF k w (Free X w) A n c xs∧Row β V xs∧n≤L,
 fun ⟨A,n,c,xs,e,h,d,l⟩ hk hX=>⟨A,n,c,xs,e,(h.keep fun b hb=>hk.block b hb.1 hb.2).more (Free.mono hk hX),d,l⟩⟩
abbrev VTy.lr (V:Int) (L:Nat):VTy:= .dr .u32 4294967296 V L
section
variable {k:IntKind} {β V:Int} {L:Nat}
instance:SizeV (.dv k β V L) 1 false:=⟨fun {X w v} ⟨A,n,c,xs,e,_⟩=>by rw [e];exact ⟨rfl,by simp [Value.cells,Value.oneCell'],(fun h=>by cases h),fun _=>rfl⟩⟩
instance:SizeV (.dr k β V L) 1 false:=⟨fun {X w v} ⟨A,n,c,xs,e,_⟩=>by rw [e];exact ⟨rfl,by simp [Value.cells,Value.oneCell'],(fun h=>by cases h),fun _=>rfl⟩⟩
instance:PartC (.dv k β V L) 0 1 false (.dv k β V L):= .single inferInstance
instance:PartC (.dr k β V L) 0 1 false (.dr k β V L):= .single inferInstance
class AsD (T:VTy) (k:outParam IntKind) (β V:outParam Int) (L:outParam Nat):Prop where
 ok:∀ {X w v},T.holds X w v→(VTy.dv k β V L).holds X w v
instance:AsD (.dv k β V L) k β V L:=⟨fun h=>h⟩
instance:AsD (.dr k β V L) k β V L:=⟨fun ⟨A,n,c,xs,e,h,d,l⟩=>⟨A,n,c,xs,e,h,d.dg,d.val,l⟩⟩
end
instance {N:Int} {L:Nat}:PartC (.nc N L) 0 1 false (.is (.bool (decide (N<0)))):=⟨fun _=>rfl,fun {X w v} hv=>by
 obtain ⟨x,⟨hw,_⟩,cs,rfl,hr⟩:=hv
 obtain ⟨A,n,c,rfl,_⟩:=num_rd.1 hr
 refine ⟨[.bool x.1],rfl,fun j u hj=> ?_,fun u _ hu=> ?_⟩
 ·cases j with
  |zero=>simpa [Value.cells] using hj
  |succ j=>simp at hj
 ·have:=hu rfl
  simp at this
  rw [←this,hw.sg]
  rfl⟩
instance {N:Int} {L:Nat}:PartC (.nc N L) 1 1 false (.lr (N.natAbs:Int) L):=⟨fun _=>rfl,fun {X w v} hv=>by
 obtain ⟨x,⟨hw,hl⟩,cs,rfl,hr⟩:=hv
 obtain ⟨A,n,c,rfl,hs,hd⟩:=num_rd.1 hr
 refine ⟨[.slice A n c],rfl,fun j u hj=> ?_,fun u _ hu=> ?_⟩
 ·cases j with
  |zero=>simpa [Value.cells] using hj
  |succ j=>simp at hj
 ·have:=hu rfl
  simp at this
  rw [←this]
  exact ⟨A,n,c,x.2,rfl,hs,hw.row,by rw [←hs.1.len];exact hw.len hl⟩⟩
instance:StrC Tryz.prog 9:=⟨Tryz.underlying9⟩
instance:TyC Tryz.prog 9 1 false:=⟨⟨_,Tryz.underlying9,rfl⟩,by kernel_rfl⟩
instance:TyC Tryz.prog 4 1 false:=⟨⟨_,Tryz.underlying4,rfl⟩,by kernel_rfl⟩
instance:FieldC Tryz.prog 24 0 0 1 false:=⟨⟨_,_,Tryz.underlying24,rfl,rfl,by kernel_rfl,by decide,_,Tryz.underlying4,rfl⟩⟩
instance {N:Int} {L B:Nat}:PartC (.nn N L B) 0 1 false (.is (.bool (decide (N<0)))):=⟨fun _=>rfl,fun h=>(inferInstance:PartC (.nc N L) 0 1 false (.is (.bool (decide (N<0))))).ok (nwn_ex h)⟩
instance {N:Int} {L B:Nat}:PartC (.nn N L B) 1 1 false (.lr (N.natAbs:Int) L):=⟨fun _=>rfl,fun h=>(inferInstance:PartC (.nc N L) 1 1 false (.lr (N.natAbs:Int) L)).ok (nwn_ex h)⟩
abbrev S1:World→Prop:=fun _=>True
instance:StabG S1:=⟨fun _ _=>trivial⟩
theorem ctr_v2 {P:Program} {G:World→Prop} {f:FuncId} {u u2 v:Value} (he:Enters P f) (h:∀ w,G w→Calls P f #[u,u2] w fun e w'=>e= .returned v∧Below w.heap.size w w'):Ctr P G f [0,0] [.is u, .is u2] (fun _=> .is v):=
 ⟨he,fun _ h=>h,fun {X w vs} hG _ ha=>by
  obtain ⟨x,y,rfl,e,e2⟩:=ha.two
  rw [show x=u from e,show y=u2 from e2]
  exact (h w hG).mono fun e w' g=>⟨v,g.1,rfl,g.2⟩⟩
theorem data_mk (l:List UInt8):(⟨l.toArray⟩:ByteArray).data.toList=l:=by simp
theorem i64_small {x:Int} (h0:0≤x) (h1:x≤9223372036854775807):IntKind.i64.wrap x=x:=by rw [IntKind.wrap_i64];omega
theorem Free.new6 {X:List Nat} {w:World} (hX:∀ b∈X,b<w.heap.size) (o:Obj):Free X (w.alloc o) w.heap.size:=⟨by rw [size_one];exact Nat.lt_succ_self _,fun h=>Nat.lt_irrefl _ (hX _ h)⟩
def VTy.vs (l:List Value):VTy:=⟨fun X w v=>∃ b,v= .slice (some ⟨b,0,none⟩) l.length l.length∧Free X w b∧∀ (j:Nat) (u:Value),l[j]? =some u→w.cell? ⟨b,j,none⟩=some u,
 fun ⟨b,e,hb,h⟩ hk hX=>⟨b,e,Free.mono hk hX b hb,fun j u hj=>(World.cell?_of_block (hk.block b hb.1 hb.2)).trans (h j u hj)⟩⟩
def VTy.pv (u:Value):VTy:=⟨fun X w v=>∃ b o,v= .pointer (some ⟨b,o,none⟩)∧Free X w b∧w.cell? ⟨b,o,none⟩=some u,
 fun ⟨b,o,e,hb,h⟩ hk hX=>⟨b,o,e,Free.mono hk hX b hb,(World.cell?_of_block (hk.block b hb.1 hb.2)).trans h⟩⟩
def enumF (k:Nat):List Value→List (Nat×Value)
 |[]=>[]
 |v::vs=>(k,v)::enumF (k+1) vs
class IsL (E:List (Nat×VTy)) (ps:List (Nat×Operand)) (k:Nat) (vs:outParam (List Value)):Prop where
 get:∀ {X:List Nat} {w:World} {ρ:Operand→Value},(∀ c,ρ (.const c)=c)→(∀ p∈E, .tmp p.1∈ps.map Prod.snd→p.2.holds X w (ρ (.tmp p.1)))→ps.map (fun p=>(p.1,ρ p.2))=enumF k vs
instance IsL.nil {E:List (Nat×VTy)} {k:Nat}:IsL E [] k []:=⟨fun _ _=>rfl⟩
instance IsL.cons {E:List (Nat×VTy)} {o:Operand} {ps:List (Nat×Operand)} {k:Nat} {v:Value} {vs:List Value} [ho:OpC E o (.is v)] [t:IsL E ps (k+1) vs]:IsL E ((k,o)::ps) k (v::vs):=⟨fun {X w ρ} hc hs=>by
 rw [List.map_cons,t.get (X:=X) (w:=w) hc fun p hp hm=>hs p hp (List.mem_cons_of_mem _ hm)]
 have e:ρ o=v:=ho.get (X:=X) (w:=w) hc fun p hp e=>hs p hp (by rw [e];exact List.mem_cons_self)
 rw [e]
 rfl⟩
theorem fill_row:∀ (vs:List Value) (k:Nat) (c:Array Value),(∀ v∈vs,v.oneCell'=true)→k+vs.length≤c.size→
 ∃ c',Instr.fill (fun i=>some (i*1,1)) c (enumF k vs)=some c'∧c'.size=c.size∧(∀ j,j<k→c'[j]? =c[j]?)∧∀ j u,vs[j]? =some u→c'[k+j]? =some u
 |[],k,c,_,_=>⟨c,rfl,rfl,fun _ _=>rfl,fun j u h=>by simp at h⟩
 |v::vs,k,c,h1,hl=>by
  have hv:=cells_one (h1 v List.mem_cons_self)
  simp only [List.length_cons] at hl
  obtain ⟨c',e,hs,ho,hn⟩:=fill_row vs (k+1) (c.setIfInBounds k v) (fun u hu=>h1 u (List.mem_cons_of_mem _ hu)) (by simp;omega)
  refine ⟨c',?_,by rw [hs];simp,fun j hj=> ?_,fun j u hj=> ?_⟩
  ·unfold enumF Instr.fill
   simp only [hv,Nat.mul_one]
   rw [if_neg (by simp;omega)]
   simpa using e
  ·rw [ho j (by omega)]
   simp [Array.getElem?_setIfInBounds,show k≠j by omega]
  ·cases j with
   |zero=>
    rw [Nat.add_zero,ho k (by omega)]
    have:v=u:=by simpa using hj
    rw [←this]
    simp [Array.getElem?_setIfInBounds,show k<c.size by omega]
   |succ j=>
    have:=hn j u (by simpa using hj)
    rw [show k+(j+1)=k+1+j by omega]
    exact this
class RowC (P:Program) (ty:TypeId):Prop where
 ok:∃ e,P.underlying ty=some (.slice e)∧(P.info? e).map (·.size)=some 1∧∀ w,∃ z,(zeroValue e).run P w= .ok z w
instance {P:Program} {ty:TypeId} [r:RowC P ty]:SliceC P ty 1:=let ⟨e,h1,h2,_⟩:=r.ok;⟨⟨e,h1,h2⟩⟩
section
variable {P:Program} {w00:World} {N:Nat} {L:List Loc} {E:List (Nat×VTy)} {d:Nat} {t0:TypeId} {pos:String} {af:Array Edge} {gd:Option (Nat×Bool)} {ats:Array TypeId}
theorem st_rowV {ty:TypeId} {n:Nat} {ps:List (Nat×Operand)} {vs:List Value} [r:RowC P ty] [h:IsL E ps 0 vs] (hn:Nat.beq vs.length n=true) (hs:Nat.ble n 10000=true) (h1:vs.all (·.oneCell')=true):StepT P w00 N L E ⟨some d, .buildSlice ty n ps.toArray,t0,pos,af,gd⟩ (.vs vs):=by
 constructor
 intro X ρ w hc _ hN hm hsl
 obtain ⟨e,hu,hi,hz⟩:=r.ok
 obtain ⟨z,hz⟩:=hz w
 have hn':vs.length=n:=Nat.eq_of_beq_eq_true hn
 have hs':=Nat.le_of_ble_eq_true hs
 have hps:=h.get (X:=X) (w:=w) (ρ:=ρ) hc fun p hp hm=>hsl p hp (by
  simp only [Op.operands]
  obtain ⟨q,hq,e⟩:=List.mem_map.1 hm
  simp
  exact ⟨q.1,by rw [←e];exact hq⟩)
 have hsz:(sizeOf e).run P w= .ok 1 w:=by
  cases hq:P.info? e with
  |none=>rw [hq] at hi;cases hi
  |some q=>
   rw [hq] at hi
   have:q.size=1:=by simpa using hi
   simp [sizeOf,typeInfo,hq,this]
 have hfill:∀ c:Array Value,c.size=n→∃ c':Array Value,Instr.fill (fun i=>some (i*1,1)) c (ps.map fun p=>(p.1,ρ p.2))=some c'∧∀ (j:Nat) (u:Value),vs[j]? =some u→c'[j]? =some u:=fun c hcs=>by
  obtain ⟨c',ef,_,_,ev⟩:=fill_row vs 0 c (by simpa using h1) (by omega)
  rw [hps]
  exact ⟨c',ef,fun j u hj=>by have:=ev j u hj;rwa [Nat.zero_add] at this⟩
 have hrun:∃ c':Array Value,(Instr.buildSlice ty n (ps.toArray.map fun (i,x)=>(i,ρ x))).run P w= .ok (.slice (some ⟨w.heap.size,0,none⟩) n n) (w.alloc (.cells c' e))∧∀ (j:Nat) (u:Value),vs[j]? =some u→c'[j]? =some u:=by
  obtain ⟨c',ef,ev⟩:=hfill ((Array.range (n*1)).map ((if n*1=0 then #[] else z.cells)[· %(if n*1=0 then #[] else z.cells).size]!)) (by simp)
  refine ⟨c',?_,ev⟩
  have hbig:¬ 2^24<n*1:=by omega
  have hl:(ps.toArray.map fun (i,x)=>(i,ρ x)).toList=ps.map fun p=>(p.1,ρ p.2):=by simp
  unfold Instr.buildSlice
  simp only [Sem.run_bind,run_underlying hu w,Result.andThen_ok,hsz,if_neg hbig,hl,Sem.run_pure]
  by_cases h0:n*1=0
  ·rw [if_pos h0] at ef ⊢
   simp only [Sem.run_bind,Sem.run_pure,Result.andThen_ok,ef]
   rfl
  ·rw [if_neg h0] at ef ⊢
   simp only [Sem.run_bind,hz,Sem.run_pure,Result.andThen_ok,ef]
   rfl
 obtain ⟨c',hrun,hc'⟩:=hrun
 unfold Yields execOp
 simp only [Sem.run_bind,hrun,Result.andThen_ok,Sem.run_pure]
 refine ⟨⟨w.heap.size,by rw [hn'],Free.new6 hm.far _,fun j u hj=> ?_⟩,(Below.refl _ _).alloc (Nat.le_refl _) _⟩
 exact cell_at (heap_new w (.cells c' e)) (hc' j u hj)
theorem st_lenV {l:List Value} {s:Nat} {ty:TypeId} [ho:Look E s (.vs l)] [ht:RowC P ty]:StepT P w00 N L E ⟨some d, .call { callee:= .builtin .len,args:= #[.tmp s],argTypes:= #[ty] },t0,pos,af,gd⟩ (.is (.int .i64 l.length)):=by
 constructor
 intro X ρ w hc _ hN hm hsl
 obtain ⟨b,e,_⟩:=hsl _ ho.mem (by simp [Op.operands,Call.operands])
 have e1:ρ (.tmp s)= .slice (some ⟨b,0,none⟩) l.length l.length:=e
 obtain ⟨el,hu,_⟩:=ht.ok
 clear hc hsl ho ht e hm
 unfold Yields
 go_simp
 exact ⟨rfl,Below.refl _ _⟩
theorem st_idxV {l:List Value} {u:Value} {o oi:Operand} {ty:TypeId} {j:Nat} [ho:OpC E o (.vs l)] [hi:OpC E oi (.is (.int .i64 (j:Int)))] [ht:RowC P ty] (ha:l[j]? =some u):StepT P w00 N L E ⟨some d, .indexAddr ty o oi,t0,pos,af,gd⟩ (.pv u):=by
 constructor
 intro X ρ w hc _ hN hm hsl
 obtain ⟨b,e,hb,h⟩:=ho.get (X:=X) (w:=w) hc fun p hp e=>hsl p hp (by simp [Op.operands,e])
 have e1:ρ o= .slice (some ⟨b,0,none⟩) l.length l.length:=e
 have e2:ρ oi= .int .i64 j:=hi.get (X:=X) (w:=w) hc fun p hp e=>hsl p hp (by simp [Op.operands,e])
 have hj:j<l.length:=(List.getElem?_eq_some_iff.1 ha).1
 obtain ⟨el,hu,hs,_⟩:=ht.ok
 have hz:(sizeOf el).run P w= .ok 1 w:=by
  cases hq:P.info? el with
  |none=>rw [hq] at hs;cases hs
  |some q=>
   rw [hq] at hs
   have:q.size=1:=by simpa using hs
   simp [sizeOf,typeInfo,hq,this]
 have hrun:(execOp ρ ⟨some d, .indexAddr ty o oi,t0,pos,af,gd⟩).run P w= .ok (.value (.pointer (some ⟨b,0+j*1,none⟩))) w:=by
  unfold execOp
  have hji:(0:Int)≤(j:Int)∧(j:Int)<(l.length:Int):=⟨by omega,by omega⟩
  simp only [e1,e2,Instr.indexAt,asIntOf,Sem.run_bind,Sem.run_pure,Result.andThen_ok,run_underlying hu w,hji,and_self,if_true,hz,Int.toNat_natCast,Addr.add_mid]
 unfold Yields
 rw [hrun]
 exact ⟨⟨b,_,rfl,hb,by rw [show 0+j*1=j by omega];exact h j u ha⟩,Below.refl _ _⟩
theorem st_loadV {u:Value} {ty:TypeId} {s:Nat} [ho:Look E s (.pv u)] [ht:TyC P ty 1 false]:StepT P w00 N L E ⟨some d, .load ty (.tmp s),t0,pos,af,gd⟩ (.is u):=by
 constructor
 intro X ρ w hc _ hN hm hsl
 obtain ⟨b,o,e,hb,hcell⟩:=hsl _ ho.mem (by simp [Op.operands])
 have e1:ρ (.tmp s)= .pointer (some ⟨b,o,none⟩):=e
 obtain ⟨dd,hu,hd⟩:=ht.row
 have hag:(isAgg ty).run P w= .ok false w:=by
  unfold isAgg
  rw [Sem.run_bind,run_underlying hu w]
  cases dd<;>first|rfl|cases hd
 have hrun:(execOp ρ ⟨some d, .load ty (.tmp s),t0,pos,af,gd⟩).run P w= .ok (.value u) w:=by
  unfold execOp
  simp only [e1,Instr.loadAt,Instr.sureAddr,loadVar,Sem.run_bind,Sem.run_pure,Result.andThen_ok,hag,run_load,hcell,if_false,Bool.false_eq_true]
 unfold Yields
 rw [hrun]
 exact ⟨rfl,Below.refl _ _⟩
end
instance:RowC Tryz.prog 38:=⟨⟨_,Tryz.underlying38,by kernel_rfl,fun w=>⟨Tx [],by go_simp⟩⟩⟩
instance:RowC Tryz.prog 119:=⟨⟨_,Tryz.underlying119,by kernel_rfl,fun w=>⟨.int .i64 0,by go_simp⟩⟩⟩
end Go.Proofs.YtgnggldjjjkogaaGreatDoor
