/- Kinds of arguments; calls of function values by their contracts; limbs read one by one; fractions and the whole numbers next to them. -/
import Derived.Test.YtpmhjieibebclaaGreatDoorCG
import Derived.Test.YtpmhjieibebclaaGreatDoorCJ
import Derived.Test.YtpmhjieibebclaaGreatDoorCK
import Derived.Test.YtpmhjieibebclaaGreatDoorCI
import Derived.Test.YtpmhjieibebclaaGreatDoorCB
import Derived.Test.YtpmhjieibebclaaGreatDoorCA
import Derived.Lib.TrimByte
import Derived.Lib.Strings
import Derived.Test.YtpmhjieibebclaaGreatDoorCC
import Derived.Test.YtpmhjieibebclaaGreatDoorShelf
set_option maxRecDepth 20000
set_option linter.unusedSimpArgs false
set_option linter.unusedVariables false
namespace Go.Proofs.YtpmhjieibebclaaGreatDoor
open Go Go.RowKit
variable {ty t1:TypeId} {x z:Int} {o0 o o1:Operand} {s:Nat} {u:Bool} {f:FuncId} {k:IntKind}
instance {T:aa} {q:Rat} {L:Nat} [a:mq T q L]:Dj 1 T (.qa q L):=⟨a.ok⟩
instance {T:aa} {N:Int} {L:Nat} [a:i7 T N L]:Dj 2 T (.na N L):=⟨a.ok⟩
instance {T:aa} {q:Rat} {L:Nat} [a:BD T q L]:Dj 3 T (.qc q L):=⟨a.ok⟩
instance {T:aa} {x:aR} {L:Nat} [a:Dv T x L]:Dj 4 T (.qx x L):=⟨a.ok⟩
class IY (T:aa) (N:outParam Int) (L:outParam Nat):Prop where
 ok:∀ {X w v},T.holds X w v→(aa.nc N L).holds X w v
instance {N:Int} {L:Nat}:IY (.nc N L) N L:=⟨fun h=>h⟩
instance {N:Int} {L B:Nat}:IY (.nn N L B) N L:=⟨fun h=>nL h⟩
instance {N:Int} {L B:Nat} {T:aa} [a:IY T N L]:IY (.und B T) N L:=⟨fun h=>a.ok (ei h)⟩
instance {N:Int} {L B:Nat} {T:aa} [a:i7 T N L]:i7 (.und B T) N L:=⟨fun h=>a.ok (ei h)⟩
class IR (T:aa) (x:outParam fa) (L:outParam Nat):Prop where
 ok:∀ {X w v},T.holds X w v→(aa.nx x L).holds X w v
instance {x:fa} {L:Nat}:IR (.nx x L) x L:=⟨fun h=>h⟩
instance {x:fa} {L B:Nat} {T:aa} [a:IR T x L]:IR (.und B T) x L:=⟨fun h=>a.ok (ei h)⟩
instance {T:aa} {N:Int} {L:Nat} [a:IY T N L]:Dj 5 T (.nc N L):=⟨a.ok⟩
instance {T:aa} {x:fa} {L:Nat} [a:IR T x L]:Dj 6 T (.nx x L):=⟨a.ok⟩
instance {T:aa} {x:aR} [a:Ht T x]:Dj 7 T (.qz x):=⟨a.ok⟩
instance {T:aa} {K:Nat} {l:List aR} [a:Hy T Rp.frac (b6 K) l]:Dj 8 T (.rq K l):=⟨a.ok⟩
instance {K:Nat} {l:List aR}:Hy (.rq K l) Rp.frac (b6 K) l:=⟨fun h=>h⟩
instance:xS cK:=⟨cK.below⟩
instance {q:Rat} {L:Nat}:fN fun B=> .qn q L B:=⟨fun hB h=>rU h hB⟩
instance {q:Rat} {L:Nat}:fN fun B=> .qg q L B:=⟨fun hB h=>rU h hB⟩
instance {N:Int} {L:Nat}:fN fun B=> .nn N L B:=⟨fun hB h=>iU h hB⟩
instance q_.name {E:List (Nat×aa)} {f:FuncId} {os:List Operand} {k:Nat} {ks:List Nat} {As:List aa} [t:q_ E os ks As]:q_ E (.func f::os) (k::ks) (.fv f [] []::As):=
 ⟨fun hc hf hs=>⟨⟨[],[],hf f,trivial,trivial⟩,t.get hc hf fun p hp hm=>hs p hp (List.mem_cons_of_mem _ hm)⟩⟩
section
variable {P:Program} {G:World→Prop} {w00:World} {N:Nat} {L:List Loc} {E:List (Nat×aa)} {d:Nat} {t0:TypeId} {pos:String} {af:Array Edge} {gd:Option (Nat×Bool)} {ats:Array TypeId}
theorem J3{os:List Operand} {ks:List Nat} {As:List aa} {T:Nat→aa} [hs:ck E s (.fv f [] [])] [k:q_ E os ks As] [sg:xS G] (hG:G w00) (h:bW P G f ks As T):
 au P w00 N L E ⟨some d, .call { callee:= .value (.tmp s),args:=os.toArray,argTypes:=ats },t0,pos,af,gd⟩ (T w00.heap.size):=by
 constructor
 intro X ρ w hc hf hN hm hsl
 obtain ⟨vs,us,e0,g1,g2⟩:=hsl _ hs.mem qJ
 have e:=k.get (X:=X) (w:=w) hc hf fun p hp he=>hsl p hp (by simp [Op.operands,Call.operands,he])
 match vs,us,g1,g2 with
 |[],[],_,_=>
  have e':ρ (.tmp s)= .func (.func f) #[] #[]:=e0
  have hr:(execOp ρ ⟨some d, .call { callee:= .value (.tmp s),args:=os.toArray,argTypes:=ats },t0,pos,af,gd⟩).run P w= .ok (.enter f (os.map ρ).toArray) w:=by
   have hen:=h.ent
   clear hsl h hm hN hc e k hf e0
   go_simp
   exact hen _ _
  unfold Yields
  rw [hr]
  refine (h.run (sg.stab hG hm.below) hm.far e).mono ?_
  rintro e w' ⟨v,rfl,hT,hB⟩
  exact ⟨v,rfl,h.down hm.below.size hT,hB⟩
def aa.pl (x:Int):aa:=⟨fun X w v=>∃ b o,v= .pointer (some ⟨b,o,none⟩)∧cU X w b∧w.cell? ⟨b,o,none⟩=some (.int .u32 x),fun ⟨b,o,e,hb,h⟩ hk hX=>⟨b,o,e,cU.mono hk hX b hb,(World.cell?_of_block (hk.block b hb.1 hb.2)).trans h⟩⟩
theorem Ax{xs:List Int} [ho:bD E o (.rc Rp.limbs xs)] [ht:cP P ty 1] (hx:xs[0]? =some x):au P w00 N L E ⟨some d, .indexAddr ty o (.const (.int .i64 0)),t0,pos,af,gd⟩ (.pl x):=by
 constructor
 intro X ρ w hc _ hN hm hsl
 obtain ⟨A,n,c,e,⟨hs,hf⟩,_⟩:=ho.get (X:=X) (w:=w) hc fun p hp e=>hsl p hp qS
 have e1:ρ o= .slice A n c:=by simpa using e
 have e2:ρ (.const (.int .i64 0))= .int .i64 0:=hc _
 have hj:0<n:=by rw [←hs.1];exact (List.getElem?_eq_some_iff.1 hx).1
 obtain ⟨b,off,y,rfl,hb,hy,hcell⟩:=hs.at_ hj
 rw [hx] at hy
 injection hy with hy
 subst hy
 obtain ⟨el,hu,hsz⟩:=ht.ok
 have hz:(sizeOf el).run P w= .ok 1 w:=by
  cases hq:P.info? el with
  |none=>rw [hq] at hsz;cases hsz
  |some q=>
   rw [hq] at hsz
   have:q.size=1:=by simpa using hsz
   simp [sizeOf,typeInfo,hq,this]
 have hrun:(execOp ρ ⟨some d, .indexAddr ty o (.const (.int .i64 0)),t0,pos,af,gd⟩).run P w= .ok (.value (.pointer (some ⟨b,off+0*1,none⟩))) w:=by
  unfold execOp
  have hji:(0:Int)≤0∧(0:Int)<(n:Int):=⟨by omega,by omega⟩
  have hj0:(0:Int).toNat=0:=rfl
  simp only [e1,e2,Instr.indexAt,asIntOf,Sem.run_bind,Sem.run_pure,Result.andThen_ok,run_underlying hu w,hji,and_self,if_true,hz,hj0,Addr.add_mid]
 unfold Yields
 rw [hrun]
 exact ⟨⟨b,_,rfl,hf hj b rfl,hcell⟩,Below.refl _ _⟩
end
section
variable {w00:World} {N:Nat} {L:List Loc} {E:List (Nat×aa)} {d:Nat} {t0:TypeId} {pos:String} {af:Array Edge} {gd:Option (Nat×Bool)} {ats:Array TypeId}
theorem Ed[ho:ck E s (.pl x)]:au Tryz.prog w00 N L E ⟨some d, .load 115 (.tmp s),t0,pos,af,gd⟩ (.is (.int .u32 x)):=by
 constructor
 intro X ρ w hc _ hN hm hsl
 obtain ⟨b,o,e,hb,h1⟩:=hsl _ ho.mem qI
 have e':ρ (.tmp s)= .pointer (some ⟨b,o,none⟩):=e
 clear hc hsl ho hm e
 unfold Yields
 go_simp
 exact ⟨rfl,Below.refl _ _⟩
end
def fr (q:Rat):Rat:=q - (q.floor:Rat)
def cl (q:Rat):Int:= -(-q).floor
def hf (q:Rat):Int:=bif decide (2*fr q<1) || (decide (2*fr q=1)&&decide (q.floor%2=0)) then q.floor else q.floor+1
instance {N:Int} {L:Nat} {q:Rat} {K:Nat}:fN fun B=> .tup [.nn N L B, .qn q K B]:=⟨fun hB h=>pO (fun _ g=>iU g hB) (fun _ g=>rU g hB) _ h⟩
instance:cP Tryz.prog 23 1:=⟨⟨_,Tryz.underlying23,by kernel_rfl⟩⟩
instance {N:Int} {L:Nat} {c:Value}:fN fun B=> .tup [.nn N L B, .is c]:=⟨fun hB h=>pO (fun _ g=>iU g hB) (fun _ g=>g) _ h⟩
instance {L:Nat} {x:aR}:Dv (.el Rp.frac (b6 L) x) x L:=⟨fun ⟨y,h,g⟩=>⟨y,⟨h.1,by rw [←h.1];exact h.2⟩,g⟩⟩
instance {L:Nat} {x:aR}:ai (.el Rp.frac (b6 L) x) 2 2 true (.nx x.2 L):= .snd fun y h=>⟨by rw [h.1],by rw [←h.1];exact h.2.2.1⟩
theorem sj{w00:World} {N:Nat} {L:List Loc} {E:List (Nat×aa)} {d:Nat} {t0:TypeId} {pos:String} {af:Array Edge} {gd:Option (Nat×Bool)} {ats:Array TypeId} {T0:aa} {x:aR} {L0:Nat} [bD E o0 T0] [a0:Dv T0 x L0] (hb:L0≤1000) (hu:jB x=u):au Tryz.prog w00 N L E ⟨some d, .call { callee:= .value (.func 110),args:= #[o0],argTypes:=ats },t0,pos,af,gd⟩ (.is (.bool u)):=by
 rw [←hu]
 exact y5 hb
instance {x:fa} {L:Nat}:IR (.kn x L) x L:=⟨fun h=>by obtain ⟨y,⟨e,h⟩,g⟩:=t9 h;exact ⟨y,⟨e,by rw [←e];exact h⟩,g⟩⟩
instance {x:fa} {L:Nat}:i7 (.kn x L) (iv x) L:=⟨fun h=>by obtain ⟨y,⟨e,h⟩,g⟩:=t9 h;exact ⟨y,⟨by rw [e],h⟩,g⟩⟩
instance {x:aR} {L:Nat}:Dv (.kq x L) x L:=⟨fun h=>by obtain ⟨y,⟨e,h⟩,g⟩:=t9 h;exact ⟨y,⟨e,by rw [←e];exact h⟩,g⟩⟩
instance {x:aR} {L:Nat}:mq (.kq x L) (qv x) L:=⟨fun h=>by obtain ⟨y,⟨e,h⟩,g⟩:=t9 h;exact ⟨y,⟨by rw [e],h⟩,g⟩⟩
section
variable {w00:World} {N:Nat} {L:List Loc} {E:List (Nat×aa)} {d:Nat} {t0:TypeId} {pos:String} {af:Array Edge} {gd:Option (Nat×Bool)} {ats:Array TypeId}
theorem E8{x y:Bool} [h0:bD E o0 (.is (.bool x))] [h1:bD E o1 (.is (.bool y))] (hu:(x==y)=u):au Tryz.prog w00 N L E ⟨some d, .binOp .eql 4 o0 o1 t1,t0,pos,af,gd⟩ (.is (.bool u)):=by
 constructor
 intro X ρ w hc _ hN hm hsl
 have e0:ρ o0= .bool x:=h0.get (X:=X) (w:=w) hc fun p hp e=>hsl p hp qS
 have e1:ρ o1= .bool y:=h1.get (X:=X) (w:=w) hc fun p hp e=>hsl p hp qS
 clear hc hsl h0 h1
 unfold Yields
 have hb:=Tryz.underlying4
 subst hu
 cases x<;>cases y<;>go_simp<;>exact ⟨rfl,Below.refl _ _⟩
end
theorem TS.openL {w00 w:World} {X:List Nat} {L:List Loc} {E:List (Nat×aa)} {n:Nat} {a:Act} {r:Nat} {T:aa} (h:TS w00 X L E n a w) (hL:(r,T)∈L):∃ v,T.holds X w v∧∀ {T':aa} {L':List Loc},T'.holds X w v→m9 L r T T' L'→TS w00 X L' E n a w:=by
 obtain ⟨g1,g2,v,ty,g3,g4⟩:=h.mem.loc _ hL
 refine ⟨v,g3,fun {T' L'} hT' hu=>⟨h.size,h.df,h.slots,⟨fun p hp=> ?_,h.mem.far,by rw [hu.map];exact h.mem.nodup,h.mem.below⟩⟩⟩
 rcases hu.of h.mem.nodup p hp with rfl|⟨hp,_⟩
 ·exact ⟨g1,g2,v,ty,hT',g4⟩
 ·exact h.mem.loc p hp
def Js (c:UInt8):Bool:=decide (48≤(c.toNat:Int))&&decide ((c.toNat:Int)≤57)
def ng (l:List UInt8):Bool:=l.head? ==some 45
def bd (l:List UInt8):List UInt8:=bif ng l then l.tail else l
def wh (l:List UInt8):List UInt8:=(bd l).takeWhile Js
def r1 (l:List UInt8):List UInt8:=(bd l).dropWhile Js
def sp (l:List UInt8):Bool:=(r1 l).head? ==some 46
def r2 (l:List UInt8):List UInt8:=bif sp l then (r1 l).tail else r1 l
def pc (l:List UInt8):List UInt8:=bif sp l then (r2 l).takeWhile Js else []
def r3 (l:List UInt8):List UInt8:=bif sp l then (r2 l).dropWhile Js else r2 l
def dn (l:List UInt8):Int:=dz (ng l) (gZ (wh l++pc l))
theorem rL {l:List UInt8} {c:UInt8} (h:(l.head? ==some c)=true):l=c::l.tail:=by
 cases l with
 |nil=>cases h
 |cons x l=>have:x=c:=by simpa using h
            rw [this];rfl
def IH (b:Bool) (c:UInt8):List UInt8:=bif b then [c] else []
theorem parts (l:List UInt8):l=IH (ng l) 45++(wh l++(IH (sp l) 46++(pc l++r3 l))):=by
 have e1:l=IH (ng l) 45++bd l:=by
  unfold bd IH
  cases h:ng l with
  |true=>exact rL h
  |false=>rfl
 have e2:bd l=wh l++r1 l:=(List.takeWhile_append_dropWhile).symm
 have e3:r1 l=IH (sp l) 46++r2 l:=by
  unfold r2 IH
  cases h:sp l with
  |true=>exact rL h
  |false=>rfl
 have e4:r2 l=pc l++r3 l:=by
  unfold pc r3
  cases sp l with
  |true=>exact (List.takeWhile_append_dropWhile).symm
  |false=>rfl
 conv=>lhs;rw [e1,e2,e3,e4]
theorem trimS (l:List UInt8):Lib.trimSuffix (l++[46]) [46]=l:=by
 unfold Lib.trimSuffix Lib.hasSuffix
 rw [if_pos (by rw [List.isSuffixOf_iff_suffix];exact List.suffix_append _ _)]
 simp
abbrev Tx (l:List UInt8):Value:= .string ⟨l.toArray⟩
theorem FV (s:ByteArray):s=⟨s.data.toList.toArray⟩:=by cases s;simp
theorem yh (l:List UInt8):(⟨l.toArray⟩:ByteArray).size=l.length:=by simp [ByteArray.size]
theorem CQ (a b:List UInt8):((⟨a.toArray⟩:ByteArray)==⟨b.toArray⟩)=(a==b):=by
 by_cases h:a=b
 ·subst h
  rw [show (a==a)=true from beq_self_eq_true a]
  show (a.toArray==a.toArray)=true
  exact beq_self_eq_true _
 ·rw [beq_eq_false_iff_ne.2 h]
  show (a.toArray==b.toArray)=false
  exact beq_eq_false_iff_ne.2 fun e=>h (by simpa using e)
class Hx (P:Program) (ty:TypeId):Prop where
 ok:P.underlying ty=some .string
section
variable {P:Program} {w00:World} {N:Nat} {L:List Loc} {E:List (Nat×aa)} {d:Nat} {t0:TypeId} {pos:String} {af:Array Edge} {gd:Option (Nat×Bool)} {ats:Array TypeId}
theorem Ix{a b:List UInt8} [h0:bD E o0 (.is (Tx a))] [h1:bD E o1 (.is (Tx b))] (hu:(a==b)=u):au P w00 N L E ⟨some d, .binOp .eql ty o0 o1 t1,t0,pos,af,gd⟩ (.is (.bool u)):=by
 constructor
 intro X ρ w hc _ hN hm hsl
 have e0:ρ o0=Tx a:=h0.get (X:=X) (w:=w) hc fun p hp e=>hsl p hp qS
 have e1:ρ o1=Tx b:=h1.get (X:=X) (w:=w) hc fun p hp e=>hsl p hp qS
 have e2:=CQ a b
 rw [hu] at e2
 clear hc hsl h0 h1
 unfold Yields
 go_simp
 exact ⟨rfl,Below.refl _ _⟩
theorem AH{a b:List UInt8} [h0:bD E o0 (.is (Tx a))] [h1:bD E o1 (.is (Tx b))] (hu:(!(a==b))=u):au P w00 N L E ⟨some d, .binOp .neq ty o0 o1 t1,t0,pos,af,gd⟩ (.is (.bool u)):=by
 constructor
 intro X ρ w hc _ hN hm hsl
 have e0:ρ o0=Tx a:=h0.get (X:=X) (w:=w) hc fun p hp e=>hsl p hp qS
 have e1:ρ o1=Tx b:=h1.get (X:=X) (w:=w) hc fun p hp e=>hsl p hp qS
 have e2:=CQ a b
 subst hu
 clear hc hsl h0 h1
 unfold Yields
 go_simp
 exact ⟨rfl,Below.refl _ _⟩
theorem tM{l:List UInt8} [ho:bD E o (.is (Tx l))] [ht:Hx P ty]:au P w00 N L E ⟨some d, .call { callee:= .builtin .len,args:= #[o],argTypes:= #[ty] },t0,pos,af,gd⟩ (.is (.int .i64 (l.length:Int))):=by
 constructor
 intro X ρ w hc _ hN hm hsl
 have e0:ρ o=Tx l:=ho.get (X:=X) (w:=w) hc fun p hp e=>hsl p hp (by simp [Op.operands,Call.operands,e])
 have hu:=ht.ok
 have e2:=yh l
 clear hc hsl ho ht
 unfold Yields
 go_simp
 exact ⟨rfl,Below.refl _ _⟩
theorem yG{oi:Operand} {l:List UInt8} {c:UInt8} [ho:bD E o (.is (Tx l))] [hi:bD E oi (.is (.int .i64 x))] [ht:Hx P ty] (hx:0≤x∧l[x.toNat]? =some c):au P w00 N L E ⟨some d, .index ty o oi,t0,pos,af,gd⟩ (.is (.int .u8 (c.toNat:Int))):=by
 constructor
 intro X ρ w hc _ hN hm hsl
 have e0:ρ o=Tx l:=ho.get (X:=X) (w:=w) hc fun p hp e=>hsl p hp qS
 have e1:ρ oi= .int .i64 x:=hi.get (X:=X) (w:=w) hc fun p hp e=>hsl p hp qS
 have hu:=ht.ok
 obtain ⟨hx0,hx1⟩:=hx
 obtain ⟨hlt,hc1⟩:=List.getElem?_eq_some_iff.1 hx1
 have h3:x<(l.length:Int):=qO
 have e2:∀ h,(⟨l.toArray⟩:ByteArray)[x.toNat]'h=c:=fun h=>hc1
 clear hc hsl ho ht hi hx1
 unfold Yields
 go_simp
 exact ⟨rfl,Below.refl _ _⟩
theorem GV{y:Int} [h0:bD E o0 (.is (.int k x))] [h1:bD E o1 (.is (.int k y))] (hz:max x y=z):au P w00 N L E ⟨some d, .call { callee:= .builtin .max,args:= #[o0,o1],argTypes:=ats },t0,pos,af,gd⟩ (.is (.int k z)):=by
 constructor
 intro X ρ w hc _ hN hm hsl
 have e0:ρ o0= .int k x:=h0.get (X:=X) (w:=w) hc fun p hp e=>hsl p hp (by simp [Op.operands,Call.operands,e])
 have e1:ρ o1= .int k y:=h1.get (X:=X) (w:=w) hc fun p hp e=>hsl p hp (by simp [Op.operands,Call.operands,e])
 subst hz
 clear hc hsl h0 h1
 unfold Yields
 go_simp
 exact ⟨rfl,Below.refl _ _⟩
theorem EE{y:Int} [h0:bD E o0 (.is (.int k x))] [h1:bD E o1 (.is (.int k y))] (hz:k.wrap (x - y)=z):au P w00 N L E ⟨some d, .binOp .sub ty o0 o1 t1,t0,pos,af,gd⟩ (.is (.int k z)):=by
 constructor
 intro X ρ w hc _ hN hm hsl
 have e0:ρ o0= .int k x:=h0.get (X:=X) (w:=w) hc fun p hp e=>hsl p hp qS
 have e1:ρ o1= .int k y:=h1.get (X:=X) (w:=w) hc fun p hp e=>hsl p hp qS
 clear hc hsl h0 h1
 unfold Yields
 go_simp
 exact ⟨rfl,Below.refl _ _⟩
theorem AK{k2:IntKind} [h0:bD E o (.is (.int k x))] (hu:P.underlying ty=some (.int k)) (hu2:P.underlying t1=some (.int k2)) (hz:k2.wrap x=z):au P w00 N L E ⟨some d, .convert ty t1 o,t0,pos,af,gd⟩ (.is (.int k2 z)):=by
 constructor
 intro X ρ w hc _ hN hm hsl
 have e0:ρ o= .int k x:=h0.get (X:=X) (w:=w) hc fun p hp e=>hsl p hp qS
 clear hc hsl h0
 unfold Yields
 go_simp
 exact ⟨rfl,Below.refl _ _⟩
end
def aa.cs (c:List Value):aa:=⟨fun _ _ v=>v.cells=c.toArray,fun h _ _=>h⟩
class ji (T:aa) (c:outParam (List Value)):Prop where
 ok:∀ {X w v},T.holds X w v→v.cells=c.toArray
instance {c:List Value}:ji (.cs c) c:=⟨fun h=>h⟩
instance {c:List Value}:ji (.is (.agg c.toArray)) c:=⟨fun h=>by rw [show _=_ from h];rfl⟩
instance {l:List UInt8}:ji (.is (Tx l)) [Tx l]:=⟨fun h=>by rw [show _=_ from h];rfl⟩
class FO (c:List Value) (i:Nat) (v:outParam Value):Prop where
 ok:c[i]? =some v
instance {c:List Value} {v:Value}:FO (v::c) 0 v:=⟨rfl⟩
instance {c:List Value} {u v:Value}:FO (u::v::c) 1 v:=⟨rfl⟩
instance {c:List Value} {t u v:Value}:FO (t::u::v::c) 2 v:=⟨rfl⟩
instance {T:aa} {c:List Value} {i:Nat} {v:Value} [t:ji T c] [n:FO c i v]:ai T i 1 false (.is v):=⟨fun _=>rfl,fun {X w u} h=>⟨[v],rfl,fun j x hj=>by
 have:j=0∧x=v:=by
  cases j with
  |zero=>exact ⟨rfl,by simpa using hj.symm⟩
  |succ j=>simp at hj
 rw [t.ok h,this.1,this.2]
 simpa using n.ok,fun x _ hx=>by have:=hx rfl;simp at this;exact this.symm⟩⟩
instance {T:aa} {c:List Value} {a b d:Value} [t:ji T (a::b::d::c)]:ai T 0 3 true (.is (.agg #[a,b,d])):=⟨fun h=>(by cases h),fun {X w u} h=>⟨[a,b,d],rfl,fun j x hj=>by
 rw [t.ok h,Nat.zero_add]
 match j,hj with
 |0,hj=>simpa using hj
 |1,hj=>simpa using hj
 |2,hj=>simpa using hj
 |j+3,hj=>simp at hj,fun x hx _=>hx rfl⟩⟩
class Eb (c:List Value) (k:Nat):Prop where
 ok:c.length=k
instance {a:Value}:Eb [a] 1:=⟨rfl⟩
instance {a b d:Value}:Eb [a,b,d] 3:=⟨rfl⟩
instance pn.cellC {P:Program} {L:List Loc} {E:List (Nat×aa)} {s r k:Nat} {ty:TypeId} {c:List Value} [h:ck E s (.is (.pointer (some ⟨r,0,none⟩)))] [hl:p5 L r (.cs c)] [ht:fw P ty k true] [hk:Eb c k]:pn P L E (.cell s ty) (.is (.agg c.toArray)):=⟨fun {w00 X n a w} hts=>by
 have e:a.tmps.getD s undef= .pointer (some ⟨r,0,none⟩):=hts.slots _ h.mem
 obtain ⟨_,_,v,ty',hv,hh⟩:=hts.mem.loc _ hl.mem
 obtain ⟨dd,hu,hd⟩:=ht.row
 have hv':v.cells=c.toArray:=hv
 refine ⟨.agg c.toArray,?_,rfl⟩
 have hra:w.rangeAt r 0 c:=fun j u hj=>by
  rw [Nat.zero_add]
  exact gg hh (by rw [hv'];simpa using hj)
 have hi:(P.info? ty).map (·.size)=some c.length:=by rw [hk.ok];exact ht.size
 have:=run_loadVar_mid (P:=P) w r 0 ty c dd hra hu hd hi
 unfold ka
 simp only [e,asAddr,Sem.run_bind,Sem.run_pure,Result.andThen_ok,this]⟩
section
variable {P:Program} {w00:World} {X:List Nat} {L L':List Loc} {E:List (Nat×aa)} {n:Nat} {a:Act} {w:World} {ops:Array Oper} {rest:List Oper} {Q:Exit→Act→World→Prop} {cs:List Code} {t0:TypeId} {pos:String} {af:Array Edge}
theorem TS.cells {T0:aa} {r:Nat} {c0 c:List Value} (h:TS w00 X L E n a w) (hu:m9 L r T0 (.cs c) L') [h0:ji T0 c0] (hl:c.length=c0.length):TS w00 X L' E n a (w.setRow r c.toArray):=by
 exact h.write (k:=c.length) (k0:=c.length) (ag:=true) (ag0:=true) (v:= .agg c.toArray) hu (show (Value.agg c.toArray).cells=c.toArray from rfl)
class AU (c:List Value) (i:Nat) (v:Value) (c':outParam (List Value)):Prop where
 ok:c.set i v=c'∧i<c.length
instance {c:List Value} {u v:Value}:AU (u::c) 0 v (v::c):=⟨rfl,by simp⟩
instance {c:List Value} {a u v:Value}:AU (a::u::c) 1 v (a::v::c):=⟨rfl,by simp⟩
instance {c:List Value} {a b u v:Value}:AU (a::b::u::c) 2 v (a::b::v::c):=⟨rfl,by simp⟩
theorem co {ty:TypeId} {s r i:Nat} {o:Operand} {v:Value} {T0:aa} {c0 c:List Value} [hs:ck E s (.is (.pointer (some ⟨r,i,none⟩)))] [ho:bD E o (.is v)] [hu:j8 L r T0 (.cs c) L'] [h0:ji T0 c0] [hc:AU c0 i v c] [hty:fw P ty 1 false] (h1:v.oneCell'=true)
 (h:GR P w00 X L' E n ops rest cs Q):GR P w00 X L E n ops (⟨none, .store ty (.tmp s) o,t0,pos,af,none⟩::rest) cs Q:=⟨fun a w ht=>by
 refine dT rfl ?_
 have e1:a.eval (.tmp s)= .pointer (some ⟨r,i,none⟩):=ht.slots _ hs.mem
 have e2:a.eval o=v:=ho.get (X:=X) (w:=w) (fun _=>rfl) fun p hp _=>ht.slots p hp
 obtain ⟨g1,g2,u,ty',g3,g4⟩:=ht.mem.loc _ hu.upd.mem
 rw [h0.ok g3] at g4
 obtain ⟨hc1,hc2⟩:=hc.ok
 have hi:=hty.size
 have hcell:w.cell? ⟨r,i,none⟩=some c0[i]:=gg g4 (by simp [hc2])
 have hfro:w.frozen? ⟨r,i,none⟩=false:=by simp [World.frozen?,g4]
 have hadd:(⟨r,i,none⟩:Addr).add 0=⟨r,i,none⟩:=by unfold Addr.add;split<;>simp_all
 have hst:(store ((⟨r,i,none⟩:Addr).add 0) v).run P w= .ok () (w.setRow r c.toArray):=by
  rw [hadd,run_store P w _ v _ h1,hcell]
  simp [hfro,setCell_eq_setRow w r i c0.toArray ty' (0,0) v g4,hc1]
 have hcl:v.cells= #[v]:=f6 h1
 have hsv:(storeVar ty ⟨r,i,none⟩ v).run P w= .ok () (w.setRow r c.toArray):=by
  cases hq:P.info? ty with
  |none=>simp [hq] at hi
  |some q=>
   have hs:q.size=1:=by simpa [hq] using hi
   simp [storeVar,sizeOf,typeInfo,hq,hcl,hs,storeCells,hst]
 unfold Oper.wp execOp
 simp only [e1,e2,Instr.storeAt,Instr.sureAddr,Sem.run_bind,Sem.run_pure,Result.andThen_ok,hsv]
 exact h.run a _ (ht.cells hu.upd (by rw [←hc1];simp))⟩
theorem cA {ty:TypeId} {s r:Nat} {o:Operand} {T0:aa} {c0 c:List Value} [hs:ck E s (.is (.pointer (some ⟨r,0,none⟩)))] [ho:bD E o (.is (.agg c.toArray))] [hu:j8 L r T0 (.cs c) L'] [h0:ji T0 c0] [hty:fw P ty c.length true] (hl:Nat.beq c.length c0.length=true) (h1:c.all (·.oneCell')=true)
 (h:GR P w00 X L' E n ops rest cs Q):GR P w00 X L E n ops (⟨none, .store ty (.tmp s) o,t0,pos,af,none⟩::rest) cs Q:=⟨fun a w ht=>by
 refine dT rfl ?_
 have e1:a.eval (.tmp s)= .pointer (some ⟨r,0,none⟩):=ht.slots _ hs.mem
 have e2:a.eval o= .agg c.toArray:=ho.get (X:=X) (w:=w) (fun _=>rfl) fun p hp _=>ht.slots p hp
 obtain ⟨g1,g2,u,ty',g3,g4⟩:=ht.mem.loc _ hu.upd.mem
 have hl':c.length=c0.length:=Nat.eq_of_beq_eq_true hl
 have hi:=hty.size
 have hst:(storeVar ty ⟨r,0,none⟩ (.agg c.toArray)).run P w= .ok () (w.setRow r c.toArray):=
  run_storeVar_row (P:=P) w r ty' ty u.cells c.toArray g4 (by rw [hi];simp) (by rw [h0.ok g3];simp [hl']) (by simpa using h1)
 unfold Oper.wp execOp
 simp only [e1,e2,Instr.storeAt,Instr.sureAddr,Sem.run_bind,Sem.run_pure,Result.andThen_ok,hst]
 exact h.run a _ (ht.cells hu.upd hl')⟩
def aa.gh (X0:List Nat) (w0:World):aa:=⟨fun X w _=>(∀ b∈X,b<w0.heap.size→b∈X0)∧gr X0 w0 w,fun {X X' w w' v} ⟨h1,h2⟩ hk hX=>⟨fun b hb hlt=>h1 b (hX b hb (Nat.lt_of_lt_of_le hlt h2.size)) hlt,
 ⟨Nat.le_trans h2.size hk.size,fun b hb hx=>(hk.block b (Nat.lt_of_lt_of_le hb h2.size) fun h=>hx (h1 b h hb)).trans (h2.block b hb hx)⟩⟩⟩
def Dl (w00:World) (X:List Nat) (L:List Loc) (w:World) (T:aa) (e:Ending) (w':World):Prop:=∃ v,e= .returned v∧T.holds X w' v∧vM w00 X L w'∧gr X w w'
structure JQ (P:Program) (G:World→Prop) (f:FuncId) (T0:aa) (ks:List Nat) (As:List aa) (T1 T:aa):Prop where
 ent:aJ P f
 run:∀ {w00 w:World} {X:List Nat} {L0:List Loc} {r:Nat} {vs:List Value},G w→vM w00 X ((r,T0)::L0) w→cM X w As vs→Calls P f (.pointer (some ⟨r,0,none⟩)::vs).toArray w (Dl w00 X ((r,T1)::L0) w T)
class JG (T:aa) (T':outParam aa):Prop where
 ok:∀ {X w v},T.holds X w v→T'.holds X w v
instance {c:List Value}:JG (.cs c) (.cs c):=⟨fun h=>h⟩
instance {c:List Value}:JG (.is (.agg c.toArray)) (.cs c):=⟨fun h=>by rw [show _=_ from h];rfl⟩
instance {l:List UInt8}:JG (.is (Tx l)) (.cs [Tx l]):=⟨fun h=>by rw [show _=_ from h];rfl⟩
class AD (E:List (Nat×aa)) (s:Nat) (T:aa):Prop where
 mem:(s,T)∈E
instance AD.here {E:List (Nat×aa)} {s:Nat} {T:aa}:AD ((s,T)::E) s T:=⟨List.mem_cons_self⟩
instance (priority:=low) AD.there {E:List (Nat×aa)} {s:Nat} {T:aa} {p:Nat×aa} [h:AD E s T]:AD (p::E) s T:=⟨List.mem_cons_of_mem _ h.mem⟩
class B_ (L0 L:List Loc):Prop where
 sub:∀ p∈L0,p∈L
instance B_.here {L:List Loc}:B_ L L:=⟨fun _ h=>h⟩
instance (priority:=low) B_.there {L0 L:List Loc} {p:Loc} [h:B_ L0 L]:B_ L0 (p::L):=⟨fun q hq=>List.mem_cons_of_mem _ (h.sub q hq)⟩
theorem bW.mono{G G':World→Prop} {ks:List Nat} {As:List aa} {T:Nat→aa} (h:bW P G f ks As T) (hg:∀ w,G' w→G w):bW P G' f ks As T:=⟨h.ent,h.down,fun hG=>h.run (hg _ hG)⟩
end
section
variable {P:Program} {w00:World} {X:List Nat} {L L':List Loc} {E:List (Nat×aa)} {n:Nat} {cs:List Code} {Q:Exit→Act→World→Prop} {ops:Array Oper} {rest:List Oper} {t0:TypeId} {pos:String} {af:Array Edge}
instance (priority:=high) {ty:TypeId} {s r i:Nat} {o:Operand} {v:Value} {T0:aa} {L1:List Loc} {c0 c:List Value} [hs:ck E s (.is (.pointer (some ⟨r,i,none⟩)))] [ho:bD E o (.is v)] [hu1:j8 L r T0 aa.any L1] [h0:ji T0 c0] [hc:AU c0 i v c] [hu:j8 L r T0 (.cs c) L'] [hty:fw P ty 1 false]:
 Nx (GR P w00 X L E n ops (⟨none, .store ty (.tmp s) o,t0,pos,af,none⟩::rest) cs Q) (Bt (v.oneCell'=true) (GR P w00 X L' E n ops rest cs Q)):=⟨fun h=>co (r:=r) (i:=i) (v:=v) (T0:=T0) (c0:=c0) (c:=c) h.l h.r⟩
instance {ty:TypeId} {s r:Nat} {o:Operand} {T0:aa} {c0 c:List Value} [hs:ck E s (.is (.pointer (some ⟨r,0,none⟩)))] [ho:bD E o (.is (.agg c.toArray))] [hu:j8 L r T0 (.cs c) L'] [h0:ji T0 c0] [hty:fw P ty c.length true]:
 Nx (GR P w00 X L E n ops (⟨none, .store ty (.tmp s) o,t0,pos,af,none⟩::rest) cs Q) (Bt (Nat.beq c.length c0.length=true) (Bt (c.all (·.oneCell')=true) (GR P w00 X L' E n ops rest cs Q))):=⟨fun h=>cA (r:=r) (T0:=T0) (c0:=c0) (c:=c) h.l h.r.l h.r.r⟩
end
def aa.dv (k:IntKind) (β V:Int) (L:Nat):aa:=⟨fun X w v=>∃ A n c xs,v= .slice A n c∧Ce k w (cU X w) A n c xs∧Dg β xs∧val β xs=V∧n≤L,
 fun ⟨A,n,c,xs,e,h,d,hv,l⟩ hk hX=>⟨A,n,c,xs,e,(h.keep fun b hb=>hk.block b hb.1 hb.2).more (cU.mono hk hX),d,hv,l⟩⟩
def aa.dr (k:IntKind) (β V:Int) (L:Nat):aa:=⟨fun X w v=>∃ A n c xs,v= .slice A n c∧Ce k w (cU X w) A n c xs∧fZ β V xs∧n≤L,
 fun ⟨A,n,c,xs,e,h,d,l⟩ hk hX=>⟨A,n,c,xs,e,(h.keep fun b hb=>hk.block b hb.1 hb.2).more (cU.mono hk hX),d,l⟩⟩
abbrev aa.lr (V:Int) (L:Nat):aa:= .dr .u32 4294967296 V L
section
variable {k:IntKind} {β V:Int} {L:Nat}
instance:aL (.dv k β V L) 1 false:=⟨fun {X w v} ⟨A,n,c,xs,e,_⟩=>by rw [e];exact ⟨rfl,by simp [Value.cells,Value.oneCell'],(fun h=>by cases h),fun _=>rfl⟩⟩
instance:aL (.dr k β V L) 1 false:=⟨fun {X w v} ⟨A,n,c,xs,e,_⟩=>by rw [e];exact ⟨rfl,by simp [Value.cells,Value.oneCell'],(fun h=>by cases h),fun _=>rfl⟩⟩
instance:ai (.dv k β V L) 0 1 false (.dv k β V L):= .single inferInstance
instance:ai (.dr k β V L) 0 1 false (.dr k β V L):= .single inferInstance
class JS (T:aa) (k:outParam IntKind) (β V:outParam Int) (L:outParam Nat):Prop where
 ok:∀ {X w v},T.holds X w v→(aa.dv k β V L).holds X w v
instance:JS (.dv k β V L) k β V L:=⟨fun h=>h⟩
instance:JS (.dr k β V L) k β V L:=⟨fun ⟨A,n,c,xs,e,h,d,l⟩=>⟨A,n,c,xs,e,h,d.dg,d.val,l⟩⟩
end
instance {N:Int} {L:Nat}:ai (.nc N L) 0 1 false (.is (.bool (decide (N<0)))):=⟨fun _=>rfl,fun {X w v} hv=>by
 obtain ⟨x,⟨hw,_⟩,cs,rfl,hr⟩:=hv
 obtain ⟨A,n,c,rfl,_⟩:=b9.1 hr
 refine ⟨[.bool x.1],rfl,fun j u hj=> ?_,fun u _ hu=> ?_⟩
 ·cases j with
  |zero=>simpa [Value.cells] using hj
  |succ j=>simp at hj
 ·have:=hu rfl
  simp at this
  rw [←this,hw.sg]
  rfl⟩
instance {N:Int} {L:Nat}:ai (.nc N L) 1 1 false (.lr (N.natAbs:Int) L):=⟨fun _=>rfl,fun {X w v} hv=>by
 obtain ⟨x,⟨hw,hl⟩,cs,rfl,hr⟩:=hv
 obtain ⟨A,n,c,rfl,hs,hd⟩:=b9.1 hr
 refine ⟨[.slice A n c],rfl,fun j u hj=> ?_,fun u _ hu=> ?_⟩
 ·cases j with
  |zero=>simpa [Value.cells] using hj
  |succ j=>simp at hj
 ·have:=hu rfl
  simp at this
  rw [←this]
  exact ⟨A,n,c,x.2,rfl,hs,hw.row,by rw [←hs.1.len];exact hw.len hl⟩⟩
instance:Hx Tryz.prog 9:=⟨Tryz.underlying9⟩
instance:fw Tryz.prog 9 1 false:=⟨⟨_,Tryz.underlying9,rfl⟩,by kernel_rfl⟩
instance:fw Tryz.prog 4 1 false:=⟨⟨_,Tryz.underlying4,rfl⟩,by kernel_rfl⟩
instance:aq Tryz.prog 25 0 0 1 false:=⟨⟨_,_,Tryz.underlying25,rfl,rfl,by kernel_rfl,by decide,_,Tryz.underlying4,rfl⟩⟩
instance {N:Int} {L B:Nat}:ai (.nn N L B) 0 1 false (.is (.bool (decide (N<0)))):=⟨fun _=>rfl,fun h=>(inferInstance:ai (.nc N L) 0 1 false (.is (.bool (decide (N<0))))).ok (nL h)⟩
instance {N:Int} {L B:Nat}:ai (.nn N L B) 1 1 false (.lr (N.natAbs:Int) L):=⟨fun _=>rfl,fun h=>(inferInstance:ai (.nc N L) 1 1 false (.lr (N.natAbs:Int) L)).ok (nL h)⟩
abbrev S1:World→Prop:=fun _=>True
instance:xS S1:=⟨fun _ _=>trivial⟩
theorem CS{P:Program} {G:World→Prop} {u u2 v:Value} (he:aJ P f) (h:∀ w,G w→Calls P f #[u,u2] w fun e w'=>e= .returned v∧Below w.heap.size w w'):bW P G f [0,0] [.is u, .is u2] (fun _=> .is v):=
 ⟨he,fun _ h=>h,fun {X w vs} hG _ ha=>by
  obtain ⟨x,y,rfl,e,e2⟩:=ha.two
  rw [show x=u from e,show y=u2 from e2]
  exact (h w hG).mono fun e w' g=>⟨v,g.1,rfl,g.2⟩⟩
theorem bu (l:List UInt8):(⟨l.toArray⟩:ByteArray).data.toList=l:=by simp
theorem aA(h0:0≤x) (h1:x≤9223372036854775807):IntKind.i64.wrap x=x:=by rw [IntKind.wrap_i64];omega
theorem cU.new6 {X:List Nat} {w:World} (hX:∀ b∈X,b<w.heap.size) (o:Obj):cU X (w.alloc o) w.heap.size:=⟨by rw [ak];exact Nat.lt_succ_self _,fun h=>Nat.lt_irrefl _ (hX _ h)⟩
def aa.vs (l:List Value):aa:=⟨fun X w v=>∃ b,v= .slice (some ⟨b,0,none⟩) l.length l.length∧cU X w b∧∀ (j:Nat) (u:Value),l[j]? =some u→w.cell? ⟨b,j,none⟩=some u,
 fun ⟨b,e,hb,h⟩ hk hX=>⟨b,e,cU.mono hk hX b hb,fun j u hj=>(World.cell?_of_block (hk.block b hb.1 hb.2)).trans (h j u hj)⟩⟩
def aa.pv (u:Value):aa:=⟨fun X w v=>∃ b o,v= .pointer (some ⟨b,o,none⟩)∧cU X w b∧w.cell? ⟨b,o,none⟩=some u,
 fun ⟨b,o,e,hb,h⟩ hk hX=>⟨b,o,e,cU.mono hk hX b hb,(World.cell?_of_block (hk.block b hb.1 hb.2)).trans h⟩⟩
def lG (k:Nat):List Value→List (Nat×Value)
 |[]=>[]
 |v::vs=>(k,v)::lG (k+1) vs
class G_ (E:List (Nat×aa)) (ps:List (Nat×Operand)) (k:Nat) (vs:outParam (List Value)):Prop where
 get:∀ {X:List Nat} {w:World} {ρ:Operand→Value},(∀ c,ρ (.const c)=c)→(∀ p∈E, .tmp p.1∈ps.map Prod.snd→p.2.holds X w (ρ (.tmp p.1)))→ps.map (fun p=>(p.1,ρ p.2))=lG k vs
instance G_.nil {E:List (Nat×aa)} {k:Nat}:G_ E [] k []:=⟨fun _ _=>rfl⟩
instance G_.cons {E:List (Nat×aa)} {o:Operand} {ps:List (Nat×Operand)} {k:Nat} {v:Value} {vs:List Value} [ho:bD E o (.is v)] [t:G_ E ps (k+1) vs]:G_ E ((k,o)::ps) k (v::vs):=⟨fun {X w ρ} hc hs=>by
 rw [List.map_cons,t.get (X:=X) (w:=w) hc fun p hp hm=>hs p hp (List.mem_cons_of_mem _ hm)]
 have e:ρ o=v:=ho.get (X:=X) (w:=w) hc fun p hp e=>hs p hp (by rw [e];exact List.mem_cons_self)
 rw [e]
 rfl⟩
theorem qt:∀ (vs:List Value) (k:Nat) (c:Array Value),(∀ v∈vs,v.oneCell'=true)→k+vs.length≤c.size→
 ∃ c',Instr.fill (fun i=>some (i*1,1)) c (lG k vs)=some c'∧c'.size=c.size∧(∀ j,j<k→c'[j]? =c[j]?)∧∀ j u,vs[j]? =some u→c'[k+j]? =some u
 |[],k,c,_,_=>⟨c,rfl,rfl,fun _ _=>rfl,fun j u h=>by simp at h⟩
 |v::vs,k,c,h1,hl=>by
  have hv:=f6 (h1 v List.mem_cons_self)
  simp only [List.length_cons] at hl
  obtain ⟨c',e,hs,ho,hn⟩:=qt vs (k+1) (c.setIfInBounds k v) (fun u hu=>h1 u (List.mem_cons_of_mem _ hu)) (by simp;omega)
  refine ⟨c',?_,by rw [hs];simp,fun j hj=> ?_,fun j u hj=> ?_⟩
  ·unfold lG Instr.fill
   simp only [hv,Nat.mul_one]
   rw [if_neg (by simp;omega)]
   simpa using e
  ·rw [ho j qO]
   simp [Array.getElem?_setIfInBounds,show k≠j by omega]
  ·cases j with
   |zero=>
    rw [Nat.add_zero,ho k qO]
    have:v=u:=by simpa using hj
    rw [←this]
    simp [Array.getElem?_setIfInBounds,show k<c.size by omega]
   |succ j=>
    have:=hn j u (by simpa using hj)
    rw [show k+(j+1)=k+1+j by omega]
    exact this
class uR (P:Program) (ty:TypeId):Prop where
 ok:∃ e,P.underlying ty=some (.slice e)∧(P.info? e).map (·.size)=some 1∧∀ w,∃ z,(zeroValue e).run P w= .ok z w
instance {P:Program} {ty:TypeId} [r:uR P ty]:cP P ty 1:=let ⟨e,h1,h2,_⟩:=r.ok;⟨⟨e,h1,h2⟩⟩
section
variable {P:Program} {w00:World} {N:Nat} {L:List Loc} {E:List (Nat×aa)} {d:Nat} {t0:TypeId} {pos:String} {af:Array Edge} {gd:Option (Nat×Bool)} {ats:Array TypeId}
theorem tj{n:Nat} {ps:List (Nat×Operand)} {vs:List Value} [r:uR P ty] [h:G_ E ps 0 vs] (hn:Nat.beq vs.length n=true) (hs:Nat.ble n 10000=true) (h1:vs.all (·.oneCell')=true):au P w00 N L E ⟨some d, .buildSlice ty n ps.toArray,t0,pos,af,gd⟩ (.vs vs):=by
 constructor
 intro X ρ w hc _ hN hm hsl
 obtain ⟨e,hu,hi,hz⟩:=r.ok
 obtain ⟨z,hz⟩:=hz w
 have hn':vs.length=n:=Nat.eq_of_beq_eq_true hn
 have hs':=Nat.le_of_ble_eq_true hs
 have hps:=h.get (X:=X) (w:=w) (ρ:=ρ) hc fun p hp hm=>hsl p hp (by
  simp only [Op.operands]
  obtain ⟨q,hq,e⟩:=List.mem_map.1 hm
  simp
  exact ⟨q.1,by rw [←e];exact hq⟩)
 have hsz:(sizeOf e).run P w= .ok 1 w:=by
  cases hq:P.info? e with
  |none=>rw [hq] at hi;cases hi
  |some q=>
   rw [hq] at hi
   have:q.size=1:=by simpa using hi
   simp [sizeOf,typeInfo,hq,this]
 have hfill:∀ c:Array Value,c.size=n→∃ c':Array Value,Instr.fill (fun i=>some (i*1,1)) c (ps.map fun p=>(p.1,ρ p.2))=some c'∧∀ (j:Nat) (u:Value),vs[j]? =some u→c'[j]? =some u:=fun c hcs=>by
  obtain ⟨c',ef,_,_,ev⟩:=qt vs 0 c (by simpa using h1) qO
  rw [hps]
  exact ⟨c',ef,fun j u hj=>by have:=ev j u hj;rwa [Nat.zero_add] at this⟩
 have hrun:∃ c':Array Value,(Instr.buildSlice ty n (ps.toArray.map fun (i,x)=>(i,ρ x))).run P w= .ok (.slice (some ⟨w.heap.size,0,none⟩) n n) (w.alloc (.cells c' e))∧∀ (j:Nat) (u:Value),vs[j]? =some u→c'[j]? =some u:=by
  obtain ⟨c',ef,ev⟩:=hfill ((Array.range (n*1)).map ((if n*1=0 then #[] else z.cells)[· %(if n*1=0 then #[] else z.cells).size]!)) qE
  refine ⟨c',?_,ev⟩
  have hbig:¬ 2^24<n*1:=qO
  have hl:(ps.toArray.map fun (i,x)=>(i,ρ x)).toList=ps.map fun p=>(p.1,ρ p.2):=by simp
  unfold Instr.buildSlice
  simp only [Sem.run_bind,run_underlying hu w,Result.andThen_ok,hsz,if_neg hbig,hl,Sem.run_pure]
  by_cases h0:n*1=0
  ·rw [if_pos h0] at ef ⊢
   simp only [Sem.run_bind,Sem.run_pure,Result.andThen_ok,ef]
   rfl
  ·rw [if_neg h0] at ef ⊢
   simp only [Sem.run_bind,hz,Sem.run_pure,Result.andThen_ok,ef]
   rfl
 obtain ⟨c',hrun,hc'⟩:=hrun
 unfold Yields execOp
 simp only [Sem.run_bind,hrun,Result.andThen_ok,Sem.run_pure]
 refine ⟨⟨w.heap.size,by rw [hn'],cU.new6 hm.far _,fun j u hj=> ?_⟩,(Below.refl _ _).alloc (Nat.le_refl _) _⟩
 exact gg (i6 w (.cells c' e)) (hc' j u hj)
theorem Ez{l:List Value} [ho:ck E s (.vs l)] [ht:uR P ty]:au P w00 N L E ⟨some d, .call { callee:= .builtin .len,args:= #[.tmp s],argTypes:= #[ty] },t0,pos,af,gd⟩ (.is (.int .i64 l.length)):=by
 constructor
 intro X ρ w hc _ hN hm hsl
 obtain ⟨b,e,_⟩:=hsl _ ho.mem qJ
 have e1:ρ (.tmp s)= .slice (some ⟨b,0,none⟩) l.length l.length:=e
 obtain ⟨el,hu,_⟩:=ht.ok
 clear hc hsl ho ht e hm
 unfold Yields
 go_simp
 exact ⟨rfl,Below.refl _ _⟩
theorem yA{l:List Value} {u:Value} {oi:Operand} {j:Nat} [ho:bD E o (.vs l)] [hi:bD E oi (.is (.int .i64 (j:Int)))] [ht:uR P ty] (ha:l[j]? =some u):au P w00 N L E ⟨some d, .indexAddr ty o oi,t0,pos,af,gd⟩ (.pv u):=by
 constructor
 intro X ρ w hc _ hN hm hsl
 obtain ⟨b,e,hb,h⟩:=ho.get (X:=X) (w:=w) hc fun p hp e=>hsl p hp qS
 have e1:ρ o= .slice (some ⟨b,0,none⟩) l.length l.length:=e
 have e2:ρ oi= .int .i64 j:=hi.get (X:=X) (w:=w) hc fun p hp e=>hsl p hp qS
 have hj:j<l.length:=(List.getElem?_eq_some_iff.1 ha).1
 obtain ⟨el,hu,hs,_⟩:=ht.ok
 have hz:(sizeOf el).run P w= .ok 1 w:=by
  cases hq:P.info? el with
  |none=>rw [hq] at hs;cases hs
  |some q=>
   rw [hq] at hs
   have:q.size=1:=by simpa using hs
   simp [sizeOf,typeInfo,hq,this]
 have hrun:(execOp ρ ⟨some d, .indexAddr ty o oi,t0,pos,af,gd⟩).run P w= .ok (.value (.pointer (some ⟨b,0+j*1,none⟩))) w:=by
  unfold execOp
  have hji:(0:Int)≤(j:Int)∧(j:Int)<(l.length:Int):=⟨by omega,by omega⟩
  simp only [e1,e2,Instr.indexAt,asIntOf,Sem.run_bind,Sem.run_pure,Result.andThen_ok,run_underlying hu w,hji,and_self,if_true,hz,Int.toNat_natCast,Addr.add_mid]
 unfold Yields
 rw [hrun]
 exact ⟨⟨b,_,rfl,hb,by rw [show 0+j*1=j by omega];exact h j u ha⟩,Below.refl _ _⟩
theorem wi{u:Value} [ho:ck E s (.pv u)] [ht:fw P ty 1 false]:au P w00 N L E ⟨some d, .load ty (.tmp s),t0,pos,af,gd⟩ (.is u):=by
 constructor
 intro X ρ w hc _ hN hm hsl
 obtain ⟨b,o,e,hb,hcell⟩:=hsl _ ho.mem qI
 have e1:ρ (.tmp s)= .pointer (some ⟨b,o,none⟩):=e
 obtain ⟨dd,hu,hd⟩:=ht.row
 have hag:(isAgg ty).run P w= .ok false w:=by
  unfold isAgg
  rw [Sem.run_bind,run_underlying hu w]
  cases dd<;>first|rfl|cases hd
 have hrun:(execOp ρ ⟨some d, .load ty (.tmp s),t0,pos,af,gd⟩).run P w= .ok (.value u) w:=by
  unfold execOp
  simp only [e1,Instr.loadAt,Instr.sureAddr,loadVar,Sem.run_bind,Sem.run_pure,Result.andThen_ok,hag,run_load,hcell,if_false,Bool.false_eq_true]
 unfold Yields
 rw [hrun]
 exact ⟨rfl,Below.refl _ _⟩
end
instance:uR Tryz.prog 29:=⟨⟨_,Tryz.underlying29,by kernel_rfl,fun w=>⟨Tx [],by go_simp⟩⟩⟩
instance:uR Tryz.prog 93:=⟨⟨_,Tryz.underlying93,by kernel_rfl,fun w=>⟨.int .i64 0,by go_simp⟩⟩⟩
end Go.Proofs.YtpmhjieibebclaaGreatDoor
