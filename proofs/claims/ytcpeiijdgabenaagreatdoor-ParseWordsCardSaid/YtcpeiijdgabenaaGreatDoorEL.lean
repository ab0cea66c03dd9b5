/- Kinds of arguments; calls of function values by their contracts; limbs read one by one; fractions and the whole numbers next to them. -/
import Derived.Test.YtcpeiijdgabenaaGreatDoorEG
import Derived.Test.YtcpeiijdgabenaaGreatDoorEJ
import Derived.Test.YtcpeiijdgabenaaGreatDoorEK
import Derived.Test.YtcpeiijdgabenaaGreatDoorEI
import Derived.Test.YtcpeiijdgabenaaGreatDoorEB
import Derived.Test.YtcpeiijdgabenaaGreatDoorEA
import Derived.Lib.TrimByte
import Derived.Lib.Strings
import Derived.Test.YtcpeiijdgabenaaGreatDoorEC
import Derived.Test.YtcpeiijdgabenaaGreatDoorShelf
set_option maxHeartbeats 4000000
set_option maxRecDepth 20000
set_option linter.unusedSimpArgs false
set_option linter.unusedVariables false
namespace Go.Proofs.YtcpeiijdgabenaaGreatDoor
open Go Go.RowKit
variable {ty t1:TypeId} {n z:Bool} {o o1 o0:Operand} {x V:Int} {r s K k:Nat} {f:FuncId} {w w0 w00:World} {X X0 ks:List Nat} {T T0 T':ai} {u v:Value} {As:List ai} {L:List Loc} {E:List (Nat×ai)} {l:List Value}
instance {T:ai} {q:Rat} {L:Nat} [a:qV T q L]:Cc 1 T (.qa q L):=⟨a.ok⟩
instance {T:ai} {N:Int} {L:Nat} [a:my T N L]:Cc 2 T (.na N L):=⟨a.ok⟩
instance {T:ai} {q:Rat} {L:Nat} [a:zk T q L]:Cc 3 T (.qc q L):=⟨a.ok⟩
instance {T:ai} {x:bA} {L:Nat} [a:Fx T x L]:Cc 4 T (.qx x L):=⟨a.ok⟩
class Hv (T:ai) (N:outParam Int) (L:outParam Nat):Prop where
 ok:∀ {X w v},T.holds X w v→(ai.nc N L).holds X w v
instance {N:Int} {L:Nat}:Hv (.nc N L) N L:=⟨fun h=>h⟩
instance {N:Int} {L B:Nat}:Hv (.nn N L B) N L:=⟨fun h=>nC h⟩
instance {N:Int} {L B:Nat} {T:ai} [a:Hv T N L]:Hv (.und B T) N L:=⟨fun h=>a.ok (eN h)⟩
instance {N:Int} {L B:Nat} {T:ai} [a:my T N L]:my (.und B T) N L:=⟨fun h=>a.ok (eN h)⟩
class Hl (T:ai) (x:outParam gp) (L:outParam Nat):Prop where
 ok:∀ {X w v},T.holds X w v→(ai.nx x L).holds X w v
instance {x:gp} {L:Nat}:Hl (.nx x L) x L:=⟨fun h=>h⟩
instance {x:gp} {L B:Nat} {T:ai} [a:Hl T x L]:Hl (.und B T) x L:=⟨fun h=>a.ok (eN h)⟩
instance {T:ai} {N:Int} {L:Nat} [a:Hv T N L]:Cc 5 T (.nc N L):=⟨a.ok⟩
instance {T:ai} {x:gp} {L:Nat} [a:Hl T x L]:Cc 6 T (.nx x L):=⟨a.ok⟩
instance {T:ai} {x:bA} [a:Gc T x]:Cc 7 T (.qz x):=⟨a.ok⟩
instance {T:ai} {K:Nat} {l:List bA} [a:EM T Rp.frac (lN K) l]:Cc 8 T (.rq K l):=⟨a.ok⟩
instance {K:Nat} {l:List bA}:EM (.rq K l) Rp.frac (lN K) l:=⟨fun h=>h⟩
instance:jL g9:=⟨g9.below⟩
instance {q:Rat} {L:Nat}:d8 fun B=> .qn q L B:=⟨fun hB h=>mP h hB⟩
instance {q:Rat} {L:Nat}:d8 fun B=> .qg q L B:=⟨fun hB h=>mP h hB⟩
instance {N:Int} {L:Nat}:d8 fun B=> .nn N L B:=⟨fun hB h=>i6 h hB⟩
instance kR.name {E:List (Nat×ai)} {f:FuncId} {os:List Operand} {k:Nat} {ks:List Nat} {As:List ai} [t:kR E os ks As]:kR E (.func f::os) (k::ks) (.fv f [] []::As):=
 ⟨fun hc hf hs=>⟨⟨[],[],hf f,trivial,trivial⟩,t.get hc hf fun p hp hm=>hs p hp (List.mem_cons_of_mem _ hm)⟩⟩
section
variable {P:Program} {G:World→Prop} {w00:World} {N:Nat} {L:List Loc} {E:List (Nat×ai)} {d:Nat} {t0:TypeId} {pos:String} {af:Array Edge} {gd:Option (Nat×Bool)} {ats:Array TypeId}
theorem Jk{os:List Operand} {T:Nat→ai} [hs:ce E s (.fv f [] [])] [k:kR E os ks As] [sg:jL G] (hG:G w00) (h:dB P G f ks As T):
 aR P w00 N L E ⟨some d, .call { callee:= .value (.tmp s),args:=os.toArray,argTypes:=ats },t0,pos,af,gd⟩ (T w00.heap.size):=by
 constructor
 intro X ρ w hc hf hN hm hsl
 obtain ⟨vs,us,e0,g1,g2⟩:=hsl _ hs.mem qJ
 have e:=k.get (X:=X) (w:=w) hc hf fun p hp he=>hsl p hp (by simp [Op.operands,Call.operands,he])
 match vs,us,g1,g2 with
 |[],[],_,_=>
  have e':ρ (.tmp s)= .func (.func f) #[] #[]:=e0
  have hr:(execOp ρ ⟨some d, .call { callee:= .value (.tmp s),args:=os.toArray,argTypes:=ats },t0,pos,af,gd⟩).run P w= .ok (.enter f (os.map ρ).toArray) w:=by
   have hen:=h.ent
   clear hsl h hm hN hc e k hf e0
   go_simp
   exact hen _ _
  unfold Yields
  rw [hr]
  refine (h.run (sg.stab hG hm.below) hm.far e).mono ?_
  rintro e w' ⟨v,rfl,hT,hB⟩
  exact ⟨v,rfl,h.down hm.below.size hT,hB⟩
theorem dB.weak{T T':Nat→ai} [dn:d8 T'] (h:dB P G f ks As T) (hi:∀ {B:Nat} {X:List Nat} {w:World} {v:Value},(T B).holds X w v→(T' B).holds X w v):dB P G f ks As T':=
 ⟨h.ent,dn.down,fun hG hX ha=>(h.run hG hX ha).mono fun _ _ g=>g.imp fun _=>hi⟩
def ai.pl (x:Int):ai:=⟨fun X w v=>∃ b o,v= .pointer (some ⟨b,o,none⟩)∧cZ X w b∧w.cell? ⟨b,o,none⟩=some (.int .u32 x),fun ⟨b,o,e,hb,h⟩ hk hX=>⟨b,o,e,cZ.mono hk hX b hb,(World.cell?_of_block (hk.block b hb.1 hb.2)).trans h⟩⟩
theorem gy{xs:List Int} [ho:b_ E o (.rc Rp.limbs xs)] [ht:cO P ty 1] (hx:xs[0]? =some x):aR P w00 N L E ⟨some d, .indexAddr ty o (.const (.int .i64 0)),t0,pos,af,gd⟩ (.pl x):=by
 constructor
 intro X ρ w hc _ hN hm hsl
 obtain ⟨A,n,c,e,⟨hs,hf⟩,_⟩:=ho.get (X:=X) (w:=w) hc fun p hp e=>hsl p hp qS
 have e1:ρ o= .slice A n c:=by simpa using e
 have e2:ρ (.const (.int .i64 0))= .int .i64 0:=hc _
 have hj:0<n:=by rw [←hs.1];exact (List.getElem?_eq_some_iff.1 hx).1
 obtain ⟨b,off,y,rfl,hb,hy,hcell⟩:=hs.at_ hj
 rw [hx] at hy
 injection hy with hy
 subst hy
 obtain ⟨el,hu,hsz⟩:=ht.ok
 have hz:(sizeOf el).run P w= .ok 1 w:=by
  cases hq:P.info? el with
  |none=>rw [hq] at hsz;cases hsz
  |some q=>
   rw [hq] at hsz
   have:q.size=1:=by simpa using hsz
   simp [sizeOf,typeInfo,hq,this]
 have hrun:(execOp ρ ⟨some d, .indexAddr ty o (.const (.int .i64 0)),t0,pos,af,gd⟩).run P w= .ok (.value (.pointer (some ⟨b,off+0*1,none⟩))) w:=by
  unfold execOp
  have hji:(0:Int)≤0∧(0:Int)<(n:Int):=⟨by omega,by omega⟩
  have hj0:(0:Int).toNat=0:=rfl
  simp only [e1,e2,Instr.indexAt,asIntOf,Sem.run_bind,Sem.run_pure,Result.andThen_ok,run_underlying hu w,hji,and_self,if_true,hz,hj0,Addr.add_mid]
 unfold Yields
 rw [hrun]
 exact ⟨⟨b,_,rfl,hf hj b rfl,hcell⟩,Below.refl _ _⟩
end
section
variable {w00:World} {N:Nat} {L:List Loc} {E:List (Nat×ai)} {d:Nat} {t0:TypeId} {pos:String} {af:Array Edge} {gd:Option (Nat×Bool)} {ats:Array TypeId}
theorem jm[ho:ce E s (.pl x)]:aR Tryz.prog w00 N L E ⟨some d, .load 128 (.tmp s),t0,pos,af,gd⟩ (.is (.int .u32 x)):=by
 constructor
 intro X ρ w hc _ hN hm hsl
 obtain ⟨b,o,e,hb,h1⟩:=hsl _ ho.mem qI
 have e':ρ (.tmp s)= .pointer (some ⟨b,o,none⟩):=e
 clear hc hsl ho hm e
 unfold Yields
 go_simp
 exact ⟨rfl,Below.refl _ _⟩
end
def fr (q:Rat):Rat:=q - (q.floor:Rat)
def cl (q:Rat):Int:= -(-q).floor
def hf (q:Rat):Int:=bif decide (2*fr q<1) || (decide (2*fr q=1)&&decide (q.floor%2=0)) then q.floor else q.floor+1
instance {N:Int} {L:Nat} {q:Rat} {K:Nat}:d8 fun B=> .tup [.nn N L B, .qn q K B]:=⟨fun hB h=>cM (fun _ g=>i6 g hB) (fun _ g=>mP g hB) _ h⟩
instance:cO Tryz.prog 24 1:=⟨⟨_,Tryz.underlying24,by kernel_rfl⟩⟩
instance {N:Int} {L:Nat} {c:Value}:d8 fun B=> .tup [.nn N L B, .is c]:=⟨fun hB h=>cM (fun _ g=>i6 g hB) (fun _ g=>g) _ h⟩
instance {L:Nat} {x:bA}:Fx (.el Rp.frac (lN L) x) x L:=⟨fun ⟨y,h,g⟩=>⟨y,⟨h.1,by rw [←h.1];exact h.2⟩,g⟩⟩
instance {L:Nat} {x:bA}:az (.el Rp.frac (lN L) x) 2 2 true (.nx x.2 L):= .snd fun y h=>⟨by rw [h.1],by rw [←h.1];exact h.2.2.1⟩
instance {x:gp} {L:Nat}:Hl (.kn x L) x L:=⟨fun h=>by obtain ⟨y,⟨e,h⟩,g⟩:=tX h;exact ⟨y,⟨e,by rw [←e];exact h⟩,g⟩⟩
instance {x:gp} {L:Nat}:my (.kn x L) (iv x) L:=⟨fun h=>by obtain ⟨y,⟨e,h⟩,g⟩:=tX h;exact ⟨y,⟨by rw [e],h⟩,g⟩⟩
instance {x:bA} {L:Nat}:Fx (.kq x L) x L:=⟨fun h=>by obtain ⟨y,⟨e,h⟩,g⟩:=tX h;exact ⟨y,⟨e,by rw [←e];exact h⟩,g⟩⟩
instance {x:bA} {L:Nat}:qV (.kq x L) (qv x) L:=⟨fun h=>by obtain ⟨y,⟨e,h⟩,g⟩:=tX h;exact ⟨y,⟨by rw [e],h⟩,g⟩⟩
section
variable {w00:World} {N:Nat} {L:List Loc} {E:List (Nat×ai)} {d:Nat} {t0:TypeId} {pos:String} {af:Array Edge} {gd:Option (Nat×Bool)} {ats:Array TypeId}
end
theorem TS.openL{n:Nat} {a:Act} (h:TS w00 X L E n a w) (hL:(r,T)∈L):∃ v,T.holds X w v∧∀ {T':ai} {L':List Loc},T'.holds X w v→ml L r T T' L'→TS w00 X L' E n a w:=by
 obtain ⟨g1,g2,v,ty,g3,g4⟩:=h.mem.loc _ hL
 refine ⟨v,g3,fun {T' L'} hT' hu=>⟨h.size,h.df,h.slots,⟨fun p hp=> ?_,h.mem.far,by rw [hu.map];exact h.mem.nodup,h.mem.below⟩⟩⟩
 rcases hu.of h.mem.nodup p hp with rfl|⟨hp,_⟩
 ·exact ⟨g1,g2,v,ty,hT',g4⟩
 ·exact h.mem.loc p hp
def mL (c:UInt8):Bool:=decide (48≤(c.toNat:Int))&&decide ((c.toNat:Int)≤57)
theorem xP {c:UInt8}:mL c=true↔fc c:=by unfold mL fc;rw [Bool.and_eq_true,decide_eq_true_eq,decide_eq_true_eq]
def ng (l:List UInt8):Bool:=l.head? ==some 45
def bd (l:List UInt8):List UInt8:=bif ng l then l.tail else l
def wh (l:List UInt8):List UInt8:=(bd l).takeWhile mL
def r1 (l:List UInt8):List UInt8:=(bd l).dropWhile mL
def sp (l:List UInt8):Bool:=(r1 l).head? ==some 46
def r2 (l:List UInt8):List UInt8:=bif sp l then (r1 l).tail else r1 l
def pc (l:List UInt8):List UInt8:=bif sp l then (r2 l).takeWhile mL else []
def r3 (l:List UInt8):List UInt8:=bif sp l then (r2 l).dropWhile mL else r2 l
def xK (l:List UInt8):Bool:=l.all (· ==48)
def Jf (l:List UInt8):Bool:= !(wh l==[])&& !((wh l).head? ==some 48&&decide (1<(wh l).length))&& !(sp l&&pc l==[])
def Bw (l:List UInt8):Bool:=Jf l&& !(ng l&&(xK (wh l)&&xK (pc l)))
def dn (l:List UInt8):Int:=fy (ng l) (dL (wh l++pc l))
theorem rJ {l:List UInt8} {c:UInt8} (h:(l.head? ==some c)=true):l=c::l.tail:=by
 cases l with
 |nil=>cases h
 |cons x l=>have:x=c:=by simpa using h
            rw [this];rfl
def GX (b:Bool) (c:UInt8):List UInt8:=bif b then [c] else []
theorem parts (l:List UInt8):l=GX (ng l) 45++(wh l++(GX (sp l) 46++(pc l++r3 l))):=by
 have e1:l=GX (ng l) 45++bd l:=by
  unfold bd GX
  cases h:ng l with
  |true=>exact rJ h
  |false=>rfl
 have e2:bd l=wh l++r1 l:=(List.takeWhile_append_dropWhile).symm
 have e3:r1 l=GX (sp l) 46++r2 l:=by
  unfold r2 GX
  cases h:sp l with
  |true=>exact rJ h
  |false=>rfl
 have e4:r2 l=pc l++r3 l:=by
  unfold pc r3
  cases sp l with
  |true=>exact (List.takeWhile_append_dropWhile).symm
  |false=>rfl
 conv=>lhs;rw [e1,e2,e3,e4]
theorem f_ {p:UInt8→Bool}:∀ {l:List UInt8},∀ c∈l.takeWhile p,p c=true
 |[],_,h=>by cases h
 |x::l,c,h=>by
  rw [List.takeWhile_cons] at h
  cases hx:p x with
  |true=>
   rw [hx] at h
   rcases List.mem_cons.1 h with rfl|h
   ·exact hx
   ·exact f_ c h
  |false=>rw [hx] at h;cases h
theorem Ga (l:List UInt8):∀ c∈wh l,fc c:=fun c h=>xP.1 (f_ c h)
theorem FY (l:List UInt8):∀ c∈pc l,fc c:=by
 unfold pc
 cases sp l with
 |true=>exact fun c h=>xP.1 (f_ c h)
 |false=>exact fun c h=>by cases h
theorem vJ (l:List UInt8):∀ c∈wh l++pc l,fc c:=fun c h=>(List.mem_append.1 h).elim (Ga l c) (FY l c)
theorem Hi {l:List UInt8} (h:sp l=false):pc l=[]:=by unfold pc;rw [h];rfl
theorem nZ (l:List UInt8):(wh l).length+(pc l).length+(r3 l).length≤l.length:=by
 have h:=congrArg List.length (parts l)
 simp only [List.length_append] at h
 omega
def vT (l:List UInt8):List UInt8:=bif l.dropWhile (· ==48)==[] then [48] else l.dropWhile (· ==48)
theorem rN {l:List UInt8}:dL (vT l)=dL l:=by
 have e:dL (l.dropWhile (· ==48))=dL l:=by
  induction l with
  |nil=>rfl
  |cons c l ih=>
   rw [List.dropWhile_cons]
   cases h:(c==48) with
   |false=>rfl
   |true=>
    rw [if_pos rfl,ih]
    have hc:c=48:=by simpa using h
    have e:=jx [c] l
    rw [hc] at e ⊢
    rw [show dL (48::l)=dL ([48]++l) from rfl,e]
    simp [dL]
 unfold vT
 cases h:(l.dropWhile (· ==48)==[]) with
 |false=>exact e
 |true=>
  have:l.dropWhile (· ==48)=[]:=by simpa using h
  rw [this] at e
  rw [←e]
  rfl
theorem mS {l:List UInt8} (hd:∀ c∈l,fc c):gj ⟨(vT l).toArray⟩∧(vT l).length≤max 1 l.length:=by
 unfold vT
 cases h:(l.dropWhile (· ==48)==[]) with
 |true=>
  rw [cond_true]
  refine ⟨⟨by decide,by decide,fun c hc=> ?_⟩,by show 1≤_;omega⟩
  have:c=48:=by simpa using hc
  rw [this];unfold fc;decide
 |false=>
  rw [cond_false]
  have hs:∀ c∈l.dropWhile (· ==48),c∈l:=fun c hc=>(List.dropWhile_sublist _).subset hc
  have hl:(l.dropWhile (· ==48)).length≤l.length:=(List.dropWhile_sublist _).length_le
  obtain ⟨c,r,e⟩:∃ c r,l.dropWhile (· ==48)=c::r:=by
   cases hq:l.dropWhile (· ==48) with
   |nil=>rw [hq] at h;cases h
   |cons c r=>exact ⟨c,r,rfl⟩
  have hc:(c==48)=false:=by
   have:=List.head_dropWhile_not (p:=(· ==(48:UInt8))) (l:=l) (by rw [e];simp)
   simpa [e] using this
  refine ⟨⟨?_,fun h1=> ?_,fun x hx=>hd x (hs x (by simpa using hx))⟩,by omega⟩
  ·rw [ou,show (⟨(l.dropWhile (· ==48)).toArray⟩:ByteArray).data.toList=l.dropWhile (· ==48) by simp,e];simp
  ·rw [BC _ qO (c:=c) (r:=r) (by simpa using e)]
   intro h0
   have:c=48:=UInt8.toNat_inj.1 (by show c.toNat=48;omega)
   rw [this] at hc
   cases hc
theorem trimS (l:List UInt8):Lib.trimSuffix (l++[46]) [46]=l:=by
 unfold Lib.trimSuffix Lib.hasSuffix
 rw [if_pos (by rw [List.isSuffixOf_iff_suffix];exact List.suffix_append _ _)]
 simp
abbrev Tx (l:List UInt8):Value:= .string ⟨l.toArray⟩
theorem Ab (s:ByteArray):s=⟨s.data.toList.toArray⟩:=by cases s;simp
theorem GG (a b:List UInt8):(⟨a.toArray⟩:ByteArray)++⟨b.toArray⟩=⟨(a++b).toArray⟩:=by
 apply ByteArray.ext
 simp
theorem wo (l:List UInt8) (i j:Nat):(⟨l.toArray⟩:ByteArray).extract i j=⟨((l.take j).drop i).toArray⟩:=by
 apply ByteArray.ext
 simp [List.drop_take]
theorem fR (l:List UInt8):(⟨l.toArray⟩:ByteArray).size=l.length:=by simp [ByteArray.size]
theorem BD (a b:List UInt8):((⟨a.toArray⟩:ByteArray)==⟨b.toArray⟩)=(a==b):=by
 by_cases h:a=b
 ·subst h
  rw [show (a==a)=true from beq_self_eq_true a]
  show (a.toArray==a.toArray)=true
  exact beq_self_eq_true _
 ·rw [beq_eq_false_iff_ne.2 h]
  show (a.toArray==b.toArray)=false
  exact beq_eq_false_iff_ne.2 fun e=>h (by simpa using e)
class wB (P:Program) (ty:TypeId):Prop where
 ok:P.underlying ty=some .string
section
variable {P:Program} {w00:World} {N:Nat} {L:List Loc} {E:List (Nat×ai)} {d:Nat} {t0:TypeId} {pos:String} {af:Array Edge} {gd:Option (Nat×Bool)} {ats:Array TypeId}
theorem cC{a b:List UInt8} [h0:b_ E o0 (.is (Tx a))] [h1:b_ E o1 (.is (Tx b))] (hl:a.length+b.length≤9223372036854775807):aR P w00 N L E ⟨some d, .binOp .add ty o0 o1 t1,t0,pos,af,gd⟩ (.is (Tx (a++b))):=by
 constructor
 intro X ρ w hc _ hN hm hsl
 have e0:ρ o0=Tx a:=h0.get (X:=X) (w:=w) hc fun p hp e=>hsl p hp qS
 have e1:ρ o1=Tx b:=h1.get (X:=X) (w:=w) hc fun p hp e=>hsl p hp qS
 have e2:=GG a b
 have e3:¬ 9223372036854775807<a.length+b.length:=qO
 clear hc hsl h0 h1
 unfold Yields
 go_simp
 exact ⟨rfl,Below.refl _ _⟩
theorem bj{a b:List UInt8} {u:Bool} [h0:b_ E o0 (.is (Tx a))] [h1:b_ E o1 (.is (Tx b))] (hu:(a==b)=u):aR P w00 N L E ⟨some d, .binOp .eql ty o0 o1 t1,t0,pos,af,gd⟩ (.is (.bool u)):=by
 constructor
 intro X ρ w hc _ hN hm hsl
 have e0:ρ o0=Tx a:=h0.get (X:=X) (w:=w) hc fun p hp e=>hsl p hp qS
 have e1:ρ o1=Tx b:=h1.get (X:=X) (w:=w) hc fun p hp e=>hsl p hp qS
 have e2:=BD a b
 rw [hu] at e2
 clear hc hsl h0 h1
 unfold Yields
 go_simp
 exact ⟨rfl,Below.refl _ _⟩
theorem dI{a b:List UInt8} {u:Bool} [h0:b_ E o0 (.is (Tx a))] [h1:b_ E o1 (.is (Tx b))] (hu:(!(a==b))=u):aR P w00 N L E ⟨some d, .binOp .neq ty o0 o1 t1,t0,pos,af,gd⟩ (.is (.bool u)):=by
 constructor
 intro X ρ w hc _ hN hm hsl
 have e0:ρ o0=Tx a:=h0.get (X:=X) (w:=w) hc fun p hp e=>hsl p hp qS
 have e1:ρ o1=Tx b:=h1.get (X:=X) (w:=w) hc fun p hp e=>hsl p hp qS
 have e2:=BD a b
 subst hu
 clear hc hsl h0 h1
 unfold Yields
 go_simp
 exact ⟨rfl,Below.refl _ _⟩
theorem aL{l:List UInt8} [ho:b_ E o (.is (Tx l))] [ht:wB P ty]:aR P w00 N L E ⟨some d, .call { callee:= .builtin .len,args:= #[o],argTypes:= #[ty] },t0,pos,af,gd⟩ (.is (.int .i64 (l.length:Int))):=by
 constructor
 intro X ρ w hc _ hN hm hsl
 have e0:ρ o=Tx l:=ho.get (X:=X) (w:=w) hc fun p hp e=>hsl p hp (by simp [Op.operands,Call.operands,e])
 have hu:=ht.ok
 have e2:=fR l
 clear hc hsl ho ht
 unfold Yields
 go_simp
 exact ⟨rfl,Below.refl _ _⟩
theorem bD{oi:Operand} {l:List UInt8} {c:UInt8} [ho:b_ E o (.is (Tx l))] [hi:b_ E oi (.is (.int .i64 x))] [ht:wB P ty] (hx:0≤x∧l[x.toNat]? =some c):aR P w00 N L E ⟨some d, .index ty o oi,t0,pos,af,gd⟩ (.is (.int .u8 (c.toNat:Int))):=by
 constructor
 intro X ρ w hc _ hN hm hsl
 have e0:ρ o=Tx l:=ho.get (X:=X) (w:=w) hc fun p hp e=>hsl p hp qS
 have e1:ρ oi= .int .i64 x:=hi.get (X:=X) (w:=w) hc fun p hp e=>hsl p hp qS
 have hu:=ht.ok
 obtain ⟨hx0,hx1⟩:=hx
 obtain ⟨hlt,hc1⟩:=List.getElem?_eq_some_iff.1 hx1
 have h3:x<(l.length:Int):=qO
 have e2:∀ h,(⟨l.toArray⟩:ByteArray)[x.toNat]'h=c:=fun h=>hc1
 clear hc hsl ho ht hi hx1
 unfold Yields
 go_simp
 exact ⟨rfl,Below.refl _ _⟩
theorem tJ{l:List UInt8} [ho:b_ E o (.is (Tx l))] [hi:b_ E o1 (.is (.int .i64 x))] [ht:wB P ty] (hx:0≤x∧x≤(l.length:Int)):aR P w00 N L E ⟨some d, .slice ty o none (some o1) none,t0,pos,af,gd⟩ (.is (Tx (l.take x.toNat))):=by
 constructor
 intro X ρ w hc _ hN hm hsl
 have e0:ρ o=Tx l:=ho.get (X:=X) (w:=w) hc fun p hp e=>hsl p hp qS
 have e1:ρ o1= .int .i64 x:=hi.get (X:=X) (w:=w) hc fun p hp e=>hsl p hp qS
 have hu:=ht.ok
 obtain ⟨hx0,hx1⟩:=hx
 have e2:=wo l 0 x.toNat
 have e3:=fR l
 clear hc hsl ho ht hi
 unfold Yields
 go_simp
 exact ⟨rfl,Below.refl _ _⟩
theorem mT{l:List UInt8} [ho:b_ E o (.is (Tx l))] [hi:b_ E o1 (.is (.int .i64 x))] [ht:wB P ty] (hx:0≤x∧x≤(l.length:Int)):aR P w00 N L E ⟨some d, .slice ty o (some o1) none none,t0,pos,af,gd⟩ (.is (Tx (l.drop x.toNat))):=by
 constructor
 intro X ρ w hc _ hN hm hsl
 have e0:ρ o=Tx l:=ho.get (X:=X) (w:=w) hc fun p hp e=>hsl p hp qS
 have e1:ρ o1= .int .i64 x:=hi.get (X:=X) (w:=w) hc fun p hp e=>hsl p hp qS
 have hu:=ht.ok
 obtain ⟨hx0,hx1⟩:=hx
 have e2:=wo l x.toNat l.length
 have e3:=fR l
 rw [List.take_of_length_le (Nat.le_refl _)] at e2
 clear hc hsl ho ht hi
 unfold Yields
 go_simp
 exact ⟨rfl,Below.refl _ _⟩
theorem bn[ho:b_ E o (.is (.pointer (some ⟨r,k,none⟩)))]:aR P w00 N L E ⟨some d, .nilCheck o,t0,pos,af,gd⟩ (.is (.pointer (some ⟨r,k,none⟩))):=by
 constructor
 intro X ρ w hc _ hN hm hsl
 have e0:ρ o= .pointer (some ⟨r,k,none⟩):=ho.get (X:=X) (w:=w) hc fun p hp e=>hsl p hp qS
 clear hc hsl ho
 unfold Yields
 go_simp
 exact ⟨rfl,Below.refl _ _⟩
theorem fQ{y z:Int} {k:IntKind} [h0:b_ E o0 (.is (.int k x))] [h1:b_ E o1 (.is (.int k y))] (hz:k.wrap (x - y)=z):aR P w00 N L E ⟨some d, .binOp .sub ty o0 o1 t1,t0,pos,af,gd⟩ (.is (.int k z)):=by
 constructor
 intro X ρ w hc _ hN hm hsl
 have e0:ρ o0= .int k x:=h0.get (X:=X) (w:=w) hc fun p hp e=>hsl p hp qS
 have e1:ρ o1= .int k y:=h1.get (X:=X) (w:=w) hc fun p hp e=>hsl p hp qS
 clear hc hsl h0 h1
 unfold Yields
 go_simp
 exact ⟨rfl,Below.refl _ _⟩
theorem dR{z:Int} {k k2:IntKind} [h0:b_ E o (.is (.int k x))] (hu:P.underlying ty=some (.int k)) (hu2:P.underlying t1=some (.int k2)) (hz:k2.wrap x=z):aR P w00 N L E ⟨some d, .convert ty t1 o,t0,pos,af,gd⟩ (.is (.int k2 z)):=by
 constructor
 intro X ρ w hc _ hN hm hsl
 have e0:ρ o= .int k x:=h0.get (X:=X) (w:=w) hc fun p hp e=>hsl p hp qS
 clear hc hsl h0
 unfold Yields
 go_simp
 exact ⟨rfl,Below.refl _ _⟩
end
def ai.cs (c:List Value):ai:=⟨fun _ _ v=>v.cells=c.toArray,fun h _ _=>h⟩
class kf (T:ai) (c:outParam (List Value)):Prop where
 ok:∀ {X w v},T.holds X w v→v.cells=c.toArray
instance {c:List Value}:kf (.cs c) c:=⟨fun h=>h⟩
instance {c:List Value}:kf (.is (.agg c.toArray)) c:=⟨fun h=>by rw [show _=_ from h];rfl⟩
instance {l:List UInt8}:kf (.is (Tx l)) [Tx l]:=⟨fun h=>by rw [show _=_ from h];rfl⟩
class Cp (c:List Value) (i:Nat) (v:outParam Value):Prop where
 ok:c[i]? =some v
instance {c:List Value} {v:Value}:Cp (v::c) 0 v:=⟨rfl⟩
instance {c:List Value} {u v:Value}:Cp (u::v::c) 1 v:=⟨rfl⟩
instance {c:List Value} {t u v:Value}:Cp (t::u::v::c) 2 v:=⟨rfl⟩
instance {T:ai} {c:List Value} {i:Nat} {v:Value} [t:kf T c] [n:Cp c i v]:az T i 1 false (.is v):=⟨fun _=>rfl,fun {X w u} h=>⟨[v],rfl,fun j x hj=>by
 have:j=0∧x=v:=by
  cases j with
  |zero=>exact ⟨rfl,by simpa using hj.symm⟩
  |succ j=>simp at hj
 rw [t.ok h,this.1,this.2]
 simpa using n.ok,fun x _ hx=>by have:=hx rfl;simp at this;exact this.symm⟩⟩
instance {T:ai} {c:List Value} {a b d:Value} [t:kf T (a::b::d::c)]:az T 0 3 true (.is (.agg #[a,b,d])):=⟨fun h=>(by cases h),fun {X w u} h=>⟨[a,b,d],rfl,fun j x hj=>by
 rw [t.ok h,Nat.zero_add]
 match j,hj with
 |0,hj=>simpa using hj
 |1,hj=>simpa using hj
 |2,hj=>simpa using hj
 |j+3,hj=>simp at hj,fun x hx _=>hx rfl⟩⟩
class CX (c:List Value) (k:Nat):Prop where
 ok:c.length=k
instance {a:Value}:CX [a] 1:=⟨rfl⟩
instance {a b d:Value}:CX [a,b,d] 3:=⟨rfl⟩
instance gK.cellC {P:Program} {L:List Loc} {E:List (Nat×ai)} {s r k:Nat} {ty:TypeId} {c:List Value} [h:ce E s (.is (.pointer (some ⟨r,0,none⟩)))] [hl:ke L r (.cs c)] [ht:eV P ty k true] [hk:CX c k]:gK P L E (.cell s ty) (.is (.agg c.toArray)):=⟨fun {w00 X n a w} hts=>by
 have e:a.tmps.getD s undef= .pointer (some ⟨r,0,none⟩):=hts.slots _ h.mem
 obtain ⟨_,_,v,ty',hv,hh⟩:=hts.mem.loc _ hl.mem
 obtain ⟨dd,hu,hd⟩:=ht.row
 have hv':v.cells=c.toArray:=hv
 refine ⟨.agg c.toArray,?_,rfl⟩
 have hra:w.rangeAt r 0 c:=fun j u hj=>by
  rw [Nat.zero_add]
  exact eX hh (by rw [hv'];simpa using hj)
 have hi:(P.info? ty).map (·.size)=some c.length:=by rw [hk.ok];exact ht.size
 have:=run_loadVar_mid (P:=P) w r 0 ty c dd hra hu hd hi
 unfold gq
 simp only [e,asAddr,Sem.run_bind,Sem.run_pure,Result.andThen_ok,this]⟩
section
variable {P:Program} {w00:World} {X:List Nat} {L L':List Loc} {E:List (Nat×ai)} {n:Nat} {a:Act} {w:World} {ops:Array Oper} {rest:List Oper} {Q:Exit→Act→World→Prop} {cs:List Code} {t0:TypeId} {pos:String} {af:Array Edge}
theorem TS.cells{c0 c:List Value} (h:TS w00 X L E n a w) (hu:ml L r T0 (.cs c) L') [h0:kf T0 c0] (hl:c.length=c0.length):TS w00 X L' E n a (w.setRow r c.toArray):=by
 exact h.write (k:=c.length) (k0:=c.length) (ag:=true) (ag0:=true) (v:= .agg c.toArray) hu (show (Value.agg c.toArray).cells=c.toArray from rfl)
class CO (c:List Value) (i:Nat) (v:Value) (c':outParam (List Value)):Prop where
 ok:c.set i v=c'∧i<c.length
instance {c:List Value} {u v:Value}:CO (u::c) 0 v (v::c):=⟨rfl,by simp⟩
instance {c:List Value} {a u v:Value}:CO (a::u::c) 1 v (a::v::c):=⟨rfl,by simp⟩
instance {c:List Value} {a b u v:Value}:CO (a::b::u::c) 2 v (a::b::v::c):=⟨rfl,by simp⟩
theorem aM {ty:TypeId} {s r i:Nat} {o:Operand} {v:Value} {T0:ai} {c0 c:List Value} [hs:ce E s (.is (.pointer (some ⟨r,i,none⟩)))] [ho:b_ E o (.is v)] [hu:ko L r T0 (.cs c) L'] [h0:kf T0 c0] [hc:CO c0 i v c] [hty:eV P ty 1 false] (h1:v.oneCell'=true)
 (h:GR P w00 X L' E n ops rest cs Q):GR P w00 X L E n ops (⟨none, .store ty (.tmp s) o,t0,pos,af,none⟩::rest) cs Q:=⟨fun a w ht=>by
 refine cA rfl ?_
 have e1:a.eval (.tmp s)= .pointer (some ⟨r,i,none⟩):=ht.slots _ hs.mem
 have e2:a.eval o=v:=ho.get (X:=X) (w:=w) (fun _=>rfl) fun p hp _=>ht.slots p hp
 obtain ⟨g1,g2,u,ty',g3,g4⟩:=ht.mem.loc _ hu.upd.mem
 rw [h0.ok g3] at g4
 obtain ⟨hc1,hc2⟩:=hc.ok
 have hi:=hty.size
 have hcell:w.cell? ⟨r,i,none⟩=some c0[i]:=eX g4 (by simp [hc2])
 have hfro:w.frozen? ⟨r,i,none⟩=false:=by simp [World.frozen?,g4]
 have hadd:(⟨r,i,none⟩:Addr).add 0=⟨r,i,none⟩:=by unfold Addr.add;split<;>simp_all
 have hst:(store ((⟨r,i,none⟩:Addr).add 0) v).run P w= .ok () (w.setRow r c.toArray):=by
  rw [hadd,run_store P w _ v _ h1,hcell]
  simp [hfro,setCell_eq_setRow w r i c0.toArray ty' (0,0) v g4,hc1]
 have hcl:v.cells= #[v]:=fl h1
 have hsv:(storeVar ty ⟨r,i,none⟩ v).run P w= .ok () (w.setRow r c.toArray):=by
  cases hq:P.info? ty with
  |none=>simp [hq] at hi
  |some q=>
   have hs:q.size=1:=by simpa [hq] using hi
   simp [storeVar,sizeOf,typeInfo,hq,hcl,hs,storeCells,hst]
 unfold Oper.wp execOp
 simp only [e1,e2,Instr.storeAt,Instr.sureAddr,Sem.run_bind,Sem.run_pure,Result.andThen_ok,hsv]
 exact h.run a _ (ht.cells hu.upd (by rw [←hc1];simp))⟩
theorem aN {ty:TypeId} {s r:Nat} {o:Operand} {T0:ai} {c0 c:List Value} [hs:ce E s (.is (.pointer (some ⟨r,0,none⟩)))] [ho:b_ E o (.is (.agg c.toArray))] [hu:ko L r T0 (.cs c) L'] [h0:kf T0 c0] [hty:eV P ty c.length true] (hl:Nat.beq c.length c0.length=true) (h1:c.all (·.oneCell')=true)
 (h:GR P w00 X L' E n ops rest cs Q):GR P w00 X L E n ops (⟨none, .store ty (.tmp s) o,t0,pos,af,none⟩::rest) cs Q:=⟨fun a w ht=>by
 refine cA rfl ?_
 have e1:a.eval (.tmp s)= .pointer (some ⟨r,0,none⟩):=ht.slots _ hs.mem
 have e2:a.eval o= .agg c.toArray:=ho.get (X:=X) (w:=w) (fun _=>rfl) fun p hp _=>ht.slots p hp
 obtain ⟨g1,g2,u,ty',g3,g4⟩:=ht.mem.loc _ hu.upd.mem
 have hl':c.length=c0.length:=Nat.eq_of_beq_eq_true hl
 have hi:=hty.size
 have hst:(storeVar ty ⟨r,0,none⟩ (.agg c.toArray)).run P w= .ok () (w.setRow r c.toArray):=
  run_storeVar_row (P:=P) w r ty' ty u.cells c.toArray g4 (by rw [hi];simp) (by rw [h0.ok g3];simp [hl']) (by simpa using h1)
 unfold Oper.wp execOp
 simp only [e1,e2,Instr.storeAt,Instr.sureAddr,Sem.run_bind,Sem.run_pure,Result.andThen_ok,hst]
 exact h.run a _ (ht.cells hu.upd hl')⟩
def ai.gh (X0:List Nat) (w0:World):ai:=⟨fun X w _=>(∀ b∈X,b<w0.heap.size→b∈X0)∧fV X0 w0 w,fun {X X' w w' v} ⟨h1,h2⟩ hk hX=>⟨fun b hb hlt=>h1 b (hX b hb (Nat.lt_of_lt_of_le hlt h2.size)) hlt,
 ⟨Nat.le_trans h2.size hk.size,fun b hb hx=>(hk.block b (Nat.lt_of_lt_of_le hb h2.size) fun h=>hx (h1 b h hb)).trans (h2.block b hb hx)⟩⟩⟩
theorem pr{X:List Nat} {w:World} :(ai.gh X w).holds X w v:=⟨fun _ h _=>h,Nat.le_refl _,fun _ _ _=>rfl⟩
def fY (w00:World) (X:List Nat) (L:List Loc) (w:World) (T:ai) (e:Ending) (w':World):Prop:=∃ v,e= .returned v∧T.holds X w' v∧kO w00 X L w'∧fV X w w'
structure mA (P:Program) (G:World→Prop) (f:FuncId) (T0:ai) (ks:List Nat) (As:List ai) (T1 T:ai):Prop where
 ent:bE P f
 run:∀ {w00 w:World} {X:List Nat} {L0:List Loc} {r:Nat} {vs:List Value},G w→kO w00 X ((r,T0)::L0) w→bF X w As vs→Calls P f (.pointer (some ⟨r,0,none⟩)::vs).toArray w (fY w00 X ((r,T1)::L0) w T)
class HH (T:ai) (T':outParam ai):Prop where
 ok:∀ {X w v},T.holds X w v→T'.holds X w v
instance {c:List Value}:HH (.cs c) (.cs c):=⟨fun h=>h⟩
instance {c:List Value}:HH (.is (.agg c.toArray)) (.cs c):=⟨fun h=>by rw [show _=_ from h];rfl⟩
instance {l:List UInt8}:HH (.is (Tx l)) (.cs [Tx l]):=⟨fun h=>by rw [show _=_ from h];rfl⟩
theorem ml.split{L L':List Loc} (h:ml L r T T' L'):∃ L0,(∀ p,p∈L↔p∈(r,T)::L0)∧(∀ p,p∈L'↔p∈(r,T')::L0)∧L.Perm ((r,T)::L0)∧L'.Perm ((r,T')::L0):=by
 induction h with
 |here=>exact ⟨_,fun _=>Iff.rfl,fun _=>Iff.rfl,List.Perm.refl _,List.Perm.refl _⟩
 | @there L L' r T T' p h ih=>
  obtain ⟨L0,_,_,h3,h4⟩:=ih
  have p1:(p::L).Perm ((r,T)::p::L0):=(List.Perm.cons p h3).trans (List.Perm.swap _ _ _)
  have p2:(p::L').Perm ((r,T')::p::L0):=(List.Perm.cons p h4).trans (List.Perm.swap _ _ _)
  exact ⟨p::L0,fun _=>p1.mem_iff,fun _=>p2.mem_iff,p1,p2⟩
theorem kO.perm {w:World} {L L':List Loc} (h:kO w00 X L w) (hp:L.Perm L'):kO w00 X L' w:=⟨fun p hm=>h.loc p (hp.mem_iff.2 hm),h.far,(hp.map Prod.fst).nodup_iff.1 h.nodup,h.below⟩
theorem cy {G:World→Prop} {f:FuncId} {s p r:Nat} {os:List Operand} {ks:List Nat} {As:List ai} {T0 T0' T1 T:ai} {ats:Array TypeId} [hs:ce E p (.is (.pointer (some ⟨r,0,none⟩)))] [k:kR E os ks As] [sg:jL G] (hG:G w00) (h:mA P G f T0 ks As T1 T) [hl:ke L r T0'] [cv:HH T0' T0] [hu:ko L r T0' T1 L'] (hd:(Nat.blt s n&& !(E.map Prod.fst).elem s)=true)
 (next:GR P w00 X L' ((s,T)::E) n ops rest cs Q):GR P w00 X L E n ops (⟨some s, .call { callee:= .value (.func f),args:=(.tmp p::os).toArray,argTypes:=ats },t0,pos,af,none⟩::rest) cs Q:=⟨fun a w ht=>by
 refine cA rfl ?_
 obtain ⟨L0,_,_,p1,p2⟩:=hu.upd.split
 have e1:a.eval (.tmp p)= .pointer (some ⟨r,0,none⟩):=ht.slots _ hs.mem
 have e2:=k.get (X:=X) (w:=w) (ρ:=a.eval) (fun _=>rfl) (fun _=>rfl) fun q hq _=>ht.slots q hq
 have hm0:=ht.mem.perm p1
 have hm1:kO w00 X ((r,T0)::L0) w:=⟨fun q hq=>by
  rcases List.mem_cons.1 hq with rfl|hq
  ·obtain ⟨g1,g2,u,ty,g3,g4⟩:=hm0.loc _ List.mem_cons_self
   exact ⟨g1,g2,u,ty,cv.ok g3,g4⟩
  ·exact hm0.loc q (List.mem_cons_of_mem _ hq),hm0.far,hm0.nodup,hm0.below⟩
 have hc:=h.run (sg.stab hG ht.mem.below) hm1 e2
 have hr:∀ ρ:Operand→Value,ρ (.func f)= .func (.func f) #[] #[]→(execOp ρ ⟨some s, .call { callee:= .value (.func f),args:=(.tmp p::os).toArray,argTypes:=ats },t0,pos,af,none⟩).run P w= .ok (.enter f (ρ (.tmp p)::os.map ρ).toArray) w:=by
  intro ρ hff
  have hen:=h.ent
  clear hc hm0 hm1 e2 k next e1
  go_simp
  exact hen _ _
 have hr:=hr a.eval rfl
 rw [e1] at hr
 unfold Oper.wp
 rw [hr]
 refine hc.mono ?_
 rintro e w' ⟨v,rfl,hT,hm,hk⟩
 simp only [Bool.and_eq_true,Bool.not_eq_true'] at hd
 refine next.run _ _ ⟨by simp [Act.put,ht.size],ht.df,fun q hq=> ?_,hm.perm p2.symm⟩
 have hsz:s<a.tmps.size:=by rw [ht.size,←Nat.blt_eq];exact hd.1
 rcases List.mem_cons.1 hq with rfl|hq
 ·rw [bK _ _ _ _ hsz,if_pos rfl];exact hT
 ·have hne:q.1≠s:=fun e=>by
   have:(E.map Prod.fst).elem s=true:=by rw [List.elem_eq_mem,decide_eq_true_eq,←e];exact List.mem_map_of_mem hq
   rw [hd.2] at this;cases this
  rw [bK _ _ _ _ hsz,if_neg hne]
  exact q.2.stable (ht.slots q hq) hk fun _ hb _=>hb⟩
class kH (E:List (Nat×ai)) (s:Nat) (T:ai):Prop where
 mem:(s,T)∈E
instance kH.here {E:List (Nat×ai)} {s:Nat} {T:ai}:kH ((s,T)::E) s T:=⟨List.mem_cons_self⟩
instance (priority:=low) kH.there {E:List (Nat×ai)} {s:Nat} {T:ai} {p:Nat×ai} [h:kH E s T]:kH (p::E) s T:=⟨List.mem_cons_of_mem _ h.mem⟩
class oW (L0 L:List Loc):Prop where
 sub:∀ p∈L0,p∈L
instance oW.here {L:List Loc}:oW L L:=⟨fun _ h=>h⟩
instance (priority:=low) oW.there {L0 L:List Loc} {p:Loc} [h:oW L0 L]:oW L0 (p::L):=⟨fun q hq=>List.mem_cons_of_mem _ (h.sub q hq)⟩
theorem sD {G:World→Prop} {f:FuncId} {fn:Func} {c:Code} {T0:ai} {ks:List Nat} {As:List ai} {T1 T:ai} (hf:P.funcs[f]? =some fn) (hb:fn.body=some c) (hn:fn.ntmps=n) (hl:As.length+1≤n) (he:bE P f)
 (h:∀ w00 X L0 r w,G w→kO w00 X ((r,T0)::L0) w→GC P w00 X ((r,T0)::L0) (bf 0 (.is (.pointer (some ⟨r,0,none⟩))::As)++[(0, .gh X w)]) n [c] (bodyPost P fn (fY w00 X ((r,T1)::L0) w T))):mA P G f T0 ks As T1 T:=
 ⟨he,fun {w00 w X L0 r vs} hG hm ha=>by
  have hal:∀ {As:List ai} {vs:List Value},bF X w As vs→vs.length=As.length:=by
   intro As
   induction As with
   |nil=>intro vs h;cases vs with|nil=>rfl|cons=>exact h.elim
   |cons A As ih=>intro vs h;cases vs with|nil=>exact h.elim|cons v vs=>simp [ih h.2]
  have hlen:=hal ha
  have hg:=h w00 X L0 r w hG hm
  have ha':bF X w (.is (.pointer (some ⟨r,0,none⟩))::As) (.pointer (some ⟨r,0,none⟩)::vs):=⟨rfl,ha⟩
  refine calls_of_wp hf hb (CW.out (fh (X:=X) (L:=(r,T0)::L0) (E:=bf 0 (.is (.pointer (some ⟨r,0,none⟩))::As)++[(0, .gh X w)]) ⟨?_,rfl,fun p hp=> ?_,hm⟩ hg))
  ·rw [hn]
   simp
   omega
  ·rcases List.mem_append.1 hp with hp|hp
   ·refine iT ha' (fun j hj=> ?_) p hp
    rw [Nat.zero_add,Array.getD_eq_getD_getElem?,Array.getElem?_append_left (by simpa using hj),List.getElem?_toArray,List.getD_eq_getElem?_getD]
   ·rw [List.mem_singleton.1 hp]
    exact pr⟩
theorem TS.keepG{X:List Nat} {a:Act} {w:World} {E':List (Nat×ai)} (ss:List Nat) [k:jQ E ss E'] [g:kH E 0 (.gh X0 w0)] (h:TS w00 X L E n a w):TS w00 X L (E'++[(0, .gh X0 w0)]) n a w:=h.sub fun p hp=>(List.mem_append.1 hp).elim (k.sub p) fun h=>by rw [List.mem_singleton.1 h];exact g.mem
theorem EO{w00:World} {X:List Nat} {L L1:List Loc} {a:Act} {w:World} (h:TS w00 X L E n a w) [g:kH E 0 (.gh X0 w0)] [sx:lQ X0 X] [sl:oW L1 L] (hx:∀ p∈L1,p.1∈X0) (hn:(L1.map Prod.fst).Nodup) (hf:∀ b∈X0,b<w0.heap.size) (hT:T.holds X w v):fY w00 X0 L1 w0 T (.returned v) w:=by
 obtain ⟨g1,g2⟩:=h.slots _ g.mem
 have hs:∀ {T:ai} {u:Value},T.holds X w u→T.holds X0 w u:=fun {T u} h=>T.stable h ⟨Nat.le_refl _,fun _ _ _=>rfl⟩ fun b hb _=>sx.sub b hb
 refine ⟨v,rfl,hs hT,⟨fun p hp=> ?_,fun b hb=>Nat.lt_of_lt_of_le (hf b hb) g2.size,hn,h.mem.below⟩,g2⟩
 obtain ⟨k1,k2,u,ty,k3,k4⟩:=h.mem.loc _ (sl.sub p hp)
 exact ⟨hx p hp,k2,u,ty,hs k3,k4⟩
theorem Ee{w00:World} {X:List Nat} {L L0:List Loc} {T1:ai} {fn:Func} {q:ResultVar} (hr:fn.results= #[q]) (hm:kO w00 X0 ((r,T0)::L0) w0) [g:kH E 0 (.gh X0 w0)] [hX:lQ X0 X] [sl:oW ((r,T1)::L0) L] [k:gK P L E q T] (hc:Cv T T'):GT w00 X L E n (bodyPost P fn (fY w00 X0 ((r,T1)::L0) w0 T')):=
 ⟨fun a w ht=>by
  obtain ⟨v,e,hT⟩:=k.ok ht
  exact bodyPost_ret (ig hr e) ht.df (EO ht (fun p hp=>(List.mem_cons.1 hp).elim (fun h=>by rw [h];exact (hm.loc _ List.mem_cons_self).1) fun h=>(hm.loc _ (List.mem_cons_of_mem _ h)).1) hm.nodup hm.far (hc.ok _ _ _ hT))⟩
theorem kI{w00:World} {X:List Nat} {L L0:List Loc} {T1:ai} {fn:Func} {q q2:ResultVar} {U:ai} (hr:fn.results= #[q,q2]) (hm:kO w00 X0 ((r,T0)::L0) w0) [g:kH E 0 (.gh X0 w0)] [hX:lQ X0 X] [sl:oW ((r,T1)::L0) L] [k:gK P L E q T] [k2:gK P L E q2 U] (hc:Cv (.tup [T,U]) T'):GT w00 X L E n (bodyPost P fn (fY w00 X0 ((r,T1)::L0) w0 T')):=
 ⟨fun a w ht=>by
  obtain ⟨v,e,hT⟩:=k.ok ht
  obtain ⟨u,e2,hU⟩:=k2.ok ht
  exact bodyPost_ret (jl hr e e2) ht.df (EO ht (fun p hp=>(List.mem_cons.1 hp).elim (fun h=>by rw [h];exact (hm.loc _ List.mem_cons_self).1) fun h=>(hm.loc _ (List.mem_cons_of_mem _ h)).1) hm.nodup hm.far (hc.ok _ _ _ ⟨[v,u],rfl,hT,hU,trivial⟩))⟩
theorem dB.mono{G G':World→Prop} {T:Nat→ai} (h:dB P G f ks As T) (hg:∀ w,G' w→G w):dB P G' f ks As T:=⟨h.ent,h.down,fun hG=>h.run (hg _ hG)⟩
end
def ai.dv (k:IntKind) (β V:Int) (L:Nat):ai:=⟨fun X w v=>∃ A n c xs,v= .slice A n c∧Av k w (cZ X w) A n c xs∧Dg β xs∧val β xs=V∧n≤L,
 fun ⟨A,n,c,xs,e,h,d,hv,l⟩ hk hX=>⟨A,n,c,xs,e,(h.keep fun b hb=>hk.block b hb.1 hb.2).more (cZ.mono hk hX),d,hv,l⟩⟩
def ai.dr (k:IntKind) (β V:Int) (L:Nat):ai:=⟨fun X w v=>∃ A n c xs,v= .slice A n c∧Av k w (cZ X w) A n c xs∧go β V xs∧n≤L,
 fun ⟨A,n,c,xs,e,h,d,l⟩ hk hX=>⟨A,n,c,xs,e,(h.keep fun b hb=>hk.block b hb.1 hb.2).more (cZ.mono hk hX),d,l⟩⟩
abbrev ai.lr (V:Int) (L:Nat):ai:= .dr .u32 4294967296 V L
section
variable {k:IntKind} {β V:Int} {L:Nat}
instance:bi (.dv k β V L) 1 false:=⟨fun {X w v} ⟨A,n,c,xs,e,_⟩=>by rw [e];exact ⟨rfl,by simp [Value.cells,Value.oneCell'],(fun h=>by cases h),fun _=>rfl⟩⟩
instance:bi (.dr k β V L) 1 false:=⟨fun {X w v} ⟨A,n,c,xs,e,_⟩=>by rw [e];exact ⟨rfl,by simp [Value.cells,Value.oneCell'],(fun h=>by cases h),fun _=>rfl⟩⟩
instance:az (.dv k β V L) 0 1 false (.dv k β V L):= .single inferInstance
instance:az (.dr k β V L) 0 1 false (.dr k β V L):= .single inferInstance
class I_ (T:ai) (k:outParam IntKind) (β V:outParam Int) (L:outParam Nat):Prop where
 ok:∀ {X w v},T.holds X w v→(ai.dv k β V L).holds X w v
instance:I_ (.dv k β V L) k β V L:=⟨fun h=>h⟩
instance:I_ (.dr k β V L) k β V L:=⟨fun ⟨A,n,c,xs,e,h,d,l⟩=>⟨A,n,c,xs,e,h,d.dg,d.val,l⟩⟩
theorem Gi{w':World} {B:Nat} {e:TypeId} {A:Option Addr} {n c:Nat} {xs:List Int} (hX:∀ b∈X,b<B) (h:go β V xs) (ho:cG k e w' B A n c xs) (hl:n≤L):(ai.dr k β V L).holds X w' (.slice A n c):=
 ⟨A,n,c,xs,rfl,⟨ho.sl,fun hn b hb=>by
  obtain ⟨g1,g2⟩:=ho.blk_ b hb
  exact ⟨g2,fun hx=>by have:=hX b hx;omega⟩⟩,h,hl⟩
end
instance {N:Int} {L:Nat}:az (.nc N L) 0 1 false (.is (.bool (decide (N<0)))):=⟨fun _=>rfl,fun {X w v} hv=>by
 obtain ⟨x,⟨hw,_⟩,cs,rfl,hr⟩:=hv
 obtain ⟨A,n,c,rfl,_⟩:=dc.1 hr
 refine ⟨[.bool x.1],rfl,fun j u hj=> ?_,fun u _ hu=> ?_⟩
 ·cases j with
  |zero=>simpa [Value.cells] using hj
  |succ j=>simp at hj
 ·have:=hu rfl
  simp at this
  rw [←this,hw.sg]
  rfl⟩
instance {N:Int} {L:Nat}:az (.nc N L) 1 1 false (.lr (N.natAbs:Int) L):=⟨fun _=>rfl,fun {X w v} hv=>by
 obtain ⟨x,⟨hw,hl⟩,cs,rfl,hr⟩:=hv
 obtain ⟨A,n,c,rfl,hs,hd⟩:=dc.1 hr
 refine ⟨[.slice A n c],rfl,fun j u hj=> ?_,fun u _ hu=> ?_⟩
 ·cases j with
  |zero=>simpa [Value.cells] using hj
  |succ j=>simp at hj
 ·have:=hu rfl
  simp at this
  rw [←this]
  exact ⟨A,n,c,x.2,rfl,hs,hw.row,by rw [←hs.1.len];exact hw.len hl⟩⟩
instance:wB Tryz.prog 9:=⟨Tryz.underlying9⟩
instance:eV Tryz.prog 9 1 false:=⟨⟨_,Tryz.underlying9,rfl⟩,by kernel_rfl⟩
instance:wB Tryz.prog 332:=⟨Tryz.underlying332⟩
instance:eV Tryz.prog 332 1 false:=⟨⟨_,Tryz.underlying332,rfl⟩,by kernel_rfl⟩
instance:eV Tryz.prog 4 1 false:=⟨⟨_,Tryz.underlying4,rfl⟩,by kernel_rfl⟩
instance:eV Tryz.prog 297 3 true:=⟨⟨_,Tryz.underlying297,rfl⟩,by kernel_rfl⟩
instance:eV Tryz.prog 334 1 true:=⟨⟨_,Tryz.underlying334,rfl⟩,by kernel_rfl⟩
instance:aP Tryz.prog 297 0 0 1 false:=⟨⟨_,_,Tryz.underlying297,rfl,rfl,by kernel_rfl,by decide,_,Tryz.underlying4,rfl⟩⟩
instance:aP Tryz.prog 297 1 1 1 false:=⟨⟨_,_,Tryz.underlying297,rfl,rfl,by kernel_rfl,by decide,_,Tryz.underlying9,rfl⟩⟩
instance:aP Tryz.prog 297 2 2 1 false:=⟨⟨_,_,Tryz.underlying297,rfl,rfl,by kernel_rfl,by decide,_,Tryz.underlying9,rfl⟩⟩
instance:aP Tryz.prog 334 0 0 1 false:=⟨⟨_,_,Tryz.underlying334,rfl,rfl,by kernel_rfl,by decide,_,Tryz.underlying332,rfl⟩⟩
instance:aP Tryz.prog 38 0 0 1 false:=⟨⟨_,_,Tryz.underlying38,rfl,rfl,by kernel_rfl,by decide,_,Tryz.underlying4,rfl⟩⟩
instance {N:Int} {L B:Nat}:az (.nn N L B) 0 1 false (.is (.bool (decide (N<0)))):=⟨fun _=>rfl,fun h=>(inferInstance:az (.nc N L) 0 1 false (.is (.bool (decide (N<0))))).ok (nC h)⟩
instance {N:Int} {L B:Nat}:az (.nn N L B) 1 1 false (.lr (N.natAbs:Int) L):=⟨fun _=>rfl,fun h=>(inferInstance:az (.nc N L) 1 1 false (.lr (N.natAbs:Int) L)).ok (nC h)⟩
instance:cX Tryz.prog 297 (.cs [.bool false,Tx [],Tx []]):=⟨⟨.agg #[.bool false,Tx [],Tx []],fun X w=>rfl,fun o ρ w e=>by
 cases o with
 |mk dst op ty pos af gd=>
  have e':op=_:=e
  subst e'
  go_simp⟩⟩
instance:cX Tryz.prog 334 (.cs [Tx []]):=⟨⟨.agg #[Tx []],fun X w=>rfl,fun o ρ w e=>by
 cases o with
 |mk dst op ty pos af gd=>
  have e':op=_:=e
  subst e'
  go_simp⟩⟩
instance:jL vE:=⟨vE.below⟩
theorem vE.tab(h:vE w):g9 w:=⟨h.half,h.hz⟩
abbrev S1:World→Prop:=fun _=>True
instance:jL S1:=⟨fun _ _=>trivial⟩
theorem Gp{P:Program} {G:World→Prop} (he:bE P f) (h:∀ w,G w→Calls P f #[u] w fun e w'=>e= .returned v∧Below w.heap.size w w'):dB P G f [0] [.is u] (fun _=> .is v):=
 ⟨he,fun _ h=>h,fun {X w vs} hG _ ha=>by
  obtain ⟨x,rfl,e⟩:=ha.one
  rw [show x=u from e]
  exact (h w hG).mono fun e w' g=>⟨v,g.1,rfl,g.2⟩⟩
theorem qr{P:Program} {G:World→Prop} {u2:Value} (he:bE P f) (h:∀ w,G w→Calls P f #[u,u2] w fun e w'=>e= .returned v∧Below w.heap.size w w'):dB P G f [0,0] [.is u, .is u2] (fun _=> .is v):=
 ⟨he,fun _ h=>h,fun {X w vs} hG _ ha=>by
  obtain ⟨x,y,rfl,e,e2⟩:=ha.two
  rw [show x=u from e,show y=u2 from e2]
  exact (h w hG).mono fun e w' g=>⟨v,g.1,rfl,g.2⟩⟩
theorem Below.drew' (w:World):Below w.heap.size w w.drew:=⟨rfl,rfl,rfl,Nat.le_refl _,fun _ _=>rfl⟩
theorem bU (l:List UInt8):(⟨l.toArray⟩:ByteArray).data.toList=l:=by simp
theorem qP {l:List UInt8}:dB Tryz.prog S1 271 [0,0] [.is (Tx l), .is (Tx [48])] (fun _=> .is (Tx (Lib.trimLeftB l 48))):=
 qr (fun _ _=>by kernel_rfl) fun w _=>(Tryz.strings_TrimLeft_one ⟨l.toArray⟩ 48 qD w).mono fun e w' h=>by
  rw [bU] at h
  exact ⟨h.1,by rw [h.2];exact Below.refl _ _⟩
theorem zn {l:List UInt8} (hl:l.length≤9223372036854775807):dB Tryz.prog S1 173 [0,0] [.is (Tx l), .is (Tx [48])] (fun _=> .is (Tx (Lib.trimB l 48))):=
 qr (fun _ _=>by kernel_rfl) fun w _=>(Tryz.strings_Trim_one ⟨l.toArray⟩ 48 qD w (by rw [fR];omega)).mono fun e w' h=>by
  rw [bU] at h
  refine ⟨h.1,?_⟩
  rcases h.2 with h2|h2
  ·rw [h2];exact Below.refl _ _
  ·rw [h2];exact Below.drew' w
theorem vD {l p:List UInt8}:dB Tryz.prog S1 296 [0,0] [.is (Tx l), .is (Tx p)] (fun _=> .tup [.is (Tx (Lib.trimPrefix l p)), .is (.bool (Lib.hasPrefix l p))]):=
 (qr (v:= .tuple #[Tx (Lib.trimPrefix l p), .bool (Lib.hasPrefix l p)]) (fun _ _=>by kernel_rfl) fun w _=>(Tryz.strings_CutPrefix ⟨l.toArray⟩ ⟨p.toArray⟩ w).mono fun e w' h=>by
   rw [bU,bU] at h
   exact ⟨h.1,by rw [h.2];exact Below.refl _ _⟩).weak fun h=>⟨[_,_],h,rfl,rfl,trivial⟩
theorem Dh (l:List UInt8) (c:UInt8):Lib.hasPrefix l [c]=(l.head? ==some c)∧Lib.trimPrefix l [c]=bif l.head? ==some c then l.tail else l:=by
 unfold Lib.trimPrefix Lib.hasPrefix
 cases l with
 |nil=>exact ⟨rfl,rfl⟩
 |cons x l=>
  show ((c==x&&true)=(some x==some c))∧_
  have e:(some x==some c)=(c==x):=by
   rw [Bool.eq_iff_iff,beq_iff_eq,beq_iff_eq]
   exact ⟨fun h=>by injection h with h;exact h.symm,fun h=>by rw [h]⟩
  rw [show (x::l).head? =some x from rfl,e,Bool.and_true]
  refine ⟨rfl,?_⟩
  show (if ([c].isPrefixOf (x::l))=true then (x::l).drop 1 else x::l)=_
  rw [show [c].isPrefixOf (x::l)=(c==x&&true) from rfl,Bool.and_true]
  cases (c==x)<;>rfl
theorem zZ {l:List UInt8} {c:UInt8}:mA Tryz.prog S1 266 (.cs [Tx l]) [0] [.is (Tx [c])] (.cs [Tx (bif l.head? ==some c then l.tail else l)]) (.is (.bool (l.head? ==some c))):=by
 obtain ⟨e1,e2⟩:=Dh l c
 rw [←e2,←e1]
 refine sD Tryz.func266 rfl Tryz.ntmps266 qE (fun _ _=>by kernel_rfl) fun w00 X L0 r wS hG hm=> ?_
 simp only [bf,Nat.zero_add,Nat.reduceAdd,List.cons_append,List.nil_append]
 repeat' first|kernel_rfl|apply aF|apply aG|apply aI|apply aD|apply aH|apply aM|apply aN|apply aA|apply aE|apply be|apply aq|apply a_|apply a8|apply aB|refine Ee rfl hm ?_|apply bc|exact sc trivial vD|exact bn|exact aj|exact ab|exact ah|exact aJ|exact ae|exact Cv.rfl'|intro _
theorem jY {p:UInt8→Bool}:∀ (l:List UInt8),(l.takeWhile p).length≤l.length:=fun l=>(List.takeWhile_sublist p).length_le
theorem qp {p:UInt8→Bool}:∀ (l:List UInt8),l.take (l.takeWhile p).length=l.takeWhile p:=fun l=>by
 have h:=List.takeWhile_append_dropWhile (p:=p) (l:=l)
 generalize l.takeWhile p=a at*
 rw [←h,List.take_left' rfl]
theorem mm {p:UInt8→Bool}:∀ (l:List UInt8),l.drop (l.takeWhile p).length=l.dropWhile p:=fun l=>by
 have h:=List.takeWhile_append_dropWhile (p:=p) (l:=l)
 generalize l.takeWhile p=a at*
 generalize l.dropWhile p=b at*
 rw [←h,List.drop_left' rfl]
theorem uD {p:UInt8→Bool} {l:List UInt8} {i:Nat} (h:i<(l.takeWhile p).length):∃ c,l[i]? =some c∧p c=true:=by
 have e:l[i]? =(l.takeWhile p)[i]? :=by
  conv=>lhs;rw [←List.takeWhile_append_dropWhile (p:=p) (l:=l)]
  exact List.getElem?_append_left h
 rw [List.getElem?_eq_getElem h] at e
 exact ⟨_,e,f_ _ (List.getElem_mem h)⟩
theorem sj {p:UInt8→Bool} {l:List UInt8} (h:(l.takeWhile p).length<l.length):∃ c,l[(l.takeWhile p).length]? =some c∧p c=false:=by
 have e:=mm (p:=p) l
 cases hd:l.dropWhile p with
 |nil=>
  have:=congrArg List.length (List.takeWhile_append_dropWhile (p:=p) (l:=l))
  rw [hd,List.append_nil] at this
  omega
 |cons c r=>
  rw [hd] at e
  refine ⟨c,?_,?_⟩
  ·have:=congrArg (fun l:List UInt8=>l[0]?) e
   simpa using this
  ·have:=List.head_dropWhile_not (p:=p) (l:=l) (by rw [hd];simp)
   simpa [hd] using this
theorem xy {c:UInt8} {u:Bool} (h:mL c=u):(decide ((48:Int)≤(c.toNat:Int))=false∧u=false)∨(decide ((48:Int)≤(c.toNat:Int))=true∧decide ((c.toNat:Int)≤57)=u):=by
 unfold mL at h
 cases h1:decide ((48:Int)≤(c.toNat:Int)) with
 |false=>rw [h1] at h;exact .inl ⟨rfl,h.symm⟩
 |true=>rw [h1] at h;exact .inr ⟨rfl,h⟩
theorem dh(h0:0≤x) (h1:x≤9223372036854775807):IntKind.i64.wrap x=x:=by rw [IntKind.wrap_i64];omega
theorem uN {l:List UInt8} (hl:l.length≤1000000):mA Tryz.prog S1 267 (.cs [Tx l]) [] [] (.cs [Tx (l.dropWhile mL)]) (.is (Tx (l.takeWhile mL))):=by
 have hm1:=jY (p:=mL) l
 have hp1:=qp (p:=mL) l
 have hp2:=mm (p:=mL) l
 refine sD Tryz.func267 rfl Tryz.ntmps267 qE (fun _ _=>by kernel_rfl) fun w00 X L0 r wS hG hm=> ?_
 simp only [bf,Nat.zero_add,Nat.reduceAdd,List.cons_append,List.nil_append]
 repeat' first|kernel_rfl|apply aF|apply aG|apply aI|apply aD|apply aH|apply aM|apply aN|apply aA|apply aE|refine bw rfl inferInstance (by first|exact bD (by assumption)|exact bn|exact aj|exact ah|exact cL (by first|assumption|rfl)|exact bP (by first|assumption|rfl)|exact ae) qK ?_|refine bZ rfl inferInstance rfl qK ?_|refine bW rfl inferInstance qK ?_|apply be|apply aq|apply a_|apply a8|apply aB|refine Ee rfl hm ?_|apply bl|apply bO|apply bN|apply eo|apply em|refine eu rfl ?_|apply ep|apply ew|apply bc|exact cC qL|exact aL|exact bD qL|exact tJ qL|exact mT qL|exact bn|exact bG qL|exact aj|exact ab|exact ah|exact aQ|exact aW|exact bu qG|exact cL qG|exact bP qG|exact am|exact ae|exact Cv.rfl'|intro _
 refine kd fun a w h=> ?_
 refine iG (fun k a w=>∃ i:Nat,i+k=(l.takeWhile mL).length∧TS w00 X ((r, .cs [Tx l])::L0) [(3, .is (.int .i64 (i:Int))),(2, .is (Tx [])),(0, .is (.pointer (some ⟨r,0,none⟩))),(0, .gh X wS)] 42 a w) (l.takeWhile mL).length ⟨0,by omega,h⟩ ?_
 clear h
 rintro k a w ⟨i,hi,h⟩
 by_cases hlt:i<(l.takeWhile mL).length
 ·obtain ⟨c,hx,hd⟩:=uD hlt
  obtain ⟨c1,c2⟩:decide ((48:Int)≤(c.toNat:Int))=true∧decide ((c.toNat:Int)≤57)=true:=by
   rcases xy hd with ⟨_,h⟩|h
   ·cases h
   ·exact h
  have hc:decide ((i:Int)<(l.length:Int))=true:=decide_eq_true qO
  have hix:0≤(i:Int)∧l[(i:Int).toNat]? =some c:=⟨by omega,hx⟩
  have hw:IntKind.i64.wrap ((i:Int)+1)=((i+1:Nat):Int):=dh qO qO
  refine fh h ?_
  clear h
  repeat' first|kernel_rfl|exact iz fun _ _ h=>⟨k - 1,by omega,i+1,by omega,h.keepG [3,2,0]⟩|apply aF|apply aG|apply aI|apply aD|apply aH|apply aM|apply aN|apply aA|apply aE|refine bw rfl inferInstance (by first|exact bD (by assumption)|exact bn|exact aj|exact ah|exact cL (by first|assumption|rfl)|exact bP (by first|assumption|rfl)|exact ae) qK ?_|refine bZ rfl inferInstance rfl qK ?_|refine bW rfl inferInstance qK ?_|apply be|apply aq|apply a_|apply a8|apply aB|refine Ee rfl hm ?_|apply bl|apply bO|apply bN|apply eo|apply em|refine eu rfl ?_|apply ep|apply ew|apply bc|exact cC qL|exact aL|exact bD qL|exact tJ qL|exact mT qL|exact bn|exact bG qL|exact aj|exact ab|exact ah|exact aQ|exact aW|exact bu qG|exact cL qG|exact bP qG|exact am|exact ae|exact Cv.rfl'|intro _
 ·obtain rfl:i=(l.takeWhile mL).length:=qO
  have hs:0≤(((l.takeWhile mL).length:Nat):Int)∧(((l.takeWhile mL).length:Nat):Int)≤(l.length:Int):=⟨by omega,by omega⟩
  have e1:l.take (((l.takeWhile mL).length:Nat):Int).toNat=l.takeWhile mL:=hp1
  have e2:l.drop (((l.takeWhile mL).length:Nat):Int).toNat=l.dropWhile mL:=hp2
  rw [←e1,←e2]
  clear e1 e2 hp1 hp2
  have hcs:decide ((((l.takeWhile mL).length:Nat):Int)<(l.length:Int))=false∨(decide ((((l.takeWhile mL).length:Nat):Int)<(l.length:Int))=true∧∃ c:UInt8,(0≤(((l.takeWhile mL).length:Nat):Int)∧l[(((l.takeWhile mL).length:Nat):Int).toNat]? =some c)∧(decide ((48:Int)≤(c.toNat:Int))=false∨decide ((48:Int)≤(c.toNat:Int))=true∧decide ((c.toNat:Int)≤57)=false)):=by
   by_cases hq:(l.takeWhile mL).length<l.length
   ·obtain ⟨c,hx,hd⟩:=sj hq
    exact .inr ⟨decide_eq_true qO,c,⟨by omega,hx⟩,(xy hd).imp And.left id⟩
   ·exact .inl (decide_eq_false qO)
  generalize (((l.takeWhile mL).length:Nat):Int)=j at*
  rcases hcs with hc|⟨hc,c,hx,c1|⟨c1,c2⟩⟩
  all_goals
   refine fh h ?_
   clear h
   repeat' first|kernel_rfl|apply aF|apply aG|apply aI|apply aD|apply aH|apply aM|apply aN|apply aA|apply aE|refine bw rfl inferInstance (by first|exact bD (by assumption)|exact bn|exact aj|exact ah|exact cL (by first|assumption|rfl)|exact bP (by first|assumption|rfl)|exact ae) qK ?_|refine bZ rfl inferInstance rfl qK ?_|refine bW rfl inferInstance qK ?_|apply be|apply aq|apply a_|apply a8|apply aB|refine Ee rfl hm ?_|apply bl|apply bO|apply bN|apply eo|apply em|refine eu rfl ?_|apply ep|apply ew|apply bc|exact cC qL|exact aL|exact bD qL|exact tJ qL|exact mT qL|exact bn|exact bG qL|exact aj|exact ab|exact ah|exact aQ|exact aW|exact bu qG|exact cL qG|exact bP qG|exact am|exact ae|exact Cv.rfl'|intro _
theorem nN {p:UInt8→Bool}:∀ {l:List UInt8},l.dropWhile p=[]↔l.all p=true
 |[]=>by simp
 |c::l=>by
  rw [List.dropWhile_cons,List.all_cons]
  cases p c with
  |true=>simpa using nN (l:=l)
  |false=>simp
theorem uO (l:List UInt8):(Lib.trimB l 48==[])=xK l:=by
 rw [Bool.eq_iff_iff,beq_iff_eq]
 unfold Lib.trimB Lib.trimLeftB Lib.trimRightB xK
 rw [nN,List.all_reverse]
 constructor
 ·intro h
  rw [←List.all_reverse]
  rw [←List.takeWhile_append_dropWhile (p:=(· ==(48:UInt8))) (l:=l.reverse),List.all_append,h,Bool.and_true,List.all_eq_true]
  exact f_
 ·intro h
  rw [←List.all_reverse] at h
  rw [nN.2 h]
  rfl
theorem z_{a b:List UInt8} (ha:a.length≤9223372036854775807) (hb:b.length≤9223372036854775807):dB Tryz.prog S1 268 [0] [.is (.agg #[.bool n,Tx a,Tx b])] (fun _=> .is (.bool (xK a&&xK b))):=by
 have e1:=uO a
 have e2:=uO b
 generalize xK a=u at*
 generalize xK b=v at*
 cases u
 all_goals
  refine fA Tryz.func268 rfl Tryz.ntmps268 qE (fun _ _=>by kernel_rfl) fun X w hE=> ?_
  simp only [bf,Nat.zero_add,Nat.reduceAdd]
  repeat' first|kernel_rfl|apply aF|apply aG|apply aI|apply aD|apply aH|apply aM|apply aN|apply aA|apply aE|refine bw rfl inferInstance (by first|exact sc trivial (zn qL)|exact bj qG|exact ah|exact aa|exact au qG|exact ae) qK ?_|refine bZ rfl inferInstance rfl qK ?_|refine bW rfl inferInstance qK ?_|apply be|apply aq|apply a_|apply a8|apply aB|refine fm rfl ?_|apply bc|exact sc trivial (zn qL)|exact bj qG|exact aj|exact ab|exact ah|exact aa|exact aQ|exact aW|exact au qG|exact ae|exact Cv.rfl'|intro _
def jp (u n:Bool) (a b:List UInt8):Value:=bif u then .agg #[.bool n,Tx a,Tx b] else .agg #[.bool false,Tx [],Tx []]
theorem Ay (l:List UInt8):(bd l).length≤l.length:=by unfold bd;cases ng l<;>simp
theorem E9 (l:List UInt8):(r1 l).length≤l.length:=Nat.le_trans (List.dropWhile_sublist _).length_le (Ay l)
theorem FD (l:List UInt8):(r2 l).length≤l.length:=by
 have:=E9 l
 unfold r2
 cases sp l
 ·exact this
 ·show (r1 l).tail.length≤_
  rw [List.length_tail];omega
theorem dM{N:Nat} {d:Nat} {t0:TypeId} {pos:String} {af:Array Edge} {gd:Option (Nat×Bool)}:aR Tryz.prog w00 N L E ⟨some d, .build 297 #[],t0,pos,af,gd⟩ (.is (.agg #[.bool false,Tx [],Tx []])):=by
 constructor
 intro X ρ w hc _ hN hm hsl
 clear hsl hm hc
 unfold Yields
 go_simp
 exact ⟨rfl,Below.refl _ _⟩
structure kh (l W p R3 B R1 R2:List UInt8) (n s z:Bool):Prop where
 t1:mA Tryz.prog S1 266 (.cs [Tx l]) [0] [.is (Tx [45])] (.cs [Tx B]) (.is (.bool n))
 d1:mA Tryz.prog S1 267 (.cs [Tx B]) [] [] (.cs [Tx R1]) (.is (Tx W))
 t2:mA Tryz.prog S1 266 (.cs [Tx R1]) [0] [.is (Tx [46])] (.cs [Tx R2]) (.is (.bool s))
 d2:s=true→mA Tryz.prog S1 267 (.cs [Tx R2]) [] [] (.cs [Tx R3]) (.is (Tx p))
 d3:s=false→R3=R2∧p=[]
 nn:dB Tryz.prog S1 268 [0] [.is (.agg #[.bool n,Tx W,Tx p])] (fun _=> .is (.bool z))
theorem FC{l W p R3 B R1 R2:List UInt8} (h:kh l W p R3 B R1 R2 n true z) (k1:(W==[])=true):mA Tryz.prog S1 236 (.cs [Tx l]) [] [] (.cs [Tx R3]) (.tup [.is (jp false n W p), .is (.bool false)]):=by
 obtain ⟨t1,d1,t2,d2,d3,nn⟩:=h
 first|(obtain ⟨rfl,rfl⟩:=d3 rfl;clear d2)|replace d2:=d2 rfl
 clear d3
 simp only [jp,cond_true,cond_false]
 refine sD Tryz.func236 rfl Tryz.ntmps236 qE (fun _ _=>by kernel_rfl) fun w00 X L0 r wS hG hm=> ?_
 simp only [bf,Nat.zero_add,Nat.reduceAdd,List.cons_append,List.nil_append]
 repeat' first|kernel_rfl|refine cy (s:=8) trivial t1 qK ?_|refine cy (s:=13) trivial d1 qK ?_|refine cy (s:=18) trivial t2 qK ?_|refine cy (s:=23) trivial d2 qK ?_|apply aF|apply aG|apply aI|apply aD|apply aH|apply aM|apply aN|apply aA|apply aE|refine bw rfl inferInstance (by first|exact sc trivial nn|exact aL|exact bj (by first|assumption|rfl)|exact ah|exact aa|exact au (by first|assumption|rfl)|exact ay (by first|assumption|rfl)|exact am|exact ae) qK ?_|refine bZ rfl inferInstance rfl qK ?_|refine bW rfl inferInstance qK ?_|apply be|apply aq|apply a_|apply a8|apply aB|refine kI rfl hm ?_|apply bl|apply bO|apply bN|apply eo|apply em|refine eu rfl ?_|apply ep|apply ew|apply bc|exact sc trivial nn|exact dM|exact aL|exact bj qG|exact bD qL|exact bn|exact aj|exact ab|exact ah|exact aa|exact aQ|exact aW|exact au qG|exact ay qG|exact am|exact ae|exact Cv.rfl'|intro _
theorem Gz{l W p R3 B R1 R2:List UInt8} (h:kh l W p R3 B R1 R2 n true z) {c:UInt8} (k1:(W==[])=false) (hx:0≤(0:Int)∧W[(0:Int).toNat]? =some c) (k4:((c.toNat:Int)==48)=true) (k5:decide ((1:Int)<(W.length:Int))=true):mA Tryz.prog S1 236 (.cs [Tx l]) [] [] (.cs [Tx R3]) (.tup [.is (jp false n W p), .is (.bool false)]):=by
 obtain ⟨t1,d1,t2,d2,d3,nn⟩:=h
 first|(obtain ⟨rfl,rfl⟩:=d3 rfl;clear d2)|replace d2:=d2 rfl
 clear d3
 simp only [jp,cond_true,cond_false]
 refine sD Tryz.func236 rfl Tryz.ntmps236 qE (fun _ _=>by kernel_rfl) fun w00 X L0 r wS hG hm=> ?_
 simp only [bf,Nat.zero_add,Nat.reduceAdd,List.cons_append,List.nil_append]
 repeat' first|kernel_rfl|refine cy (s:=8) trivial t1 qK ?_|refine cy (s:=13) trivial d1 qK ?_|refine cy (s:=18) trivial t2 qK ?_|refine cy (s:=23) trivial d2 qK ?_|apply aF|apply aG|apply aI|apply aD|apply aH|apply aM|apply aN|apply aA|apply aE|refine bw rfl inferInstance (by first|exact sc trivial nn|exact aL|exact bj (by first|assumption|rfl)|exact ah|exact aa|exact au (by first|assumption|rfl)|exact ay (by first|assumption|rfl)|exact am|exact ae) qK ?_|refine bZ rfl inferInstance rfl qK ?_|refine bW rfl inferInstance qK ?_|apply be|apply aq|apply a_|apply a8|apply aB|refine kI rfl hm ?_|apply bl|apply bO|apply bN|apply eo|apply em|refine eu rfl ?_|apply ep|apply ew|apply bc|exact sc trivial nn|exact dM|exact aL|exact bj qG|exact bD qL|exact bn|exact aj|exact ab|exact ah|exact aa|exact aQ|exact aW|exact au qG|exact ay qG|exact am|exact ae|exact Cv.rfl'|intro _
theorem E8{l W p R3 B R1 R2:List UInt8} (h:kh l W p R3 B R1 R2 n true z) {c:UInt8} (k1:(W==[])=false) (hx:0≤(0:Int)∧W[(0:Int).toNat]? =some c) (k4:((c.toNat:Int)==48)=false) (k7:(p==[])=true):mA Tryz.prog S1 236 (.cs [Tx l]) [] [] (.cs [Tx R3]) (.tup [.is (jp false n W p), .is (.bool false)]):=by
 obtain ⟨t1,d1,t2,d2,d3,nn⟩:=h
 first|(obtain ⟨rfl,rfl⟩:=d3 rfl;clear d2)|replace d2:=d2 rfl
 clear d3
 simp only [jp,cond_true,cond_false]
 refine sD Tryz.func236 rfl Tryz.ntmps236 qE (fun _ _=>by kernel_rfl) fun w00 X L0 r wS hG hm=> ?_
 simp only [bf,Nat.zero_add,Nat.reduceAdd,List.cons_append,List.nil_append]
 repeat' first|kernel_rfl|refine cy (s:=8) trivial t1 qK ?_|refine cy (s:=13) trivial d1 qK ?_|refine cy (s:=18) trivial t2 qK ?_|refine cy (s:=23) trivial d2 qK ?_|apply aF|apply aG|apply aI|apply aD|apply aH|apply aM|apply aN|apply aA|apply aE|refine bw rfl inferInstance (by first|exact sc trivial nn|exact aL|exact bj (by first|assumption|rfl)|exact ah|exact aa|exact au (by first|assumption|rfl)|exact ay (by first|assumption|rfl)|exact am|exact ae) qK ?_|refine bZ rfl inferInstance rfl qK ?_|refine bW rfl inferInstance qK ?_|apply be|apply aq|apply a_|apply a8|apply aB|refine kI rfl hm ?_|apply bl|apply bO|apply bN|apply eo|apply em|refine eu rfl ?_|apply ep|apply ew|apply bc|exact sc trivial nn|exact dM|exact aL|exact bj qG|exact bD qL|exact bn|exact aj|exact ab|exact ah|exact aa|exact aQ|exact aW|exact au qG|exact ay qG|exact am|exact ae|exact Cv.rfl'|intro _
theorem D4{l W p R3 B R1 R2:List UInt8} (h:kh l W p R3 B R1 R2 false true z) {c:UInt8} (k1:(W==[])=false) (hx:0≤(0:Int)∧W[(0:Int).toNat]? =some c) (k4:((c.toNat:Int)==48)=false) (k7:(p==[])=false):mA Tryz.prog S1 236 (.cs [Tx l]) [] [] (.cs [Tx R3]) (.tup [.is (jp true false W p), .is (.bool true)]):=by
 obtain ⟨t1,d1,t2,d2,d3,nn⟩:=h
 first|(obtain ⟨rfl,rfl⟩:=d3 rfl;clear d2)|replace d2:=d2 rfl
 clear d3
 simp only [jp,cond_true,cond_false]
 refine sD Tryz.func236 rfl Tryz.ntmps236 qE (fun _ _=>by kernel_rfl) fun w00 X L0 r wS hG hm=> ?_
 simp only [bf,Nat.zero_add,Nat.reduceAdd,List.cons_append,List.nil_append]
 repeat' first|kernel_rfl|refine cy (s:=8) trivial t1 qK ?_|refine cy (s:=13) trivial d1 qK ?_|refine cy (s:=18) trivial t2 qK ?_|refine cy (s:=23) trivial d2 qK ?_|apply aF|apply aG|apply aI|apply aD|apply aH|apply aM|apply aN|apply aA|apply aE|refine bw rfl inferInstance (by first|exact sc trivial nn|exact aL|exact bj (by first|assumption|rfl)|exact ah|exact aa|exact au (by first|assumption|rfl)|exact ay (by first|assumption|rfl)|exact am|exact ae) qK ?_|refine bZ rfl inferInstance rfl qK ?_|refine bW rfl inferInstance qK ?_|apply be|apply aq|apply a_|apply a8|apply aB|refine kI rfl hm ?_|apply bl|apply bO|apply bN|apply eo|apply em|refine eu rfl ?_|apply ep|apply ew|apply bc|exact sc trivial nn|exact dM|exact aL|exact bj qG|exact bD qL|exact bn|exact aj|exact ab|exact ah|exact aa|exact aQ|exact aW|exact au qG|exact ay qG|exact am|exact ae|exact Cv.rfl'|intro _
theorem D9 {l W p R3 B R1 R2:List UInt8} (h:kh l W p R3 B R1 R2 true true true) {c:UInt8} (k1:(W==[])=false) (hx:0≤(0:Int)∧W[(0:Int).toNat]? =some c) (k4:((c.toNat:Int)==48)=false) (k7:(p==[])=false):mA Tryz.prog S1 236 (.cs [Tx l]) [] [] (.cs [Tx R3]) (.tup [.is (jp false true W p), .is (.bool false)]):=by
 obtain ⟨t1,d1,t2,d2,d3,nn⟩:=h
 first|(obtain ⟨rfl,rfl⟩:=d3 rfl;clear d2)|replace d2:=d2 rfl
 clear d3
 simp only [jp,cond_true,cond_false]
 refine sD Tryz.func236 rfl Tryz.ntmps236 qE (fun _ _=>by kernel_rfl) fun w00 X L0 r wS hG hm=> ?_
 simp only [bf,Nat.zero_add,Nat.reduceAdd,List.cons_append,List.nil_append]
 repeat' first|kernel_rfl|refine cy (s:=8) trivial t1 qK ?_|refine cy (s:=13) trivial d1 qK ?_|refine cy (s:=18) trivial t2 qK ?_|refine cy (s:=23) trivial d2 qK ?_|apply aF|apply aG|apply aI|apply aD|apply aH|apply aM|apply aN|apply aA|apply aE|refine bw rfl inferInstance (by first|exact sc trivial nn|exact aL|exact bj (by first|assumption|rfl)|exact ah|exact aa|exact au (by first|assumption|rfl)|exact ay (by first|assumption|rfl)|exact am|exact ae) qK ?_|refine bZ rfl inferInstance rfl qK ?_|refine bW rfl inferInstance qK ?_|apply be|apply aq|apply a_|apply a8|apply aB|refine kI rfl hm ?_|apply bl|apply bO|apply bN|apply eo|apply em|refine eu rfl ?_|apply ep|apply ew|apply bc|exact sc trivial nn|exact dM|exact aL|exact bj qG|exact bD qL|exact bn|exact aj|exact ab|exact ah|exact aa|exact aQ|exact aW|exact au qG|exact ay qG|exact am|exact ae|exact Cv.rfl'|intro _
theorem Dc {l W p R3 B R1 R2:List UInt8} (h:kh l W p R3 B R1 R2 true true false) {c:UInt8} (k1:(W==[])=false) (hx:0≤(0:Int)∧W[(0:Int).toNat]? =some c) (k4:((c.toNat:Int)==48)=false) (k7:(p==[])=false):mA Tryz.prog S1 236 (.cs [Tx l]) [] [] (.cs [Tx R3]) (.tup [.is (jp true true W p), .is (.bool true)]):=by
 obtain ⟨t1,d1,t2,d2,d3,nn⟩:=h
 first|(obtain ⟨rfl,rfl⟩:=d3 rfl;clear d2)|replace d2:=d2 rfl
 clear d3
 simp only [jp,cond_true,cond_false]
 refine sD Tryz.func236 rfl Tryz.ntmps236 qE (fun _ _=>by kernel_rfl) fun w00 X L0 r wS hG hm=> ?_
 simp only [bf,Nat.zero_add,Nat.reduceAdd,List.cons_append,List.nil_append]
 repeat' first|kernel_rfl|refine cy (s:=8) trivial t1 qK ?_|refine cy (s:=13) trivial d1 qK ?_|refine cy (s:=18) trivial t2 qK ?_|refine cy (s:=23) trivial d2 qK ?_|apply aF|apply aG|apply aI|apply aD|apply aH|apply aM|apply aN|apply aA|apply aE|refine bw rfl inferInstance (by first|exact sc trivial nn|exact aL|exact bj (by first|assumption|rfl)|exact ah|exact aa|exact au (by first|assumption|rfl)|exact ay (by first|assumption|rfl)|exact am|exact ae) qK ?_|refine bZ rfl inferInstance rfl qK ?_|refine bW rfl inferInstance qK ?_|apply be|apply aq|apply a_|apply a8|apply aB|refine kI rfl hm ?_|apply bl|apply bO|apply bN|apply eo|apply em|refine eu rfl ?_|apply ep|apply ew|apply bc|exact sc trivial nn|exact dM|exact aL|exact bj qG|exact bD qL|exact bn|exact aj|exact ab|exact ah|exact aa|exact aQ|exact aW|exact au qG|exact ay qG|exact am|exact ae|exact Cv.rfl'|intro _
theorem Fu{l W p R3 B R1 R2:List UInt8} (h:kh l W p R3 B R1 R2 n true z) {c:UInt8} (k1:(W==[])=false) (hx:0≤(0:Int)∧W[(0:Int).toNat]? =some c) (k4:((c.toNat:Int)==48)=true) (k5:decide ((1:Int)<(W.length:Int))=false) (k7:(p==[])=true):mA Tryz.prog S1 236 (.cs [Tx l]) [] [] (.cs [Tx R3]) (.tup [.is (jp false n W p), .is (.bool false)]):=by
 obtain ⟨t1,d1,t2,d2,d3,nn⟩:=h
 first|(obtain ⟨rfl,rfl⟩:=d3 rfl;clear d2)|replace d2:=d2 rfl
 clear d3
 simp only [jp,cond_true,cond_false]
 refine sD Tryz.func236 rfl Tryz.ntmps236 qE (fun _ _=>by kernel_rfl) fun w00 X L0 r wS hG hm=> ?_
 simp only [bf,Nat.zero_add,Nat.reduceAdd,List.cons_append,List.nil_append]
 repeat' first|kernel_rfl|refine cy (s:=8) trivial t1 qK ?_|refine cy (s:=13) trivial d1 qK ?_|refine cy (s:=18) trivial t2 qK ?_|refine cy (s:=23) trivial d2 qK ?_|apply aF|apply aG|apply aI|apply aD|apply aH|apply aM|apply aN|apply aA|apply aE|refine bw rfl inferInstance (by first|exact sc trivial nn|exact aL|exact bj (by first|assumption|rfl)|exact ah|exact aa|exact au (by first|assumption|rfl)|exact ay (by first|assumption|rfl)|exact am|exact ae) qK ?_|refine bZ rfl inferInstance rfl qK ?_|refine bW rfl inferInstance qK ?_|apply be|apply aq|apply a_|apply a8|apply aB|refine kI rfl hm ?_|apply bl|apply bO|apply bN|apply eo|apply em|refine eu rfl ?_|apply ep|apply ew|apply bc|exact sc trivial nn|exact dM|exact aL|exact bj qG|exact bD qL|exact bn|exact aj|exact ab|exact ah|exact aa|exact aQ|exact aW|exact au qG|exact ay qG|exact am|exact ae|exact Cv.rfl'|intro _
theorem DB{l W p R3 B R1 R2:List UInt8} (h:kh l W p R3 B R1 R2 false true z) {c:UInt8} (k1:(W==[])=false) (hx:0≤(0:Int)∧W[(0:Int).toNat]? =some c) (k4:((c.toNat:Int)==48)=true) (k5:decide ((1:Int)<(W.length:Int))=false) (k7:(p==[])=false):mA Tryz.prog S1 236 (.cs [Tx l]) [] [] (.cs [Tx R3]) (.tup [.is (jp true false W p), .is (.bool true)]):=by
 obtain ⟨t1,d1,t2,d2,d3,nn⟩:=h
 first|(obtain ⟨rfl,rfl⟩:=d3 rfl;clear d2)|replace d2:=d2 rfl
 clear d3
 simp only [jp,cond_true,cond_false]
 refine sD Tryz.func236 rfl Tryz.ntmps236 qE (fun _ _=>by kernel_rfl) fun w00 X L0 r wS hG hm=> ?_
 simp only [bf,Nat.zero_add,Nat.reduceAdd,List.cons_append,List.nil_append]
 repeat' first|kernel_rfl|refine cy (s:=8) trivial t1 qK ?_|refine cy (s:=13) trivial d1 qK ?_|refine cy (s:=18) trivial t2 qK ?_|refine cy (s:=23) trivial d2 qK ?_|apply aF|apply aG|apply aI|apply aD|apply aH|apply aM|apply aN|apply aA|apply aE|refine bw rfl inferInstance (by first|exact sc trivial nn|exact aL|exact bj (by first|assumption|rfl)|exact ah|exact aa|exact au (by first|assumption|rfl)|exact ay (by first|assumption|rfl)|exact am|exact ae) qK ?_|refine bZ rfl inferInstance rfl qK ?_|refine bW rfl inferInstance qK ?_|apply be|apply aq|apply a_|apply a8|apply aB|refine kI rfl hm ?_|apply bl|apply bO|apply bN|apply eo|apply em|refine eu rfl ?_|apply ep|apply ew|apply bc|exact sc trivial nn|exact dM|exact aL|exact bj qG|exact bD qL|exact bn|exact aj|exact ab|exact ah|exact aa|exact aQ|exact aW|exact au qG|exact ay qG|exact am|exact ae|exact Cv.rfl'|intro _
theorem Dd {l W p R3 B R1 R2:List UInt8} (h:kh l W p R3 B R1 R2 true true true) {c:UInt8} (k1:(W==[])=false) (hx:0≤(0:Int)∧W[(0:Int).toNat]? =some c) (k4:((c.toNat:Int)==48)=true) (k5:decide ((1:Int)<(W.length:Int))=false) (k7:(p==[])=false):mA Tryz.prog S1 236 (.cs [Tx l]) [] [] (.cs [Tx R3]) (.tup [.is (jp false true W p), .is (.bool false)]):=by
 obtain ⟨t1,d1,t2,d2,d3,nn⟩:=h
 first|(obtain ⟨rfl,rfl⟩:=d3 rfl;clear d2)|replace d2:=d2 rfl
 clear d3
 simp only [jp,cond_true,cond_false]
 refine sD Tryz.func236 rfl Tryz.ntmps236 qE (fun _ _=>by kernel_rfl) fun w00 X L0 r wS hG hm=> ?_
 simp only [bf,Nat.zero_add,Nat.reduceAdd,List.cons_append,List.nil_append]
 repeat' first|kernel_rfl|refine cy (s:=8) trivial t1 qK ?_|refine cy (s:=13) trivial d1 qK ?_|refine cy (s:=18) trivial t2 qK ?_|refine cy (s:=23) trivial d2 qK ?_|apply aF|apply aG|apply aI|apply aD|apply aH|apply aM|apply aN|apply aA|apply aE|refine bw rfl inferInstance (by first|exact sc trivial nn|exact aL|exact bj (by first|assumption|rfl)|exact ah|exact aa|exact au (by first|assumption|rfl)|exact ay (by first|assumption|rfl)|exact am|exact ae) qK ?_|refine bZ rfl inferInstance rfl qK ?_|refine bW rfl inferInstance qK ?_|apply be|apply aq|apply a_|apply a8|apply aB|refine kI rfl hm ?_|apply bl|apply bO|apply bN|apply eo|apply em|refine eu rfl ?_|apply ep|apply ew|apply bc|exact sc trivial nn|exact dM|exact aL|exact bj qG|exact bD qL|exact bn|exact aj|exact ab|exact ah|exact aa|exact aQ|exact aW|exact au qG|exact ay qG|exact am|exact ae|exact Cv.rfl'|intro _
theorem Cs {l W p R3 B R1 R2:List UInt8} (h:kh l W p R3 B R1 R2 true true false) {c:UInt8} (k1:(W==[])=false) (hx:0≤(0:Int)∧W[(0:Int).toNat]? =some c) (k4:((c.toNat:Int)==48)=true) (k5:decide ((1:Int)<(W.length:Int))=false) (k7:(p==[])=false):mA Tryz.prog S1 236 (.cs [Tx l]) [] [] (.cs [Tx R3]) (.tup [.is (jp true true W p), .is (.bool true)]):=by
 obtain ⟨t1,d1,t2,d2,d3,nn⟩:=h
 first|(obtain ⟨rfl,rfl⟩:=d3 rfl;clear d2)|replace d2:=d2 rfl
 clear d3
 simp only [jp,cond_true,cond_false]
 refine sD Tryz.func236 rfl Tryz.ntmps236 qE (fun _ _=>by kernel_rfl) fun w00 X L0 r wS hG hm=> ?_
 simp only [bf,Nat.zero_add,Nat.reduceAdd,List.cons_append,List.nil_append]
 repeat' first|kernel_rfl|refine cy (s:=8) trivial t1 qK ?_|refine cy (s:=13) trivial d1 qK ?_|refine cy (s:=18) trivial t2 qK ?_|refine cy (s:=23) trivial d2 qK ?_|apply aF|apply aG|apply aI|apply aD|apply aH|apply aM|apply aN|apply aA|apply aE|refine bw rfl inferInstance (by first|exact sc trivial nn|exact aL|exact bj (by first|assumption|rfl)|exact ah|exact aa|exact au (by first|assumption|rfl)|exact ay (by first|assumption|rfl)|exact am|exact ae) qK ?_|refine bZ rfl inferInstance rfl qK ?_|refine bW rfl inferInstance qK ?_|apply be|apply aq|apply a_|apply a8|apply aB|refine kI rfl hm ?_|apply bl|apply bO|apply bN|apply eo|apply em|refine eu rfl ?_|apply ep|apply ew|apply bc|exact sc trivial nn|exact dM|exact aL|exact bj qG|exact bD qL|exact bn|exact aj|exact ab|exact ah|exact aa|exact aQ|exact aW|exact au qG|exact ay qG|exact am|exact ae|exact Cv.rfl'|intro _
theorem FT{l W p R3 B R1 R2:List UInt8} (h:kh l W p R3 B R1 R2 n false z) (k1:(W==[])=true):mA Tryz.prog S1 236 (.cs [Tx l]) [] [] (.cs [Tx R3]) (.tup [.is (jp false n W p), .is (.bool false)]):=by
 obtain ⟨t1,d1,t2,d2,d3,nn⟩:=h
 first|(obtain ⟨rfl,rfl⟩:=d3 rfl;clear d2)|replace d2:=d2 rfl
 clear d3
 simp only [jp,cond_true,cond_false]
 refine sD Tryz.func236 rfl Tryz.ntmps236 qE (fun _ _=>by kernel_rfl) fun w00 X L0 r wS hG hm=> ?_
 simp only [bf,Nat.zero_add,Nat.reduceAdd,List.cons_append,List.nil_append]
 repeat' first|kernel_rfl|refine cy (s:=8) trivial t1 qK ?_|refine cy (s:=13) trivial d1 qK ?_|refine cy (s:=18) trivial t2 qK ?_|refine cy (s:=23) trivial d2 qK ?_|apply aF|apply aG|apply aI|apply aD|apply aH|apply aM|apply aN|apply aA|apply aE|refine bw rfl inferInstance (by first|exact sc trivial nn|exact aL|exact bj (by first|assumption|rfl)|exact ah|exact aa|exact au (by first|assumption|rfl)|exact ay (by first|assumption|rfl)|exact am|exact ae) qK ?_|refine bZ rfl inferInstance rfl qK ?_|refine bW rfl inferInstance qK ?_|apply be|apply aq|apply a_|apply a8|apply aB|refine kI rfl hm ?_|apply bl|apply bO|apply bN|apply eo|apply em|refine eu rfl ?_|apply ep|apply ew|apply bc|exact sc trivial nn|exact dM|exact aL|exact bj qG|exact bD qL|exact bn|exact aj|exact ab|exact ah|exact aa|exact aQ|exact aW|exact au qG|exact ay qG|exact am|exact ae|exact Cv.rfl'|intro _
theorem FX{l W p R3 B R1 R2:List UInt8} (h:kh l W p R3 B R1 R2 n false z) {c:UInt8} (k1:(W==[])=false) (hx:0≤(0:Int)∧W[(0:Int).toNat]? =some c) (k4:((c.toNat:Int)==48)=true) (k5:decide ((1:Int)<(W.length:Int))=true):mA Tryz.prog S1 236 (.cs [Tx l]) [] [] (.cs [Tx R3]) (.tup [.is (jp false n W p), .is (.bool false)]):=by
 obtain ⟨t1,d1,t2,d2,d3,nn⟩:=h
 first|(obtain ⟨rfl,rfl⟩:=d3 rfl;clear d2)|replace d2:=d2 rfl
 clear d3
 simp only [jp,cond_true,cond_false]
 refine sD Tryz.func236 rfl Tryz.ntmps236 qE (fun _ _=>by kernel_rfl) fun w00 X L0 r wS hG hm=> ?_
 simp only [bf,Nat.zero_add,Nat.reduceAdd,List.cons_append,List.nil_append]
 repeat' first|kernel_rfl|refine cy (s:=8) trivial t1 qK ?_|refine cy (s:=13) trivial d1 qK ?_|refine cy (s:=18) trivial t2 qK ?_|refine cy (s:=23) trivial d2 qK ?_|apply aF|apply aG|apply aI|apply aD|apply aH|apply aM|apply aN|apply aA|apply aE|refine bw rfl inferInstance (by first|exact sc trivial nn|exact aL|exact bj (by first|assumption|rfl)|exact ah|exact aa|exact au (by first|assumption|rfl)|exact ay (by first|assumption|rfl)|exact am|exact ae) qK ?_|refine bZ rfl inferInstance rfl qK ?_|refine bW rfl inferInstance qK ?_|apply be|apply aq|apply a_|apply a8|apply aB|refine kI rfl hm ?_|apply bl|apply bO|apply bN|apply eo|apply em|refine eu rfl ?_|apply ep|apply ew|apply bc|exact sc trivial nn|exact dM|exact aL|exact bj qG|exact bD qL|exact bn|exact aj|exact ab|exact ah|exact aa|exact aQ|exact aW|exact au qG|exact ay qG|exact am|exact ae|exact Cv.rfl'|intro _
theorem DF{l W p R3 B R1 R2:List UInt8} (h:kh l W p R3 B R1 R2 false false z) {c:UInt8} (k1:(W==[])=false) (hx:0≤(0:Int)∧W[(0:Int).toNat]? =some c) (k4:((c.toNat:Int)==48)=false):mA Tryz.prog S1 236 (.cs [Tx l]) [] [] (.cs [Tx R3]) (.tup [.is (jp true false W p), .is (.bool true)]):=by
 obtain ⟨t1,d1,t2,d2,d3,nn⟩:=h
 first|(obtain ⟨rfl,rfl⟩:=d3 rfl;clear d2)|replace d2:=d2 rfl
 clear d3
 simp only [jp,cond_true,cond_false]
 refine sD Tryz.func236 rfl Tryz.ntmps236 qE (fun _ _=>by kernel_rfl) fun w00 X L0 r wS hG hm=> ?_
 simp only [bf,Nat.zero_add,Nat.reduceAdd,List.cons_append,List.nil_append]
 repeat' first|kernel_rfl|refine cy (s:=8) trivial t1 qK ?_|refine cy (s:=13) trivial d1 qK ?_|refine cy (s:=18) trivial t2 qK ?_|refine cy (s:=23) trivial d2 qK ?_|apply aF|apply aG|apply aI|apply aD|apply aH|apply aM|apply aN|apply aA|apply aE|refine bw rfl inferInstance (by first|exact sc trivial nn|exact aL|exact bj (by first|assumption|rfl)|exact ah|exact aa|exact au (by first|assumption|rfl)|exact ay (by first|assumption|rfl)|exact am|exact ae) qK ?_|refine bZ rfl inferInstance rfl qK ?_|refine bW rfl inferInstance qK ?_|apply be|apply aq|apply a_|apply a8|apply aB|refine kI rfl hm ?_|apply bl|apply bO|apply bN|apply eo|apply em|refine eu rfl ?_|apply ep|apply ew|apply bc|exact sc trivial nn|exact dM|exact aL|exact bj qG|exact bD qL|exact bn|exact aj|exact ab|exact ah|exact aa|exact aQ|exact aW|exact au qG|exact ay qG|exact am|exact ae|exact Cv.rfl'|intro _
theorem Eg {l W p R3 B R1 R2:List UInt8} (h:kh l W p R3 B R1 R2 true false true) {c:UInt8} (k1:(W==[])=false) (hx:0≤(0:Int)∧W[(0:Int).toNat]? =some c) (k4:((c.toNat:Int)==48)=false):mA Tryz.prog S1 236 (.cs [Tx l]) [] [] (.cs [Tx R3]) (.tup [.is (jp false true W p), .is (.bool false)]):=by
 obtain ⟨t1,d1,t2,d2,d3,nn⟩:=h
 first|(obtain ⟨rfl,rfl⟩:=d3 rfl;clear d2)|replace d2:=d2 rfl
 clear d3
 simp only [jp,cond_true,cond_false]
 refine sD Tryz.func236 rfl Tryz.ntmps236 qE (fun _ _=>by kernel_rfl) fun w00 X L0 r wS hG hm=> ?_
 simp only [bf,Nat.zero_add,Nat.reduceAdd,List.cons_append,List.nil_append]
 repeat' first|kernel_rfl|refine cy (s:=8) trivial t1 qK ?_|refine cy (s:=13) trivial d1 qK ?_|refine cy (s:=18) trivial t2 qK ?_|refine cy (s:=23) trivial d2 qK ?_|apply aF|apply aG|apply aI|apply aD|apply aH|apply aM|apply aN|apply aA|apply aE|refine bw rfl inferInstance (by first|exact sc trivial nn|exact aL|exact bj (by first|assumption|rfl)|exact ah|exact aa|exact au (by first|assumption|rfl)|exact ay (by first|assumption|rfl)|exact am|exact ae) qK ?_|refine bZ rfl inferInstance rfl qK ?_|refine bW rfl inferInstance qK ?_|apply be|apply aq|apply a_|apply a8|apply aB|refine kI rfl hm ?_|apply bl|apply bO|apply bN|apply eo|apply em|refine eu rfl ?_|apply ep|apply ew|apply bc|exact sc trivial nn|exact dM|exact aL|exact bj qG|exact bD qL|exact bn|exact aj|exact ab|exact ah|exact aa|exact aQ|exact aW|exact au qG|exact ay qG|exact am|exact ae|exact Cv.rfl'|intro _
theorem De {l W p R3 B R1 R2:List UInt8} (h:kh l W p R3 B R1 R2 true false false) {c:UInt8} (k1:(W==[])=false) (hx:0≤(0:Int)∧W[(0:Int).toNat]? =some c) (k4:((c.toNat:Int)==48)=false):mA Tryz.prog S1 236 (.cs [Tx l]) [] [] (.cs [Tx R3]) (.tup [.is (jp true true W p), .is (.bool true)]):=by
 obtain ⟨t1,d1,t2,d2,d3,nn⟩:=h
 first|(obtain ⟨rfl,rfl⟩:=d3 rfl;clear d2)|replace d2:=d2 rfl
 clear d3
 simp only [jp,cond_true,cond_false]
 refine sD Tryz.func236 rfl Tryz.ntmps236 qE (fun _ _=>by kernel_rfl) fun w00 X L0 r wS hG hm=> ?_
 simp only [bf,Nat.zero_add,Nat.reduceAdd,List.cons_append,List.nil_append]
 repeat' first|kernel_rfl|refine cy (s:=8) trivial t1 qK ?_|refine cy (s:=13) trivial d1 qK ?_|refine cy (s:=18) trivial t2 qK ?_|refine cy (s:=23) trivial d2 qK ?_|apply aF|apply aG|apply aI|apply aD|apply aH|apply aM|apply aN|apply aA|apply aE|refine bw rfl inferInstance (by first|exact sc trivial nn|exact aL|exact bj (by first|assumption|rfl)|exact ah|exact aa|exact au (by first|assumption|rfl)|exact ay (by first|assumption|rfl)|exact am|exact ae) qK ?_|refine bZ rfl inferInstance rfl qK ?_|refine bW rfl inferInstance qK ?_|apply be|apply aq|apply a_|apply a8|apply aB|refine kI rfl hm ?_|apply bl|apply bO|apply bN|apply eo|apply em|refine eu rfl ?_|apply ep|apply ew|apply bc|exact sc trivial nn|exact dM|exact aL|exact bj qG|exact bD qL|exact bn|exact aj|exact ab|exact ah|exact aa|exact aQ|exact aW|exact au qG|exact ay qG|exact am|exact ae|exact Cv.rfl'|intro _
theorem CQ{l W p R3 B R1 R2:List UInt8} (h:kh l W p R3 B R1 R2 false false z) {c:UInt8} (k1:(W==[])=false) (hx:0≤(0:Int)∧W[(0:Int).toNat]? =some c) (k4:((c.toNat:Int)==48)=true) (k5:decide ((1:Int)<(W.length:Int))=false):mA Tryz.prog S1 236 (.cs [Tx l]) [] [] (.cs [Tx R3]) (.tup [.is (jp true false W p), .is (.bool true)]):=by
 obtain ⟨t1,d1,t2,d2,d3,nn⟩:=h
 first|(obtain ⟨rfl,rfl⟩:=d3 rfl;clear d2)|replace d2:=d2 rfl
 clear d3
 simp only [jp,cond_true,cond_false]
 refine sD Tryz.func236 rfl Tryz.ntmps236 qE (fun _ _=>by kernel_rfl) fun w00 X L0 r wS hG hm=> ?_
 simp only [bf,Nat.zero_add,Nat.reduceAdd,List.cons_append,List.nil_append]
 repeat' first|kernel_rfl|refine cy (s:=8) trivial t1 qK ?_|refine cy (s:=13) trivial d1 qK ?_|refine cy (s:=18) trivial t2 qK ?_|refine cy (s:=23) trivial d2 qK ?_|apply aF|apply aG|apply aI|apply aD|apply aH|apply aM|apply aN|apply aA|apply aE|refine bw rfl inferInstance (by first|exact sc trivial nn|exact aL|exact bj (by first|assumption|rfl)|exact ah|exact aa|exact au (by first|assumption|rfl)|exact ay (by first|assumption|rfl)|exact am|exact ae) qK ?_|refine bZ rfl inferInstance rfl qK ?_|refine bW rfl inferInstance qK ?_|apply be|apply aq|apply a_|apply a8|apply aB|refine kI rfl hm ?_|apply bl|apply bO|apply bN|apply eo|apply em|refine eu rfl ?_|apply ep|apply ew|apply bc|exact sc trivial nn|exact dM|exact aL|exact bj qG|exact bD qL|exact bn|exact aj|exact ab|exact ah|exact aa|exact aQ|exact aW|exact au qG|exact ay qG|exact am|exact ae|exact Cv.rfl'|intro _
theorem Db {l W p R3 B R1 R2:List UInt8} (h:kh l W p R3 B R1 R2 true false true) {c:UInt8} (k1:(W==[])=false) (hx:0≤(0:Int)∧W[(0:Int).toNat]? =some c) (k4:((c.toNat:Int)==48)=true) (k5:decide ((1:Int)<(W.length:Int))=false):mA Tryz.prog S1 236 (.cs [Tx l]) [] [] (.cs [Tx R3]) (.tup [.is (jp false true W p), .is (.bool false)]):=by
 obtain ⟨t1,d1,t2,d2,d3,nn⟩:=h
 first|(obtain ⟨rfl,rfl⟩:=d3 rfl;clear d2)|replace d2:=d2 rfl
 clear d3
 simp only [jp,cond_true,cond_false]
 refine sD Tryz.func236 rfl Tryz.ntmps236 qE (fun _ _=>by kernel_rfl) fun w00 X L0 r wS hG hm=> ?_
 simp only [bf,Nat.zero_add,Nat.reduceAdd,List.cons_append,List.nil_append]
 repeat' first|kernel_rfl|refine cy (s:=8) trivial t1 qK ?_|refine cy (s:=13) trivial d1 qK ?_|refine cy (s:=18) trivial t2 qK ?_|refine cy (s:=23) trivial d2 qK ?_|apply aF|apply aG|apply aI|apply aD|apply aH|apply aM|apply aN|apply aA|apply aE|refine bw rfl inferInstance (by first|exact sc trivial nn|exact aL|exact bj (by first|assumption|rfl)|exact ah|exact aa|exact au (by first|assumption|rfl)|exact ay (by first|assumption|rfl)|exact am|exact ae) qK ?_|refine bZ rfl inferInstance rfl qK ?_|refine bW rfl inferInstance qK ?_|apply be|apply aq|apply a_|apply a8|apply aB|refine kI rfl hm ?_|apply bl|apply bO|apply bN|apply eo|apply em|refine eu rfl ?_|apply ep|apply ew|apply bc|exact sc trivial nn|exact dM|exact aL|exact bj qG|exact bD qL|exact bn|exact aj|exact ab|exact ah|exact aa|exact aQ|exact aW|exact au qG|exact ay qG|exact am|exact ae|exact Cv.rfl'|intro _
theorem CK {l W p R3 B R1 R2:List UInt8} (h:kh l W p R3 B R1 R2 true false false) {c:UInt8} (k1:(W==[])=false) (hx:0≤(0:Int)∧W[(0:Int).toNat]? =some c) (k4:((c.toNat:Int)==48)=true) (k5:decide ((1:Int)<(W.length:Int))=false):mA Tryz.prog S1 236 (.cs [Tx l]) [] [] (.cs [Tx R3]) (.tup [.is (jp true true W p), .is (.bool true)]):=by
 obtain ⟨t1,d1,t2,d2,d3,nn⟩:=h
 first|(obtain ⟨rfl,rfl⟩:=d3 rfl;clear d2)|replace d2:=d2 rfl
 clear d3
 simp only [jp,cond_true,cond_false]
 refine sD Tryz.func236 rfl Tryz.ntmps236 qE (fun _ _=>by kernel_rfl) fun w00 X L0 r wS hG hm=> ?_
 simp only [bf,Nat.zero_add,Nat.reduceAdd,List.cons_append,List.nil_append]
 repeat' first|kernel_rfl|refine cy (s:=8) trivial t1 qK ?_|refine cy (s:=13) trivial d1 qK ?_|refine cy (s:=18) trivial t2 qK ?_|refine cy (s:=23) trivial d2 qK ?_|apply aF|apply aG|apply aI|apply aD|apply aH|apply aM|apply aN|apply aA|apply aE|refine bw rfl inferInstance (by first|exact sc trivial nn|exact aL|exact bj (by first|assumption|rfl)|exact ah|exact aa|exact au (by first|assumption|rfl)|exact ay (by first|assumption|rfl)|exact am|exact ae) qK ?_|refine bZ rfl inferInstance rfl qK ?_|refine bW rfl inferInstance qK ?_|apply be|apply aq|apply a_|apply a8|apply aB|refine kI rfl hm ?_|apply bl|apply bO|apply bN|apply eo|apply em|refine eu rfl ?_|apply ep|apply ew|apply bc|exact sc trivial nn|exact dM|exact aL|exact bj qG|exact bD qL|exact bn|exact aj|exact ab|exact ah|exact aa|exact aQ|exact aW|exact au qG|exact ay qG|exact am|exact ae|exact Cv.rfl'|intro _
theorem yH {l:List UInt8} (hl:l.length≤1000000):mA Tryz.prog S1 236 (.cs [Tx l]) [] [] (.cs [Tx (r3 l)]) (.tup [.is (jp (Bw l) (ng l) (wh l) (pc l)), .is (.bool (Bw l))]):=by
 have hlw:=nZ l
 have hX:kh l (wh l) (pc l) (r3 l) (bd l) (r1 l) (r2 l) (ng l) (sp l) (xK (wh l)&&xK (pc l)):=⟨zZ,uN (Nat.le_trans (Ay l) hl),zZ,fun h=>by
  have:=uN (Nat.le_trans (FD l) hl)
  unfold r3 pc
  rw [h]
  exact this,fun h=>⟨by unfold r3;rw [h];rfl,Hi h⟩,z_ (n:=ng l) (a:=wh l) (b:=pc l) qO qO⟩
 have hd:Bw l=((!(wh l==[])&& !((wh l).head? ==some 48&&decide (1<(wh l).length))&& !(sp l&&pc l==[]))&& !(ng l&&(xK (wh l)&&xK (pc l)))):=rfl
 generalize Bw l=D at*
 generalize ng l=n at*
 generalize sp l=s at*
 generalize wh l=W at*
 generalize pc l=p at*
 generalize r3 l=R3 at*
 generalize bd l=B at*
 generalize r1 l=R1 at*
 generalize r2 l=R2 at*
 generalize (xK W&&xK p)=z at*
 clear hlw
 by_cases hw:(W==[])=true
 ·rw [hw] at hd
  obtain rfl:D=false:=by rw [hd];rfl
  cases s
  ·exact FT hX hw
  ·exact FC hX hw
 ·have hw:(W==[])=false:=by simpa using hw
  obtain ⟨c,r,e⟩:∃ c r,W=c::r:=by
   cases W with
   |nil=>cases hw
   |cons c r=>exact ⟨c,r,rfl⟩
  have hx:0≤(0:Int)∧W[(0:Int).toNat]? =some c:=⟨Int.le_refl _,by rw [e];rfl⟩
  have e1:(W.head? ==some 48)=((c.toNat:Int)==48):=by
   rw [e,Bool.eq_iff_iff,beq_iff_eq,beq_iff_eq]
   constructor
   ·intro h;injection h with h;rw [h];rfl
   ·intro h;rw [show c=48 from UInt8.toNat_inj.1 (by show c.toNat=48;omega)];rfl
  have e2:decide (1<W.length)=decide ((1:Int)<(W.length:Int)):=decide_eq_decide.2 qO
  rw [hw,e1,e2] at hd
  clear e e1 e2
  cases k4:((c.toNat:Int)==48)<;>cases k5:decide ((1:Int)<(W.length:Int))<;>rw [k4,k5] at hd<;>cases s<;>cases n<;>cases z<;>cases k7:(p==[])<;>rw [k7] at hd<;>simp at hd<;>subst hd
  all_goals first
   |exact Gz hX hw hx k4 k5
   |exact FX hX hw hx k4 k5
   |exact E8 hX hw hx k4 k7
   |exact Fu hX hw hx k4 k5 k7
   |exact D4 hX hw hx k4 k7
   |exact DB hX hw hx k4 k5 k7
   |exact DF hX hw hx k4
   |exact CQ hX hw hx k4 k5
   |exact D9 hX hw hx k4 k7
   |exact Dd hX hw hx k4 k5 k7
   |exact Eg hX hw hx k4
   |exact Db hX hw hx k4 k5
   |exact Dc hX hw hx k4 k7
   |exact Cs hX hw hx k4 k5 k7
   |exact De hX hw hx k4
   |exact CK hX hw hx k4 k5
theorem cZ.new6(hX:∀ b∈X,b<w.heap.size) (o:Obj):cZ X (w.alloc o) w.heap.size:=⟨by rw [aX];exact Nat.lt_succ_self _,fun h=>Nat.lt_irrefl _ (hX _ h)⟩
def ai.vs (l:List Value):ai:=⟨fun X w v=>∃ b,v= .slice (some ⟨b,0,none⟩) l.length l.length∧cZ X w b∧∀ (j:Nat) (u:Value),l[j]? =some u→w.cell? ⟨b,j,none⟩=some u,
 fun ⟨b,e,hb,h⟩ hk hX=>⟨b,e,cZ.mono hk hX b hb,fun j u hj=>(World.cell?_of_block (hk.block b hb.1 hb.2)).trans (h j u hj)⟩⟩
def ai.pv (u:Value):ai:=⟨fun X w v=>∃ b o,v= .pointer (some ⟨b,o,none⟩)∧cZ X w b∧w.cell? ⟨b,o,none⟩=some u,
 fun ⟨b,o,e,hb,h⟩ hk hX=>⟨b,o,e,cZ.mono hk hX b hb,(World.cell?_of_block (hk.block b hb.1 hb.2)).trans h⟩⟩
def ir (k:Nat):List Value→List (Nat×Value)
 |[]=>[]
 |v::vs=>(k,v)::ir (k+1) vs
class GW (E:List (Nat×ai)) (ps:List (Nat×Operand)) (k:Nat) (vs:outParam (List Value)):Prop where
 get:∀ {X:List Nat} {w:World} {ρ:Operand→Value},(∀ c,ρ (.const c)=c)→(∀ p∈E, .tmp p.1∈ps.map Prod.snd→p.2.holds X w (ρ (.tmp p.1)))→ps.map (fun p=>(p.1,ρ p.2))=ir k vs
instance GW.nil {E:List (Nat×ai)} {k:Nat}:GW E [] k []:=⟨fun _ _=>rfl⟩
instance GW.cons {E:List (Nat×ai)} {o:Operand} {ps:List (Nat×Operand)} {k:Nat} {v:Value} {vs:List Value} [ho:b_ E o (.is v)] [t:GW E ps (k+1) vs]:GW E ((k,o)::ps) k (v::vs):=⟨fun {X w ρ} hc hs=>by
 rw [List.map_cons,t.get (X:=X) (w:=w) hc fun p hp hm=>hs p hp (List.mem_cons_of_mem _ hm)]
 have e:ρ o=v:=ho.get (X:=X) (w:=w) hc fun p hp e=>hs p hp (by rw [e];exact List.mem_cons_self)
 rw [e]
 rfl⟩
theorem uY:∀ (vs:List Value) (k:Nat) (c:Array Value),(∀ v∈vs,v.oneCell'=true)→k+vs.length≤c.size→
 ∃ c',Instr.fill (fun i=>some (i*1,1)) c (ir k vs)=some c'∧c'.size=c.size∧(∀ j,j<k→c'[j]? =c[j]?)∧∀ j u,vs[j]? =some u→c'[k+j]? =some u
 |[],k,c,_,_=>⟨c,rfl,rfl,fun _ _=>rfl,fun j u h=>by simp at h⟩
 |v::vs,k,c,h1,hl=>by
  have hv:=fl (h1 v List.mem_cons_self)
  simp only [List.length_cons] at hl
  obtain ⟨c',e,hs,ho,hn⟩:=uY vs (k+1) (c.setIfInBounds k v) (fun u hu=>h1 u (List.mem_cons_of_mem _ hu)) (by simp;omega)
  refine ⟨c',?_,by rw [hs];simp,fun j hj=> ?_,fun j u hj=> ?_⟩
  ·unfold ir Instr.fill
   simp only [hv,Nat.mul_one]
   rw [if_neg (by simp;omega)]
   simpa using e
  ·rw [ho j qO]
   simp [Array.getElem?_setIfInBounds,show k≠j by omega]
  ·cases j with
   |zero=>
    rw [Nat.add_zero,ho k qO]
    have:v=u:=by simpa using hj
    rw [←this]
    simp [Array.getElem?_setIfInBounds,show k<c.size by omega]
   |succ j=>
    have:=hn j u (by simpa using hj)
    rw [show k+(j+1)=k+1+j by omega]
    exact this
class o_ (P:Program) (ty:TypeId):Prop where
 ok:∃ e,P.underlying ty=some (.slice e)∧(P.info? e).map (·.size)=some 1∧∀ w,∃ z,(zeroValue e).run P w= .ok z w
instance {P:Program} {ty:TypeId} [r:o_ P ty]:cO P ty 1:=let ⟨e,h1,h2,_⟩:=r.ok;⟨⟨e,h1,h2⟩⟩
section
variable {P:Program} {w00:World} {N:Nat} {L:List Loc} {E:List (Nat×ai)} {d:Nat} {t0:TypeId} {pos:String} {af:Array Edge} {gd:Option (Nat×Bool)} {ats:Array TypeId}
theorem lu{n:Nat} {ps:List (Nat×Operand)} {vs:List Value} [r:o_ P ty] [h:GW E ps 0 vs] (hn:Nat.beq vs.length n=true) (hs:Nat.ble n 10000=true) (h1:vs.all (·.oneCell')=true):aR P w00 N L E ⟨some d, .buildSlice ty n ps.toArray,t0,pos,af,gd⟩ (.vs vs):=by
 constructor
 intro X ρ w hc _ hN hm hsl
 obtain ⟨e,hu,hi,hz⟩:=r.ok
 obtain ⟨z,hz⟩:=hz w
 have hn':vs.length=n:=Nat.eq_of_beq_eq_true hn
 have hs':=Nat.le_of_ble_eq_true hs
 have hps:=h.get (X:=X) (w:=w) (ρ:=ρ) hc fun p hp hm=>hsl p hp (by
  simp only [Op.operands]
  obtain ⟨q,hq,e⟩:=List.mem_map.1 hm
  simp
  exact ⟨q.1,by rw [←e];exact hq⟩)
 have hsz:(sizeOf e).run P w= .ok 1 w:=by
  cases hq:P.info? e with
  |none=>rw [hq] at hi;cases hi
  |some q=>
   rw [hq] at hi
   have:q.size=1:=by simpa using hi
   simp [sizeOf,typeInfo,hq,this]
 have hfill:∀ c:Array Value,c.size=n→∃ c':Array Value,Instr.fill (fun i=>some (i*1,1)) c (ps.map fun p=>(p.1,ρ p.2))=some c'∧∀ (j:Nat) (u:Value),vs[j]? =some u→c'[j]? =some u:=fun c hcs=>by
  obtain ⟨c',ef,_,_,ev⟩:=uY vs 0 c (by simpa using h1) qO
  rw [hps]
  exact ⟨c',ef,fun j u hj=>by have:=ev j u hj;rwa [Nat.zero_add] at this⟩
 have hrun:∃ c':Array Value,(Instr.buildSlice ty n (ps.toArray.map fun (i,x)=>(i,ρ x))).run P w= .ok (.slice (some ⟨w.heap.size,0,none⟩) n n) (w.alloc (.cells c' e))∧∀ (j:Nat) (u:Value),vs[j]? =some u→c'[j]? =some u:=by
  obtain ⟨c',ef,ev⟩:=hfill ((Array.range (n*1)).map ((if n*1=0 then #[] else z.cells)[· %(if n*1=0 then #[] else z.cells).size]!)) qE
  refine ⟨c',?_,ev⟩
  have hbig:¬ 2^24<n*1:=qO
  have hl:(ps.toArray.map fun (i,x)=>(i,ρ x)).toList=ps.map fun p=>(p.1,ρ p.2):=by simp
  unfold Instr.buildSlice
  simp only [Sem.run_bind,run_underlying hu w,Result.andThen_ok,hsz,if_neg hbig,hl,Sem.run_pure]
  by_cases h0:n*1=0
  ·rw [if_pos h0] at ef ⊢
   simp only [Sem.run_bind,Sem.run_pure,Result.andThen_ok,ef]
   rfl
  ·rw [if_neg h0] at ef ⊢
   simp only [Sem.run_bind,hz,Sem.run_pure,Result.andThen_ok,ef]
   rfl
 obtain ⟨c',hrun,hc'⟩:=hrun
 unfold Yields execOp
 simp only [Sem.run_bind,hrun,Result.andThen_ok,Sem.run_pure]
 refine ⟨⟨w.heap.size,by rw [hn'],cZ.new6 hm.far _,fun j u hj=> ?_⟩,(Below.refl _ _).alloc (Nat.le_refl _) _⟩
 exact eX (iw w (.cells c' e)) (hc' j u hj)
theorem dw[ho:ce E s (.vs l)] [ht:o_ P ty]:aR P w00 N L E ⟨some d, .call { callee:= .builtin .len,args:= #[.tmp s],argTypes:= #[ty] },t0,pos,af,gd⟩ (.is (.int .i64 l.length)):=by
 constructor
 intro X ρ w hc _ hN hm hsl
 obtain ⟨b,e,_⟩:=hsl _ ho.mem qJ
 have e1:ρ (.tmp s)= .slice (some ⟨b,0,none⟩) l.length l.length:=e
 obtain ⟨el,hu,_⟩:=ht.ok
 clear hc hsl ho ht e hm
 unfold Yields
 go_simp
 exact ⟨rfl,Below.refl _ _⟩
theorem gI{oi:Operand} {j:Nat} [ho:b_ E o (.vs l)] [hi:b_ E oi (.is (.int .i64 (j:Int)))] [ht:o_ P ty] (ha:l[j]? =some u):aR P w00 N L E ⟨some d, .indexAddr ty o oi,t0,pos,af,gd⟩ (.pv u):=by
 constructor
 intro X ρ w hc _ hN hm hsl
 obtain ⟨b,e,hb,h⟩:=ho.get (X:=X) (w:=w) hc fun p hp e=>hsl p hp qS
 have e1:ρ o= .slice (some ⟨b,0,none⟩) l.length l.length:=e
 have e2:ρ oi= .int .i64 j:=hi.get (X:=X) (w:=w) hc fun p hp e=>hsl p hp qS
 have hj:j<l.length:=(List.getElem?_eq_some_iff.1 ha).1
 obtain ⟨el,hu,hs,_⟩:=ht.ok
 have hz:(sizeOf el).run P w= .ok 1 w:=by
  cases hq:P.info? el with
  |none=>rw [hq] at hs;cases hs
  |some q=>
   rw [hq] at hs
   have:q.size=1:=by simpa using hs
   simp [sizeOf,typeInfo,hq,this]
 have hrun:(execOp ρ ⟨some d, .indexAddr ty o oi,t0,pos,af,gd⟩).run P w= .ok (.value (.pointer (some ⟨b,0+j*1,none⟩))) w:=by
  unfold execOp
  have hji:(0:Int)≤(j:Int)∧(j:Int)<(l.length:Int):=⟨by omega,by omega⟩
  simp only [e1,e2,Instr.indexAt,asIntOf,Sem.run_bind,Sem.run_pure,Result.andThen_ok,run_underlying hu w,hji,and_self,if_true,hz,Int.toNat_natCast,Addr.add_mid]
 unfold Yields
 rw [hrun]
 exact ⟨⟨b,_,rfl,hb,by rw [show 0+j*1=j by omega];exact h j u ha⟩,Below.refl _ _⟩
theorem cT[ho:ce E s (.pv u)] [ht:eV P ty 1 false]:aR P w00 N L E ⟨some d, .load ty (.tmp s),t0,pos,af,gd⟩ (.is u):=by
 constructor
 intro X ρ w hc _ hN hm hsl
 obtain ⟨b,o,e,hb,hcell⟩:=hsl _ ho.mem qI
 have e1:ρ (.tmp s)= .pointer (some ⟨b,o,none⟩):=e
 obtain ⟨dd,hu,hd⟩:=ht.row
 have hag:(isAgg ty).run P w= .ok false w:=by
  unfold isAgg
  rw [Sem.run_bind,run_underlying hu w]
  cases dd<;>first|rfl|cases hd
 have hrun:(execOp ρ ⟨some d, .load ty (.tmp s),t0,pos,af,gd⟩).run P w= .ok (.value u) w:=by
  unfold execOp
  simp only [e1,Instr.loadAt,Instr.sureAddr,loadVar,Sem.run_bind,Sem.run_pure,Result.andThen_ok,hag,run_load,hcell,if_false,Bool.false_eq_true]
 unfold Yields
 rw [hrun]
 exact ⟨rfl,Below.refl _ _⟩
end
instance:o_ Tryz.prog 30:=⟨⟨_,Tryz.underlying30,by kernel_rfl,fun w=>⟨Tx [],by go_simp⟩⟩⟩
instance:o_ Tryz.prog 95:=⟨⟨_,Tryz.underlying95,by kernel_rfl,fun w=>⟨.int .i64 0,by go_simp⟩⟩⟩
theorem vM{N:Nat} {d:Nat} {t0:TypeId} {pos:String} {af:Array Edge} {gd:Option (Nat×Bool)} {l:List UInt8} [ho:b_ E o (.is (Tx l))]:aR Tryz.prog w00 N L E ⟨some d, .build 334 #[(0,o)],t0,pos,af,gd⟩ (.is (.agg #[Tx l])):=by
 constructor
 intro X ρ w hc _ hN hm hsl
 have e0:ρ o=Tx l:=ho.get (X:=X) (w:=w) hc fun p hp e=>hsl p hp qS
 clear hsl hm hc ho
 unfold Yields
 go_simp
 exact ⟨rfl,Below.refl _ _⟩
theorem od {l b:List UInt8} {u:Bool} (hl:l.length≤1000000) (hu:(Bw l&&(r3 l==b))=u):dB Tryz.prog S1 196 [0,0] [.is (Tx l), .is (Tx b)] (fun _=> .tup [.is (jp u (ng l) (wh l) (pc l)), .is (.bool u)]):=by
 have cd:=yH hl
 cases hd:Bw l with
 |false=>
  rw [hd] at hu cd
  obtain rfl:u=false:=hu.symm
  simp only [jp,cond_false] at cd ⊢
  refine fA Tryz.func196 rfl Tryz.ntmps196 qE (fun _ _=>by kernel_rfl) fun X w hE=> ?_
  simp only [bf,Nat.zero_add,Nat.reduceAdd]
  repeat' first|kernel_rfl|refine cy trivial cd qK ?_|apply aF|apply aG|apply aI|apply aD|apply aH|apply aM|apply aN|apply aA|apply aE|refine bw rfl inferInstance (by first|exact dI (by first|assumption|rfl)|exact aj|exact ah|exact aa|exact bq (by first|assumption|rfl)|exact ae) qK ?_|refine bZ rfl inferInstance rfl qK ?_|refine bW rfl inferInstance qK ?_|apply be|apply aq|apply a_|apply a8|apply aB|refine oI rfl ?_|apply bl|apply bO|apply bN|apply eo|apply em|refine eu rfl ?_|apply ep|apply ew|apply bc|exact dM|exact vM|exact dI qG|exact aj|exact ab|exact ah|exact aa|exact aJ|exact bI|exact bH|exact ak (b:=true) (u:=false) rfl|exact ak (b:=false) (u:=true) rfl|exact ak rfl|exact bq qG|exact ae|exact Cv.rfl'|intro _
 |true=>
  rw [hd] at hu cd
  simp only [jp,cond_true] at cd ⊢
  cases u with
  |false=>
   have hq:(!(r3 l==b))=true:=by rw [Bool.true_and] at hu;rw [hu];rfl
   simp only [cond_false]
   refine fA Tryz.func196 rfl Tryz.ntmps196 qE (fun _ _=>by kernel_rfl) fun X w hE=> ?_
   simp only [bf,Nat.zero_add,Nat.reduceAdd]
   repeat' first|kernel_rfl|refine cy trivial cd qK ?_|apply aF|apply aG|apply aI|apply aD|apply aH|apply aM|apply aN|apply aA|apply aE|refine bw rfl inferInstance (by first|exact dI (by first|assumption|rfl)|exact aj|exact ah|exact aa|exact bq (by first|assumption|rfl)|exact ae) qK ?_|refine bZ rfl inferInstance rfl qK ?_|refine bW rfl inferInstance qK ?_|apply be|apply aq|apply a_|apply a8|apply aB|refine oI rfl ?_|apply bl|apply bO|apply bN|apply eo|apply em|refine eu rfl ?_|apply ep|apply ew|apply bc|exact dM|exact vM|exact dI qG|exact aj|exact ab|exact ah|exact aa|exact aJ|exact bI|exact bH|exact ak (b:=true) (u:=false) rfl|exact ak (b:=false) (u:=true) rfl|exact ak rfl|exact bq qG|exact ae|exact Cv.rfl'|intro _
  |true=>
   have hq:(!(r3 l==b))=false:=by rw [Bool.true_and] at hu;rw [hu];rfl
   simp only [cond_true]
   refine fA Tryz.func196 rfl Tryz.ntmps196 qE (fun _ _=>by kernel_rfl) fun X w hE=> ?_
   simp only [bf,Nat.zero_add,Nat.reduceAdd]
   repeat' first|kernel_rfl|refine cy trivial cd qK ?_|apply aF|apply aG|apply aI|apply aD|apply aH|apply aM|apply aN|apply aA|apply aE|refine bw rfl inferInstance (by first|exact dI (by first|assumption|rfl)|exact aj|exact ah|exact aa|exact bq (by first|assumption|rfl)|exact ae) qK ?_|refine bZ rfl inferInstance rfl qK ?_|refine bW rfl inferInstance qK ?_|apply be|apply aq|apply a_|apply a8|apply aB|refine oI rfl ?_|apply bl|apply bO|apply bN|apply eo|apply em|refine eu rfl ?_|apply ep|apply ew|apply bc|exact dM|exact vM|exact dI qG|exact aj|exact ab|exact ah|exact aa|exact aJ|exact bI|exact bH|exact ak (b:=true) (u:=false) rfl|exact ak (b:=false) (u:=true) rfl|exact ak rfl|exact bq qG|exact ae|exact Cv.rfl'|intro _
theorem nj(h:k≤40):(10:Int)^k<4294967296^5:=by
 have h1:(10:Int)^k≤10^40:=bz qD h
 have h3:(10:Int)^40<4294967296^5:=by decide
 omega
theorem tI.lr{w':World} {e:Ending} (h:tI w V e w') (hX:∀ b∈X,b<w.heap.size) (hK:V<4294967296^K):cE X w (.tup [.lr V K, .is (.int .i64 0)]) e w':=by
 obtain ⟨ys,A,n,c,hr,rfl,ho,hb⟩:=h
 have hn:ys.length=n:=ho.sl.len
 exact ⟨_,rfl,⟨[.slice A n c, .int .i64 0],rfl,Gi hX hr ho (by rw [←hn];exact hr.len_le (by decide) hK),rfl,trivial⟩,hb⟩
theorem tU {l:List UInt8} (hw:gj ⟨l.toArray⟩) (hl:l.length≤40):dB Tryz.prog S1 269 [0] [.is (Tx l)] (fun _=> .tup [.lr (dL l) 5, .is (.int .i64 0)]):=
 ⟨fun _ _=>by kernel_rfl,fun _ h=>h,fun {X w vs} _ hX ha=>by
  obtain ⟨x,rfl,e⟩:=ha.one
  rw [show x=Tx l from e]
  refine (xY (w:=w) ⟨l.toArray⟩ (by rw [fR];unfold maxLen;omega)).mono fun e w' h=> ?_
  rcases h with ⟨h,_⟩|⟨_,h,_⟩|⟨_,_,h⟩
  ·exact absurd hw h
  ·rw [fR] at h;omega
  ·rw [bU] at h
   have hb:=(gZ l (by have:=hw.2.2;rwa [bU] at this)).2
   have:=nj hl
   exact h.lr hX qO⟩
theorem A9(hk:k≤40):dB Tryz.prog S1 272 [0,0] [.is (.int .u32 10), .is (.int .i64 (k:Int))] (fun _=> .tup [.lr (10^k) 5, .is (.int .i64 0)]):=
 ⟨fun _ _=>by kernel_rfl,fun _ h=>h,fun {X w vs} _ hX ha=>by
  obtain ⟨x,y,rfl,e,e2⟩:=ha.two
  rw [show x=_ from e,show y=_ from e2]
  exact (Ds (w:=w) (b:=10) (n:=k) qD qO).mono fun e w' h=>h.lr hX (nj hk)⟩
theorem ES{b:Bool} (h:(ai.lr V K).holds X w u):∃ A n c,u= .slice A n c∧(ai.na (fy b V) K).holds X w (.agg #[.bool b, .slice A n c]):=by
 obtain ⟨A,n,c,xs,rfl,hs,hr,hl⟩:=h
 refine ⟨A,n,c,rfl,(b,xs),⟨?_,by rw [hs.1.len];exact hl⟩,[.bool b, .slice A n c],rfl,dc.2 ⟨A,n,c,rfl,hs,hr.dg⟩⟩
 show dp b xs=_
 by_cases hx:xs=[]
 ·have:=hr.val
  rw [hx] at this ⊢
  rw [mU,←this]
  cases b<;>rfl
 ·rw [gU (zo hr.tr fun h=>absurd h hx),hr.val]
section
variable {w00:World} {N:Nat} {L:List Loc} {E:List (Nat×ai)} {d:Nat} {t0:TypeId} {pos:String} {af:Array Edge} {gd:Option (Nat×Bool)}
theorem xi{b:Bool} [h0:b_ E o0 (.is (.bool b))] [h1:b_ E o1 (.lr V K)]:aR Tryz.prog w00 N L E ⟨some d, .build 38 #[(0,o0),(1,o1)],t0,pos,af,gd⟩ (.na (fy b V) K):=by
 constructor
 intro X ρ w hc _ hN hm hsl
 have e0:ρ o0= .bool b:=h0.get (X:=X) (w:=w) hc fun p hp e=>hsl p hp qS
 obtain ⟨A,n,c,e1,hT⟩:=ES (b:=b) (h1.get (X:=X) (w:=w) hc fun p hp e=>hsl p hp qS)
 have HT:=Lib.hid hT
 clear hT hsl hm hc h0 h1
 unfold Yields
 go_simp
 exact ⟨HT.out,Below.refl _ _⟩
theorem uF[h1:b_ E o1 (.lr V K)]:aR Tryz.prog w00 N L E ⟨some d, .build 38 #[(1,o1)],t0,pos,af,gd⟩ (.na V K):=by
 constructor
 intro X ρ w hc _ hN hm hsl
 obtain ⟨A,n,c,e1,hT⟩:=ES (b:=false) (h1.get (X:=X) (w:=w) hc fun p hp e=>hsl p hp qS)
 have HT:=Lib.hid hT
 clear hT hsl hm hc h1
 unfold Yields
 go_simp
 exact ⟨HT.out,Below.refl _ _⟩
end
theorem H8{q:List UInt8} (hl:l.length=2) (h0:l[0]? =some (Tx q)) (h1:l[1]? =some (Tx [48])):dB Tryz.prog S1 270 [0] [.vs l] (fun _=> .is (Tx (bif q==[] then [48] else q))):=by
 refine fA Tryz.func270 rfl Tryz.ntmps270 qE (fun _ _=>by kernel_rfl) fun X w hE=> ?_
 simp only [bf,Nat.zero_add,Nat.reduceAdd]
 repeat' first|kernel_rfl|apply aF|apply aG|apply aI|apply aD|apply aH|apply aM|apply aN|apply aA|apply aE|apply be|apply aq|apply a_|apply a8|apply aB|refine fm rfl ?_|apply bl|apply bO|apply bN|apply eo|apply em|refine eu rfl ?_|apply ep|apply ew|apply bc|exact dw|exact gI qL|exact cT|exact cC qL|exact aL|exact dI qG|exact bG qL|exact aj|exact ab|exact ah|exact bq qG|exact bu qG|exact am|exact aK qL|exact ae|exact Cv.rfl'|intro _
 refine kd fun a w h=> ?_
 refine iG (fun k a w=>∃ i:Nat,i+k=2∧(i=0∨i=1∧q=[])∧TS _ X [] [(8, .is (.int .i64 (i:Int))),(7, .is (.int .i64 (l.length:Int))),(6, .vs l),(3, .is (Tx []))] 18 a w) 2 ⟨0,rfl, .inl rfl,h.keep [8,7,6,3]⟩ ?_
 clear h
 rintro k a w ⟨i,hi,hcs,h⟩
 have hc:decide ((i:Int)<(l.length:Int))=true:=decide_eq_true qO
 have hw:IntKind.i64.wrap ((i:Int)+1)=((i+1:Nat):Int):=dh qO qO
 obtain ⟨z,hx,hz⟩:∃ z,l[i]? =some (Tx z)∧((!(z==[]))=true∧z=(bif q==[] then [48] else q)∨(!(z==[]))=false∧i=0∧q=[]):=by
  rcases hcs with rfl|⟨rfl,ha⟩
  ·refine ⟨q,h0,?_⟩
   cases q with
   |nil=>exact .inr ⟨rfl,rfl,rfl⟩
   |cons c r=>exact .inl ⟨rfl,rfl⟩
  ·exact ⟨[48],h1, .inl ⟨rfl,by rw [ha];rfl⟩⟩
 clear hcs h0 h1
 rcases hz with ⟨hz,e⟩|⟨hz,hi0,ha⟩
 ·rw [←e]
  clear e
  refine fh h ?_
  clear h
  repeat' first|kernel_rfl|apply aF|apply aG|apply aI|apply kK (s:=8)|apply aD|apply aH|apply aM|apply aN|apply aA|apply aE|apply be|apply aq|apply a_|apply a8|apply aB|refine fm rfl ?_|apply bl|apply bO|apply bN|apply eo|apply em|refine eu rfl ?_|apply ep|apply ew|apply bc|exact dw|exact gI qL|exact cT|exact cC qL|exact aL|exact dI qG|exact bG qL|exact aj|exact ab|exact ah|exact bq qG|exact bu qG|exact am|exact aK qL|exact ae|exact Cv.rfl'|intro _
 ·
  refine fh h ?_
  clear h
  repeat' first|kernel_rfl|exact iz fun _ _ h=>⟨k - 1,by omega,i+1,by omega, .inr ⟨by omega,ha⟩,h.keep [8,7,6,3]⟩|apply aF|apply aG|apply aI|apply kK (s:=8)|apply aD|apply aH|apply aM|apply aN|apply aA|apply aE|apply be|apply aq|apply a_|apply a8|apply aB|refine fm rfl ?_|apply bl|apply bO|apply bN|apply eo|apply em|refine eu rfl ?_|apply ep|apply ew|apply bc|exact dw|exact gI qL|exact cT|exact cC qL|exact aL|exact dI qG|exact bG qL|exact aj|exact ab|exact ah|exact bq qG|exact bu qG|exact am|exact aK qL|exact ae|exact Cv.rfl'|intro _
def CU (n:Bool) (a b:List UInt8):Rat:=Rat.divInt (fy n (dL (a++b))) (10^b.length)
theorem zp{a b:List UInt8} (hd:∀ c∈a++b,fc c) (hl:a.length+b.length≤40):dB Tryz.prog vE 237 [0] [.is (.agg #[.bool n,Tx a,Tx b])] (fun _=> .qc (CU n a b) 5):=by
 have hs:a.length+b.length≤9223372036854775807:=qO
 have hlen:(a++b).length≤40:=by rw [List.length_append];omega
 obtain ⟨hw,hwl⟩:=mS hd
 have hD:(10:Int)^b.length≠0:=by have:(0:Int)<10^b.length:=Int.pow_pos qD;omega
 have cp:=tU hw qO
 rw [rN] at cp
 have co:∀ {E:World→Prop},dB Tryz.prog S1 270 [0] [.vs [Tx (Lib.trimLeftB (a++b) 48),Tx [48]]] (fun _=> .is (Tx (vT (a++b)))):=fun {_}=>H8 rfl rfl rfl
 have cw:=A9 (k:=b.length) qO
 unfold CU
 refine fA Tryz.func237 rfl Tryz.ntmps237 qE (fun _ _=>by kernel_rfl) fun X w hE=> ?_
 simp only [bf,Nat.zero_add,Nat.reduceAdd]
 repeat' first|kernel_rfl|apply aF|apply aG|apply aI|apply aD|apply aH|apply aM|apply aN|apply aA|apply aE|apply be|apply aq|apply a_|apply a8|apply aB|refine fm rfl ?_|apply bc|exact sc trivial qP|exact lu rfl rfl rfl|exact sc trivial (co (E:=S1))|exact sc trivial cp|exact sc trivial cw|exact xi|exact uF|exact Gh hE.tab qO hD|exact cC qL|exact aL|exact bG qL|exact aj|exact ab|exact ah|exact aa|exact aJ|exact am|exact ae|exact Cv.rfl'|intro _
theorem Fr{a b:List UInt8} (hd:∀ c∈a++b,fc c) (hl:a.length+b.length≤40):dB Tryz.prog vE 197 [0] [.is (.agg #[.bool n,Tx a,Tx b])] (fun _=> .tup [.qc (CU n a b) 5, .is (.int .i64 0)]):=by
 have hw:IntKind.i64.wrap ((a.length:Int)+(b.length:Int))=((a.length+b.length:Nat):Int):=dh qO qO
 have hc:decide ((40:Int)<((a.length+b.length:Nat):Int))=false:=decide_eq_false qO
 have cn:=zp (n:=n) hd hl
 refine fA Tryz.func197 rfl Tryz.ntmps197 qE (fun _ _=>by kernel_rfl) fun X w hE=> ?_
 simp only [bf,Nat.zero_add,Nat.reduceAdd]
 repeat' first|kernel_rfl|apply aF|apply aG|apply aI|apply aD|apply aH|apply aM|apply aN|apply aA|apply aE|apply be|apply aq|apply a_|apply a8|apply aB|refine oI rfl ?_|apply bc|exact sc hE cn|exact dZ|exact cC qL|exact aL|exact bG qL|exact ab|exact ah|exact aa|exact ay qG|exact am|exact ae|exact Cv.rfl'|intro _
theorem Ci{a b:List UInt8} (hl:40<a.length+b.length) (hb:a.length+b.length≤1000000):dB Tryz.prog vE 197 [0] [.is (.agg #[.bool n,Tx a,Tx b])] (fun _=> .tup [.q0, .is (.int .i64 3)]):=by
 have hw:IntKind.i64.wrap ((a.length:Int)+(b.length:Int))=((a.length+b.length:Nat):Int):=dh qO qO
 have hc:decide ((40:Int)<((a.length+b.length:Nat):Int))=true:=decide_eq_true qO
 refine fA Tryz.func197 rfl Tryz.ntmps197 qE (fun _ _=>by kernel_rfl) fun X w hE=> ?_
 simp only [bf,Nat.zero_add,Nat.reduceAdd]
 repeat' first|kernel_rfl|apply aF|apply aG|apply aI|apply aD|apply aH|apply aM|apply aN|apply aA|apply aE|apply be|apply aq|apply a_|apply a8|apply aB|refine oI rfl ?_|apply bc|exact dZ|exact cC qL|exact aL|exact bG qL|exact ab|exact ah|exact aa|exact ay qG|exact am|exact ae|exact Cv.rfl'|intro _
def ai.qe (q:Rat) (L:Nat) (e:Int):ai:=bif e==0 then .qc q L else .q0
instance {q:Rat} {L:Nat} {e:Int}:bi (.qe q L e) 4 true:=by
 unfold ai.qe
 cases (e==0)
 ·exact (inferInstance:bi .q0 4 true)
 ·exact (inferInstance:bi (.qc q L) 4 true)
instance {q:Rat} {L:Nat} {e:Int}:az (.qe q L e) 0 4 true (.qe q L e):= .whole inferInstance
def Je (q:Rat) (e:Int):Rat:=bif e==0 then q else 0
instance {q:Rat} {L:Nat} {e:Int}:qV (.qe q L e) (Je q e) (L+1):=⟨fun {X w v} h=>by
 unfold ai.qe at h
 unfold Je
 cases he:(e==0) with
 |true=>rw [he] at h;exact DR qO ((inferInstance:qV (.qc q L) q L).ok h)
 |false=>
  rw [he] at h
  obtain ⟨x,rfl,g⟩:=h
  exact ⟨_,⟨by show qv _=0;decide,by simp,by simp,by omega⟩,g⟩⟩
def pE (m:Nat) (l:List UInt8):Int:=bif Bw l&&(r3 l==[]) then (bif decide (m<(pc l).length) then 60 else bif decide (40<(wh l).length+(pc l).length) then 3 else 0) else 60
def dq (l:List UInt8):Rat:=CU (ng l) (wh l) (pc l)
abbrev tK:Rat:=((100:Int):Rat)
theorem lp:tK≠0:=by decide
def zl (l:List UInt8):Int:=bif Bw l&&(r3 l==[37]) then (bif ng l || decide (4<(pc l).length) || decide (40<(wh l).length+(pc l).length) || decide (0<gb (dq l) tK) then 60 else 0) else 60
def ai.nb (b:Bool) (N:Int) (L:Nat):ai:=⟨fun X w v=>decide (N<0)=b∧(ai.nc N L).holds X w v,fun ⟨h,g⟩ hk hX=>⟨h,(ai.nc _ _).stable g hk hX⟩⟩
instance {b:Bool} {N:Int} {L:Nat}:bi (.nb b N L) 2 true:=⟨fun h=>(inferInstance:bi (.nc N L) 2 true).ok h.2⟩
instance {b:Bool} {N:Int} {L:Nat}:az (.nb b N L) 0 1 false (.is (.bool b)):=⟨fun _=>rfl,fun h=>by rw [←h.1];exact (inferInstance:az (.nc N L) 0 1 false (.is (.bool (decide (N<0))))).ok h.2⟩
instance {b:Bool} {N:Int} {L:Nat}:az (.nb b N L) 1 1 false (.lr (N.natAbs:Int) L):=⟨fun _=>rfl,fun h=>(inferInstance:az (.nc N L) 1 1 false (.lr (N.natAbs:Int) L)).ok h.2⟩
end Go.Proofs.YtcpeiijdgabenaaGreatDoor
