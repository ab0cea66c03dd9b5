/- What is written over: rows whose blocks lie from B0 on and below B1. -/
import Derived.Test.YtjjkikchncfekaaGreatDoorCZ
set_option linter.unusedSimpArgs false
set_option linter.unusedVariables false
namespace Go.Proofs.YtjjkikchncfekaaGreatDoor
open Go Go.RowKit
variable {B0 B1 n k j s i C0 C1 m b B:Nat} {w w':World} {X:List Nat} {ty:TypeId} {v:Value} {o oi:Operand} {cs:List Value}
structure vj (e:List TypeId) (B0 B1:Nat) (X:List Nat) (w w':World):Prop where
 os:w'.os=w.os
 tape:w'.tape=w.tape
 output:w'.output=w.output
 size:w.heap.size≤w'.heap.size
 block:∀ b,b<w.heap.size→w'.heap[b]? =w.heap[b]? ∨(B0≤b∧b<B1∧b ∉ X∧∃ (cs cs':List Value) (t:TypeId),w.heap[b]? =some (.cells cs.toArray t (0,0))∧w'.heap[b]? =some (.cells cs'.toArray t (0,0))∧cs'.length=cs.length∧
  (t∈e∨∀ (i:Nat) (u:Value),cs[i]? =some u→cs'[i]? =some u∨∃ x y:Int,u= .int .u32 x∧cs'[i]? =some (.int .u32 y)∧0≤y∧y<4294967296))
class jq (e:List TypeId) (B0 B1:Nat) (T:aa):Prop where
 ok:∀ {X:List Nat} {w w':World} {v:Value},T.holds X w v→vj e B0 B1 X w w'→T.holds X w' v
class fG (e:List TypeId) (B0 B1:Nat) (L:List Loc):Prop where
 ok:∀ p∈L,∀ {X:List Nat} {w w':World} {v:Value},p.2.holds X w v→vj e B0 B1 X w w'→p.2.holds X w' v
instance fG.nil {e:List TypeId} {B0 B1:Nat}:fG e B0 B1 []:=⟨fun _ h=>by cases h⟩
instance fG.cons {e:List TypeId} {B0 B1 r:Nat} {L:List Loc} {T:aa} [a:jq e B0 B1 T] [k:fG e B0 B1 L]:fG e B0 B1 ((r,T)::L):=⟨fun p hp=>by
 rcases List.mem_cons.1 hp with rfl|hp
 ·exact a.ok
 ·exact k.ok p hp⟩
class nb (e:List TypeId) (B0 B1:Nat) (Ts:List aa):Prop where
 ok:∀ {X:List Nat} {w w':World} {vs:List Value},cd X w Ts vs→vj e B0 B1 X w w'→cd X w' Ts vs
instance nb.nil {e:List TypeId} {B0 B1:Nat}:nb e B0 B1 []:=⟨fun {X w w' vs} h _=>by cases vs with
 |nil=>trivial
 |cons v vs=>exact h.elim⟩
instance nb.cons {e:List TypeId} {B0 B1:Nat} {T:aa} {Ts:List aa} [a:jq e B0 B1 T] [k:nb e B0 B1 Ts]:nb e B0 B1 (T::Ts):=⟨fun {X w w' vs} h hc=>by cases vs with
 |nil=>exact h.elim
 |cons v vs=>exact ⟨a.ok h.1 hc,k.ok h.2 hc⟩⟩
instance {e:List TypeId} {B0 B1:Nat} {c:Value}:jq e B0 B1 (.is c):=⟨fun h _=>h⟩
instance {e:List TypeId} {B0 B1:Nat}:jq e B0 B1 .any:=⟨fun _ _=>trivial⟩
instance {e:List TypeId} {B0 B1:Nat} {Ts:List aa} [k:nb e B0 B1 Ts]:jq e B0 B1 (.st Ts):=⟨fun ⟨cs,e,h,o⟩ hc=>⟨cs,e,k.ok h hc,o⟩⟩
theorem vj.cells{e:List TypeId} (h:vj e B0 B1 X w w') {t:TypeId} (hb:b<w.heap.size) (hc:w.heap[b]? =some (.cells cs.toArray t (0,0))):∃ cs':List Value,w'.heap[b]? =some (.cells cs'.toArray t (0,0))∧cs'.length=cs.length∧(t∈e∨∀ (i:Nat) (u:Value),cs[i]? =some u→cs'[i]? =some u∨∃ x y:Int,u= .int .u32 x∧cs'[i]? =some (.int .u32 y)∧0≤y∧y<4294967296):=by
 rcases h.block b hb with g|⟨_,_,_,cs1,cs2,t',g1,g2,g3,g4⟩
 ·exact ⟨cs,g.trans hc,rfl, .inr fun i u hu=> .inl hu⟩
 ·rw [hc] at g1
  injection g1 with g1
  injection g1 with g1 g1t _
  have:cs=cs1:=by simpa using g1
  subst this g1t
  exact ⟨cs2,g2,g3,g4⟩
def vi (e:List TypeId) (k B0 B1 n:Nat) (X:List Nat) (w:World) (v:Value):Prop:=∃ (A:Option Addr) (c:Nat),v= .slice A n c∧(0<n→∃ (b off:Nat) (cs:List Value) (t:TypeId),A=some ⟨b,off,none⟩∧bt X w b∧B0≤b∧b<B1∧w.heap[b]? =some (.cells cs.toArray t (0,0))∧t∈e∧off+n*k≤cs.length)
theorem vi.keep {e:List TypeId} {k B0 B1 n:Nat} {X X':List Nat} {w w':World} {v:Value} (h:vi e k B0 B1 n X w v) (hk:eZ X w w') (hX:∀ b∈X',b<w.heap.size→b∈X):vi e k B0 B1 n X' w' v:=by
 obtain ⟨A,c,e1,h1⟩:=h
 refine ⟨A,c,e1,fun hn=> ?_⟩
 obtain ⟨b,off,cs,t,g1,g2,g3,g4,g5,g6⟩:=h1 hn
 exact ⟨b,off,cs,t,g1,bt.mono hk hX b g2,g3,g4,(hk.block b g2.1 g2.2).trans g5,g6⟩
theorem vi.chS{e:List TypeId} {e':List TypeId} (h:vi e k B0 B1 n X w v) (hc:vj e' C0 C1 X w w'):vi e k B0 B1 n X w' v:=by
 obtain ⟨A,c,e1,h1⟩:=h
 refine ⟨A,c,e1,fun hn=> ?_⟩
 obtain ⟨b,off,cs,t,g1,g2,g3,g4,g5,g6,g7⟩:=h1 hn
 obtain ⟨cs',k1,k2,_⟩:=hc.cells g2.1 g5
 exact ⟨b,off,cs',t,g1,bt.grow g2 hc.size,g3,g4,k1,g6,by omega⟩
def aa.wr (e:List TypeId) (k B0 B1 n:Nat):aa:=⟨fun X w v=>vi e k B0 B1 n X w v,fun h hk hX=>h.keep hk hX⟩
instance {e:List TypeId} {k B0 B1 n C0 C1:Nat} {e':List TypeId}:jq e' C0 C1 (.wr e k B0 B1 n):=⟨fun h hc=>vi.chS h hc⟩
def aa.wp (e:List TypeId) (k B0 B1:Nat):aa:=⟨fun X w v=>∃ (b o:Nat) (cs:List Value) (t:TypeId),v= .pointer (some ⟨b,o,none⟩)∧bt X w b∧B0≤b∧b<B1∧w.heap[b]? =some (.cells cs.toArray t (0,0))∧t∈e∧o+k≤cs.length,
 fun ⟨b,o,cs,t,e1,g2,g3,g4,g5,g6⟩ hk hX=>⟨b,o,cs,t,e1,bt.mono hk hX b g2,g3,g4,(hk.block b g2.1 g2.2).trans g5,g6⟩⟩
def E5 (B0 B1:Nat) (y:a_) (X:List Nat) (w:World) (cs:List Value):Prop:=∃ s1 s2 s3 s4 s5:Value,cs=[.int .i64 y.1,s1,s2,s3,s4,s5]∧vi [119,121,123,125,127,117] 6 B0 B1 y.2.1.length X w s1∧vi [119,121,123,125,127,117] 6 B0 B1 y.2.2.1.length X w s2∧vi [119,121,123,125,127,117] 10 B0 B1 y.2.2.2.1.length X w s3∧vi [119,121,123,125,127,117] 9 B0 B1 y.2.2.2.2.1.length X w s4∧vi [119,121,123,125,127,117] 5 B0 B1 y.2.2.2.2.2.length X w s5
theorem E5.keep {B0 B1:Nat} {y:a_} {X X':List Nat} {w w':World} {cs:List Value} (h:E5 B0 B1 y X w cs) (hk:eZ X w w') (hX:∀ b∈X',b<w.heap.size→b∈X):E5 B0 B1 y X' w' cs:=by
 obtain ⟨s1,s2,s3,s4,s5,e,h1,h2,h3,h4,h5⟩:=h
 exact ⟨s1,s2,s3,s4,s5,e,h1.keep hk hX,h2.keep hk hX,h3.keep hk hX,h4.keep hk hX,h5.keep hk hX⟩
theorem E5.chS{y:a_} {e':List TypeId} (h:E5 B0 B1 y X w cs) (hc:vj e' C0 C1 X w w'):E5 B0 B1 y X w' cs:=by
 obtain ⟨s1,s2,s3,s4,s5,e,h1,h2,h3,h4,h5⟩:=h
 exact ⟨s1,s2,s3,s4,s5,e,h1.chS hc,h2.chS hc,h3.chS hc,h4.chS hc,h5.chS hc⟩
theorem E5.no{y:a_} (h:E5 B0 B1 y X w cs) {x:Int}:cs[i]? ≠some (.int .u32 x):=by
 obtain ⟨s1,s2,s3,s4,s5,e,⟨_,_,h1,_⟩,⟨_,_,h2,_⟩,⟨_,_,h3,_⟩,⟨_,_,h4,_⟩,⟨_,_,h5,_⟩⟩:=h
 subst e h1 h2 h3 h4 h5
 intro hi
 rcases i with _|_|_|_|_|_|i<;>simp at hi
def CI (B0 B1:Nat) (ys:List a_) (m:Nat) (X:List Nat) (w:World) (v:Value):Prop:=∃ (A:Option Addr) (c:Nat),v= .slice A ys.length c∧(0<ys.length→∃ (b:Nat) (cs:List Value),A=some ⟨b,0,none⟩∧bt X w b∧B0≤b∧b<B1∧w.heap[b]? =some (.cells cs.toArray 65 (0,0))∧ys.length*6≤cs.length∧
 ∀ (j:Nat) (y:a_),m≤j→ys[j]? =some y→∃ c6,E5 B0 B1 y X w c6∧∀ (i:Nat) (u:Value),c6[i]? =some u→cs[j*6+i]? =some u)
def aa.wy (B0 B1:Nat) (ys:List a_) (m:Nat):aa:=⟨fun X w v=>CI B0 B1 ys m X w v,fun ⟨A,c,e,h⟩ hk hX=>⟨A,c,e,fun hn=>by
 obtain ⟨b,cs,g1,g2,g3,g4,g5,g6,g7⟩:=h hn
 refine ⟨b,cs,g1,bt.mono hk hX b g2,g3,g4,(hk.block b g2.1 g2.2).trans g5,g6,fun j y hj hy=> ?_⟩
 obtain ⟨c6,k1,k2⟩:=g7 j y hj hy
 exact ⟨c6,k1.keep hk hX,k2⟩⟩⟩
class Hc (e:List TypeId) (t:TypeId):Prop where
 ok:t ∉ e
instance {t:TypeId}:Hc [] t:=⟨fun h=>by cases h⟩
theorem CI.chS{ys:List a_} {e':List TypeId} (hne:65 ∉ e') (h:CI B0 B1 ys m X w v) (hc:vj e' C0 C1 X w w'):CI B0 B1 ys m X w' v:=by
 obtain ⟨A,c,e,h⟩:=h
 refine ⟨A,c,e,fun hn=> ?_⟩
 obtain ⟨b,cs,g1,g2,g3,g4,g5,g6,g7⟩:=h hn
 obtain ⟨cs',k1,k2,k3⟩:=hc.cells g2.1 g5
 refine ⟨b,cs',g1,bt.grow g2 hc.size,g3,g4,k1,by omega,fun j y hj hy=> ?_⟩
 obtain ⟨c6,q1,q2⟩:=g7 j y hj hy
 refine ⟨c6,q1.chS hc,fun i u hu=> ?_⟩
 rcases k3 with k3|k3
 ·exact absurd k3 hne
 ·rcases k3 _ _ (q2 i u hu) with z|⟨x,y',rfl,_⟩
  ·exact z
  ·exact absurd hu q1.no
instance {B0 B1 m C0 C1:Nat} {ys:List a_} {e':List TypeId} [n:Hc e' 65]:jq e' C0 C1 (.wy B0 B1 ys m):=⟨fun h hc=>CI.chS n.ok h hc⟩
def aa.wys (sv:Value) (B0 B1:Nat) (ys:List a_) (m:Nat):aa:=⟨fun X w v=>v=sv∧CI B0 B1 ys m X w sv,fun ⟨e,h⟩ hk hX=>⟨e,(aa.wy B0 B1 ys m).stable h hk hX⟩⟩
instance {sv:Value} {B0 B1 m C0 C1:Nat} {ys:List a_} {e':List TypeId} [n:Hc e' 65]:jq e' C0 C1 (.wys sv B0 B1 ys m):=⟨fun ⟨e,h⟩ hc=>⟨e,CI.chS n.ok h hc⟩⟩
def aa.gq (X0:List Nat) (B0 B1:Nat) (w0:World):aa:=⟨fun X w _=>(∀ b∈X,b<w0.heap.size→b∈X0)∧w0.heap.size≤w.heap.size∧∀ b,b<w0.heap.size→b ∉ X0→w.heap[b]? =w0.heap[b]? ∨(B0≤b∧b<B1),
 fun {X X' w w' v} ⟨h1,h2,h3⟩ hk hX=>⟨fun b hb hlt=>h1 b (hX b hb (Nat.lt_of_lt_of_le hlt h2)) hlt,Nat.le_trans h2 hk.size,fun b hb hx=>by
  rw [hk.block b (Nat.lt_of_lt_of_le hb h2) fun h=>hx (h1 b h hb)]
  exact h3 b hb hx⟩⟩
instance {X0:List Nat} {B0 B1:Nat} {w0:World} {e':List TypeId}:jq e' B0 B1 (.gq X0 B0 B1 w0):=⟨fun {X w w' v} ⟨h1,h2,h3⟩ hc=>⟨h1,Nat.le_trans h2 hc.size,fun b hb hx=>by
 rcases hc.block b (Nat.lt_of_lt_of_le hb h2) with g|⟨g1,g2,_⟩
 ·rw [g];exact h3 b hb hx
 ·exact .inr ⟨g1,g2⟩⟩⟩
section
variable {P:Program} {w00:World} {X:List Nat} {L:List Loc} {E E0:List (Nat×aa)} {n:Nat} {ops:Array Oper} {rest:List Oper} {Q:Exit→Act→World→Prop} {cs:List Code} {t0:TypeId} {pos:String} {af:Array Edge}
theorem TS.chS{e:List TypeId} {a:Act} (h:TS w00 X L E n a w) (hs:vj e B0 B1 X w w') (hB:w00.heap.size≤B0) [kL:fG e B0 B1 L] [kE:fG e B0 B1 E]:TS w00 X L E n a w':=by
 refine ⟨h.size,h.df,fun p hp=>kE.ok p hp (h.slots p hp) hs,⟨fun p hp=> ?_,fun b hb=>Nat.lt_of_lt_of_le (h.mem.far b hb) hs.size,h.mem.nodup,?_⟩⟩
 ·obtain ⟨g1,g2,v,ty,g3,g4⟩:=h.mem.loc p hp
  refine ⟨g1,g2,v,ty,kL.ok p hp g3 hs,?_⟩
  rcases hs.block p.1 (h.mem.far _ g1) with e|⟨_,_,g,_⟩
  ·exact e.trans g4
  ·exact absurd g1 g
 ·refine h.mem.below.trans ⟨hs.os,hs.tape,hs.output,hs.size,fun b hb=> ?_⟩
  rcases hs.block b (Nat.lt_of_lt_of_le hb h.mem.below.size) with e|⟨g,_⟩
  ·exact e
  ·omega
theorem sS{g o:Nat} {cur:List Value} {t:TypeId} {ds:List Value} (h3:w.heap[g]? =some (.cells cur.toArray t (0,0))) (hd:v.cells=ds.toArray) (hone:∀ x∈ds,x.oneCell'=true) (hk:ds.length=k) (hle:o+k≤cur.length) (hty:(P.info? ty).map (·.size)=some k):
 (storeVar ty ⟨g,o,none⟩ v).run P w= .ok () (w.setRow g (cur.take o++ds++cur.drop (o+ds.length)).toArray):=by
 have:=run_storeVar_mid (P:=P) w g o ty ds.toArray (fun i hi=>by
  have hi:i<ds.length:=by simpa using hi
  have hb:o+i<cur.length:=qO
  refine ⟨?_,by simp [World.frozen?,h3]⟩
  rw [d7 (u:=cur[o+i]) h3 (by simp [hb])]
  rfl) (by rw [hty];simp [hk]) (all_oneCell_toArray hone)
 rw [←fe ds w g o cur t h3 qO]
 rw [←this]
 unfold storeVar
 rw [hd]
 rfl
theorem vj.put {w:World} {g o:Nat} {cur ds:List Value} {t:TypeId} {e:List TypeId} {B0 B1:Nat} {X:List Nat} (h3:w.heap[g]? =some (.cells cur.toArray t (0,0))) (hle:o+ds.length≤cur.length) (h0:B0≤g) (h1:g<B1) (hX:g ∉ X)
 (hk:t∈e∨∀ (i:Nat) (u:Value),cur[i]? =some u→(cur.take o++ds++cur.drop (o+ds.length))[i]? =some u∨∃ x y:Int,u= .int .u32 x∧(cur.take o++ds++cur.drop (o+ds.length))[i]? =some (.int .u32 y)∧0≤y∧y<4294967296):vj e B0 B1 X w (w.setRow g (cur.take o++ds++cur.drop (o+ds.length)).toArray):=
 ⟨rfl,rfl,rfl,by simp [World.setRow],fun b hb=>by
  by_cases hbg:b=g
  ·subst hbg
   exact .inr ⟨h0,h1,hX,cur,_,t,h3,setRow_heap w b _ _ t _ h3,by simp;omega,hk⟩
  ·exact .inl (setRow_other w _ _ _ hbg)⟩
theorem nT {ty:TypeId} {e:List TypeId} {s k B0 B1:Nat} {o:Operand} {T:aa} {ag:Bool} (ss:List Nat) (hB0:w00.heap.size≤B0) [hs:bH E s (.wp e k B0 B1)] [ho:cb E o T] [z:aJ T k ag] [kk:ju E ss E0] [kL:fG e B0 B1 L] [kE:fG e B0 B1 E0] (hi:(P.info? ty).map (·.size)=some k)
 (h:GR P w00 X L E0 n ops rest cs Q):GR P w00 X L E n ops (⟨none, .store ty (.tmp s) o,t0,pos,af,none⟩::rest) cs Q:=⟨fun ac w ht=>by
 refine cj rfl ?_
 obtain ⟨g,oo,cur,t,e1,hf,h0,h1,h3,hte,hle⟩:=ht.slots _ hs.mem
 have e1':ac.eval (.tmp s)= .pointer (some ⟨g,oo,none⟩):=e1
 obtain ⟨z1,z2,_,_⟩:=z.ok (ho.get (X:=X) (w:=w) (ρ:=ac.eval) (fun _=>rfl) fun p hp _=>ht.slots p hp)
 have hone:∀ x∈(ac.eval o).cells.toList,x.oneCell'=true:=fun x hx=>by
  rw [Array.all_eq_true'] at z2
  exact z2 x (by simpa using hx)
 have hlen:(ac.eval o).cells.toList.length=k:=by simpa using z1
 have hsv:=sS (P:=P) (ty:=ty) (v:=ac.eval o) (ds:=(ac.eval o).cells.toList) h3 qE hone hlen hle hi
 have hch:=vj.put (ds:=(ac.eval o).cells.toList) (o:=oo) (e:=e) (B0:=B0) (B1:=B1) (X:=X) h3 qO h0 h1 hf.2 (.inl hte)
 unfold Oper.wp execOp
 simp only [e1',Instr.storeAt,Instr.sureAddr,Sem.run_bind,Sem.run_pure,Result.andThen_ok,hsv]
 exact h.run ac _ ((ht.keep (E':=E0) ss).chS hch hB0)⟩
end
section
variable {P:Program} {w00:World} {N:Nat} {L:List Loc} {E:List (Nat×aa)} {d:Nat} {t0:TypeId} {pos:String} {af:Array Edge} {gd:Option (Nat×Bool)}
theorem mr{ρ:Operand→Value} {c off:Nat} [ht:ca P ty k] (e1:ρ o= .slice (some ⟨b,off,none⟩) n c) (e2:ρ oi= .int .i64 (j:Int)) (hj:j<n):(execOp ρ ⟨some d, .indexAddr ty o oi,t0,pos,af,gd⟩).run P w= .ok (.value (.pointer (some ⟨b,off+j*k,none⟩))) w:=by
 obtain ⟨el,hu,hsz⟩:=ht.ok
 have hz:(sizeOf el).run P w= .ok k w:=by
  cases hq:P.info? el with
  |none=>rw [hq] at hsz;cases hsz
  |some q=>
   rw [hq] at hsz
   have:q.size=k:=by simpa using hsz
   simp [sizeOf,typeInfo,hq,this]
 unfold execOp
 have hji:(0:Int)≤(j:Int)∧(j:Int)<(n:Int):=⟨by omega,by omega⟩
 simp only [e1,e2,Instr.indexAt,asIntOf,Sem.run_bind,Sem.run_pure,Result.andThen_ok,run_underlying hu w,hji,and_self,if_true,hz,Int.toNat_natCast,Addr.add_mid]
theorem DR{ρ:Operand→Value} {fo o:Nat} {ag:Bool} [hf:au P ty i fo k ag] (e1:ρ (.tmp s)= .pointer (some ⟨b,o,none⟩)):(execOp ρ ⟨some d, .fieldAddr ty (.tmp s) i,t0,pos,af,gd⟩).run P w= .ok (.value (.pointer (some ⟨b,o+fo,none⟩))) w:=by
 obtain ⟨fs,f,h1,h2,h3,h4,h5,_⟩:=hf.ok
 have hz:(sizeOf f.type).run P w= .ok k w:=by
  cases hq:P.info? f.type with
  |none=>rw [hq] at h4;cases h4
  |some q=>
   rw [hq] at h4
   have:q.size=k:=by simpa using h4
   simp [sizeOf,typeInfo,hq,this]
 unfold execOp
 simp only [e1,Instr.fieldAt,Instr.sureAddr,fieldPlace,Sem.run_bind,Sem.run_pure,Result.andThen_ok,run_underlying h1 w,h2,hz,h5,if_false,h3,Addr.add_mid]
def aa.sl (n:Nat):aa:=⟨fun _ _ v=>∃ A c,v= .slice A n c,fun h _ _=>h⟩
class yk (T:aa) (n:outParam Nat):Prop where
 ok:∀ {X:List Nat} {w:World} {v:Value},T.holds X w v→∃ A c,v= .slice A n c
instance {e:List TypeId} {k B0 B1 n:Nat}:yk (.wr e k B0 B1 n) n:=⟨fun ⟨A,c,e,_⟩=>⟨A,c,e⟩⟩
instance {B0 B1 m:Nat} {ys:List a_}:yk (.wy B0 B1 ys m) ys.length:=⟨fun ⟨A,c,e,_⟩=>⟨A,c,e⟩⟩
instance {sv:Value} {B0 B1 m:Nat} {ys:List a_}:yk (.wys sv B0 B1 ys m) ys.length:=⟨fun ⟨e0,A,c,e,_⟩=>⟨A,c,e0.trans e⟩⟩
theorem C_{T:aa} [ho:bH E s T] [hl:yk T n] [ht:ca P ty k]:ay P w00 N L E ⟨some d, .call { callee:= .builtin .len,args:= #[.tmp s],argTypes:= #[ty] },t0,pos,af,gd⟩ (.is (.int .i64 n)):=by
 constructor
 intro X ρ w hc hf hN hm hsl
 obtain ⟨A,c,e⟩:=hl.ok (hsl _ ho.mem qJ)
 have e':ρ (.tmp s)= .slice A n c:=e
 obtain ⟨el,hu,_⟩:=ht.ok
 clear hc hsl ho ht hm e hl hf
 unfold Yields
 go_simp
 exact ⟨rfl,Below.refl _ _⟩
theorem Fd{e:List TypeId} [ho:cb E o (.wr e k B0 B1 n)] [hi:cb E oi (.is (.int .i64 (j:Int)))] [ht:ca P ty k] (hj:j<n):ay P w00 N L E ⟨some d, .indexAddr ty o oi,t0,pos,af,gd⟩ (.wp e k B0 B1):=by
 constructor
 intro X ρ w hc _ hN hm hsl
 obtain ⟨A,c,e1,h1⟩:=ho.get (X:=X) (w:=w) hc fun p hp e=>hsl p hp qS
 have e2:ρ oi= .int .i64 (j:Int):=hi.get (X:=X) (w:=w) hc fun p hp e=>hsl p hp qS
 obtain ⟨b,off,cs,t,rfl,g2,g3,g4,g5,g6,g7⟩:=h1 qO
 unfold Yields
 rw [mr e1 e2 hj]
 have:=Nat.mul_le_mul_right k (show j+1≤n by omega)
 rw [Nat.succ_mul] at this
 exact ⟨⟨b,_,cs,t,rfl,g2,g3,g4,g5,g6,by omega⟩,Below.refl _ _⟩
def aa.wye (sv:Value) (B0 B1:Nat) (ys:List a_) (m j:Nat):aa:=⟨fun X w v=>(∃ g n c,sv= .slice (some ⟨g,0,none⟩) n c∧v= .pointer (some ⟨g,j*6,none⟩))∧CI B0 B1 ys m X w sv,fun ⟨e,h⟩ hk hX=>⟨e,(aa.wy B0 B1 ys m).stable h hk hX⟩⟩
theorem EH{sv:Value} {ys:List a_} [ho:cb E o (.wys sv B0 B1 ys m)] [hi:cb E oi (.is (.int .i64 (j:Int)))] [ht:ca P ty 6] (hj:j<ys.length):ay P w00 N L E ⟨some d, .indexAddr ty o oi,t0,pos,af,gd⟩ (.wye sv B0 B1 ys m j):=by
 constructor
 intro X ρ w hc _ hN hm hsl
 obtain ⟨e0,h⟩:=ho.get (X:=X) (w:=w) hc fun p hp e=>hsl p hp qS
 have h':=h
 obtain ⟨A,c,e1,h1⟩:=h'
 have e2:ρ oi= .int .i64 (j:Int):=hi.get (X:=X) (w:=w) hc fun p hp e=>hsl p hp qS
 obtain ⟨b,cs,rfl,g2,g3,g4,g5,g6,g7⟩:=h1 qO
 unfold Yields
 rw [mr (e0.trans e1) e2 hj]
 exact ⟨⟨⟨b,_,c,e1,by rw [Nat.zero_add]⟩,h⟩,Below.refl _ _⟩
theorem FK{sv:Value} {ys:List a_} {y:a_} [hs:bH E s (.wye sv B0 B1 ys m j)] [hty:eP P ty 6 true] (hj:m≤j) (hy:ys[j]? =some y):ay P w00 N L E ⟨some d, .load ty (.tmp s),t0,pos,af,gd⟩ (.st [.any, .wr [119,121,123,125,127,117] 6 B0 B1 y.2.1.length, .wr [119,121,123,125,127,117] 6 B0 B1 y.2.2.1.length, .wr [119,121,123,125,127,117] 10 B0 B1 y.2.2.2.1.length, .wr [119,121,123,125,127,117] 9 B0 B1 y.2.2.2.2.1.length, .wr [119,121,123,125,127,117] 5 B0 B1 y.2.2.2.2.2.length]):=by
 constructor
 intro X ρ w hc _ hN hm hsl
 obtain ⟨⟨g,n',c',e1,e2⟩,A,c,e3,h1⟩:=hsl _ hs.mem qI
 have e2':ρ (.tmp s)= .pointer (some ⟨g,j*6,none⟩):=e2
 have hlt:=(List.getElem?_eq_some_iff.1 hy).1
 obtain ⟨b,cs,rfl,g2,g3,g4,g5,g6,g7⟩:=h1 qO
 rw [e1] at e3
 injection e3 with e3 _ _
 injection e3 with e3
 injection e3 with e3
 subst e3
 obtain ⟨c6,⟨s1,s2,s3,s4,s5,rfl,k1,k2,k3,k4,k5⟩,hc6⟩:=g7 j y hj hy
 have o1:∀ {e:List TypeId} {k B0 B1 n:Nat} {X:List Nat} {w:World} {v:Value},vi e k B0 B1 n X w v→v.oneCell'=true:=fun ⟨A,c,e,_⟩=>by rw [e];rfl
 have hr:w.rangeAt g (j*6) [.int .i64 y.1,s1,s2,s3,s4,s5]:=fun i u hu=>d7 g5 (by simpa using hc6 i u hu)
 obtain ⟨dd,hu,hd⟩:=hty.row
 have hrun:(execOp ρ ⟨some d, .load ty (.tmp s),t0,pos,af,gd⟩).run P w= .ok (.value (.agg #[.int .i64 y.1,s1,s2,s3,s4,s5])) w:=by
  unfold execOp
  simp only [e2',run_loadAt_mid w g (j*6) ty [.int .i64 y.1,s1,s2,s3,s4,s5] dd hr hu hd hty.size,Sem.run_bind,Sem.run_pure,Result.andThen_ok]
 unfold Yields
 rw [hrun]
 refine ⟨⟨_,rfl,⟨trivial,k1,k2,k3,k4,k5,trivial⟩,fun u hu=> ?_⟩,Below.refl _ _⟩
 simp only [List.mem_cons,List.not_mem_nil,or_false] at hu
 rcases hu with rfl|rfl|rfl|rfl|rfl|rfl
 ·rfl
 ·exact o1 k1
 ·exact o1 k2
 ·exact o1 k3
 ·exact o1 k4
 ·exact o1 k5
def Cy (B0 B1 n:Nat) (X:List Nat) (w:World) (v:Value):Prop:=∃ (A:Option Addr) (c:Nat),v= .slice A n c∧(0<n→∃ (b off:Nat) (cs:List Value) (t:TypeId),A=some ⟨b,off,none⟩∧bt X w b∧B0≤b∧b<B1∧w.heap[b]? =some (.cells cs.toArray t (0,0))∧∀ j,j<n→∃ x:Int,cs[off+j]? =some (.int .u32 x))
theorem Cy.keep {B0 B1 n:Nat} {X X':List Nat} {w w':World} {v:Value} (h:Cy B0 B1 n X w v) (hk:eZ X w w') (hX:∀ b∈X',b<w.heap.size→b∈X):Cy B0 B1 n X' w' v:=by
 obtain ⟨A,c,e1,h1⟩:=h
 refine ⟨A,c,e1,fun hn=> ?_⟩
 obtain ⟨b,off,cs,t,g1,g2,g3,g4,g5,g6⟩:=h1 hn
 exact ⟨b,off,cs,t,g1,bt.mono hk hX b g2,g3,g4,(hk.block b g2.1 g2.2).trans g5,g6⟩
theorem Cy.chS(h:Cy B0 B1 n X w v) (hc:vj [] C0 C1 X w w'):Cy B0 B1 n X w' v:=by
 obtain ⟨A,c,e1,h1⟩:=h
 refine ⟨A,c,e1,fun hn=> ?_⟩
 obtain ⟨b,off,cs,t,g1,g2,g3,g4,g5,g6⟩:=h1 hn
 obtain ⟨cs',k1,k2,k3⟩:=hc.cells g2.1 g5
 refine ⟨b,off,cs',t,g1,bt.grow g2 hc.size,g3,g4,k1,fun j hj=> ?_⟩
 obtain ⟨x,hx⟩:=g6 j hj
 rcases k3 with k3|k3
 ·cases k3
 ·rcases k3 _ _ hx with z|⟨x',y,_,z,_⟩
  ·exact ⟨x,z⟩
  ·exact ⟨y,z⟩
def aa.lw (B0 B1 n:Nat):aa:=⟨fun X w v=>Cy B0 B1 n X w v,fun h hk hX=>h.keep hk hX⟩
instance {B0 B1 n:Nat}:yk (.lw B0 B1 n) n:=⟨fun ⟨A,c,e,_⟩=>⟨A,c,e⟩⟩
def Eh (B0 B1:Nat) (p:Nat×Nat) (X:List Nat) (w:World) (cs:List Value):Prop:=∃ (x1 x2:Bool) (s1 s2:Value),cs=[.bool x1,s1, .bool x2,s2]∧Cy B0 B1 p.1 X w s1∧Cy B0 B1 p.2 X w s2
theorem Eh.no{p:Nat×Nat} (h:Eh B0 B1 p X w cs) {x:Int}:cs[i]? ≠some (.int .u32 x):=by
 obtain ⟨x1,x2,s1,s2,e,⟨_,_,h1,_⟩,⟨_,_,h2,_⟩⟩:=h
 subst e h1 h2
 intro hi
 rcases i with _|_|_|_|i<;>simp at hi
def JM (B0 B1:Nat) (ns:List (Nat×Nat)) (X:List Nat) (w:World) (v:Value):Prop:=∃ (A:Option Addr) (c:Nat),v= .slice A ns.length c∧(0<ns.length→∃ (b:Nat) (cs:List Value) (t:TypeId),A=some ⟨b,0,none⟩∧bt X w b∧w.heap[b]? =some (.cells cs.toArray t (0,0))∧
 ∀ (j:Nat) (p:Nat×Nat),ns[j]? =some p→∃ c4,Eh B0 B1 p X w c4∧∀ (i:Nat) (u:Value),c4[i]? =some u→cs[j*4+i]? =some u)
def aa.lx (B0 B1:Nat) (ns:List (Nat×Nat)):aa:=⟨fun X w v=>JM B0 B1 ns X w v,fun ⟨A,c,e,h⟩ hk hX=>⟨A,c,e,fun hn=>by
 obtain ⟨b,cs,t,g1,g2,g5,g7⟩:=h hn
 refine ⟨b,cs,t,g1,bt.mono hk hX b g2,(hk.block b g2.1 g2.2).trans g5,fun j y hy=> ?_⟩
 obtain ⟨c4,⟨x1,x2,s1,s2,e,q1,q2⟩,k2⟩:=g7 j y hy
 exact ⟨c4,⟨x1,x2,s1,s2,e,q1.keep hk hX,q2.keep hk hX⟩,k2⟩⟩⟩
instance {B0 B1:Nat} {ns:List (Nat×Nat)}:yk (.lx B0 B1 ns) ns.length:=⟨fun ⟨A,c,e,_⟩=>⟨A,c,e⟩⟩
instance {B0 B1 C0 C1:Nat} {ns:List (Nat×Nat)}:jq [] C0 C1 (.lx B0 B1 ns):=⟨fun {X w w' v} ⟨A,c,e,h⟩ hc=>⟨A,c,e,fun hn=>by
 obtain ⟨b,cs,t,g1,g2,g5,g7⟩:=h hn
 obtain ⟨cs',k1,k2,k3⟩:=hc.cells g2.1 g5
 refine ⟨b,cs',t,g1,bt.grow g2 hc.size,k1,fun j y hy=> ?_⟩
 obtain ⟨c4,hr,k4⟩:=g7 j y hy
 have hr':=hr
 obtain ⟨x1,x2,s1,s2,e,q1,q2⟩:=hr'
 refine ⟨c4,⟨x1,x2,s1,s2,e,q1.chS hc,q2.chS hc⟩,fun i u hu=> ?_⟩
 rcases k3 with k3|k3
 ·cases k3
 ·rcases k3 _ _ (k4 i u hu) with z|⟨x,y',rfl,_⟩
  ·exact z
  ·exact absurd hu hr.no⟩⟩
def aa.lp (B0 B1 n fo:Nat):aa:=⟨fun X w v=>∃ (b o:Nat) (cs:List Value) (t:TypeId) (s:Value),v= .pointer (some ⟨b,o,none⟩)∧bt X w b∧w.heap[b]? =some (.cells cs.toArray t (0,0))∧cs[o+fo]? =some s∧Cy B0 B1 n X w s,
 fun ⟨b,o,cs,t,s,e1,g2,g3,g4,g5⟩ hk hX=>⟨b,o,cs,t,s,e1,bt.mono hk hX b g2,(hk.block b g2.1 g2.2).trans g3,g4,g5.keep hk hX⟩⟩
theorem DD{ns:List (Nat×Nat)} {p:Nat×Nat} [ho:cb E o (.lx B0 B1 ns)] [hi:cb E oi (.is (.int .i64 (j:Int)))] [ht:ca P ty 4] (hp:ns[j]? =some p):ay P w00 N L E ⟨some d, .indexAddr ty o oi,t0,pos,af,gd⟩ (.lp B0 B1 p.1 1):=by
 constructor
 intro X ρ w hc _ hN hm hsl
 obtain ⟨A,c,e1,h1⟩:=ho.get (X:=X) (w:=w) hc fun p hp e=>hsl p hp qS
 have e2:ρ oi= .int .i64 (j:Int):=hi.get (X:=X) (w:=w) hc fun p hp e=>hsl p hp qS
 have hj:=(List.getElem?_eq_some_iff.1 hp).1
 obtain ⟨b,cs,t,rfl,g2,g5,g7⟩:=h1 qO
 obtain ⟨c4,⟨x1,x2,s1,s2,rfl,q1,q2⟩,k4⟩:=g7 j p hp
 unfold Yields
 rw [mr e1 e2 hj]
 exact ⟨⟨b,_,cs,t,s1,rfl,g2,g5,by rw [Nat.zero_add];exact k4 1 s1 rfl,q1⟩,Below.refl _ _⟩
theorem xF{ns:List (Nat×Nat)} {p:Nat×Nat} [ho:cb E o (.lx B0 B1 ns)] [hi:cb E oi (.is (.int .i64 (j:Int)))] [ht:ca P ty 4] (hp:ns[j]? =some p):ay P w00 N L E ⟨some d, .indexAddr ty o oi,t0,pos,af,gd⟩ (.lp B0 B1 p.2 3):=by
 constructor
 intro X ρ w hc _ hN hm hsl
 obtain ⟨A,c,e1,h1⟩:=ho.get (X:=X) (w:=w) hc fun p hp e=>hsl p hp qS
 have e2:ρ oi= .int .i64 (j:Int):=hi.get (X:=X) (w:=w) hc fun p hp e=>hsl p hp qS
 have hj:=(List.getElem?_eq_some_iff.1 hp).1
 obtain ⟨b,cs,t,rfl,g2,g5,g7⟩:=h1 qO
 obtain ⟨c4,⟨x1,x2,s1,s2,rfl,q1,q2⟩,k4⟩:=g7 j p hp
 unfold Yields
 rw [mr e1 e2 hj]
 exact ⟨⟨b,_,cs,t,s2,rfl,g2,g5,by rw [Nat.zero_add];exact k4 3 s2 rfl,q2⟩,Below.refl _ _⟩
theorem xb{fo f:Nat} {ag:Bool} (g:Nat) [hs:bH E s (.lp B0 B1 n fo)] [hf:au P ty i f k ag] (hg:f+g=fo):ay P w00 N L E ⟨some d, .fieldAddr ty (.tmp s) i,t0,pos,af,gd⟩ (.lp B0 B1 n g):=by
 constructor
 intro X ρ w hc _ hN hm hsl
 obtain ⟨b,o,cs,t,v,e1,g2,g3,g4,g5⟩:=hsl _ hs.mem qI
 have e1':ρ (.tmp s)= .pointer (some ⟨b,o,none⟩):=e1
 unfold Yields
 rw [DR e1']
 exact ⟨⟨b,_,cs,t,v,rfl,g2,g3,by rw [Nat.add_assoc,hg];exact g4,g5⟩,Below.refl _ _⟩
theorem Ho[hs:bH E s (.lp B0 B1 n 0)] [hty:eP P ty 1 false]:ay P w00 N L E ⟨some d, .load ty (.tmp s),t0,pos,af,gd⟩ (.lw B0 B1 n):=by
 constructor
 intro X ρ w hc _ hN hm hsl
 obtain ⟨b,o,cs,t,v,e1,g2,g3,g4,g5⟩:=hsl _ hs.mem qI
 have e1':ρ (.tmp s)= .pointer (some ⟨b,o,none⟩):=e1
 obtain ⟨dd,hu,hd⟩:=hty.row
 have hcell:w.cell? ⟨b,o,none⟩=some v:=d7 g3 (by simpa using g4)
 have hag:(isAgg ty).run P w= .ok false w:=by
  unfold isAgg
  rw [Sem.run_bind,run_underlying hu w]
  cases dd<;>first|rfl|cases hd
 have hrun:(execOp ρ ⟨some d, .load ty (.tmp s),t0,pos,af,gd⟩).run P w= .ok (.value v) w:=by
  unfold execOp
  simp only [e1',Instr.loadAt,Instr.sureAddr,loadVar,Sem.run_bind,Sem.run_pure,Result.andThen_ok,hag,run_load,hcell,if_false,Bool.false_eq_true]
 unfold Yields
 rw [hrun]
 exact ⟨g5,Below.refl _ _⟩
def aa.ux (B0 B1:Nat):aa:=⟨fun X w v=>∃ (b o:Nat) (cs:List Value) (t:TypeId) (x:Int),v= .pointer (some ⟨b,o,none⟩)∧bt X w b∧B0≤b∧b<B1∧w.heap[b]? =some (.cells cs.toArray t (0,0))∧cs[o]? =some (.int .u32 x),
 fun ⟨b,o,cs,t,x,e1,g2,g3,g4,g5,g6⟩ hk hX=>⟨b,o,cs,t,x,e1,bt.mono hk hX b g2,g3,g4,(hk.block b g2.1 g2.2).trans g5,g6⟩⟩
theorem D_[ho:cb E o (.lw B0 B1 n)] [hi:cb E oi (.is (.int .i64 (j:Int)))] [ht:ca P ty 1] (hj:j<n):ay P w00 N L E ⟨some d, .indexAddr ty o oi,t0,pos,af,gd⟩ (.ux B0 B1):=by
 constructor
 intro X ρ w hc _ hN hm hsl
 obtain ⟨A,c,e1,h1⟩:=ho.get (X:=X) (w:=w) hc fun p hp e=>hsl p hp qS
 have e2:ρ oi= .int .i64 (j:Int):=hi.get (X:=X) (w:=w) hc fun p hp e=>hsl p hp qS
 obtain ⟨b,off,cs,t,rfl,g2,g3,g4,g5,g6⟩:=h1 qO
 obtain ⟨x,hx⟩:=g6 j hj
 unfold Yields
 rw [mr e1 e2 hj]
 exact ⟨⟨b,_,cs,t,x,rfl,g2,g3,g4,g5,by rw [Nat.mul_one];exact hx⟩,Below.refl _ _⟩
end
theorem C8{α:Type} {r:Rp α} {e:TypeId} {ts:List TypeId} {l:List α} {S:Nat→Prop} (hS:∀ b,bt X w b→B≤b→(∃ (c:Array Value) (t:TypeId),w.heap[b]? =some (.cells c t (0,0)))→S b) (h:(aa.to (Rp.frn B r) e ts 0 B l).holds X w v):r.row.rd w S l [v]:=
 r.row.more (wj h) fun b hb=>hS b hb.1.1 hb.2.1 hb.2.2
theorem mm{ts:List TypeId} {x:aP} {a b c d:Value} {S:Nat→Prop} (hS:∀ b,bt X w b→B≤b→(∃ (c:Array Value) (t:TypeId),w.heap[b]? =some (.cells c t (0,0)))→S b) (h1:a= .bool x.1.1) (h2:(aa.tc (Rp.frn B Rp.limbs) ts 0 x.1.2).holds X w b) (h3:c= .bool x.2.1) (h4:(aa.tc (Rp.frn B Rp.limbs) ts 0 x.2.2).holds X w d):Rp.frac.rd w S x [a,b,c,d]:=
 ⟨[a,b],[c,d],rfl,⟨[a],[b],rfl,by rw [h1];rfl,Rp.limbs.more h2 fun b hb=>hS b hb.1.1 hb.2.1 hb.2.2⟩,⟨[c],[d],rfl,by rw [h3];rfl,Rp.limbs.more h4 fun b hb=>hS b hb.1.1 hb.2.1 hb.2.2⟩⟩
theorem wD{d:am} {S:Nat→Prop} (hS:∀ b,bt X w b→B≤b→(∃ (c:Array Value) (t:TypeId),w.heap[b]? =some (.cells c t (0,0)))→S b) (h:(lR d B).holds X w v):∃ cs:List Value,v= .agg cs.toArray∧ab.rd w S d cs:=by
 obtain ⟨cs,e,h,ho⟩:=h
 obtain ⟨a0,q0,rfl,u0,h⟩:=h.uncons
 obtain ⟨a1,q1,rfl,u1,h⟩:=h.uncons
 obtain ⟨a2,q2,rfl,u2,h⟩:=h.uncons
 obtain ⟨a3a,q3a,rfl,u3a,h⟩:=h.uncons
 obtain ⟨a3b,q3b,rfl,u3b,h⟩:=h.uncons
 obtain ⟨a3c,q3c,rfl,u3c,h⟩:=h.uncons
 obtain ⟨a3d,q3d,rfl,u3d,h⟩:=h.uncons
 obtain ⟨a4a,q4a,rfl,u4a,h⟩:=h.uncons
 obtain ⟨a4b,q4b,rfl,u4b,h⟩:=h.uncons
 obtain ⟨a4c,q4c,rfl,u4c,h⟩:=h.uncons
 obtain ⟨a4d,q4d,rfl,u4d,h⟩:=h.uncons
 obtain ⟨a5,q5,rfl,u5,h⟩:=h.uncons
 obtain ⟨a6,q6,rfl,u6,h⟩:=h.uncons
 obtain ⟨a7a,q7a,rfl,u7a,h⟩:=h.uncons
 obtain ⟨a7b,q7b,rfl,u7b,h⟩:=h.uncons
 obtain ⟨a7c,q7c,rfl,u7c,h⟩:=h.uncons
 obtain ⟨a7d,q7d,rfl,u7d,h⟩:=h.uncons
 obtain ⟨a8a,q8a,rfl,u8a,h⟩:=h.uncons
 obtain ⟨a8b,q8b,rfl,u8b,h⟩:=h.uncons
 obtain ⟨a8c,q8c,rfl,u8c,h⟩:=h.uncons
 obtain ⟨a8d,q8d,rfl,u8d,h⟩:=h.uncons
 obtain ⟨a9,q9,rfl,u9,h⟩:=h.uncons
 obtain ⟨a10,q10,rfl,u10,h⟩:=h.uncons
 obtain ⟨a11,q11,rfl,u11,h⟩:=h.uncons
 obtain ⟨a12,q12,rfl,u12,h⟩:=h.uncons
 obtain rfl:=h.unnil
 exact ⟨_,e,⟨[a0],[a1,a2,a3a,a3b,a3c,a3d,a4a,a4b,a4c,a4d,a5,a6,a7a,a7b,a7c,a7d,a8a,a8b,a8c,a8d,a9,a10,a11,a12],rfl,kI u0,⟨[a1],[a2,a3a,a3b,a3c,a3d,a4a,a4b,a4c,a4d,a5,a6,a7a,a7b,a7c,a7d,a8a,a8b,a8c,a8d,a9,a10,a11,a12],rfl,kI u1,⟨[a2],[a3a,a3b,a3c,a3d,a4a,a4b,a4c,a4d,a5,a6,a7a,a7b,a7c,a7d,a8a,a8b,a8c,a8d,a9,a10,a11,a12],rfl,C8 hS u2,⟨[a3a,a3b,a3c,a3d],[a4a,a4b,a4c,a4d,a5,a6,a7a,a7b,a7c,a7d,a8a,a8b,a8c,a8d,a9,a10,a11,a12],rfl,mm hS u3a u3b u3c u3d,⟨[a4a,a4b,a4c,a4d],[a5,a6,a7a,a7b,a7c,a7d,a8a,a8b,a8c,a8d,a9,a10,a11,a12],rfl,mm hS u4a u4b u4c u4d,⟨[a5],[a6,a7a,a7b,a7c,a7d,a8a,a8b,a8c,a8d,a9,a10,a11,a12],rfl,(by rw [show a5=_ from u5];rfl),⟨[a6],[a7a,a7b,a7c,a7d,a8a,a8b,a8c,a8d,a9,a10,a11,a12],rfl,(by rw [show a6=_ from u6];rfl),⟨[a7a,a7b,a7c,a7d],[a8a,a8b,a8c,a8d,a9,a10,a11,a12],rfl,mm hS u7a u7b u7c u7d,⟨[a8a,a8b,a8c,a8d],[a9,a10,a11,a12],rfl,mm hS u8a u8b u8c u8d,⟨[a9],[a10,a11,a12],rfl,(by rw [show a9=_ from u9];rfl),⟨[a10],[a11,a12],rfl,C8 hS u10,⟨[a11],[a12],rfl,C8 hS u11,C8 hS u12⟩⟩⟩⟩⟩⟩⟩⟩⟩⟩⟩⟩⟩
instance {d:am} {B:Nat}:aJ (lR d B) 25 true:=inferInstanceAs (aJ (.st [.is (Tx (d.1)), .is (Tx (d.2.1)), .to (Rp.frn B aA) 79 [117] 0 B (d.2.2.1), .is (.bool (d.2.2.2.1).1.1), .tc (Rp.frn B Rp.limbs) [117] 0 (d.2.2.2.1).1.2, .is (.bool (d.2.2.2.1).2.1), .tc (Rp.frn B Rp.limbs) [117] 0 (d.2.2.2.1).2.2, .is (.bool (d.2.2.2.2.1).1.1), .tc (Rp.frn B Rp.limbs) [117] 0 (d.2.2.2.2.1).1.2, .is (.bool (d.2.2.2.2.1).2.1), .tc (Rp.frn B Rp.limbs) [117] 0 (d.2.2.2.2.1).2.2, .is (.int .i64 (d.2.2.2.2.2.1)), .is (.int .i64 (d.2.2.2.2.2.2.1)), .is (.bool (d.2.2.2.2.2.2.2.1).1.1), .tc (Rp.frn B Rp.limbs) [117] 0 (d.2.2.2.2.2.2.2.1).1.2, .is (.bool (d.2.2.2.2.2.2.2.1).2.1), .tc (Rp.frn B Rp.limbs) [117] 0 (d.2.2.2.2.2.2.2.1).2.2, .is (.bool (d.2.2.2.2.2.2.2.2.1).1.1), .tc (Rp.frn B Rp.limbs) [117] 0 (d.2.2.2.2.2.2.2.2.1).1.2, .is (.bool (d.2.2.2.2.2.2.2.2.1).2.1), .tc (Rp.frn B Rp.limbs) [117] 0 (d.2.2.2.2.2.2.2.2.1).2.2, .is (.int .i64 (d.2.2.2.2.2.2.2.2.2.1)), .to (Rp.frn B aO) 84 [117] 0 B (d.2.2.2.2.2.2.2.2.2.2.1), .to (Rp.frn B Rp.str) 9 [] 0 B (d.2.2.2.2.2.2.2.2.2.2.2.1), .to (Rp.frn B aq) 65 [119,121,123,125,127,117] 0 B (d.2.2.2.2.2.2.2.2.2.2.2.2)]) 25 true)
instance {d:am} {B:Nat}:zV 21 (lR d B) (.ra ab d):=⟨fun h=>wD (fun _ h _ _=>h) h⟩
def H0 (q:aP):Nat×Nat:=(q.1.2.length,q.2.2.length)
theorem uj{xs:List Int} {S:Nat→Prop} (hS:∀ b,S b→bt X w b∧B0≤b∧b<B1∧∃ (c:Array Value) (t:TypeId),w.heap[b]? =some (.cells c t (0,0))) (h:Rp.limbs.rd w S xs [v]):Cy B0 B1 xs.length X w v:=by
 obtain ⟨A,n,c,e,⟨⟨g1,g2,g3,g4,g5⟩,hf⟩,_⟩:=h
 obtain rfl:v= .slice A n c:=by simpa using e
 refine ⟨A,c,by rw [g1],fun hn=> ?_⟩
 obtain ⟨b,off,rfl,hb,hc⟩:=g5 qO
 obtain ⟨k1,k2,k3,cc,t,k4⟩:=hS b (hf qO b rfl)
 refine ⟨b,off,cc.toList,t,rfl,k1,k2,k3,by rw [k4],fun j hj=> ?_⟩
 obtain ⟨x,hx⟩:∃ x,xs[j]? =some x:=⟨_,List.getElem?_eq_getElem hj⟩
 have h1:=hc j x hx
 refine ⟨x,?_⟩
 unfold World.cell? at h1
 simp only [k4] at h1
 simpa using h1
theorem BE{q:aP} {S:Nat→Prop} (hS:∀ b,S b→bt X w b∧B0≤b∧b<B1∧∃ (c:Array Value) (t:TypeId),w.heap[b]? =some (.cells c t (0,0))) (h:Rp.frac.rd w S q cs):Eh B0 B1 (H0 q) X w cs:=by
 obtain ⟨_,_,rfl,⟨a,b,rfl,h1,h2⟩,⟨c,d,rfl,h3,h4⟩⟩:=h
 have h1:a=[.bool q.1.1]:=h1
 have h3:c=[.bool q.2.1]:=h3
 subst h1 h3
 obtain ⟨b,rfl⟩:=fu rfl h2
 obtain ⟨d,rfl⟩:=fu rfl h4
 exact ⟨_,_,b,d,rfl,uj hS h2,uj hS h4⟩
abbrev aa.cu (d:am) (B0 B1:Nat):aa:= .und B1 (lR d B0)
instance {d:am} {B0 B1:Nat}:aJ (.cu d B0 B1) 25 true:=⟨fun h=>(inferInstance:aJ (lR d B0) 25 true).ok h.2⟩
section
variable {w00:World} {N:Nat} {L:List Loc} {E:List (Nat×aa)} {d:Nat} {t0:TypeId} {pos:String} {af:Array Edge} {gd:Option (Nat×Bool)} {ats:Array TypeId}
open Classical in
theorem Bc{x:am} (hc:ox x) [hs:bH E s (.cu x B0 B1)]:ay Tryz.prog w00 N L E ⟨some d, .call { callee:= .value (.func 25),args:= #[.tmp s],argTypes:=ats },t0,pos,af,gd⟩ (.lx B0 B1 ((fK x).map H0)):=by
 constructor
 intro X ρ w hcc hff hN hm hsl
 obtain ⟨hB,hv⟩:=hsl _ hs.mem qJ
 let ok:Nat→Prop:=fun b=>B0≤b∧b<B1∧∃ (c:Array Value) (t:TypeId),w.heap[b]? =some (.cells c t (0,0))
 let X2:=X++(List.range w.heap.size).filter (fun b=> !decide (ok b))
 have hX2:∀ b,bt X2 w b↔bt X w b∧ok b:=fun b=>by
  simp only [bt,X2,List.mem_append,List.mem_filter,List.mem_range,not_or,not_and,Bool.not_eq_true',decide_eq_false_iff_not,Decidable.not_not]
  constructor
  ·rintro ⟨h1,h2,h3⟩
   exact ⟨⟨h1,h2⟩,h3 h1⟩
  ·rintro ⟨⟨h1,h2⟩,h3⟩
   exact ⟨h1,h2,fun _=>h3⟩
 have harg:(aa.tr ab [] B1 x).holds X2 w (ρ (.tmp s)):=wD (fun b h1 h2 h3=>by
  obtain ⟨g1,g2⟩:=h1
  rw [List.mem_append,not_or] at g2
  have hlt:b<B1:=by
   by_cases hb:b<B1
   ·exact hb
   ·exact absurd (ck.2 ⟨g1,by omega⟩) g2.2
  exact ⟨(hX2 b).2 ⟨⟨g1,g2.1⟩,h2,hlt,h3⟩, .inl hlt⟩) hv
 have hr:(execOp ρ ⟨some d, .call { callee:= .value (.func 25),args:= #[.tmp s],argTypes:=ats },t0,pos,af,gd⟩).run Tryz.prog w= .ok (.enter 25 #[ρ (.tmp s)]) w:=by
  have hf0:=hff 25
  have hen:a7 Tryz.prog 25:=(oE hc B1).ent
  clear hsl hs hm hN hcc hX2 harg hv
  go_simp
  try exact hen _ _
 unfold Yields
 rw [hr]
 refine ((oE hc B1).run (X:=X2) (w:=w) (vs:=[ρ (.tmp s)]) hB (fun b hb=> ?_) ⟨harg,trivial⟩).mono ?_
 ·rcases List.mem_append.1 hb with hb|hb
  ·exact hm.far b hb
  ·exact List.mem_range.1 (List.mem_filter.1 hb).1
 rintro e w' ⟨v,rfl,⟨A,c,ps,e1,e2,e3,hown,hfree⟩,hbel⟩
 refine ⟨v,rfl,⟨A,c,by rw [e1,List.length_map],fun hn=> ?_⟩,hbel⟩
 rw [List.length_map] at hn
 rcases hown.form with ⟨_,h0,_⟩|⟨g,rfl,_,_⟩
 ·omega
 obtain ⟨hvl,h0|⟨g',cap,cur,h1,h2,h3,h4,h5,h6,h7⟩⟩:=hown
 ·cases h0.1
 injection h1 with h1 _ _
 injection h1 with h1
 injection h1 with h1
 subst h1
 have hgf:=hfree g rfl
 have hmemX:∀ b∈X,b∈X2:=fun b hb=>List.mem_append_left _ hb
 refine ⟨g,cur.toList,_,rfl,⟨hgf.1,fun hx=>hgf.2 (hmemX _ hx)⟩,by rw [h3],fun j p hp=> ?_⟩
 rw [List.getElem?_map,←e2,List.getElem?_map] at hp
 cases hq:ps[j]? with
 |none=>rw [hq] at hp;cases hp
 |some q=>
  rw [hq] at hp
  obtain rfl:H0 q.1=p:=by simpa using hp
  have hrd:=e3 q (List.mem_of_getElem? hq)
  refine ⟨q.2,BE (S:=bE [] B1 X2 w') (fun b hb=> ?_) hrd,fun i u hu=> ?_⟩
  ·obtain ⟨⟨k1,k2⟩,k3⟩:=hb
   have hlt:b<B1:=by
    rcases k3 with k3|⟨_,t,_,_,k3⟩
    ·exact k3
    ·cases k3
   have hltw:b<w.heap.size:=Nat.lt_of_lt_of_le hlt hB
   obtain ⟨g1,g2,_,g4⟩:=(hX2 b).1 ⟨hltw,k2⟩
   exact ⟨⟨k1,fun hx=>k2 (hmemX _ hx)⟩,g2,hlt,by
    obtain ⟨c,t,g4⟩:=g4
    exact ⟨c,t,(hbel.block b hltw).trans g4⟩⟩
  ·have hf:=eX (fun q hq=>Rp.frac.len (e3 q hq)) hq hu
   rw [←h7] at hf
   have hlt:=(List.getElem?_eq_some_iff.1 hf).1
   rw [List.getElem?_take_of_lt (by rw [List.length_take] at hlt;omega)] at hf
   exact hf
end
theorem CF {α:Type} {l:List α} {o:Nat} {a:α} (h:o<l.length):l.take o++[a]++l.drop (o+[a].length)=l.set o a:=by
 rw [List.set_eq_take_append_cons_drop,if_pos h]
 simp
section
variable {P:Program} {w00:World} {X:List Nat} {L L1 L2:List Loc} {E E0:List (Nat×aa)} {n:Nat} {ops:Array Oper} {rest:List Oper} {Q:Exit→Act→World→Prop} {cs:List Code} {t0:TypeId} {pos:String} {af:Array Edge}
theorem FE {ty:TypeId} {s B0 B1:Nat} {y:Int} {o:Operand} (ss:List Nat) (hB0:w00.heap.size≤B0) [hs:bH E s (.ux B0 B1)] [ho:cb E o (.is (.int .u32 y))] [kk:ju E ss E0] [kL:fG [] B0 B1 L] [kE:fG [] B0 B1 E0] (hy:0≤y∧y<4294967296) (hi:(P.info? ty).map (·.size)=some 1)
 (h:GR P w00 X L E0 n ops rest cs Q):GR P w00 X L E n ops (⟨none, .store ty (.tmp s) o,t0,pos,af,none⟩::rest) cs Q:=⟨fun ac w ht=>by
 refine cj rfl ?_
 obtain ⟨g,oo,cur,t,x,e1,hf,h0,h1,h3,hx⟩:=ht.slots _ hs.mem
 have e1':ac.eval (.tmp s)= .pointer (some ⟨g,oo,none⟩):=e1
 have e2:ac.eval o= .int .u32 y:=ho.get (X:=X) (w:=w) (ρ:=ac.eval) (fun _=>rfl) fun p hp _=>ht.slots p hp
 have hlt:=(List.getElem?_eq_some_iff.1 hx).1
 have hsv:=sS (P:=P) (ty:=ty) (v:=ac.eval o) (ds:=[.int .u32 y]) h3 (by rw [e2];rfl) (fun z hz=>by rw [List.mem_singleton.1 hz];rfl) rfl (show oo+1≤cur.length by omega) hi
 have hch:=vj.put (ds:=[.int .u32 y]) (o:=oo) (e:=[]) (B0:=B0) (B1:=B1) (X:=X) h3 (show oo+1≤cur.length by omega) h0 h1 hf.2 (.inr fun i u hu=>by
  rw [CF hlt]
  by_cases hio:oo=i
  ·subst hio
   rw [hu] at hx
   injection hx with hx
   exact .inr ⟨x,y,hx,by rw [List.getElem?_set_self hlt],hy.1,hy.2⟩
  ·exact .inl (by rw [List.getElem?_set_ne hio];exact hu))
 unfold Oper.wp execOp
 simp only [e1',Instr.storeAt,Instr.sureAddr,Sem.run_bind,Sem.run_pure,Result.andThen_ok,hsv]
 exact h.run ac _ ((ht.keep (E':=E0) ss).chS hch hB0)⟩
theorem IW {Ts T1 T2:List aa} {ty:TypeId} {s r i m B0 B1:Nat} {o:Operand} {T:aa} {ag:Bool} {sv:Value} {ys:List a_} (ss:List Nat) (hB0:w00.heap.size≤B0) [hs:bH E s (.wye sv B0 B1 ys m m)] (hl:(r,aa.st Ts)∈L) [hn:ot Ts i (.wys sv B0 B1 ys m)] [h1:mj Ts i (.is sv) T1] [hu1:iV L r (.st Ts) (.st T1) L1] [h2:mj T1 i (.wy B0 B1 ys (m+1)) T2] [hu2:iV L1 r (.st T1) (.st T2) L2]
 [ho:cb E o T] [z:aJ T 6 ag] [kk:ju E ss E0] [kL:fG [65] B0 B1 L1] [kE:fG [65] B0 B1 E0] (hm:m<ys.length) (hi:(P.info? ty).map (·.size)=some 6)
 (h:GR P w00 X L2 E0 n ops rest cs Q):GR P w00 X L E n ops (⟨none, .store ty (.tmp s) o,t0,pos,af,none⟩::rest) cs Q:=⟨fun ac w ht=>by
 refine cj rfl ?_
 obtain ⟨⟨g,nn,c,e1,e2⟩,hw⟩:=ht.slots _ hs.mem
 have e2':ac.eval (.tmp s)= .pointer (some ⟨g,m*6,none⟩):=e2
 have hw':=hw
 obtain ⟨A,c',e3,hw'⟩:=hw'
 obtain ⟨b,cur,rfl,g2,g3,g4,g5,g6,g7⟩:=hw' qO
 have e4:=e3
 rw [e1] at e3
 injection e3 with e3 _ _
 injection e3 with e3
 injection e3 with e3
 subst e3
 obtain ⟨z1,z2,_,_⟩:=z.ok (ho.get (X:=X) (w:=w) (ρ:=ac.eval) (fun _=>rfl) fun p hp _=>ht.slots p hp)
 have hone:∀ x∈(ac.eval o).cells.toList,x.oneCell'=true:=fun x hx=>by
  rw [Array.all_eq_true'] at z2
  exact z2 x (by simpa using hx)
 have hlen:(ac.eval o).cells.toList.length=6:=by simpa using z1
 have hle:m*6+6≤cur.length:=qO
 have hsv:=sS (P:=P) (ty:=ty) (v:=ac.eval o) (ds:=(ac.eval o).cells.toList) g5 qE hone hlen hle hi
 have hch:=vj.put (ds:=(ac.eval o).cells.toList) (o:=m*6) (e:=[65]) (B0:=B0) (B1:=B1) (X:=X) g5 qO g3 g4 g2.2 (.inl List.mem_cons_self)
 have hnew:(w.setRow g (cur.take (m*6)++(ac.eval o).cells.toList++cur.drop (m*6+(ac.eval o).cells.toList.length)).toArray).heap[g]? =some (.cells (cur.take (m*6)++(ac.eval o).cells.toList++cur.drop (m*6+(ac.eval o).cells.toList.length)).toArray 65 (0,0)):=setRow_heap w g _ _ _ _ g5
 generalize w.setRow g (cur.take (m*6)++(ac.eval o).cells.toList++cur.drop (m*6+(ac.eval o).cells.toList.length)).toArray=w2 at hsv hch hnew
 have hwy:CI B0 B1 ys (m+1) X w2 sv:=⟨_,c',e4,fun _=>⟨g,_,rfl,bt.grow g2 hch.size,g3,g4,hnew,by simp;omega,fun j y hj hy=>by
  obtain ⟨c6,k1,k2⟩:=g7 j y qO hy
  refine ⟨c6,k1.chS hch,fun i u hu=> ?_⟩
  have hA:(cur.take (m*6)++(ac.eval o).cells.toList).length=m*6+6:=by
   rw [List.length_append,List.length_take,hlen];omega
  rw [List.getElem?_append_right (by rw [hA];omega),hA,hlen,List.getElem?_drop]
  have:=k2 i u hu
  rw [←this]
  congr 1
  omega⟩⟩
 unfold Oper.wp execOp
 simp only [e2',Instr.storeAt,Instr.sureAddr,Sem.run_bind,Sem.run_pure,Result.andThen_ok,hsv]
 obtain ⟨v,⟨c0,ev,ha,hone0⟩,f⟩:=ht.openL hl
 obtain ⟨u,hu,hu2'⟩:=ha.at_ hn.ok
 obtain ⟨rfl,_⟩:=hu2'
 have t1:TS w00 X L1 E n ac w:=f (T':= .st T1) ⟨c0,ev,by
  have:=cd.put (show (aa.is u).holds X w u from rfl) (i:=i) ha
  rw [h1.ok.1] at this
  rwa [show c0.set i u=c0 from by
   obtain ⟨hlt,he⟩:=List.getElem?_eq_some_iff.1 hu
   rw [←he,List.set_getElem_self]] at this,hone0⟩ hu1.upd
 have t2:=(t1.keep (E':=E0) ss).chS hch hB0
 obtain ⟨v2,⟨c2,ev2,ha2,hone2⟩,f2⟩:=t2.openL hu2.upd.mem
 have t3:TS w00 X L2 E0 n ac w2:=f2 (T':= .st T2) ⟨c2,ev2,by
  have hi2:T1[i]? =some (.is u):=by
   rw [←h1.ok.1,List.getElem?_set_self h1.ok.2]
  obtain ⟨u2,q1,q2⟩:=ha2.at_ hi2
  obtain rfl:u2=u:=q2
  have:=cd.put (show (aa.wy B0 B1 ys (m+1)).holds X w2 u2 from hwy) (i:=i) ha2
  rw [h2.ok.1] at this
  rwa [show c2.set i u2=c2 from by
   obtain ⟨hlt,he⟩:=List.getElem?_eq_some_iff.1 q1
   rw [←he,List.set_getElem_self]] at this,hone2⟩ hu2.upd
 exact h.run ac _ t3⟩
theorem GG{Ts:List aa} {r:Nat} {ys:List a_} {L0:List Loc} (TT:Value→List aa) (hT:∀ sv,Ts.set i (.wys sv B0 B1 ys m)=TT sv) [hn:ot Ts i (.wy B0 B1 ys m)] (h:∀ sv,GC P w00 X ((r, .st (TT sv))::L0) E n cs Q):GC P w00 X ((r, .st Ts)::L0) E n cs Q:=⟨fun a w ht=>by
 obtain ⟨v,⟨c0,ev,ha,hone0⟩,f⟩:=ht.openL List.mem_cons_self
 obtain ⟨u,hu,hw⟩:=ha.at_ hn.ok
 refine (h u).run a w (f (T':= .st (TT u)) ⟨c0,ev,?_,hone0⟩ .here)
 have:=cd.put (show (aa.wys u B0 B1 ys m).holds X w u from ⟨rfl,hw⟩) (i:=i) ha
 rw [hT u] at this
 rwa [show c0.set i u=c0 from by
  obtain ⟨hlt,he⟩:=List.getElem?_eq_some_iff.1 hu
  rw [←he,List.set_getElem_self]] at this⟩
theorem Gu {fn:Func} {R:Ending→World→Prop} (hr:fn.results= #[]) (h:∀ a w,TS w00 X L E n a w→R (.returned (.tuple #[])) w):GC P w00 X L E n [] (bodyPost P fn R):=⟨fun a w ht=>by
 refine ⟨ht.df, .tuple #[],?_,h a w ht⟩
 unfold results
 rw [hr]
 simp only [List.mapM_toArray,List.mapM_nil,map_pure,pure_bind,Sem.run_bind,Sem.run_pure,Result.andThen_ok]
 rfl⟩
theorem nL {fn:Func} {R:Ending→World→Prop} (hr:fn.results= #[]) (h:∀ a w,TS w00 X L E n a w→R (.returned (.tuple #[])) w):GT w00 X L E n (bodyPost P fn R):=⟨fun a w ht=>by
 refine ⟨ht.df, .tuple #[],?_,h a w ht⟩
 unfold results
 rw [hr]
 simp only [List.mapM_toArray,List.mapM_nil,map_pure,pure_bind,Sem.run_bind,Sem.run_pure,Result.andThen_ok]
 rfl⟩
end
end Go.Proofs.YtjjkikchncfekaaGreatDoor
