/- Package parse: what stays while rows grow; the zero filing; a filing whole. -/
import Derived.Test.YtcpeiijdgabenaaGreatDoorEW
set_option maxHeartbeats 40000000
set_option maxRecDepth 20000
set_option synthInstance.maxHeartbeats 400000
set_option synthInstance.maxSize 4000
set_option linter.unusedSimpArgs false
set_option linter.unusedVariables false
namespace Go.Proofs.YtcpeiijdgabenaaGreatDoor
open Go Go.RowKit
variable {w:World} {B k:Nat} {X:List Nat} {v:Value} {T:ai}
def Ap (w:World):List Nat:=(List.range w.heap.size).filter fun b=>match w.heap[b]? with
 |some (.cells _ t _)=>qT.contains t
 |_=>false
theorem lk{b:Nat}:b∈Ap w↔∃ cs t f,w.heap[b]? =some (.cells cs t f)∧t∈qT:=by
 unfold Ap
 rw [List.mem_filter,List.mem_range]
 constructor
 ·rintro ⟨_,h⟩
  split at h
  ·exact ⟨_,_,_,by assumption,by simpa using h⟩
  ·cases h
 ·rintro ⟨cs,t,f,h,ht⟩
  refine ⟨(Array.getElem?_eq_some_iff.1 h).1,?_⟩
  rw [h]
  simpa using ht
def ai.nr (T:ai):ai:=⟨fun X w v=>T.holds (X++Ap w) w v,fun {X X' w w' v} h hk hX=>T.stable h ⟨hk.size,fun b hb hx=>hk.block b hb fun h=>hx (List.mem_append_left _ h)⟩ fun b hb hlt=>by
 rcases List.mem_append.1 hb with hb|hb
 ·exact List.mem_append_left _ (hX b hb hlt)
 ·by_cases hx:b∈X
  ·exact List.mem_append_left _ hx
  ·refine List.mem_append_right _ ?_
   rw [lk] at hb ⊢
   rw [←hk.block b hlt hx]
   exact hb⟩
theorem m_(h:(ai.nr T).holds X w v):T.holds X w v:=T.stable h (fV.rfl' _ _) (fun _ hb _=>List.mem_append_left _ hb)
instance {B:Nat} {T:ai}:sb B (.nr T):=⟨fun {X w w' v} h hc=>T.stable h ⟨hc.1,fun b hb hx=>by
 rcases hc.2 b hb fun h=>hx (List.mem_append_left _ h) with g|g
 ·exact g
 ·exact absurd (List.mem_append_right _ (lk.2 g.2)) hx⟩ fun b hb hlt=>by
 rcases List.mem_append.1 hb with hb|hb
 ·exact List.mem_append_left _ hb
 ·by_cases hx:b∈X
  ·exact List.mem_append_left _ hx
  ·refine List.mem_append_right _ ?_
   rcases hc.2 b hlt hx with g|g
   ·rw [lk] at hb ⊢
    rw [←g]
    exact hb
   ·exact lk.2 g.2⟩
theorem aR.cast{P:Program} {w00:World} {N:Nat} {L:List Loc} {E:List (Nat×ai)} {s:Nat} {T' U:ai} {o:Oper} [k:ce E s T] (hc:∀ X w v,T.holds X w v→T'.holds X w v) (h:aR P w00 N L ((s,T')::E) o U):aR P w00 N L E o U:=⟨fun X ρ w h1 h2 h3 h4 h5=>h.run X ρ w h1 h2 h3 h4 fun p hp ho=>by
 rcases List.mem_cons.1 hp with rfl|hp
 ·exact hc _ _ _ (h5 _ k.mem ho)
 ·exact h5 p hp ho⟩
theorem Fy{α:Type} {r:Rp α} {e:TypeId} {S:Nat→Prop} {l:List α} {cs:List Value} (hr:∀ {S':Nat→Prop} {a:α} {cs:List Value},r.rd w S a cs→r.rd w S' a cs) (h:(Rp.own r e).rd w S l cs):(Rp.own r e).rd w (fun b=>S b∧∃ cs f,w.heap[b]? =some (.cells cs e f)) l cs:=by
 obtain ⟨A,n,c,rfl,⟨h1,h2,h3,h4,h5⟩,h6⟩:=h
 refine ⟨A,n,c,rfl,⟨h1,h2,h3,h4,fun hn=> ?_⟩,h6⟩
 obtain ⟨b,off,hA,hS,hj⟩:=h5 hn
 obtain ⟨_,cur,hcur⟩:=h6 b off hA hn
 exact ⟨b,off,hA,⟨hS,cur,_,hcur⟩,fun j a ha=>by
  obtain ⟨cs,g1,g2⟩:=hj j a ha
  exact ⟨cs,g1,hr g2⟩⟩
theorem C6{S S':Nat→Prop} {a:Wd} {cs:List Value} (h:Rp.wd.rd w S a cs):Rp.wd.rd w S' a cs:=by
 obtain ⟨c1,c2,rfl,h1,h2⟩:=h
 exact ⟨c1,c2,rfl,gi h1,h2⟩
theorem Ii{l:List Ln} (h:(ai.ow (Rp.lo 68 B) 66 tt B l).holds X w v):(ai.nr (.rw Rp.lr tt l)).holds X w v:=by
 have hnr:∀ {b:Nat} {cs:Array Value} {t:TypeId} {f},cZ X w b→w.heap[b]? =some (.cells cs t f)→t ∉ qT→cZ (X++Ap w) w b:=fun {b cs t f} hf hb ht=>⟨hf.1,fun hm=>by
  rcases List.mem_append.1 hm with hm|hm
  ·exact hf.2 hm
  ·obtain ⟨cs2,t2,f2,e2,ht2⟩:=lk.1 hm
   rw [hb] at e2
   injection e2 with e2
   injection e2 with _ e2 _
   exact ht (e2▸ht2)⟩
 have:(ai.ow (Rp.lo 68 B) 66 tt B l).holds (X++Ap w) w v:=by
  obtain ⟨A,c,ps,h1,h2,h3,h4,h5,h6⟩:=h
  refine ⟨A,c,ps,h1,h2,fun q hq=>⟨trivial,?_⟩,h4,fun g hg=> ?_,h6⟩
  ·obtain ⟨c1,c2,e,g1,g2⟩:=(h3 q hq).2
   refine ⟨c1,c2,e,Rp.more _ (Fy C6 g1) ?_,g2⟩
   rintro b ⟨⟨⟨k1,k2⟩,k3⟩,cs,f,k4⟩
   exact ⟨⟨hnr k1 k4 qD,k2⟩,k3⟩
  ·obtain ⟨cur,hcur⟩:=h4.type hg
   exact hnr (h5 g hg) hcur qD
 exact CP.ok this
abbrev j7:List TypeId:=[9,122,124,80,130,82,132,134,136,128]
theorem lh{x:List Int} (h:(ai.tc (Rp.frn B Rp.limbs) [128] 0 x).holds X w v):(Rp.frn B Rp.limbs).rd w (cu j7 0 X w) x [v]:=by
 haveI:fz [128] j7:=⟨by decide⟩
 exact Rp.more _ h (cu.sub (s:= ‹_›))
theorem Hd{d:ar} (h:(ai.st (FA B d)).holds X w v):(ai.tr (Rp.frn B a7) j7 0 d).holds X w v:=by
 obtain ⟨cs,e,h,ho⟩:=h
 obtain ⟨a0,r0,rfl,u0,h⟩:=h.unconsP
 obtain ⟨a1,r1,rfl,u1,h⟩:=h.unconsP
 obtain ⟨a2,r2,rfl,u2,h⟩:=h.unconsP
 obtain ⟨a3a,r3,rfl,u3a,h⟩:=h.unconsP
 obtain ⟨a3b,r4,rfl,u3b,h⟩:=h.unconsP
 obtain ⟨a3c,r5,rfl,u3c,h⟩:=h.unconsP
 obtain ⟨a3d,r6,rfl,u3d,h⟩:=h.unconsP
 obtain ⟨a4a,r7,rfl,u4a,h⟩:=h.unconsP
 obtain ⟨a4b,r8,rfl,u4b,h⟩:=h.unconsP
 obtain ⟨a4c,r9,rfl,u4c,h⟩:=h.unconsP
 obtain ⟨a4d,r10,rfl,u4d,h⟩:=h.unconsP
 obtain ⟨a5,r11,rfl,u5,h⟩:=h.unconsP
 obtain ⟨a6,r12,rfl,u6,h⟩:=h.unconsP
 obtain ⟨a7a,r13,rfl,u7a,h⟩:=h.unconsP
 obtain ⟨a7b,r14,rfl,u7b,h⟩:=h.unconsP
 obtain ⟨a7c,r15,rfl,u7c,h⟩:=h.unconsP
 obtain ⟨a7d,r16,rfl,u7d,h⟩:=h.unconsP
 obtain ⟨a8a,r17,rfl,u8a,h⟩:=h.unconsP
 obtain ⟨a8b,r18,rfl,u8b,h⟩:=h.unconsP
 obtain ⟨a8c,r19,rfl,u8c,h⟩:=h.unconsP
 obtain ⟨a8d,r20,rfl,u8d,h⟩:=h.unconsP
 obtain ⟨a9,r21,rfl,u9,h⟩:=h.unconsP
 obtain ⟨a10,r22,rfl,u10,h⟩:=h.unconsP
 obtain ⟨a11,r23,rfl,u11,h⟩:=h.unconsP
 obtain ⟨a12,r24,rfl,u12,h⟩:=h.unconsP
 obtain rfl:=h.unnilP
 haveI:fz [122,128] j7:=⟨by decide⟩
 haveI:fz [124,128] j7:=⟨by decide⟩
 haveI:fz [9] j7:=⟨by decide⟩
 haveI:fz [80,130,82,132,134,136,128] j7:=⟨by decide⟩
 exact ⟨_,e,⟨[a0],[a1,a2,a3a,a3b,a3c,a3d,a4a,a4b,a4c,a4d,a5,a6,a7a,a7b,a7c,a7d,a8a,a8b,a8c,a8d,a9,a10,a11,a12],rfl,fP u0,⟨[a1],[a2,a3a,a3b,a3c,a3d,a4a,a4b,a4c,a4d,a5,a6,a7a,a7b,a7c,a7d,a8a,a8b,a8c,a8d,a9,a10,a11,a12],rfl,fP u1,⟨[a2],[a3a,a3b,a3c,a3d,a4a,a4b,a4c,a4d,a5,a6,a7a,a7b,a7c,a7d,a8a,a8b,a8c,a8d,a9,a10,a11,a12],rfl,kp (Nat.le_refl _) u2,⟨[a3a,a3b,a3c,a3d],[a4a,a4b,a4c,a4d,a5,a6,a7a,a7b,a7c,a7d,a8a,a8b,a8c,a8d,a9,a10,a11,a12],rfl,⟨[a3a,a3b],[a3c,a3d],rfl,⟨[a3a],[a3b],rfl,(by rw [show a3a=_ from u3a];rfl),lh u3b⟩,⟨[a3c],[a3d],rfl,(by rw [show a3c=_ from u3c];rfl),lh u3d⟩⟩,⟨[a4a,a4b,a4c,a4d],[a5,a6,a7a,a7b,a7c,a7d,a8a,a8b,a8c,a8d,a9,a10,a11,a12],rfl,⟨[a4a,a4b],[a4c,a4d],rfl,⟨[a4a],[a4b],rfl,(by rw [show a4a=_ from u4a];rfl),lh u4b⟩,⟨[a4c],[a4d],rfl,(by rw [show a4c=_ from u4c];rfl),lh u4d⟩⟩,⟨[a5],[a6,a7a,a7b,a7c,a7d,a8a,a8b,a8c,a8d,a9,a10,a11,a12],rfl,(by rw [show a5=_ from u5];rfl),⟨[a6],[a7a,a7b,a7c,a7d,a8a,a8b,a8c,a8d,a9,a10,a11,a12],rfl,(by rw [show a6=_ from u6];rfl),⟨[a7a,a7b,a7c,a7d],[a8a,a8b,a8c,a8d,a9,a10,a11,a12],rfl,⟨[a7a,a7b],[a7c,a7d],rfl,⟨[a7a],[a7b],rfl,(by rw [show a7a=_ from u7a];rfl),lh u7b⟩,⟨[a7c],[a7d],rfl,(by rw [show a7c=_ from u7c];rfl),lh u7d⟩⟩,⟨[a8a,a8b,a8c,a8d],[a9,a10,a11,a12],rfl,⟨[a8a,a8b],[a8c,a8d],rfl,⟨[a8a],[a8b],rfl,(by rw [show a8a=_ from u8a];rfl),lh u8b⟩,⟨[a8c],[a8d],rfl,(by rw [show a8c=_ from u8c];rfl),lh u8d⟩⟩,⟨[a9],[a10,a11,a12],rfl,(by rw [show a9=_ from u9];rfl),⟨[a10],[a11,a12],rfl,kp (Nat.le_refl _) u10,⟨[a11],[a12],rfl,kp (Nat.le_refl _) u11,kp (Nat.le_refl _) u12⟩⟩⟩⟩⟩⟩⟩⟩⟩⟩⟩⟩⟩
theorem il{C:Nat} {ts:List TypeId} :(ai.tc (Rp.frn B Rp.limbs) ts C []).holds X w (.slice none 0 0):=
 ⟨none,0,0,rfl,⟨⟨rfl,Nat.le_refl _,by decide,fun _=>rfl,fun h=>absurd h qO⟩,fun h=>absurd h qO⟩,fun x hx=>by cases hx⟩
def EI:List Value:=[Tx [],Tx [], .slice none 0 0, .bool false, .slice none 0 0, .bool false, .slice none 0 0, .bool false, .slice none 0 0, .bool false, .slice none 0 0, .int .i64 0, .int .i64 0, .bool false, .slice none 0 0, .bool false, .slice none 0 0, .bool false, .slice none 0 0, .bool false, .slice none 0 0, .int .i64 0, .slice none 0 0, .slice none 0 0, .slice none 0 0]
instance (priority:=20000):cX Tryz.prog 44 (.cs EI):=⟨⟨.agg EI.toArray,fun X w=>rfl,fun o ρ w e=>by
 cases o with
 |mk dst op ty pos af gd=>
  have e':op=_:=e
  subst e'
  go_simp
  rfl⟩⟩
theorem Bu(h:(ai.cs EI).holds X w v):(ai.fx B cD false).holds X w v:=by
 have h:v.cells=EI.toArray:=h
 have hv:v= .agg EI.toArray:=by
  cases v with
  |agg a=>exact congrArg Value.agg h
  |_=>exact absurd (show 1=25 from congrArg Array.size h) qD
 refine ⟨EI,hv,?_,?_⟩
 ·exact ⟨rfl,rfl,ky rfl,rfl,il,rfl,il,rfl,il,rfl,il,rfl,rfl,rfl,il,rfl,il,rfl,il,rfl,il,rfl,ky rfl,ky rfl,ky rfl,trivial⟩
 ·intro u hu
  have:=(by decide:EI.all (·.oneCell')=true)
  exact List.all_eq_true.1 this u hu
theorem uq(h:(ai.tr a7 [] 0 cD).holds X w v):(ai.tr (Rp.frn B a7) j7 0 cD).holds X w v:=by
 obtain ⟨cs,e,h⟩:=h
 refine ⟨cs,e,a7.more h ?_⟩
 rintro b ⟨_,h|⟨_,_,_,_,h⟩⟩
 ·exact absurd h (Nat.not_lt_zero _)
 ·cases h
def cb (l:List cI):cI:=l.getLast?.getD (0,[],[],[],[],[])
def fT (s:ar×Bool) (k:Nat) (w0:Wd) (ws:List Wd):Option (ar×Bool)×Int×Int:=match k with
 |1=>((fB yV ws w0.2 s.1).1.map fun x=>(x,false),(fB yV ws w0.2 s.1).2)
 |3=>((fB yK ws w0.2 s.1).1.map fun x=>(x,false),(fB yK ws w0.2 s.1).2)
 |4=>((fB xU ws w0.2 s.1).1.map fun x=>(x,false),(fB xU ws w0.2 s.1).2)
 |5=>((fB yn ws w0.2 s.1).1.map fun x=>(x,false),(fB yn ws w0.2 s.1).2)
 |6=>((fB za ws w0.2 s.1).1.map fun x=>(x,false),(fB za ws w0.2 s.1).2)
 |7=>((fB yh ws w0.2 s.1).1.map fun x=>(x,false),(fB yh ws w0.2 s.1).2)
 |2=>((eS (s.1.2.2.1).length 16 fk ws w0.2 d9).1.map fun x=>(lC s.1 (s.1.2.2.1++[x]),false),(eS (s.1.2.2.1).length 16 fk ws w0.2 d9).2)
 |9=>((eS (s.1.2.2.2.2.2.2.2.2.2.2.2.1).length 256 f6 ws w0.2 ([]:List UInt8)).1.map fun x=>(lq s.1 (s.1.2.2.2.2.2.2.2.2.2.2.2.1++[x]),false),(eS (s.1.2.2.2.2.2.2.2.2.2.2.2.1).length 256 f6 ws w0.2 ([]:List UInt8)).2)
 |10=>((eS (s.1.2.2.2.2.2.2.2.2.2.2.2.2).length 40 jE ws w0.2 0).1.map fun x=>(eI s.1 (s.1.2.2.2.2.2.2.2.2.2.2.2.2++[(x,[],[],[],[],[])]),true),(eS (s.1.2.2.2.2.2.2.2.2.2.2.2.2).length 40 jE ws w0.2 0).2)
 |11=>(((eS ((cb (s.1.2.2.2.2.2.2.2.2.2.2.2.2)).2.1).length 4096 jI ws w0.2 gB).1.map fun x=>((cb (s.1.2.2.2.2.2.2.2.2.2.2.2.2)).1,(cb (s.1.2.2.2.2.2.2.2.2.2.2.2.2)).2.1++[x],(cb (s.1.2.2.2.2.2.2.2.2.2.2.2.2)).2.2.1,(cb (s.1.2.2.2.2.2.2.2.2.2.2.2.2)).2.2.2.1,(cb (s.1.2.2.2.2.2.2.2.2.2.2.2.2)).2.2.2.2.1,(cb (s.1.2.2.2.2.2.2.2.2.2.2.2.2)).2.2.2.2.2)).map fun y=>(eI s.1 ((s.1.2.2.2.2.2.2.2.2.2.2.2.2).dropLast++[y]),true),(eS ((cb (s.1.2.2.2.2.2.2.2.2.2.2.2.2)).2.1).length 4096 jI ws w0.2 gB).2)
 |12=>(((eS ((cb (s.1.2.2.2.2.2.2.2.2.2.2.2.2)).2.2.1).length 4096 jF ws w0.2 gD).1.map fun x=>((cb (s.1.2.2.2.2.2.2.2.2.2.2.2.2)).1,(cb (s.1.2.2.2.2.2.2.2.2.2.2.2.2)).2.1,(cb (s.1.2.2.2.2.2.2.2.2.2.2.2.2)).2.2.1++[x],(cb (s.1.2.2.2.2.2.2.2.2.2.2.2.2)).2.2.2.1,(cb (s.1.2.2.2.2.2.2.2.2.2.2.2.2)).2.2.2.2.1,(cb (s.1.2.2.2.2.2.2.2.2.2.2.2.2)).2.2.2.2.2)).map fun y=>(eI s.1 ((s.1.2.2.2.2.2.2.2.2.2.2.2.2).dropLast++[y]),true),(eS ((cb (s.1.2.2.2.2.2.2.2.2.2.2.2.2)).2.2.1).length 4096 jF ws w0.2 gD).2)
 |13=>(((eS ((cb (s.1.2.2.2.2.2.2.2.2.2.2.2.2)).2.2.2.1).length 4096 fb ws w0.2 (true,[],0,[],[],[],zz)).1.map fun x=>((cb (s.1.2.2.2.2.2.2.2.2.2.2.2.2)).1,(cb (s.1.2.2.2.2.2.2.2.2.2.2.2.2)).2.1,(cb (s.1.2.2.2.2.2.2.2.2.2.2.2.2)).2.2.1,(cb (s.1.2.2.2.2.2.2.2.2.2.2.2.2)).2.2.2.1++[x],(cb (s.1.2.2.2.2.2.2.2.2.2.2.2.2)).2.2.2.2.1,(cb (s.1.2.2.2.2.2.2.2.2.2.2.2.2)).2.2.2.2.2)).map fun y=>(eI s.1 ((s.1.2.2.2.2.2.2.2.2.2.2.2.2).dropLast++[y]),true),(eS ((cb (s.1.2.2.2.2.2.2.2.2.2.2.2.2)).2.2.2.1).length 4096 fb ws w0.2 (true,[],0,[],[],[],zz)).2)
 |14=>(((eS ((cb (s.1.2.2.2.2.2.2.2.2.2.2.2.2)).2.2.2.1).length 4096 fb ws w0.2 (false,[],0,[],[],[],zz)).1.map fun x=>((cb (s.1.2.2.2.2.2.2.2.2.2.2.2.2)).1,(cb (s.1.2.2.2.2.2.2.2.2.2.2.2.2)).2.1,(cb (s.1.2.2.2.2.2.2.2.2.2.2.2.2)).2.2.1,(cb (s.1.2.2.2.2.2.2.2.2.2.2.2.2)).2.2.2.1++[x],(cb (s.1.2.2.2.2.2.2.2.2.2.2.2.2)).2.2.2.2.1,(cb (s.1.2.2.2.2.2.2.2.2.2.2.2.2)).2.2.2.2.2)).map fun y=>(eI s.1 ((s.1.2.2.2.2.2.2.2.2.2.2.2.2).dropLast++[y]),true),(eS ((cb (s.1.2.2.2.2.2.2.2.2.2.2.2.2)).2.2.2.1).length 4096 fb ws w0.2 (false,[],0,[],[],[],zz)).2)
 |15=>(((eS ((cb (s.1.2.2.2.2.2.2.2.2.2.2.2.2)).2.2.2.2.1).length 4096 ia ws w0.2 fu).1.map fun x=>((cb (s.1.2.2.2.2.2.2.2.2.2.2.2.2)).1,(cb (s.1.2.2.2.2.2.2.2.2.2.2.2.2)).2.1,(cb (s.1.2.2.2.2.2.2.2.2.2.2.2.2)).2.2.1,(cb (s.1.2.2.2.2.2.2.2.2.2.2.2.2)).2.2.2.1,(cb (s.1.2.2.2.2.2.2.2.2.2.2.2.2)).2.2.2.2.1++[x],(cb (s.1.2.2.2.2.2.2.2.2.2.2.2.2)).2.2.2.2.2)).map fun y=>(eI s.1 ((s.1.2.2.2.2.2.2.2.2.2.2.2.2).dropLast++[y]),true),(eS ((cb (s.1.2.2.2.2.2.2.2.2.2.2.2.2)).2.2.2.2.1).length 4096 ia ws w0.2 fu).2)
 |16=>(((eS ((cb (s.1.2.2.2.2.2.2.2.2.2.2.2.2)).2.2.2.2.2).length 4096 jC ws w0.2 gF).1.map fun x=>((cb (s.1.2.2.2.2.2.2.2.2.2.2.2.2)).1,(cb (s.1.2.2.2.2.2.2.2.2.2.2.2.2)).2.1,(cb (s.1.2.2.2.2.2.2.2.2.2.2.2.2)).2.2.1,(cb (s.1.2.2.2.2.2.2.2.2.2.2.2.2)).2.2.2.1,(cb (s.1.2.2.2.2.2.2.2.2.2.2.2.2)).2.2.2.2.1,(cb (s.1.2.2.2.2.2.2.2.2.2.2.2.2)).2.2.2.2.2++[x])).map fun y=>(eI s.1 ((s.1.2.2.2.2.2.2.2.2.2.2.2.2).dropLast++[y]),true),(eS ((cb (s.1.2.2.2.2.2.2.2.2.2.2.2.2)).2.2.2.2.2).length 4096 jC ws w0.2 gF).2)
 |_=>(none,w0.2,90)
def mj (y:cI):Nat:=(y.2.1).length+(y.2.2.1).length+(y.2.2.2.1).length+(y.2.2.2.2.1).length+(y.2.2.2.2.2).length
def io (d:ar):Nat:=(d.2.2.1).length+(d.2.2.2.2.2.2.2.2.2.2.1).length+(d.2.2.2.2.2.2.2.2.2.2.2.1).length+(d.2.2.2.2.2.2.2.2.2.2.2.2).length+((d.2.2.2.2.2.2.2.2.2.2.2.2).map mj).sum
theorem cF {l:List cI} {y:cI}:cb (l++[y])=y∧(l++[y]).dropLast=l:=⟨by unfold cb;simp,by simp⟩
theorem lH {d:ar} {l:List cI} {y:cI} (h:d.2.2.2.2.2.2.2.2.2.2.2.2=l++[y]):mj y≤io d∧l.length≤io d:=by
 unfold io
 rw [h]
 simp only [List.length_append,List.length_cons,List.length_nil,List.map_append,List.sum_append,List.map_cons,List.map_nil,List.sum_cons,List.sum_nil]
 omega
theorem GH{rf:Nat} {w0:Wd} {ws:List Wd} {at_:Int} {s:ar×Bool} (hl:ws.length≤100000) (hw:∀ x∈ws,x.1.length≤65536) (hn:io s.1≤100000) (h1:1≤k∧k≤16∧k≠8) (h2:k≤9→s.2=false) (h3:11≤k→s.2=true∧s.1.2.2.2.2.2.2.2.2.2.2.2.2≠[]):lP Tryz.prog (dk B) 38 B (fun s:ar×Bool=>[(rf,ai.fx B s.1 s.2)]) [.is (.pointer (some ⟨rf,0,none⟩)), .is (.int .u8 k), .ra Rp.lr (w0::ws,at_)] s (fT s k w0 ws).1 (.tup [.is (.int .i64 (fT s k w0 ws).2.1), .is (.int .i64 (fT s k w0 ws).2.2)]):=by
 obtain ⟨d,ph⟩:=s
 replace hn:io d≤100000:=hn
 have hb:(d.2.2.1).length≤100000∧(d.2.2.2.2.2.2.2.2.2.2.2.1).length≤100000∧(d.2.2.2.2.2.2.2.2.2.2.2.2).length≤100000:=by
  simp only [io] at hn
  omega
 obtain ⟨k1,k2,k8⟩:=h1
 have h9:k=1∨k=2∨k=3∨k=4∨k=5∨k=6∨k=7∨k=9∨k=10∨k=11∨k=12∨k=13∨k=14∨k=15∨k=16:=qO
 have hit:11≤k→ph=true∧∃ l y,d.2.2.2.2.2.2.2.2.2.2.2.2=l++[y]:=fun h=>⟨(h3 h).1,_,_,(List.dropLast_concat_getLast (h3 h).2).symm⟩
 rcases h9 with rfl|rfl|rfl|rfl|rfl|rfl|rfl|rfl|rfl|rfl|rfl|rfl|rfl|rfl|rfl
 ·obtain rfl:ph=false:=h2 qD
  exact iU rfl rfl rfl (Fq hl hw).h.fx0
 ·obtain rfl:ph=false:=h2 qD
  have:=(Gw (B:=B) (rf:=rf) (w0:=w0) (at_:=at_) (d:=d) hl hw hb.1).fx0
  rw [Option.map_map] at this
  exact wx rfl rfl rfl this
 ·obtain rfl:ph=false:=h2 qD
  exact iU rfl rfl rfl (FI hl hw).h.fx0
 ·obtain rfl:ph=false:=h2 qD
  exact iU rfl rfl rfl (Gk hl hw).h.fx0
 ·obtain rfl:ph=false:=h2 qD
  exact iU rfl rfl rfl (FB hl hw).h.fx0
 ·obtain rfl:ph=false:=h2 qD
  exact iU rfl rfl rfl (E5 hl hw).h.fx0
 ·obtain rfl:ph=false:=h2 qD
  exact iU rfl rfl rfl (FH hl hw).h.fx0
 ·obtain rfl:ph=false:=h2 qD
  have:=(E4 (B:=B) (rf:=rf) (w0:=w0) (at_:=at_) (d:=d) hl hw hb.2.1).fx0
  rw [Option.map_map] at this
  exact r_ rfl rfl rfl this
 ·exact r_ rfl rfl rfl (Ed hl hw hb.2.2)
 ·obtain ⟨rfl,l,y,hd⟩:=hit qD
  have hy:=lH hd
  have hyn:(y.2.1).length≤100000:=by
   have:=hy.1
   simp only [mj] at this
   omega
  have:=gR (B:=B) (rf:=rf) (k:=11) (ln:=(w0::ws,at_)) rfl hd (by have:=hy.2;omega) fun b c C hBC=>Al (b:=b) (c:=c) (d:=d) (l:=l) (y:=y) (w0:=w0) (at_:=at_) hl hw hBC hyn
  show lP _ _ _ _ _ _ _ (fT (d,true) 11 w0 ws).1 _
  unfold fT
  simp only [hd,cF.1,cF.2]
  exact this
 ·obtain ⟨rfl,l,y,hd⟩:=hit qD
  have hy:=lH hd
  have hyn:(y.2.2.1).length≤100000:=by
   have:=hy.1
   simp only [mj] at this
   omega
  have:=gR (B:=B) (rf:=rf) (k:=12) (ln:=(w0::ws,at_)) rfl hd (by have:=hy.2;omega) fun b c C hBC=>zv (b:=b) (c:=c) (d:=d) (l:=l) (y:=y) (w0:=w0) (at_:=at_) hl hw hBC hyn
  show lP _ _ _ _ _ _ _ (fT (d,true) 12 w0 ws).1 _
  unfold fT
  simp only [hd,cF.1,cF.2]
  exact this
 ·obtain ⟨rfl,l,y,hd⟩:=hit qD
  have hy:=lH hd
  have hyn:(y.2.2.2.1).length≤100000:=by
   have:=hy.1
   simp only [mj] at this
   omega
  have:=gR (B:=B) (rf:=rf) (k:=13) (ln:=(w0::ws,at_)) rfl hd (by have:=hy.2;omega) fun b c C hBC=>Bp (b:=b) (c:=c) (d:=d) (l:=l) (y:=y) (w0:=w0) (at_:=at_) hl hw hBC hyn
  show lP _ _ _ _ _ _ _ (fT (d,true) 13 w0 ws).1 _
  unfold fT
  simp only [hd,cF.1,cF.2]
  exact this
 ·obtain ⟨rfl,l,y,hd⟩:=hit qD
  have hy:=lH hd
  have hyn:(y.2.2.2.1).length≤100000:=by
   have:=hy.1
   simp only [mj] at this
   omega
  have:=gR (B:=B) (rf:=rf) (k:=14) (ln:=(w0::ws,at_)) rfl hd (by have:=hy.2;omega) fun b c C hBC=>zr (b:=b) (c:=c) (d:=d) (l:=l) (y:=y) (w0:=w0) (at_:=at_) hl hw hBC hyn
  show lP _ _ _ _ _ _ _ (fT (d,true) 14 w0 ws).1 _
  unfold fT
  simp only [hd,cF.1,cF.2]
  exact this
 ·obtain ⟨rfl,l,y,hd⟩:=hit qD
  have hy:=lH hd
  have hyn:(y.2.2.2.2.1).length≤100000:=by
   have:=hy.1
   simp only [mj] at this
   omega
  have:=gR (B:=B) (rf:=rf) (k:=15) (ln:=(w0::ws,at_)) rfl hd (by have:=hy.2;omega) fun b c C hBC=>zO (b:=b) (c:=c) (d:=d) (l:=l) (y:=y) (w0:=w0) (at_:=at_) hl hw hBC hyn
  show lP _ _ _ _ _ _ _ (fT (d,true) 15 w0 ws).1 _
  unfold fT
  simp only [hd,cF.1,cF.2]
  exact this
 ·obtain ⟨rfl,l,y,hd⟩:=hit qD
  have hy:=lH hd
  have hyn:(y.2.2.2.2.2).length≤100000:=by
   have:=hy.1
   simp only [mj] at this
   omega
  have:=gR (B:=B) (rf:=rf) (k:=16) (ln:=(w0::ws,at_)) rfl hd (by have:=hy.2;omega) fun b c C hBC=>Ba (b:=b) (c:=c) (d:=d) (l:=l) (y:=y) (w0:=w0) (at_:=at_) hl hw hBC hyn
  show lP _ _ _ _ _ _ _ (fT (d,true) 16 w0 ws).1 _
  unfold fT
  simp only [hd,cF.1,cF.2]
  exact this
theorem zw {σ:Type}:∀ (gs:List (σ→List UInt8→Option σ)) (ws:List Wd) (a:Int) (s:σ),(fB gs ws a s).1.isSome=((fB gs ws a s).2.2==0)
 |[],[],_,_=>rfl
 |[],_::_,_,_=>rfl
 |_::_,[],_,_=>rfl
 |g::gs,w::ws,a,s=>by
  unfold fB
  cases g s w.1 with
  |none=>rfl
  |some s'=>exact zw gs ws a s'
theorem EN {σ:Type} {are most:Int} {gs:List (σ→List UInt8→Option σ)} {ws:List Wd} {a:Int} {s:σ}:(eS are most gs ws a s).1.isSome=((eS are most gs ws a s).2.2==0):=by
 unfold eS
 cases decide (most≤are) with
 |true=>rfl
 |false=>exact zw gs ws a s
theorem jb {σ:Type} (p:σ→Prop):∀ (gs:List (σ→List UInt8→Option σ)),(∀ g∈gs,∀ s t s',p s→g s t=some s'→p s')→∀ (ws:List Wd) (a:Int) (s s':σ),p s→(fB gs ws a s).1=some s'→p s'
 |[],_,[],_,s,s',hs,h=>by
  obtain rfl:=Option.some.inj h
  exact hs
 |[],_,_::_,_,_,_,_,h=>by cases h
 |_::_,_,[],_,_,_,_,h=>by cases h
 |g::gs,hg,w::ws,a,s,s',hs,h=>by
  unfold fB at h
  cases hq:g s w.1 with
  |none=>rw [hq] at h;cases h
  |some s1=>
   rw [hq] at h
   exact jb p gs (fun g hm=>hg g (List.mem_cons_of_mem _ hm)) ws a s1 s' (hg g List.mem_cons_self s w.1 s1 hs hq) h
theorem CH (s:ar×Bool) (k:Nat) (w0:Wd) (ws:List Wd):(fT s k w0 ws).1.isSome=((fT s k w0 ws).2.2==0):=by
 unfold fT
 split<;>first|rfl|(rw [Option.isSome_map];exact zw _ _ _ _)|(rw [Option.isSome_map];exact EN)|(rw [Option.isSome_map,Option.isSome_map];exact EN)
def gN (d0 d:ar):Prop:=io d=io d0∧d.2.2.2.2.2.2.2.2.2.2.2.2=d0.2.2.2.2.2.2.2.2.2.2.2.2
theorem BF {d0:ar}:(∀ g∈yV,∀ s t s',gN d0 s→g s t=some s'→gN d0 s')∧(∀ g∈yK,∀ s t s',gN d0 s→g s t=some s'→gN d0 s')∧(∀ g∈xU,∀ s t s',gN d0 s→g s t=some s'→gN d0 s')∧(∀ g∈yn,∀ s t s',gN d0 s→g s t=some s'→gN d0 s')∧(∀ g∈za,∀ s t s',gN d0 s→g s t=some s'→gN d0 s')∧(∀ g∈yh,∀ s t s',gN d0 s→g s t=some s'→gN d0 s'):=by
 refine ⟨?_,?_,?_,?_,?_,?_⟩
 ·intro g hg s t s' hs h
  simp only [yV,List.mem_cons,List.not_mem_nil,or_false] at hg
  rcases hg with rfl|rfl<;>(obtain ⟨x,_,rfl⟩:=Option.map_eq_some_iff.1 h;exact hs)
 ·intro g hg s t s' hs h
  simp only [yK,List.mem_cons,List.not_mem_nil,or_false] at hg
  rcases hg with rfl<;>(obtain ⟨x,_,rfl⟩:=Option.map_eq_some_iff.1 h;exact hs)
 ·intro g hg s t s' hs h
  simp only [xU,List.mem_cons,List.not_mem_nil,or_false] at hg
  rcases hg with rfl<;>(obtain ⟨x,_,rfl⟩:=Option.map_eq_some_iff.1 h;exact hs)
 ·intro g hg s t s' hs h
  simp only [yn,List.mem_cons,List.not_mem_nil,or_false] at hg
  rcases hg with rfl<;>(obtain ⟨x,_,rfl⟩:=Option.map_eq_some_iff.1 h;exact hs)
 ·intro g hg s t s' hs h
  simp only [za,List.mem_cons,List.not_mem_nil,or_false] at hg
  rcases hg with rfl<;>(obtain ⟨x,_,rfl⟩:=Option.map_eq_some_iff.1 h;exact hs)
 ·intro g hg s t s' hs h
  simp only [yh,List.mem_cons,List.not_mem_nil,or_false] at hg
  rcases hg with rfl|rfl|rfl<;>(obtain ⟨x,_,rfl⟩:=Option.map_eq_some_iff.1 h;exact hs)
theorem xV{s s':ar×Bool} {w0:Wd} {ws:List Wd} (h1:1≤k∧k≤16) (h3:11≤k→s.1.2.2.2.2.2.2.2.2.2.2.2.2≠[]) (h:(fT s k w0 ws).1=some s'):io s'.1≤io s.1+1∧s'.2=decide (10≤k)∧(10≤k→s'.1.2.2.2.2.2.2.2.2.2.2.2.2≠[]):=by
 obtain ⟨k1,k2⟩:=h1
 have h9:k=1∨k=2∨k=3∨k=4∨k=5∨k=6∨k=7∨k=8∨k=9∨k=10∨k=11∨k=12∨k=13∨k=14∨k=15∨k=16:=qO
 obtain ⟨l1,l3,l4,l5,l6,l7⟩:=BF (d0:=s.1)
 rcases h9 with rfl|rfl|rfl|rfl|rfl|rfl|rfl|rfl|rfl|rfl|rfl|rfl|rfl|rfl|rfl|rfl
 ·obtain ⟨x,hx,rfl⟩:=Option.map_eq_some_iff.1 h
  have:=jb (gN s.1) yV l1 ws _ s.1 x ⟨rfl,rfl⟩ hx
  exact ⟨by show io x≤_;rw [this.1];omega,rfl,fun h=>absurd h qD⟩
 ·obtain ⟨x,hx,rfl⟩:=Option.map_eq_some_iff.1 h
  refine ⟨?_,rfl,fun h=>absurd h qD⟩
  simp only [io,lC,List.length_append,List.length_cons,List.length_nil]
  omega
 ·obtain ⟨x,hx,rfl⟩:=Option.map_eq_some_iff.1 h
  have:=jb (gN s.1) yK l3 ws _ s.1 x ⟨rfl,rfl⟩ hx
  exact ⟨by show io x≤_;rw [this.1];omega,rfl,fun h=>absurd h qD⟩
 ·obtain ⟨x,hx,rfl⟩:=Option.map_eq_some_iff.1 h
  have:=jb (gN s.1) xU l4 ws _ s.1 x ⟨rfl,rfl⟩ hx
  exact ⟨by show io x≤_;rw [this.1];omega,rfl,fun h=>absurd h qD⟩
 ·obtain ⟨x,hx,rfl⟩:=Option.map_eq_some_iff.1 h
  have:=jb (gN s.1) yn l5 ws _ s.1 x ⟨rfl,rfl⟩ hx
  exact ⟨by show io x≤_;rw [this.1];omega,rfl,fun h=>absurd h qD⟩
 ·obtain ⟨x,hx,rfl⟩:=Option.map_eq_some_iff.1 h
  have:=jb (gN s.1) za l6 ws _ s.1 x ⟨rfl,rfl⟩ hx
  exact ⟨by show io x≤_;rw [this.1];omega,rfl,fun h=>absurd h qD⟩
 ·obtain ⟨x,hx,rfl⟩:=Option.map_eq_some_iff.1 h
  have:=jb (gN s.1) yh l7 ws _ s.1 x ⟨rfl,rfl⟩ hx
  exact ⟨by show io x≤_;rw [this.1];omega,rfl,fun h=>absurd h qD⟩
 ·cases h
 ·obtain ⟨x,hx,rfl⟩:=Option.map_eq_some_iff.1 h
  refine ⟨?_,rfl,fun h=>absurd h qD⟩
  simp only [io,lq,List.length_append,List.length_cons,List.length_nil]
  omega
 ·obtain ⟨x,hx,rfl⟩:=Option.map_eq_some_iff.1 h
  refine ⟨?_,rfl,fun _ h=>by simp [eI] at h⟩
  simp only [io,eI,mj,List.length_append,List.length_cons,List.length_nil,List.map_append,List.map_cons,List.map_nil,List.sum_append,List.sum_cons,List.sum_nil]
  omega
 ·obtain ⟨y,hy,rfl⟩:=Option.map_eq_some_iff.1 h
  obtain ⟨x,hx,rfl⟩:=Option.map_eq_some_iff.1 hy
  refine ⟨?_,rfl,fun _ h=>by simp [eI] at h⟩
  obtain ⟨l,y,hd⟩:∃ l y,s.1.2.2.2.2.2.2.2.2.2.2.2.2=l++[y]:=⟨_,_,(List.dropLast_concat_getLast (h3 qD)).symm⟩
  simp only [io,eI,hd,cF.1,cF.2,mj,List.length_append,List.length_cons,List.length_nil,List.map_append,List.map_cons,List.map_nil,List.sum_append,List.sum_cons,List.sum_nil]
  omega
 ·obtain ⟨y,hy,rfl⟩:=Option.map_eq_some_iff.1 h
  obtain ⟨x,hx,rfl⟩:=Option.map_eq_some_iff.1 hy
  refine ⟨?_,rfl,fun _ h=>by simp [eI] at h⟩
  obtain ⟨l,y,hd⟩:∃ l y,s.1.2.2.2.2.2.2.2.2.2.2.2.2=l++[y]:=⟨_,_,(List.dropLast_concat_getLast (h3 qD)).symm⟩
  simp only [io,eI,hd,cF.1,cF.2,mj,List.length_append,List.length_cons,List.length_nil,List.map_append,List.map_cons,List.map_nil,List.sum_append,List.sum_cons,List.sum_nil]
  omega
 ·obtain ⟨y,hy,rfl⟩:=Option.map_eq_some_iff.1 h
  obtain ⟨x,hx,rfl⟩:=Option.map_eq_some_iff.1 hy
  refine ⟨?_,rfl,fun _ h=>by simp [eI] at h⟩
  obtain ⟨l,y,hd⟩:∃ l y,s.1.2.2.2.2.2.2.2.2.2.2.2.2=l++[y]:=⟨_,_,(List.dropLast_concat_getLast (h3 qD)).symm⟩
  simp only [io,eI,hd,cF.1,cF.2,mj,List.length_append,List.length_cons,List.length_nil,List.map_append,List.map_cons,List.map_nil,List.sum_append,List.sum_cons,List.sum_nil]
  omega
 ·obtain ⟨y,hy,rfl⟩:=Option.map_eq_some_iff.1 h
  obtain ⟨x,hx,rfl⟩:=Option.map_eq_some_iff.1 hy
  refine ⟨?_,rfl,fun _ h=>by simp [eI] at h⟩
  obtain ⟨l,y,hd⟩:∃ l y,s.1.2.2.2.2.2.2.2.2.2.2.2.2=l++[y]:=⟨_,_,(List.dropLast_concat_getLast (h3 qD)).symm⟩
  simp only [io,eI,hd,cF.1,cF.2,mj,List.length_append,List.length_cons,List.length_nil,List.map_append,List.map_cons,List.map_nil,List.sum_append,List.sum_cons,List.sum_nil]
  omega
 ·obtain ⟨y,hy,rfl⟩:=Option.map_eq_some_iff.1 h
  obtain ⟨x,hx,rfl⟩:=Option.map_eq_some_iff.1 hy
  refine ⟨?_,rfl,fun _ h=>by simp [eI] at h⟩
  obtain ⟨l,y,hd⟩:∃ l y,s.1.2.2.2.2.2.2.2.2.2.2.2.2=l++[y]:=⟨_,_,(List.dropLast_concat_getLast (h3 qD)).symm⟩
  simp only [io,eI,hd,cF.1,cF.2,mj,List.length_append,List.length_cons,List.length_nil,List.map_append,List.map_cons,List.map_nil,List.sum_append,List.sum_cons,List.sum_nil]
  omega
 ·obtain ⟨y,hy,rfl⟩:=Option.map_eq_some_iff.1 h
  obtain ⟨x,hx,rfl⟩:=Option.map_eq_some_iff.1 hy
  refine ⟨?_,rfl,fun _ h=>by simp [eI] at h⟩
  obtain ⟨l,y,hd⟩:∃ l y,s.1.2.2.2.2.2.2.2.2.2.2.2.2=l++[y]:=⟨_,_,(List.dropLast_concat_getLast (h3 qD)).symm⟩
  simp only [io,eI,hd,cF.1,cF.2,mj,List.length_append,List.length_cons,List.length_nil,List.map_append,List.map_cons,List.map_nil,List.sum_append,List.sum_cons,List.sum_nil]
  omega
theorem Dq:((List.range 18).all fun a=>(List.range 18).all fun k=> !nL a k || (k != 0&&(decide (10≤k) || !(decide (10≤a)&&decide (a≤16)))&&(decide (k<11) || decide (16<k) || (decide (10≤a)&&decide (a≤16)))))=true:=by decide +kernel
theorem GN{a:Nat} (ha:a<18) (hk:k<18) (h:nL a k=true):k≠0∧(k≤9→¬(10≤a∧a≤16))∧(11≤k→k≤16→10≤a∧a≤16):=by
 have:=List.all_eq_true.1 (List.all_eq_true.1 Dq a (List.mem_range.2 ha)) k (List.mem_range.2 hk)
 rw [h] at this
 simp only [Bool.not_true,Bool.false_or,Bool.and_eq_true,Bool.or_eq_true,Bool.not_eq_true',bne_iff_ne,decide_eq_true_eq,Bool.and_eq_false_iff,decide_eq_false_iff_not] at this
 omega
theorem DU (t:List UInt8):dE fW t≤16:=Nat.le_trans (mo _ _) (by decide +kernel)
def G0 (n:Int):List Ln→Nat→ar×Bool→ar×Int×Int
 |[],a,s=>bif nL a 17 then (s.1,0,0) else (cD,n,90)
 |(ws,_)::ls,a,s=>
  let w0:=ws.headD ([],0)
  let k:=dE fW w0.1
  bif nL a k then
    match fT s k w0 ws.tail with
    |(some s',_,_)=>G0 n ls k s'
    |(none,at_,e)=>(cD,at_,e)
  else (cD,w0.2,90)
def jg (s:List UInt8):ar×Int×Int:=bif (kN s).2.2==0 then G0 s.length (kN s).1 17 (cD,false) else (cD,(kN s).2.1,(kN s).2.2)
theorem AP {x:Ln} (h:Cq (jJ x.1)=true):x.1≠[]:=fun e=>by rw [e] at h;cases h
theorem ER:∀ (ls:List Ln),(m8 ls).all Cq=true→ls.length≤wl (m8 ls)
 |[],_=>Nat.zero_le _
 |x::ls,h=>by
  rw [show m8 (x::ls)=jJ x.1::m8 ls from rfl,List.all_cons,Bool.and_eq_true] at h
  have ih:=ER ls h.2
  have hx:1≤ww (jJ x.1):=by
   cases hq:x.1 with
   |nil=>exact absurd hq (AP h.1)
   |cons w r=>simp [ww,jJ];omega
  show ls.length+1≤ww (jJ x.1)+wl (m8 ls)
  omega
theorem H9 (ws:List Wd):(∀ w∈ws,w.1.length+1≤ww (jJ ws))∧ws.length≤ww (jJ ws):=by
 induction ws with
 |nil=>exact ⟨(fun w h=>by cases h),Nat.zero_le _⟩
 |cons w ws ih=>
  have e:ww (jJ (w::ws))=(w.1.length+1)+ww (jJ ws):=rfl
  refine ⟨fun v hv=> ?_,by rw [e,List.length_cons];omega⟩
  rw [e]
  rcases List.mem_cons.1 hv with rfl|hv
  ·omega
  ·have:=ih.1 v hv
   omega
theorem xb {n:Nat}:∀ (ls:List Ln),(m8 ls).all Cq=true→wl (m8 ls)≤n→∀ x∈ls,x.1≠[]∧(∀ w∈x.1,w.1.length+1≤n)∧x.1.length≤n
 |[],_,_,_,hx=>by cases hx
 |y::ls,h,hn,x,hx=>by
  rw [show m8 (y::ls)=jJ y.1::m8 ls from rfl,List.all_cons,Bool.and_eq_true] at h
  have e:wl (m8 (y::ls))=ww (jJ y.1)+wl (m8 ls):=rfl
  rw [e] at hn
  rcases List.mem_cons.1 hx with rfl|hx
  ·have:=H9 x.1
   exact ⟨AP h.1,fun w hw=>by have:=this.1 w hw;omega,by omega⟩
  ·exact xb ls h.2 qO x hx
instance:KC Rp.lr 2:=⟨rfl⟩
theorem BI{U:ai}:Cv (.tup [.tr a7 [] 0 cD,T,U]) (.tup [.tr (Rp.frn B a7) j7 0 cD,T,U]):=⟨fun X w v h=>by
 obtain ⟨vs,e,h⟩:=h
 obtain ⟨a,b,c,rfl,h1,h2,h3⟩:=h.three
 exact ⟨_,e,uq h1,h2,h3,trivial⟩⟩
instance {B:Nat} {d:ar} {ph:Bool}:bi (.fx B d ph) 25 true:=⟨fun {X w v} h=>(inferInstance:bi (.st (FA B d)) 25 true).ok (AG h)⟩
theorem pB {s:List UInt8} (hc:∀ x∈(kN s).1,dE fW (x.1.headD ([],0)).1≠8):dB Tryz.prog fE 10 [0] [.is (Tx s)] (fun B=> .tup [.tr (Rp.frn B a7) j7 0 (jg s).1, .is (.int .i64 (jg s).2.1), .is (.int .i64 (jg s).2.2)]):=by
 have hok:=Er s
 unfold jg
 generalize hR:kN s=R at*
 obtain ⟨ls,at_,e⟩:=R
 dsimp only at*
 have cl:dB Tryz.prog S1 23 [0] [.is (Tx s)] (fun B=> .tup [.ow (Rp.lo 68 B) 66 tt B ls, .is (.int .i64 at_), .is (.int .i64 e)]):=by
  have:=DZ (s:=s)
  rw [hR] at this
  exact this
 cases he:e==0 with
 |false=>
  have hne:(e != 0)=true:=by rw [bne,he];rfl
  simp only [cond_false]
  refine fA Tryz.func10 rfl Tryz.ntmps10 qE (fun _ _=>by kernel_rfl) fun X w0 hE=> ?_
  simp only [bf,Nat.zero_add,Nat.reduceAdd]
  repeat' first|kernel_rfl|(refine fd (.fx w0.heap.size cD false) (fun _ _ _ h=>Bu h) ?_)|(refine fd (.tr (Rp.frn w0.heap.size a7) j7 0 cD) (fun _ _ _ h=>uq h) ?_)|apply b9 (id:=3) [] [] 99|apply aF|apply aG|apply aI|apply aD|apply aH|apply aM|apply aN|apply aA|apply aE|apply be|apply aq|apply a_|apply a8|apply aB|refine v9 rfl ?_|apply bl|apply bO|apply bN|apply eo|apply em|refine eu rfl ?_|apply ep|apply ew|apply bc|exact sc trivial cl|exact eC [] 0 dN|exact bq qG|exact ak rfl|exact aL|exact aR.cast (s:=21) (T':= .rw Rp.lr tt ls) (fun _ _ _ h=>CP.ok h) am|exact aj|exact ab|exact ah|exact aa|exact aJ|exact ak (b:=true) (u:=false) rfl|exact ak (b:=false) (u:=true) rfl|exact ak rfl|exact bq qG|exact bu qG|exact am|exact aK qL|exact ae|exact Cv.rfl'|intro _
 |true=>
  obtain rfl:e=0:=eq_of_beq he
  simp only [cond_true]
  generalize hG:G0 s.length ls 17 (cD,false)=G
  refine fA Tryz.func10 rfl Tryz.ntmps10 qE (fun _ _=>by kernel_rfl) fun X w0 hE=> ?_
  simp only [bf,Nat.zero_add,Nat.reduceAdd]
  repeat' first|kernel_rfl|(refine fd (.fx w0.heap.size cD false) (fun _ _ _ h=>Bu h) ?_)|apply aF|apply aG|apply aI|apply aD|apply aH|apply aM|apply aN|apply aA|apply aE|apply be|apply aq|apply a_|apply a8|apply aB|refine v9 rfl ?_|apply bl|apply bO|apply bN|apply eo|apply em|refine eu rfl ?_|apply ep|apply ew|apply bc|exact sc trivial cl|exact eC [] 0 dN|exact bq qG|exact ak rfl|exact aL|exact aR.cast (s:=21) (T':= .rw Rp.lr tt ls) (fun _ _ _ h=>CP.ok h) am|exact aj|exact ab|exact ah|exact aa|exact aJ|exact ak (b:=true) (u:=false) rfl|exact ak (b:=false) (u:=true) rfl|exact ak rfl|exact bq qG|exact bu qG|exact am|exact aK qL|exact ae|exact Cv.rfl'|intro _
  refine kd fun a w h=> ?_
  rename_i rf
  have h:=(h.keep [21,23,22,6,2,0]).cast (T':= .nr (.rw Rp.lr tt ls)) fun _ _ _ h=>Ii h
  have hlen:ls.length≤65537:=by
   have:=ER ls hok.1
   omega
  refine iG (fun k a u=>∃ (i b:Nat) (st:ar×Bool),i+k=ls.length∧b<18∧io st.1≤i∧st.2=decide (10≤b∧b≤16)∧(st.2=true→st.1.2.2.2.2.2.2.2.2.2.2.2.2≠[])∧G0 s.length (ls.drop i) b st=G∧TS w0 (rf::X) [(rf, .fx w0.heap.size st.1 st.2)] [(23, .is (.int .i64 (i:Int))),(22, .is (.int .i64 (ls.length:Int))),(21, .nr (.rw Rp.lr tt ls)),(6, .is (.int .u8 (b:Int))),(2, .is (.pointer (some ⟨rf,0,none⟩))),(0, .is (Tx s))] 63 a u) ls.length ⟨0,17,(cD,false),by omega,by decide,Nat.le_refl _,rfl,(fun h=>by cases h),hG,h.keep [23,22,21,6,2,0]⟩ ?_
  clear h hG
  rintro k a u ⟨i,b,st,hi,hb,hn,hph,hye,hG,h⟩
  by_cases hlt:i<ls.length
  ·obtain ⟨x,hx⟩:∃ x,ls[i]? =some x:=⟨_,List.getElem?_eq_getElem hlt⟩
   have hxm:=List.mem_of_getElem? hx
   have hwd:ls.drop i=x::ls.drop (i+1):=by
    rw [List.drop_eq_getElem_cons hlt]
    congr 1
    rw [List.getElem?_eq_getElem hlt] at hx
    injection hx
   have hc1:decide ((i:Int)<(ls.length:Int))=true:=decide_eq_true qO
   have hw1:IntKind.i64.wrap ((i:Int)+1)=((i+1:Nat):Int):=dh qO qO
   obtain ⟨hne,hwl,hwn⟩:=xb ls hok.1 hok.2.2 x hxm
   have hcx:=hc x hxm
   obtain ⟨ws,la⟩:=x
   obtain ⟨w1,ws,rfl⟩:=List.exists_cons_of_ne_nil hne
   have hw0:(w1::ws)[0]? =some w1:=rfl
   obtain ⟨t1,a1⟩:=w1
   have hk:=DU t1
   rw [hwd] at hG
   cases hm:nL b (dE fW t1) with
   |false=>
    have cm:dB Tryz.prog fE 37 [0,0] [.is (.int .u8 (b:Int)), .is (.int .u8 (dE fW t1:Int))] (fun _=> .is (.bool false)):=by
     have:=wX (a:=b) (k:=dE fW t1) hb qO
     rw [hm] at this
     exact this
    obtain rfl:(cD,a1,90)=G:=by
     rw [←hG]
     show _=cond (nL b (dE fW t1)) _ _
     rw [hm]
     rfl
    refine fh h ?_
    clear h
    repeat' first|kernel_rfl|(refine fd (.tr (Rp.frn w0.heap.size a7) j7 0 cD) (fun _ _ _ h=>uq h) ?_)|apply aF|apply aG|apply aI|apply kK (s:=23)|apply aD|apply aH|apply aM|apply aN|apply aA|apply aE|apply be|apply aq|apply a_|apply a8|apply aB|refine v9 rfl ?_|apply bl|apply bO|apply bN|apply eo|apply em|refine eu rfl ?_|apply ep|apply ew|apply bc|exact BI|exact aR.cast (s:=21) (T':= .rw Rp.lr tt ls) (fun _ _ _ h=>m_ h) (cN hx)|exact fH|exact cN hw0|exact fg|exact eG|exact sc hE k_|exact sc hE cm|exact eC [] 0 dN|exact ak (b:=true) (u:=false) rfl|exact ak (b:=false) (u:=true) rfl|exact bq qG|exact bG qL|exact bu qG|exact aj|exact ab|exact ah|exact aa|exact aJ|exact ak (b:=true) (u:=false) rfl|exact ak (b:=false) (u:=true) rfl|exact ak rfl|exact bq qG|exact bu qG|exact am|exact aK qL|exact ae|exact Cv.rfl'|intro _
   |true=>
    have cm:dB Tryz.prog fE 37 [0,0] [.is (.int .u8 (b:Int)), .is (.int .u8 (dE fW t1:Int))] (fun _=> .is (.bool true)):=by
     have:=wX (a:=b) (k:=dE fW t1) hb qO
     rw [hm] at this
     exact this
    have hmn:=GN hb qO hm
    have hph9:dE fW t1≤9→st.2=false:=fun h=>by rw [hph];exact decide_eq_false (hmn.2.1 h)
    have hit:11≤dE fW t1→st.2=true∧st.1.2.2.2.2.2.2.2.2.2.2.2.2≠[]:=fun h=>by
     have h2:st.2=true:=by rw [hph];exact decide_eq_true (hmn.2.2 h hk)
     exact ⟨h2,hye h2⟩
    have hk1:1≤dE fW t1∧dE fW t1≤16∧dE fW t1≠8:=⟨by have:=hmn.1;omega,hk,hcx⟩
    have cst:=GH (B:=w0.heap.size) (rf:=rf) (w0:=(t1,a1)) (ws:=ws) (at_:=la) (s:=st) (k:=dE fW t1) (by rw [List.length_cons] at hwn;omega) (fun w hw=>by have:=hwl w (List.mem_cons_of_mem _ hw);omega) qO hk1 hph9 hit
    have hinv:=fun s'=>xV (s:=st) (s':=s') (k:=dE fW t1) (w0:=(t1,a1)) (ws:=ws) ⟨hk1.1,hk⟩ fun h=>(hit h).2
    have hse:=CH st (dE fW t1) (t1,a1) ws
    have hG2:(match fT st (dE fW t1) (t1,a1) ws with
     |(some s',_,_)=>G0 s.length (ls.drop (i+1)) (dE fW t1) s'
     |(none,at_,e)=>(cD,at_,e))=G:=by
     rw [←hG]
     show _=cond (nL b (dE fW t1)) _ _
     rw [hm]
     rfl
    generalize fT st (dE fW t1) (t1,a1) ws=S at*
    obtain ⟨r,ra,re⟩:=S
    dsimp only at*
    clear hG
    cases r with
    |none=>
     have hne:(re != 0)=true:=by rw [bne,←hse];rfl
     obtain rfl:(cD,ra,re)=G:=hG2
     refine fh h ?_
     clear h
     repeat' first|kernel_rfl|(refine fd (.tr (Rp.frn w0.heap.size a7) j7 0 cD) (fun _ _ _ h=>uq h) ?_)|(refine gn (L':=[(rf,_)]) (.cons _ (.refl _)) ?_;refine ze (LT:=fun s:ar×Bool=>[(rf,ai.fx w0.heap.size s.1 s.2)]) (st:=st) (L0:=[]) (ks:=[0,0,0]) [] [9,23,22,21,6,2,0] rfl (Nat.le_refl _) (fun _ _ ht=>ht.mem.below.size) ⟨hE,Nat.le_refl _⟩ cst .nil qK fun s' hs'=> ?_;simp only [List.cons_append,List.nil_append,List.append_nil])|apply aF|apply aG|apply aI|apply kK (s:=23)|apply aD|apply aH|apply aM|apply aN|apply aA|apply aE|apply be|apply aq|apply a_|apply a8|apply aB|refine v9 rfl ?_|apply bl|apply bO|apply bN|apply eo|apply em|refine eu rfl ?_|apply ep|apply ew|apply bc|exact BI|exact aR.cast (s:=21) (T':= .rw Rp.lr tt ls) (fun _ _ _ h=>m_ h) (cN hx)|exact fH|exact cN hw0|exact fg|exact eG|exact sc hE k_|exact sc hE cm|exact eC [] 0 dN|exact ak (b:=true) (u:=false) rfl|exact ak (b:=false) (u:=true) rfl|exact bq qG|exact bG qL|exact bu qG|exact aj|exact ab|exact ah|exact aa|exact aJ|exact ak (b:=true) (u:=false) rfl|exact ak (b:=false) (u:=true) rfl|exact ak rfl|exact bq qG|exact bu qG|exact am|exact aK qL|exact ae|exact Cv.rfl'|intro _
    |some s2=>
     obtain rfl:re=0:=eq_of_beq hse.symm
     have hG3:G0 s.length (ls.drop (i+1)) (dE fW t1) s2=G:=hG2
     obtain ⟨hv1,hv2,hv3⟩:=hinv s2 rfl
     have hv4:s2.2=decide (10≤dE fW t1∧dE fW t1≤16):=by
      rw [hv2]
      exact decide_eq_decide.2 ⟨fun h=>⟨h,hk⟩,fun h=>h.1⟩
     have hv5:s2.2=true→s2.1.2.2.2.2.2.2.2.2.2.2.2.2≠[]:=fun h=>hv3 (of_decide_eq_true (hv2▸h))
     refine fh h ?_
     clear h
     repeat' first|kernel_rfl|(refine gn (L':=[(rf,_)]) (.cons _ (.refl _)) ?_;refine ze (LT:=fun s:ar×Bool=>[(rf,ai.fx w0.heap.size s.1 s.2)]) (st:=st) (L0:=[]) (ks:=[0,0,0]) [] [9,23,22,21,6,2,0] rfl (Nat.le_refl _) (fun _ _ ht=>ht.mem.below.size) ⟨hE,Nat.le_refl _⟩ cst .nil qK fun s' hs'=> ?_;obtain rfl:=hs' _ rfl;simp only [List.cons_append,List.nil_append,List.append_nil])|exact iz fun _ _ h=>⟨k - 1,by omega,i+1,dE fW t1,_,by omega,by omega,by omega,hv4,hv5,hG3,(h.keep [23,22,21,6,2,0]).less (fun b hb=>List.mem_cons_of_mem _ hb) (fun p hp=>by rw [List.mem_singleton.1 hp];exact List.mem_cons_self)⟩|apply aF|apply aG|apply aI|apply kK (s:=23)|apply aD|apply aH|apply aM|apply aN|apply aA|apply aE|apply be|apply aq|apply a_|apply a8|apply aB|refine v9 rfl ?_|apply bl|apply bO|apply bN|apply eo|apply em|refine eu rfl ?_|apply ep|apply ew|apply bc|exact BI|exact aR.cast (s:=21) (T':= .rw Rp.lr tt ls) (fun _ _ _ h=>m_ h) (cN hx)|exact fH|exact cN hw0|exact fg|exact eG|exact sc hE k_|exact sc hE cm|exact eC [] 0 dN|exact ak (b:=true) (u:=false) rfl|exact ak (b:=false) (u:=true) rfl|exact bq qG|exact bG qL|exact bu qG|exact aj|exact ab|exact ah|exact aa|exact aJ|exact ak (b:=true) (u:=false) rfl|exact ak (b:=false) (u:=true) rfl|exact ak rfl|exact bq qG|exact bu qG|exact am|exact aK qL|exact ae|exact Cv.rfl'|intro _
  ·have hc1:decide ((i:Int)<(ls.length:Int))=false:=decide_eq_false qO
   rw [show ls.drop i=[] by rw [show i=ls.length by omega,List.drop_length]] at hG
   cases hm:nL b 17 with
   |false=>
    have cm:dB Tryz.prog fE 37 [0,0] [.is (.int .u8 (b:Int)), .is (.int .u8 17)] (fun _=> .is (.bool false)):=by
     have:=wX (a:=b) (k:=17) hb qD
     rw [hm] at this
     exact this
    obtain rfl:(cD,(s.length:Int),90)=G:=by
     rw [←hG]
     show _=cond (nL b 17) _ _
     rw [hm]
     rfl
    refine fh h ?_
    clear h
    repeat' first|kernel_rfl|(refine fd (.tr (Rp.frn w0.heap.size a7) j7 0 cD) (fun _ _ _ h=>uq h) ?_)|apply aF|apply aG|apply aI|apply kK (s:=23)|apply aD|apply aH|apply aM|apply aN|apply aA|apply aE|apply be|apply aq|apply a_|apply a8|apply aB|refine v9 rfl ?_|apply bl|apply bO|apply bN|apply eo|apply em|refine eu rfl ?_|apply ep|apply ew|apply bc|exact BI|exact aR.cast (s:=21) (T':= .rw Rp.lr tt ls) (fun _ _ _ h=>m_ h) (cN hx)|exact fH|exact cN hw0|exact fg|exact eG|exact sc hE k_|exact sc hE cm|exact eC [] 0 dN|exact ak (b:=true) (u:=false) rfl|exact ak (b:=false) (u:=true) rfl|exact bq qG|exact bG qL|exact bu qG|exact aL|exact aj|exact ab|exact ah|exact aa|exact aJ|exact ak (b:=true) (u:=false) rfl|exact ak (b:=false) (u:=true) rfl|exact ak rfl|exact bq qG|exact bu qG|exact am|exact aK qL|exact ae|exact Cv.rfl'|intro _
   |true=>
    have cm:dB Tryz.prog fE 37 [0,0] [.is (.int .u8 (b:Int)), .is (.int .u8 17)] (fun _=> .is (.bool true)):=by
     have:=wX (a:=b) (k:=17) hb qD
     rw [hm] at this
     exact this
    obtain rfl:(st.1,0,0)=G:=by
     rw [←hG]
     show _=cond (nL b 17) _ _
     rw [hm]
     rfl
    refine fh h ?_
    clear h
    repeat' first|kernel_rfl|(refine fd (.tr (Rp.frn w0.heap.size a7) j7 0 st.1) (fun _ _ _ h=>Hd (AG h)) ?_)|apply aF|apply aG|apply aI|apply kK (s:=23)|apply aD|apply aH|apply aM|apply aN|apply aA|apply aE|apply be|apply aq|apply a_|apply a8|apply aB|refine v9 rfl ?_|apply bl|apply bO|apply bN|apply eo|apply em|refine eu rfl ?_|apply ep|apply ew|apply bc|exact BI|exact aR.cast (s:=21) (T':= .rw Rp.lr tt ls) (fun _ _ _ h=>m_ h) (cN hx)|exact fH|exact cN hw0|exact fg|exact eG|exact sc hE k_|exact sc hE cm|exact eC [] 0 dN|exact ak (b:=true) (u:=false) rfl|exact ak (b:=false) (u:=true) rfl|exact bq qG|exact bG qL|exact bu qG|exact aL|exact aj|exact ab|exact ah|exact aa|exact aJ|exact ak (b:=true) (u:=false) rfl|exact ak (b:=false) (u:=true) rfl|exact ak rfl|exact bq qG|exact bu qG|exact am|exact aK qL|exact ae|exact Cv.rfl'|intro _
end Go.Proofs.YtcpeiijdgabenaaGreatDoor
