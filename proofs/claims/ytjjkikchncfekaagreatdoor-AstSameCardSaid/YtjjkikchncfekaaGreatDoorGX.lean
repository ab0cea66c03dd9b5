/- A struct whose cells have types of their own (.st): its parts are read, and written, one by one. No program stands in it. -/
import Derived.Test.YtjjkikchncfekaaGreatDoorGT
import Derived.Test.YtjjkikchncfekaaGreatDoorGW
set_option maxHeartbeats 40000000
set_option maxRecDepth 20000
set_option synthInstance.maxHeartbeats 400000
set_option synthInstance.maxSize 4000
set_option linter.unusedSimpArgs false
set_option linter.unusedVariables false
namespace Go.Proofs.YtjjkikchncfekaaGreatDoor
open Go Go.RowKit
variable {w:World} {X:List Nat} {C B:Nat} {v:Value} {Ts:List aa} {x:aP}
theorem cY.len {X:List Nat} {w:World}:∀ {Ts:List aa} {vs:List Value},cY X w Ts vs→vs.length=Ts.length
 |[],[],_=>rfl
 |T::Ts,v::vs,h=>by rw [List.length_cons,List.length_cons,cY.len h.2]
 |[],_::_,h=>h.elim
 |_::_,[],h=>h.elim
theorem cY.at_ {X:List Nat} {w:World} {T:aa}:∀ {Ts:List aa} {vs:List Value} {i:Nat},cY X w Ts vs→Ts[i]? =some T→∃ v,vs[i]? =some v∧T.holds X w v
 |[],_,_,_,h=>by simp at h
 |T::Ts,[],_,h,_=>h.elim
 |T::Ts,v::vs,0,h,e=>by
  rw [List.getElem?_cons_zero] at e
  injection e with e
  subst e
  exact ⟨v,rfl,h.1⟩
 |T::Ts,v::vs,i+1,h,e=>by
  obtain ⟨u,h1,h2⟩:=cY.at_ (i:=i) h.2 (by simpa using e)
  exact ⟨u,by simpa using h1,h2⟩
theorem cY.put {X:List Nat} {w:World} {T:aa} {u:Value} (hu:T.holds X w u):∀ {Ts:List aa} {vs:List Value} {i:Nat},cY X w Ts vs→cY X w (Ts.set i T) (vs.set i u)
 |[],[],_,_=>trivial
 |T::Ts,v::vs,0,h=>⟨hu,h.2⟩
 |T::Ts,v::vs,i+1,h=>⟨h.1,cY.put hu h.2⟩
 |[],_::_,_,h=>h.elim
 |_::_,[],_,h=>h.elim
def aa.st (Ts:List aa):aa:=⟨fun X w v=>∃ cs:List Value,v= .agg cs.toArray∧cY X w Ts cs∧∀ u∈cs,u.oneCell'=true,fun ⟨cs,e,h,o⟩ hk hX=>⟨cs,e,h.stable hk hX,o⟩⟩
class yt (Ts:List aa) (i:Nat) (T:outParam aa):Prop where
 ok:Ts[i]? =some T
instance yt.here {Ts:List aa} {T:aa}:yt (T::Ts) 0 T:=⟨rfl⟩
instance yt.there {Ts:List aa} {T T':aa} {i:Nat} [h:yt Ts i T]:yt (T'::Ts) (i+1) T:=⟨by simpa using h.ok⟩
class sn (Ts:List aa) (i:Nat) (T:aa) (Ts':outParam (List aa)):Prop where
 ok:Ts.set i T=Ts'∧i<Ts.length
instance sn.here {Ts:List aa} {T T':aa}:sn (T'::Ts) 0 T (T::Ts):=⟨rfl,by simp⟩
instance sn.there {Ts Ts':List aa} {T T':aa} {i:Nat} [h:sn Ts i T Ts']:sn (T'::Ts) (i+1) T (T'::Ts'):=⟨by rw [List.set_cons_succ,h.ok.1],by rw [List.length_cons];exact Nat.succ_lt_succ h.ok.2⟩
class vz (Ts:List aa) (k:outParam Nat):Prop where
 ok:Ts.length=k
instance vz.nil:vz [] 0:=⟨rfl⟩
instance vz.cons {Ts:List aa} {T:aa} {k:Nat} [h:vz Ts k]:vz (T::Ts) (k+1):=⟨by rw [List.length_cons,h.ok]⟩
class mV (e:TypeId) (B:Nat) (Ts:List aa):Prop where
 ok:∀ {X:List Nat} {w w':World} {vs:List Value},cY X w Ts vs→AY e B X w w'→cY X w' Ts vs
instance mV.nil {e:TypeId} {B:Nat}:mV e B []:=⟨fun {X w w' vs} h _=>by cases vs with
 |nil=>trivial
 |cons v vs=>exact h.elim⟩
instance mV.cons {e:TypeId} {B:Nat} {T:aa} {Ts:List aa} [a:m9 e B T] [k:mV e B Ts]:mV e B (T::Ts):=⟨fun {X w w' vs} h hc=>by cases vs with
 |nil=>exact h.elim
 |cons v vs=>exact ⟨a.ok h.1 hc,k.ok h.2 hc⟩⟩
instance {e:TypeId} {B:Nat} {Ts:List aa} [k:mV e B Ts]:m9 e B (.st Ts):=⟨fun ⟨cs,e,h,o⟩ hc=>⟨cs,e,k.ok h hc,o⟩⟩
instance {Ts:List aa} {i:Nat} {T:aa} [n:yt Ts i T]:am (.st Ts) i 1 false T:=⟨fun _=>rfl,fun {X w v} ⟨cs,e,h,o⟩=>by
 obtain ⟨u,h1,h2⟩:=h.at_ n.ok
 refine ⟨[u],rfl,fun j x hj=> ?_,fun x _ hx=> ?_⟩
 ·have:j=0∧x=u:=by
   cases j with
   |zero=>exact ⟨rfl,by simpa using hj.symm⟩
   |succ j=>simp at hj
  rw [e,this.1,this.2]
  show (cs.toArray)[i+0]? =some u
  simpa using h1
 ·have:=hx rfl
  have:u=x:=by simpa using this
  rw [←this];exact h2⟩
instance {Ts:List aa} {k:Nat} [n:vz Ts k]:aZ (.st Ts) k true:=⟨fun {X w v} ⟨cs,e,h,o⟩=>by
 subst e
 refine ⟨?_,?_,fun _=>rfl,fun h=>by cases h⟩
 ·show cs.toArray.size=k
  simp [h.len,n.ok]
 ·show cs.toArray.all (·.oneCell')=true
  simpa using o⟩
section
variable {P:Program} {w00:World} {X:List Nat} {L L':List Loc} {E:List (Nat×aa)} {n:Nat} {ops:Array Oper} {rest:List Oper} {Q:Exit→Act→World→Prop} {cs:List Code} {t0:TypeId} {pos:String} {af:Array Edge}
theorem mo {Ts Ts':List aa} {ty:TypeId} {s r i:Nat} {o:Operand} {T:aa} [hs:co E s (.is (.pointer (some ⟨r,i,none⟩)))] [hl:oJ L r (.st Ts)] [ho:cT E o T] [hc:sn Ts i T Ts'] [hu:jD L r (.st Ts) (.st Ts') L'] [z:aZ T 1 false] [hty:fw P ty 1 false]
 (h:GR P w00 X L' E n ops rest cs Q):GR P w00 X L E n ops (⟨none, .store ty (.tmp s) o,t0,pos,af,none⟩::rest) cs Q:=⟨fun a w ht=>by
 refine eu rfl ?_
 have e1:a.eval (.tmp s)= .pointer (some ⟨r,i,none⟩):=ht.slots _ hs.mem
 have e2:T.holds X w (a.eval o):=ho.get (X:=X) (w:=w) (fun _=>rfl) fun p hp _=>ht.slots p hp
 obtain ⟨g1,g2,u,ty',⟨c0,rfl,ha,hone⟩,g4⟩:=ht.mem.loc _ hu.upd.mem
 replace g4:w.heap[r]? =some (.cells c0.toArray ty' (0,0)):=g4
 obtain ⟨hc1,hc2⟩:=hc.ok
 have hlen:=ha.len
 have hi:=hty.size
 obtain ⟨z1,z2,_,z4⟩:=z.ok e2
 have hcl:(a.eval o).cells= #[a.eval o]:=z4 rfl
 have h1:(a.eval o).oneCell'=true:=by
  rw [hcl] at z2
  simpa using z2
 have hcell:w.cell? ⟨r,i,none⟩=some (c0[i]' qO):=gb g4 (by simp [show i<c0.length by omega])
 have hfro:w.frozen? ⟨r,i,none⟩=false:=by simp [World.frozen?,g4]
 have hadd:(⟨r,i,none⟩:Addr).add 0=⟨r,i,none⟩:=by unfold Addr.add;split<;>simp_all
 have hst:(store ((⟨r,i,none⟩:Addr).add 0) (a.eval o)).run P w= .ok () (w.setRow r (c0.set i (a.eval o)).toArray):=by
  rw [hadd,run_store P w _ _ _ h1,hcell]
  simp [hfro,setCell_eq_setRow w r i c0.toArray ty' (0,0) _ g4]
 have hsv:(storeVar ty ⟨r,i,none⟩ (a.eval o)).run P w= .ok () (w.setRow r (c0.set i (a.eval o)).toArray):=by
  cases hq:P.info? ty with
  |none=>simp [hq] at hi
  |some q=>
   have hs:q.size=1:=by simpa [hq] using hi
   simp [storeVar,sizeOf,typeInfo,hq,hcl,hs,storeCells,hst]
 unfold Oper.wp execOp
 simp only [e1,Instr.storeAt,Instr.sureAddr,Sem.run_bind,Sem.run_pure,Result.andThen_ok,hsv]
 have hnew:(aa.st Ts').holds X w (.agg (c0.set i (a.eval o)).toArray):=⟨_,rfl,by rw [←hc1];exact ha.put e2,fun x hx=>by
  rcases List.mem_or_eq_of_mem_set hx with hx|hx
  ·exact hone x hx
  ·rw [hx];exact h1⟩
 exact h.run a _ (ht.write (k:=0) (k0:=0) (ag:=true) (ag0:=true) (v:= .agg (c0.set i (a.eval o)).toArray) hu.upd hnew)⟩
end
section
variable {P:Program} {w00:World} {X:List Nat} {L L':List Loc} {E:List (Nat×aa)} {n:Nat} {ops:Array Oper} {rest:List Oper} {Q:Exit→Act→World→Prop} {cs:List Code}
theorem cY.any_ {X:List Nat} {w:World}:∀ {Ts:List aa} {vs:List Value} {i:Nat},cY X w Ts vs→cY X w (Ts.set i .any) vs
 |[],[],_,_=>trivial
 |T::Ts,v::vs,0,h=>⟨trivial,h.2⟩
 |T::Ts,v::vs,i+1,h=>⟨h.1,cY.any_ h.2⟩
 |[],_::_,_,h=>h.elim
 |_::_,[],_,h=>h.elim
theorem ny{Ts':List aa} (r i:Nat) [hc:sn Ts i .any Ts'] [hu:jD L r (.st Ts) (.st Ts') L'] (h:GR P w00 X L' E n ops rest cs Q):GR P w00 X L E n ops rest cs Q:=⟨fun a w ht=>by
 obtain ⟨v,⟨c,e,ha,ho⟩,f⟩:=ht.openL hu.upd.mem
 exact h.run a w (f (T':= .st Ts') ⟨c,e,by rw [←hc.ok.1];exact ha.any_,ho⟩ hu.upd)⟩
end
instance {Ts:List aa} {k:Nat} [n:vz Ts k]:am (.st Ts) 0 k true (.st Ts):=⟨(fun h=>by cases h),fun {X w v} ⟨cs,e,h,o⟩=>⟨cs,h.len.trans n.ok,fun j u hj=>by
 rw [e]
 show (cs.toArray)[0+j]? =some u
 simpa using hj,fun u hu _=>⟨cs,hu rfl,h,o⟩⟩⟩
instance {e:TypeId} {B:Nat}:m9 e B .any:=⟨fun _ _=>trivial⟩
def Rp.nil:Rp Unit:=⟨1,fun _ _ _ cs=>cs=[.slice none 0 0],fun h=>by rw [h];rfl,fun h v hv=>by rw [h,List.mem_singleton] at hv;rw [hv];rfl,fun h _=>h,fun h _=>h⟩
abbrev wM:=Int×Unit×Unit×Unit×Unit×Unit
abbrev eT:Rp wM:=(Rp.int .i64).pair (Rp.nil.pair (Rp.nil.pair (Rp.nil.pair (Rp.nil.pair Rp.nil))))
theorem ni:eH Tryz.prog 103 eT (0,(),(),(),(),()):=⟨by
 obtain ⟨i,h1,h2,h3,h4⟩:∃ i,Tryz.prog.info? 103=some i∧i.zero=some (.agg #[.int .i64 0, .slice none 0 0, .slice none 0 0, .slice none 0 0, .slice none 0 0, .slice none 0 0])∧i.size=6∧i.bytes=128:=info_parts qK
 refine ⟨_,i,_,Tryz.underlying103,(fun f hf=> ?_),h1,h2,fun w S=> ?_⟩
 ·simp only [List.mem_cons,List.not_mem_nil,or_false] at hf
  rcases hf with rfl|rfl|rfl|rfl|rfl|rfl<;>exact Option.isSome_iff_exists.1 qK
 ·exact ⟨[.int .i64 0],[.slice none 0 0, .slice none 0 0, .slice none 0 0, .slice none 0 0, .slice none 0 0],rfl,rfl,[.slice none 0 0],[.slice none 0 0, .slice none 0 0, .slice none 0 0, .slice none 0 0],rfl,rfl,[.slice none 0 0],[.slice none 0 0, .slice none 0 0, .slice none 0 0],rfl,rfl,[.slice none 0 0],[.slice none 0 0, .slice none 0 0],rfl,rfl,[.slice none 0 0],[.slice none 0 0],rfl,rfl,rfl⟩⟩
instance:aj eT 0 (Rp.int .i64) (fun a b=>(b,a.2)):=aj.fst
instance:KC eT 6:=⟨rfl⟩
theorem AE{ts:List TypeId} {x:wM} {t1 t2 t3 t4 t5:TypeId} (h:(aa.tr eT ts C x).holds X w v):(aa.st [.is (.int .i64 x.1), .to aH t1 [117] 0 B [], .to aG t2 [117] 0 B [], .to ak t3 [117] 0 B [], .to bp t4 [117] 0 B [], .to b7 t5 [117] 0 B []]).holds X w v:=by
 obtain ⟨cs,e,c1,c2,e1,h1,c3,c4,e2,h2,c5,c6,e3,h3,c7,c8,e4,h4,c9,c10,e5,h5,h6⟩:=h
 have h1:c1=[.int .i64 x.1]:=h1
 have h2:c3=[.slice none 0 0]:=h2
 have h3:c5=[.slice none 0 0]:=h3
 have h4:c7=[.slice none 0 0]:=h4
 have h5:c9=[.slice none 0 0]:=h5
 have h6:c10=[.slice none 0 0]:=h6
 subst h1 h2 h3 h4 h5 h6 e5 e4 e3 e2 e1
 refine ⟨_,e,⟨rfl,je rfl,je rfl,je rfl,je rfl,je rfl,trivial⟩,fun u hu=> ?_⟩
 simp only [List.cons_append,List.nil_append,List.mem_cons,List.not_mem_nil,or_false] at hu
 rcases hu with rfl|rfl|rfl|rfl|rfl|rfl<;>rfl
instance:im 171 [117]:=⟨by decide⟩
instance:fP [171,117] [171,173,175,177,179,117]:=⟨by decide⟩
instance:im 171 [173,117]:=⟨by decide⟩
instance:im 171 [175,117]:=⟨by decide⟩
instance:im 171 [177,117]:=⟨by decide⟩
instance:im 171 [179,117]:=⟨by decide⟩
instance:im 173 [117]:=⟨by decide⟩
instance:fP [173,117] [171,173,175,177,179,117]:=⟨by decide⟩
instance:im 173 [171,117]:=⟨by decide⟩
instance:im 173 [175,117]:=⟨by decide⟩
instance:im 173 [177,117]:=⟨by decide⟩
instance:im 173 [179,117]:=⟨by decide⟩
instance:im 175 [117]:=⟨by decide⟩
instance:fP [175,117] [171,173,175,177,179,117]:=⟨by decide⟩
instance:im 175 [171,117]:=⟨by decide⟩
instance:im 175 [173,117]:=⟨by decide⟩
instance:im 175 [177,117]:=⟨by decide⟩
instance:im 175 [179,117]:=⟨by decide⟩
instance:im 177 [117]:=⟨by decide⟩
instance:fP [177,117] [171,173,175,177,179,117]:=⟨by decide⟩
instance:im 177 [171,117]:=⟨by decide⟩
instance:im 177 [173,117]:=⟨by decide⟩
instance:im 177 [175,117]:=⟨by decide⟩
instance:im 177 [179,117]:=⟨by decide⟩
instance:im 179 [117]:=⟨by decide⟩
instance:fP [179,117] [171,173,175,177,179,117]:=⟨by decide⟩
instance:im 179 [171,117]:=⟨by decide⟩
instance:im 179 [173,117]:=⟨by decide⟩
instance:im 179 [175,117]:=⟨by decide⟩
instance:im 179 [177,117]:=⟨by decide⟩
instance:dq Tryz.prog 103 (.tr eT [] 0 (0,(),(),(),(),())):=ni.alT
theorem Cs{y:bw} (h:(aa.st [.is (.int .i64 y.1), .to aH 171 [117] 0 (B) (y.2.1), .to aG 173 [117] 0 (B) (y.2.2.1), .to ak 175 [117] 0 (B) (y.2.2.2.1), .to bp 177 [117] 0 (B) (y.2.2.2.2.1), .to b7 179 [117] 0 (B) (y.2.2.2.2.2)]).holds X w v):(aa.tr aA [171,173,175,177,179,117] 0 y).holds X w v:=by
 obtain ⟨cs,e,h,ho⟩:=h
 match cs,h with
 |[c0,c1,c2,c3,c4,c5],⟨h0,h1,h2,h3,h4,h5,_⟩=>
  have h0:c0= .int .i64 y.1:=h0
  exact ⟨_,e,[c0],[c1,c2,c3,c4,c5],rfl,by rw [h0];rfl,[c1],[c2,c3,c4,c5],rfl,i8 h1,[c2],[c3,c4,c5],rfl,i8 h2,[c3],[c4,c5],rfl,i8 h3,[c4],[c5],rfl,i8 h4,i8 h5⟩
theorem ej{ts:List TypeId} (hx:x.1.2.length≤1000∧x.2.2.length≤1000):cw Tryz.prog S1 43 [0] [.tr Rp.frac ts C x] (fun _=> .tr Rp.frac [117] 0 x):=(Av hx).args fun h=>by
 obtain ⟨v,us,rfl,h1,h2⟩:=h.tail
 exact ⟨pK h1,h2⟩
theorem gU {p:Prop} (h:p:=by first|exact wR|exact vO (by assumption)|exact v6|exact tI|exact s_|exact k7 (by assumption)|exact rz (by first|assumption|rfl)|exact cb|exact eJ|exact ca|exact aW|exact iQ (by first|assumption|rfl)|exact iO|exact ee (by assumption)|exact f6|exact fX|exact ml|exact mj|exact cZ (b:=true) (u:=false) rfl|exact cZ (b:=false) (u:=true) rfl|exact cZ rfl|exact ka (by first|assumption|rfl)|exact eC|exact eI.nil|exact aM.nil|exact aL.nil|exact sc trivial (k0 _)|exact sc trivial (k1 _)|exact sc trivial kF|exact sc trivial kG|exact sc hE zn|exact Cv.rfl'):p:=h
theorem xb {y:bw} (hf:px y) (hn:y.2.1.length≤40∧y.2.2.1.length≤40∧y.2.2.2.1.length≤40∧y.2.2.2.2.1.length≤40∧y.2.2.2.2.2.length≤40):cw Tryz.prog S1 44 [0] [.ra aA y] (fun _=> .tr aA [171,173,175,177,179,117] 0 y):=by
 obtain ⟨hn1,hn2,hn3,hn4,hn5⟩:=hn
 unfold px at hf
 obtain ⟨hf1,hf2,hf3,hf4,hf5⟩:=hf
 refine CZ (As':=fun B=>[.tr aA [] B y]) Tryz.func44 rfl Tryz.ntmps44 qE (fun _ _=>by kernel_rfl) (fun {X w vs} ha=>by
  obtain ⟨v,rfl,h⟩:=ha.one
  exact ⟨rt h,trivial⟩) fun X w0 hE=> ?_
 simp only [ar,Nat.zero_add,Nat.reduceAdd]
 repeat' first|kernel_rfl|apply bI|apply bJ|apply bM|apply au|apply aR|apply bG|apply bL|apply bB|apply bK|apply bC|apply bH|apply ae|apply bc|apply cI|apply cG|apply bF|refine aO rfl ?_|apply bE|apply cH|apply cF|apply fz|apply fy|refine fC rfl ?_|apply fA|apply fE|apply cJ|exact bN [] 0 ni|exact gU|(intro _;simp only[cu,cx,cC,List.map,List.cons_append,List.nil_append])|intro _
 refine bn fun a w h=> ?_
 rename_i r1 r2 r3
 obtain ⟨v,hv,fv⟩:=h.openL (r:=r3) List.mem_cons_self
 have h:=fv (AE (C:=0) (B:=w0.heap.size) (t1:=171) (t2:=173) (t3:=175) (t4:=177) (t5:=179) hv) .here
 clear hv fv
 have h:TS w0 (r3::r2::r1::X) [(r3, .st [.is (.int .i64 y.1), .to aH 171 [117] 0 (w0.heap.size) ((y.2.1).take 0), .to aG 173 [117] 0 (w0.heap.size) ([]), .to ak 175 [117] 0 (w0.heap.size) ([]), .to bp 177 [117] 0 (w0.heap.size) ([]), .to b7 179 [117] 0 (w0.heap.size) ([])]),(r2, .tr eT [] 0 (0,(),(),(),(),())),(r1, .tr aA [] w0.heap.size y)] [(4, .is (.int .i64 ((0:Nat):Int))),(3, .is (.pointer (some ⟨r3,0,none⟩))),(2, .is (.pointer (some ⟨r2,0,none⟩))),(1, .is (.pointer (some ⟨r1,0,none⟩)))] 152 a w:=h.keep [4,3,2,1]
 refine aY (fun k a u=>∃ i:Nat,i+k=(y.2.1).length∧TS w0 (r3::r2::r1::X) [(r3, .st [.is (.int .i64 y.1), .to aH 171 [117] 0 (w0.heap.size) ((y.2.1).take i), .to aG 173 [117] 0 (w0.heap.size) ([]), .to ak 175 [117] 0 (w0.heap.size) ([]), .to bp 177 [117] 0 (w0.heap.size) ([]), .to b7 179 [117] 0 (w0.heap.size) ([])]),(r2, .tr eT [] 0 (0,(),(),(),(),())),(r1, .tr aA [] w0.heap.size y)] [(4, .is (.int .i64 (i:Int))),(3, .is (.pointer (some ⟨r3,0,none⟩))),(2, .is (.pointer (some ⟨r2,0,none⟩))),(1, .is (.pointer (some ⟨r1,0,none⟩)))] 152 a u) (y.2.1).length ⟨0,by omega,h⟩ ?_
 clear h
 rintro k a u ⟨i,hi,h⟩
 by_cases hlt:i<(y.2.1).length
 ·obtain ⟨x,hx⟩:∃ x,(y.2.1)[i]? =some x:=⟨_,List.getElem?_eq_getElem hlt⟩
  have hc:decide ((i:Int)<((y.2.1).length:Int))=true:=decide_eq_true qO
  have hw:IntKind.i64.wrap ((i:Int)+1)=((i+1:Nat):Int):=az qO qO
  have hh:=hf1 x (List.mem_of_getElem? hx)
  have hlen:((y.2.1).take i).length≤40:=by rw [List.length_take];omega
  have k0:=fun (C:Nat)=>ej (x:=x.2.2) (ts:=[]) (C:=C) (by have g1:=hh.1;have g2:=hh.2.1;omega)
  refine aD h ?_
  clear h
  repeat' first|kernel_rfl|(refine ny r3 1 ?_;refine dL [4,3,2,1] (Nat.le_refl _) (Nat.zero_le _) (fun _ _ ht=>ht.mem.below.size) j3 (by simp only [List.length_cons,List.length_nil];omega) qD qK ?_)|(refine mo ?_)|exact bq fun _ _ h=>⟨k - 1,by omega,i+1,by omega,by rw [gg hx];exact h.drop.keep [4,3,2,1]⟩|apply bI|apply bJ|apply bM|apply ab (id:=6) [] [] 11|apply au|apply aR|apply bG|apply bL|apply bB|apply bK|apply bC|apply bH|apply ae|apply bc|apply cI|apply cG|apply bF|refine aO rfl ?_|apply bE|apply cH|apply cF|apply fz|apply fy|refine fC rfl ?_|apply fA|apply fE|apply cJ|exact bN [117] 0 fe|exact c_ (r:=aH) [117] 0 gZ rfl qD qD qD|exact gU|(intro _;simp only[cu,cx,cC,List.map,List.cons_append,List.nil_append])|intro _
 ·have hil:i=(y.2.1).length:=qO
  have hc:decide ((i:Int)<((y.2.1).length:Int))=false:=decide_eq_false qO
  have e:(y.2.1).take i=y.2.1:=by rw [hil,List.take_length]
  rw [e] at h
  refine aD h ?_
  clear h
  repeat' first|kernel_rfl|apply bI|apply bJ|apply bM|apply au|apply aR|apply bG|apply bL|apply bB|apply bK|apply bC|apply bH|apply ae|apply bc|apply cI|apply cG|apply bF|refine aO rfl ?_|apply bE|apply cH|apply cF|apply fz|apply fy|refine fC rfl ?_|apply fA|apply fE|apply cJ|exact bN [117] 0 fe|exact c_ (r:=aH) [117] 0 gZ rfl qD qD qD|exact gU|(intro _;simp only[cu,cx,cC,List.map,List.cons_append,List.nil_append])|intro _
  refine bn fun a w h=> ?_
  have h:TS w0 (r3::r2::r1::X) [(r3, .st [.is (.int .i64 y.1), .to aH 171 [117] 0 (w0.heap.size) (y.2.1), .to aG 173 [117] 0 (w0.heap.size) ((y.2.2.1).take 0), .to ak 175 [117] 0 (w0.heap.size) ([]), .to bp 177 [117] 0 (w0.heap.size) ([]), .to b7 179 [117] 0 (w0.heap.size) ([])]),(r2, .tr eT [] 0 (0,(),(),(),(),())),(r1, .tr aA [] w0.heap.size y)] [(6, .is (.int .i64 ((0:Nat):Int))),(3, .is (.pointer (some ⟨r3,0,none⟩))),(2, .is (.pointer (some ⟨r2,0,none⟩))),(1, .is (.pointer (some ⟨r1,0,none⟩)))] 152 a w:=h.keep [6,3,2,1]
  refine aY (fun k a u=>∃ i:Nat,i+k=(y.2.2.1).length∧TS w0 (r3::r2::r1::X) [(r3, .st [.is (.int .i64 y.1), .to aH 171 [117] 0 (w0.heap.size) (y.2.1), .to aG 173 [117] 0 (w0.heap.size) ((y.2.2.1).take i), .to ak 175 [117] 0 (w0.heap.size) ([]), .to bp 177 [117] 0 (w0.heap.size) ([]), .to b7 179 [117] 0 (w0.heap.size) ([])]),(r2, .tr eT [] 0 (0,(),(),(),(),())),(r1, .tr aA [] w0.heap.size y)] [(6, .is (.int .i64 (i:Int))),(3, .is (.pointer (some ⟨r3,0,none⟩))),(2, .is (.pointer (some ⟨r2,0,none⟩))),(1, .is (.pointer (some ⟨r1,0,none⟩)))] 152 a u) (y.2.2.1).length ⟨0,by omega,h⟩ ?_
  clear h
  rintro k a u ⟨i,hi,h⟩
  by_cases hlt:i<(y.2.2.1).length
  ·obtain ⟨x,hx⟩:∃ x,(y.2.2.1)[i]? =some x:=⟨_,List.getElem?_eq_getElem hlt⟩
   have hc:decide ((i:Int)<((y.2.2.1).length:Int))=true:=decide_eq_true qO
   have hw:IntKind.i64.wrap ((i:Int)+1)=((i+1:Nat):Int):=az qO qO
   have hh:=hf2 x (List.mem_of_getElem? hx)
   have hlen:((y.2.2.1).take i).length≤40:=by rw [List.length_take];omega
   have k0:=fun (C:Nat)=>ej (x:=x.2.2) (ts:=[]) (C:=C) (by have g1:=hh.1;have g2:=hh.2.1;omega)
   refine aD h ?_
   clear h
   repeat' first|kernel_rfl|(refine ny r3 2 ?_;refine dL [6,3,2,1] (Nat.le_refl _) (Nat.zero_le _) (fun _ _ ht=>ht.mem.below.size) jZ (by simp only [List.length_cons,List.length_nil];omega) qD qK ?_)|(refine mo ?_)|exact bq fun _ _ h=>⟨k - 1,by omega,i+1,by omega,by rw [gg hx];exact h.drop.keep [6,3,2,1]⟩|apply bI|apply bJ|apply bM|apply ab (id:=11) [] [] 11|apply au|apply aR|apply bG|apply bL|apply bB|apply bK|apply bC|apply bH|apply ae|apply bc|apply cI|apply cG|apply bF|refine aO rfl ?_|apply bE|apply cH|apply cF|apply fz|apply fy|refine fC rfl ?_|apply fA|apply fE|apply cJ|exact bN [117] 0 fh|exact c_ (r:=aG) [117] 0 gW rfl qD qD qD|exact gU|(intro _;simp only[cu,cx,cC,List.map,List.cons_append,List.nil_append])|intro _
  ·have hil:i=(y.2.2.1).length:=qO
   have hc:decide ((i:Int)<((y.2.2.1).length:Int))=false:=decide_eq_false qO
   have e:(y.2.2.1).take i=y.2.2.1:=by rw [hil,List.take_length]
   rw [e] at h
   refine aD h ?_
   clear h
   repeat' first|kernel_rfl|apply bI|apply bJ|apply bM|apply au|apply aR|apply bG|apply bL|apply bB|apply bK|apply bC|apply bH|apply ae|apply bc|apply cI|apply cG|apply bF|refine aO rfl ?_|apply bE|apply cH|apply cF|apply fz|apply fy|refine fC rfl ?_|apply fA|apply fE|apply cJ|exact bN [117] 0 fh|exact c_ (r:=aG) [117] 0 gW rfl qD qD qD|exact gU|(intro _;simp only[cu,cx,cC,List.map,List.cons_append,List.nil_append])|intro _
   refine bn fun a w h=> ?_
   have h:TS w0 (r3::r2::r1::X) [(r3, .st [.is (.int .i64 y.1), .to aH 171 [117] 0 (w0.heap.size) (y.2.1), .to aG 173 [117] 0 (w0.heap.size) (y.2.2.1), .to ak 175 [117] 0 (w0.heap.size) ((y.2.2.2.1).take 0), .to bp 177 [117] 0 (w0.heap.size) ([]), .to b7 179 [117] 0 (w0.heap.size) ([])]),(r2, .tr eT [] 0 (0,(),(),(),(),())),(r1, .tr aA [] w0.heap.size y)] [(8, .is (.int .i64 ((0:Nat):Int))),(3, .is (.pointer (some ⟨r3,0,none⟩))),(2, .is (.pointer (some ⟨r2,0,none⟩))),(1, .is (.pointer (some ⟨r1,0,none⟩)))] 152 a w:=h.keep [8,3,2,1]
   refine aY (fun k a u=>∃ i:Nat,i+k=(y.2.2.2.1).length∧TS w0 (r3::r2::r1::X) [(r3, .st [.is (.int .i64 y.1), .to aH 171 [117] 0 (w0.heap.size) (y.2.1), .to aG 173 [117] 0 (w0.heap.size) (y.2.2.1), .to ak 175 [117] 0 (w0.heap.size) ((y.2.2.2.1).take i), .to bp 177 [117] 0 (w0.heap.size) ([]), .to b7 179 [117] 0 (w0.heap.size) ([])]),(r2, .tr eT [] 0 (0,(),(),(),(),())),(r1, .tr aA [] w0.heap.size y)] [(8, .is (.int .i64 (i:Int))),(3, .is (.pointer (some ⟨r3,0,none⟩))),(2, .is (.pointer (some ⟨r2,0,none⟩))),(1, .is (.pointer (some ⟨r1,0,none⟩)))] 152 a u) (y.2.2.2.1).length ⟨0,by omega,h⟩ ?_
   clear h
   rintro k a u ⟨i,hi,h⟩
   by_cases hlt:i<(y.2.2.2.1).length
   ·obtain ⟨x,hx⟩:∃ x,(y.2.2.2.1)[i]? =some x:=⟨_,List.getElem?_eq_getElem hlt⟩
    have hc:decide ((i:Int)<((y.2.2.2.1).length:Int))=true:=decide_eq_true qO
    have hw:IntKind.i64.wrap ((i:Int)+1)=((i+1:Nat):Int):=az qO qO
    have hh:=hf3 x (List.mem_of_getElem? hx)
    have hlen:((y.2.2.2.1).take i).length≤40:=by rw [List.length_take];omega
    have k0:=fun (C:Nat)=>ej (x:=x.2.2.2.2.2.2) (ts:=[]) (C:=C) (by have g1:=hh.1;have g2:=hh.2.1;omega)
    refine aD h ?_
    clear h
    repeat' first|kernel_rfl|(refine ny r3 3 ?_;refine dL [8,3,2,1] (Nat.le_refl _) (Nat.zero_le _) (fun _ _ ht=>ht.mem.below.size) j2 (by simp only [List.length_cons,List.length_nil];omega) qD qK ?_)|(refine mo ?_)|exact bq fun _ _ h=>⟨k - 1,by omega,i+1,by omega,by rw [gg hx];exact h.drop.keep [8,3,2,1]⟩|apply bI|apply bJ|apply bM|apply ab (id:=16) [] [] 19|apply au|apply aR|apply bG|apply bL|apply bB|apply bK|apply bC|apply bH|apply ae|apply bc|apply cI|apply cG|apply bF|refine aO rfl ?_|apply bE|apply cH|apply cF|apply fz|apply fy|refine fC rfl ?_|apply fA|apply fE|apply cJ|exact bN [117] 0 fd|exact c_ (r:=ak) [117] 0 g9 rfl qD qD qD|exact gU|(intro _;simp only[cu,cx,cC,List.map,List.cons_append,List.nil_append])|intro _
   ·have hil:i=(y.2.2.2.1).length:=qO
    have hc:decide ((i:Int)<((y.2.2.2.1).length:Int))=false:=decide_eq_false qO
    have e:(y.2.2.2.1).take i=y.2.2.2.1:=by rw [hil,List.take_length]
    rw [e] at h
    refine aD h ?_
    clear h
    repeat' first|kernel_rfl|apply bI|apply bJ|apply bM|apply au|apply aR|apply bG|apply bL|apply bB|apply bK|apply bC|apply bH|apply ae|apply bc|apply cI|apply cG|apply bF|refine aO rfl ?_|apply bE|apply cH|apply cF|apply fz|apply fy|refine fC rfl ?_|apply fA|apply fE|apply cJ|exact bN [117] 0 fd|exact c_ (r:=ak) [117] 0 g9 rfl qD qD qD|exact gU|(intro _;simp only[cu,cx,cC,List.map,List.cons_append,List.nil_append])|intro _
    refine bn fun a w h=> ?_
    have h:TS w0 (r3::r2::r1::X) [(r3, .st [.is (.int .i64 y.1), .to aH 171 [117] 0 (w0.heap.size) (y.2.1), .to aG 173 [117] 0 (w0.heap.size) (y.2.2.1), .to ak 175 [117] 0 (w0.heap.size) (y.2.2.2.1), .to bp 177 [117] 0 (w0.heap.size) ((y.2.2.2.2.1).take 0), .to b7 179 [117] 0 (w0.heap.size) ([])]),(r2, .tr eT [] 0 (0,(),(),(),(),())),(r1, .tr aA [] w0.heap.size y)] [(10, .is (.int .i64 ((0:Nat):Int))),(3, .is (.pointer (some ⟨r3,0,none⟩))),(2, .is (.pointer (some ⟨r2,0,none⟩))),(1, .is (.pointer (some ⟨r1,0,none⟩)))] 152 a w:=h.keep [10,3,2,1]
    refine aY (fun k a u=>∃ i:Nat,i+k=(y.2.2.2.2.1).length∧TS w0 (r3::r2::r1::X) [(r3, .st [.is (.int .i64 y.1), .to aH 171 [117] 0 (w0.heap.size) (y.2.1), .to aG 173 [117] 0 (w0.heap.size) (y.2.2.1), .to ak 175 [117] 0 (w0.heap.size) (y.2.2.2.1), .to bp 177 [117] 0 (w0.heap.size) ((y.2.2.2.2.1).take i), .to b7 179 [117] 0 (w0.heap.size) ([])]),(r2, .tr eT [] 0 (0,(),(),(),(),())),(r1, .tr aA [] w0.heap.size y)] [(10, .is (.int .i64 (i:Int))),(3, .is (.pointer (some ⟨r3,0,none⟩))),(2, .is (.pointer (some ⟨r2,0,none⟩))),(1, .is (.pointer (some ⟨r1,0,none⟩)))] 152 a u) (y.2.2.2.2.1).length ⟨0,by omega,h⟩ ?_
    clear h
    rintro k a u ⟨i,hi,h⟩
    by_cases hlt:i<(y.2.2.2.2.1).length
    ·obtain ⟨x,hx⟩:∃ x,(y.2.2.2.2.1)[i]? =some x:=⟨_,List.getElem?_eq_getElem hlt⟩
     have hc:decide ((i:Int)<((y.2.2.2.2.1).length:Int))=true:=decide_eq_true qO
     have hw:IntKind.i64.wrap ((i:Int)+1)=((i+1:Nat):Int):=az qO qO
     have hh:=hf4 x (List.mem_of_getElem? hx)
     have hlen:((y.2.2.2.2.1).take i).length≤40:=by rw [List.length_take];omega
     have k0:=fun (C:Nat)=>ej (x:=x.2.1) (ts:=[]) (C:=C) (by have g1:=hh.1.1;have g2:=hh.1.2.1;omega)
     have k1:=fun (C:Nat)=>ej (x:=x.2.2) (ts:=[]) (C:=C) (by have g1:=hh.2.1;have g2:=hh.2.2.1;omega)
     refine aD h ?_
     clear h
     repeat' first|kernel_rfl|(refine ny r3 4 ?_;refine dL [10,3,2,1] (Nat.le_refl _) (Nat.zero_le _) (fun _ _ ht=>ht.mem.below.size) jJ (by simp only [List.length_cons,List.length_nil];omega) qD qK ?_)|(refine mo ?_)|exact bq fun _ _ h=>⟨k - 1,by omega,i+1,by omega,by rw [gg hx];exact h.drop.keep [10,3,2,1]⟩|apply bI|apply bJ|apply bM|apply ab (id:=21) [] [] 12|apply au|apply aR|apply bG|apply bL|apply bB|apply bK|apply bC|apply bH|apply ae|apply bc|apply cI|apply cG|apply bF|refine aO rfl ?_|apply bE|apply cH|apply cF|apply fz|apply fy|refine fC rfl ?_|apply fA|apply fE|apply cJ|exact bN [117] 0 gi|exact c_ (r:=bp) [117] 0 gn rfl qD qD qD|exact gU|(intro _;simp only[cu,cx,cC,List.map,List.cons_append,List.nil_append])|intro _
    ·have hil:i=(y.2.2.2.2.1).length:=qO
     have hc:decide ((i:Int)<((y.2.2.2.2.1).length:Int))=false:=decide_eq_false qO
     have e:(y.2.2.2.2.1).take i=y.2.2.2.2.1:=by rw [hil,List.take_length]
     rw [e] at h
     refine aD h ?_
     clear h
     repeat' first|kernel_rfl|apply bI|apply bJ|apply bM|apply au|apply aR|apply bG|apply bL|apply bB|apply bK|apply bC|apply bH|apply ae|apply bc|apply cI|apply cG|apply bF|refine aO rfl ?_|apply bE|apply cH|apply cF|apply fz|apply fy|refine fC rfl ?_|apply fA|apply fE|apply cJ|exact bN [117] 0 gi|exact c_ (r:=bp) [117] 0 gn rfl qD qD qD|exact gU|(intro _;simp only[cu,cx,cC,List.map,List.cons_append,List.nil_append])|intro _
     refine bn fun a w h=> ?_
     have h:TS w0 (r3::r2::r1::X) [(r3, .st [.is (.int .i64 y.1), .to aH 171 [117] 0 (w0.heap.size) (y.2.1), .to aG 173 [117] 0 (w0.heap.size) (y.2.2.1), .to ak 175 [117] 0 (w0.heap.size) (y.2.2.2.1), .to bp 177 [117] 0 (w0.heap.size) (y.2.2.2.2.1), .to b7 179 [117] 0 (w0.heap.size) ((y.2.2.2.2.2).take 0)]),(r2, .tr eT [] 0 (0,(),(),(),(),())),(r1, .tr aA [] w0.heap.size y)] [(12, .is (.int .i64 ((0:Nat):Int))),(3, .is (.pointer (some ⟨r3,0,none⟩))),(2, .is (.pointer (some ⟨r2,0,none⟩))),(1, .is (.pointer (some ⟨r1,0,none⟩)))] 152 a w:=h.keep [12,3,2,1]
     refine aY (fun k a u=>∃ i:Nat,i+k=(y.2.2.2.2.2).length∧TS w0 (r3::r2::r1::X) [(r3, .st [.is (.int .i64 y.1), .to aH 171 [117] 0 (w0.heap.size) (y.2.1), .to aG 173 [117] 0 (w0.heap.size) (y.2.2.1), .to ak 175 [117] 0 (w0.heap.size) (y.2.2.2.1), .to bp 177 [117] 0 (w0.heap.size) (y.2.2.2.2.1), .to b7 179 [117] 0 (w0.heap.size) ((y.2.2.2.2.2).take i)]),(r2, .tr eT [] 0 (0,(),(),(),(),())),(r1, .tr aA [] w0.heap.size y)] [(12, .is (.int .i64 (i:Int))),(3, .is (.pointer (some ⟨r3,0,none⟩))),(2, .is (.pointer (some ⟨r2,0,none⟩))),(1, .is (.pointer (some ⟨r1,0,none⟩)))] 152 a u) (y.2.2.2.2.2).length ⟨0,by omega,h⟩ ?_
     clear h
     rintro k a u ⟨i,hi,h⟩
     by_cases hlt:i<(y.2.2.2.2.2).length
     ·obtain ⟨x,hx⟩:∃ x,(y.2.2.2.2.2)[i]? =some x:=⟨_,List.getElem?_eq_getElem hlt⟩
      have hc:decide ((i:Int)<((y.2.2.2.2.2).length:Int))=true:=decide_eq_true qO
      have hw:IntKind.i64.wrap ((i:Int)+1)=((i+1:Nat):Int):=az qO qO
      have hh:=hf5 x (List.mem_of_getElem? hx)
      have hlen:((y.2.2.2.2.2).take i).length≤40:=by rw [List.length_take];omega
      have k0:=fun (C:Nat)=>ej (x:=x.2) (ts:=[]) (C:=C) (by have g1:=hh.1;have g2:=hh.2.1;omega)
      refine aD h ?_
      clear h
      repeat' first|kernel_rfl|(refine ny r3 5 ?_;refine dL [12,3,2,1] (Nat.le_refl _) (Nat.zero_le _) (fun _ _ ht=>ht.mem.below.size) j5 (by simp only [List.length_cons,List.length_nil];omega) qD qK ?_)|(refine mo ?_)|exact bq fun _ _ h=>⟨k - 1,by omega,i+1,by omega,by rw [gg hx];exact h.keep [12,3,2,1]⟩|apply bI|apply bJ|apply bM|apply ab (id:=25) [] [] 17|apply au|apply aR|apply bG|apply bL|apply bB|apply bK|apply bC|apply bH|apply ae|apply bc|apply cI|apply cG|apply bF|refine aO rfl ?_|apply bE|apply cH|apply cF|apply fz|apply fy|refine fC rfl ?_|apply fA|apply fE|apply cJ|exact bN [117] 0 gm|exact c_ (r:=b7) [117] 0 gS rfl qD qD qD|exact gU|(intro _;simp only[cu,cx,cC,List.map,List.cons_append,List.nil_append])|intro _
     ·have hil:i=(y.2.2.2.2.2).length:=qO
      have hc:decide ((i:Int)<((y.2.2.2.2.2).length:Int))=false:=decide_eq_false qO
      have e:(y.2.2.2.2.2).take i=y.2.2.2.2.2:=by rw [hil,List.take_length]
      rw [e] at h
      refine aD h ?_
      clear h
      repeat' first|kernel_rfl|apply bI|apply bJ|apply bM|apply au|apply aR|apply bG|apply bL|apply bB|apply bK|apply bC|apply bH|apply ae|apply bc|apply cI|apply cG|apply bF|refine aO rfl ?_|apply bE|apply cH|apply cF|apply fz|apply fy|refine fC rfl ?_|apply fA|apply fE|apply cJ|exact bN [117] 0 gm|exact c_ (r:=b7) [117] 0 gS rfl qD qD qD|exact ⟨fun _ _=>fun _ h=>Cs h⟩|exact gU|(intro _;simp only[cu,cx,cC,List.map,List.cons_append,List.nil_append])|intro _
abbrev mI:=(List UInt8)×(List UInt8)×(Unit)×(aP)×(aP)×(Int)×(Int)×(aP)×(aP)×(Int)×(Unit)×(Unit)×(Unit)
abbrev cp:Rp mI:=(Rp.str).pair ((Rp.str).pair ((Rp.nil).pair ((Rp.frac).pair ((Rp.frac).pair (((Rp.int .i64)).pair (((Rp.int .i64)).pair ((Rp.frac).pair ((Rp.frac).pair (((Rp.int .i64)).pair ((Rp.nil).pair ((Rp.nil).pair (Rp.nil))))))))))))
theorem lg:eH Tryz.prog 44 cp ([],[],(),((false,[]),(false,[])),((false,[]),(false,[])),0,0,((false,[]),(false,[])),((false,[]),(false,[])),0,(),(),()):=⟨by
 obtain ⟨i,h1,h2,h3,h4⟩:∃ i,Tryz.prog.info? 44=some i∧i.zero=some (.agg #[Tx [],Tx [], .slice none 0 0, .bool false, .slice none 0 0, .bool false, .slice none 0 0, .bool false, .slice none 0 0, .bool false, .slice none 0 0, .int .i64 0, .int .i64 0, .bool false, .slice none 0 0, .bool false, .slice none 0 0, .bool false, .slice none 0 0, .bool false, .slice none 0 0, .int .i64 0, .slice none 0 0, .slice none 0 0, .slice none 0 0])∧i.size=25∧i.bytes=408:=info_parts qK
 refine ⟨_,i,_,Tryz.underlying44,(fun f hf=> ?_),h1,h2,fun w S=> ?_⟩
 ·simp only [List.mem_cons,List.not_mem_nil,or_false] at hf
  rcases hf with rfl|rfl|rfl|rfl|rfl|rfl|rfl|rfl|rfl|rfl|rfl|rfl|rfl<;>exact Option.isSome_iff_exists.1 qK
 ·exact ⟨[Tx []],[Tx [], .slice none 0 0, .bool false, .slice none 0 0, .bool false, .slice none 0 0, .bool false, .slice none 0 0, .bool false, .slice none 0 0, .int .i64 0, .int .i64 0, .bool false, .slice none 0 0, .bool false, .slice none 0 0, .bool false, .slice none 0 0, .bool false, .slice none 0 0, .int .i64 0, .slice none 0 0, .slice none 0 0, .slice none 0 0],rfl,⟨_,rfl,bU []⟩,⟨[Tx []],[.slice none 0 0, .bool false, .slice none 0 0, .bool false, .slice none 0 0, .bool false, .slice none 0 0, .bool false, .slice none 0 0, .int .i64 0, .int .i64 0, .bool false, .slice none 0 0, .bool false, .slice none 0 0, .bool false, .slice none 0 0, .bool false, .slice none 0 0, .int .i64 0, .slice none 0 0, .slice none 0 0, .slice none 0 0],rfl,⟨_,rfl,bU []⟩,⟨[.slice none 0 0],[.bool false, .slice none 0 0, .bool false, .slice none 0 0, .bool false, .slice none 0 0, .bool false, .slice none 0 0, .int .i64 0, .int .i64 0, .bool false, .slice none 0 0, .bool false, .slice none 0 0, .bool false, .slice none 0 0, .bool false, .slice none 0 0, .int .i64 0, .slice none 0 0, .slice none 0 0, .slice none 0 0],rfl,rfl,⟨[.bool false, .slice none 0 0, .bool false, .slice none 0 0],[.bool false, .slice none 0 0, .bool false, .slice none 0 0, .int .i64 0, .int .i64 0, .bool false, .slice none 0 0, .bool false, .slice none 0 0, .bool false, .slice none 0 0, .bool false, .slice none 0 0, .int .i64 0, .slice none 0 0, .slice none 0 0, .slice none 0 0],rfl,⟨[.bool false, .slice none 0 0],[.bool false, .slice none 0 0],rfl,⟨[.bool false],[.slice none 0 0],rfl,rfl,⟨none,0,0,rfl,⟨⟨rfl,Nat.le_refl _,Nat.zero_le _,fun _=>rfl,fun h=>absurd h qO⟩,fun h=>absurd h qO⟩,fun _ h=>by cases h⟩⟩,⟨[.bool false],[.slice none 0 0],rfl,rfl,⟨none,0,0,rfl,⟨⟨rfl,Nat.le_refl _,Nat.zero_le _,fun _=>rfl,fun h=>absurd h qO⟩,fun h=>absurd h qO⟩,fun _ h=>by cases h⟩⟩⟩,⟨[.bool false, .slice none 0 0, .bool false, .slice none 0 0],[.int .i64 0, .int .i64 0, .bool false, .slice none 0 0, .bool false, .slice none 0 0, .bool false, .slice none 0 0, .bool false, .slice none 0 0, .int .i64 0, .slice none 0 0, .slice none 0 0, .slice none 0 0],rfl,⟨[.bool false, .slice none 0 0],[.bool false, .slice none 0 0],rfl,⟨[.bool false],[.slice none 0 0],rfl,rfl,⟨none,0,0,rfl,⟨⟨rfl,Nat.le_refl _,Nat.zero_le _,fun _=>rfl,fun h=>absurd h qO⟩,fun h=>absurd h qO⟩,fun _ h=>by cases h⟩⟩,⟨[.bool false],[.slice none 0 0],rfl,rfl,⟨none,0,0,rfl,⟨⟨rfl,Nat.le_refl _,Nat.zero_le _,fun _=>rfl,fun h=>absurd h qO⟩,fun h=>absurd h qO⟩,fun _ h=>by cases h⟩⟩⟩,⟨[.int .i64 0],[.int .i64 0, .bool false, .slice none 0 0, .bool false, .slice none 0 0, .bool false, .slice none 0 0, .bool false, .slice none 0 0, .int .i64 0, .slice none 0 0, .slice none 0 0, .slice none 0 0],rfl,rfl,⟨[.int .i64 0],[.bool false, .slice none 0 0, .bool false, .slice none 0 0, .bool false, .slice none 0 0, .bool false, .slice none 0 0, .int .i64 0, .slice none 0 0, .slice none 0 0, .slice none 0 0],rfl,rfl,⟨[.bool false, .slice none 0 0, .bool false, .slice none 0 0],[.bool false, .slice none 0 0, .bool false, .slice none 0 0, .int .i64 0, .slice none 0 0, .slice none 0 0, .slice none 0 0],rfl,⟨[.bool false, .slice none 0 0],[.bool false, .slice none 0 0],rfl,⟨[.bool false],[.slice none 0 0],rfl,rfl,⟨none,0,0,rfl,⟨⟨rfl,Nat.le_refl _,Nat.zero_le _,fun _=>rfl,fun h=>absurd h qO⟩,fun h=>absurd h qO⟩,fun _ h=>by cases h⟩⟩,⟨[.bool false],[.slice none 0 0],rfl,rfl,⟨none,0,0,rfl,⟨⟨rfl,Nat.le_refl _,Nat.zero_le _,fun _=>rfl,fun h=>absurd h qO⟩,fun h=>absurd h qO⟩,fun _ h=>by cases h⟩⟩⟩,⟨[.bool false, .slice none 0 0, .bool false, .slice none 0 0],[.int .i64 0, .slice none 0 0, .slice none 0 0, .slice none 0 0],rfl,⟨[.bool false, .slice none 0 0],[.bool false, .slice none 0 0],rfl,⟨[.bool false],[.slice none 0 0],rfl,rfl,⟨none,0,0,rfl,⟨⟨rfl,Nat.le_refl _,Nat.zero_le _,fun _=>rfl,fun h=>absurd h qO⟩,fun h=>absurd h qO⟩,fun _ h=>by cases h⟩⟩,⟨[.bool false],[.slice none 0 0],rfl,rfl,⟨none,0,0,rfl,⟨⟨rfl,Nat.le_refl _,Nat.zero_le _,fun _=>rfl,fun h=>absurd h qO⟩,fun h=>absurd h qO⟩,fun _ h=>by cases h⟩⟩⟩,⟨[.int .i64 0],[.slice none 0 0, .slice none 0 0, .slice none 0 0],rfl,rfl,⟨[.slice none 0 0],[.slice none 0 0, .slice none 0 0],rfl,rfl,⟨[.slice none 0 0],[.slice none 0 0],rfl,rfl,rfl⟩⟩⟩⟩⟩⟩⟩⟩⟩⟩⟩⟩⟩
instance:aj cp 0 Rp.str (fun a b=>(b,a.2)):=aj.fst
instance:aj cp 1 Rp.str (fun a b=>(a.1,(b,a.2.2))):=(aj.tail (n:=1) ⟨rfl⟩ aj.fst rfl)
instance:aj cp 3 Rp.frac (fun a b=>(a.1,(a.2.1,(a.2.2.1,(b,a.2.2.2.2))))):=(aj.tail (n:=3) ⟨rfl⟩ (aj.tail (n:=2) ⟨rfl⟩ (aj.tail (n:=1) ⟨rfl⟩ aj.fst rfl) rfl) rfl)
instance:aj cp 7 Rp.frac (fun a b=>(a.1,(a.2.1,(a.2.2.1,(a.2.2.2.1,(b,a.2.2.2.2.2)))))):=(aj.tail (n:=7) ⟨rfl⟩ (aj.tail (n:=6) ⟨rfl⟩ (aj.tail (n:=5) ⟨rfl⟩ (aj.tail (n:=4) ⟨rfl⟩ aj.fst rfl) rfl) rfl) rfl)
instance:aj cp 11 (Rp.int .i64) (fun a b=>(a.1,(a.2.1,(a.2.2.1,(a.2.2.2.1,(a.2.2.2.2.1,(b,a.2.2.2.2.2.2))))))):=(aj.tail (n:=11) ⟨rfl⟩ (aj.tail (n:=10) ⟨rfl⟩ (aj.tail (n:=9) ⟨rfl⟩ (aj.tail (n:=8) ⟨rfl⟩ (aj.tail (n:=4) ⟨rfl⟩ aj.fst rfl) rfl) rfl) rfl) rfl)
instance:aj cp 12 (Rp.int .i64) (fun a b=>(a.1,(a.2.1,(a.2.2.1,(a.2.2.2.1,(a.2.2.2.2.1,(a.2.2.2.2.2.1,(b,a.2.2.2.2.2.2.2)))))))):=(aj.tail (n:=12) ⟨rfl⟩ (aj.tail (n:=11) ⟨rfl⟩ (aj.tail (n:=10) ⟨rfl⟩ (aj.tail (n:=9) ⟨rfl⟩ (aj.tail (n:=5) ⟨rfl⟩ (aj.tail (n:=1) ⟨rfl⟩ aj.fst rfl) rfl) rfl) rfl) rfl) rfl)
instance:aj cp 13 Rp.frac (fun a b=>(a.1,(a.2.1,(a.2.2.1,(a.2.2.2.1,(a.2.2.2.2.1,(a.2.2.2.2.2.1,(a.2.2.2.2.2.2.1,(b,a.2.2.2.2.2.2.2.2))))))))):=(aj.tail (n:=13) ⟨rfl⟩ (aj.tail (n:=12) ⟨rfl⟩ (aj.tail (n:=11) ⟨rfl⟩ (aj.tail (n:=10) ⟨rfl⟩ (aj.tail (n:=6) ⟨rfl⟩ (aj.tail (n:=2) ⟨rfl⟩ (aj.tail (n:=1) ⟨rfl⟩ aj.fst rfl) rfl) rfl) rfl) rfl) rfl) rfl)
instance:aj cp 17 Rp.frac (fun a b=>(a.1,(a.2.1,(a.2.2.1,(a.2.2.2.1,(a.2.2.2.2.1,(a.2.2.2.2.2.1,(a.2.2.2.2.2.2.1,(a.2.2.2.2.2.2.2.1,(b,a.2.2.2.2.2.2.2.2.2)))))))))):=(aj.tail (n:=17) ⟨rfl⟩ (aj.tail (n:=16) ⟨rfl⟩ (aj.tail (n:=15) ⟨rfl⟩ (aj.tail (n:=14) ⟨rfl⟩ (aj.tail (n:=10) ⟨rfl⟩ (aj.tail (n:=6) ⟨rfl⟩ (aj.tail (n:=5) ⟨rfl⟩ (aj.tail (n:=4) ⟨rfl⟩ aj.fst rfl) rfl) rfl) rfl) rfl) rfl) rfl) rfl)
instance:aj cp 21 (Rp.int .i64) (fun a b=>(a.1,(a.2.1,(a.2.2.1,(a.2.2.2.1,(a.2.2.2.2.1,(a.2.2.2.2.2.1,(a.2.2.2.2.2.2.1,(a.2.2.2.2.2.2.2.1,(a.2.2.2.2.2.2.2.2.1,(b,a.2.2.2.2.2.2.2.2.2.2))))))))))):=(aj.tail (n:=21) ⟨rfl⟩ (aj.tail (n:=20) ⟨rfl⟩ (aj.tail (n:=19) ⟨rfl⟩ (aj.tail (n:=18) ⟨rfl⟩ (aj.tail (n:=14) ⟨rfl⟩ (aj.tail (n:=10) ⟨rfl⟩ (aj.tail (n:=9) ⟨rfl⟩ (aj.tail (n:=8) ⟨rfl⟩ (aj.tail (n:=4) ⟨rfl⟩ aj.fst rfl) rfl) rfl) rfl) rfl) rfl) rfl) rfl) rfl)
instance:KC cp 25:=⟨rfl⟩
instance:dq Tryz.prog 44 (.tr cp [] 0 ([],[],(),((false,[]),(false,[])),((false,[]),(false,[])),0,0,((false,[]),(false,[])),((false,[]),(false,[])),0,(),(),())):=lg.alT
theorem cY.uncons{T:aa} :∀ {cs:List Value},cY X w (T::Ts) cs→∃ v cs',cs=v::cs'∧T.holds X w v∧cY X w Ts cs'
 |[],h=>h.elim
 |v::cs',h=>⟨v,cs',rfl,h.1,h.2⟩
theorem cY.unnil:∀ {cs:List Value},cY X w [] cs→cs=[]
 |[],_=>rfl
 |_::_,h=>h.elim
theorem v2{α:Type} {r:Rp α} {S:Nat→Prop} {a:α} {cs:List Value} (hk:r.k=1) (h:r.rd w S a cs):∃ v,cs=[v]:=by
 have:=r.len h
 rw [hk] at this
 match cs,this with
 |[v],_=>exact ⟨v,rfl⟩
theorem jM{ts:List TypeId} {cs:List Value} (h:Rp.frac.rd w (cE ts C X w) x cs):∃ a b c d,cs=[a,b,c,d]∧a= .bool x.1.1∧(aa.tc Rp.limbs ts C x.1.2).holds X w b∧c= .bool x.2.1∧(aa.tc Rp.limbs ts C x.2.2).holds X w d:=by
 obtain ⟨_,_,rfl,⟨a,b,rfl,h1,h2⟩,⟨c,d,rfl,h3,h4⟩⟩:=h
 have h1:a=[.bool x.1.1]:=h1
 have h3:c=[.bool x.2.1]:=h3
 subst h1 h3
 obtain ⟨b,rfl⟩:=v2 rfl h2
 obtain ⟨d,rfl⟩:=v2 rfl h4
 exact ⟨_,b,_,d,rfl,rfl,h2,rfl,h4⟩
theorem n_{ts:List TypeId} {a b c d:Value} (h1:a= .bool x.1.1) (h2:(aa.tc Rp.limbs ts C x.1.2).holds X w b) (h3:c= .bool x.2.1) (h4:(aa.tc Rp.limbs ts C x.2.2).holds X w d) {ts':List TypeId} [s:fP ts ts']:Rp.frac.rd w (cE ts' C X w) x [a,b,c,d]:=
 Rp.frac.more (S:=cE ts C X w) ⟨[a,b],[c,d],rfl,⟨[a],[b],rfl,by rw [h1];rfl,h2⟩,⟨[c],[d],rfl,by rw [h3];rfl,h4⟩⟩ (cE.sub (s:=s))
theorem zt{S:Nat→Prop} {l:List UInt8} (h:v=Tx l):Rp.str.rd w S l [v]:=⟨_,congrArg (fun u=>[u]) h,bU l⟩
instance:im 93 [117]:=⟨by decide⟩
instance:im 93 [95,117]:=⟨by decide⟩
instance:im 93 [9]:=⟨by decide⟩
instance:im 93 [103,171,173,175,177,179,117]:=⟨by decide⟩
instance:im 95 [117]:=⟨by decide⟩
instance:im 95 [93,117]:=⟨by decide⟩
instance:im 95 [9]:=⟨by decide⟩
instance:im 95 [103,171,173,175,177,179,117]:=⟨by decide⟩
instance:im 9 [93,117]:=⟨by decide⟩
instance:im 9 [95,117]:=⟨by decide⟩
instance:im 9 [103,171,173,175,177,179,117]:=⟨by decide⟩
instance:im 103 [171,173,175,177,179,117]:=⟨by decide⟩
instance:im 103 [93,117]:=⟨by decide⟩
instance:im 103 [95,117]:=⟨by decide⟩
instance:im 103 [9]:=⟨by decide⟩
instance:fP [93,117] [9,93,95,103,171,173,175,177,179,117]:=⟨by decide⟩
instance:fP [95,117] [9,93,95,103,171,173,175,177,179,117]:=⟨by decide⟩
instance:fP [9] [9,93,95,103,171,173,175,177,179,117]:=⟨by decide⟩
instance:fP [103,171,173,175,177,179,117] [9,93,95,103,171,173,175,177,179,117]:=⟨by decide⟩
instance:fP [117] [9,93,95,103,171,173,175,177,179,117]:=⟨by decide⟩
instance:im 9 [117]:=⟨by decide⟩
instance:im 103 [117]:=⟨by decide⟩
theorem uM{x:mI} (h:(aa.tr cp [117] 0 x).holds X w v):(aa.st [.is (Tx (x.1)), .is (Tx (x.2.1)), .to a8 93 [117] 0 (B) ([]), .is (.bool (x.2.2.2.1).1.1), .tc Rp.limbs [117] 0 (x.2.2.2.1).1.2, .is (.bool (x.2.2.2.1).2.1), .tc Rp.limbs [117] 0 (x.2.2.2.1).2.2, .is (.bool (x.2.2.2.2.1).1.1), .tc Rp.limbs [117] 0 (x.2.2.2.2.1).1.2, .is (.bool (x.2.2.2.2.1).2.1), .tc Rp.limbs [117] 0 (x.2.2.2.2.1).2.2, .is (.int .i64 (x.2.2.2.2.2.1)), .is (.int .i64 (x.2.2.2.2.2.2.1)), .is (.bool (x.2.2.2.2.2.2.2.1).1.1), .tc Rp.limbs [117] 0 (x.2.2.2.2.2.2.2.1).1.2, .is (.bool (x.2.2.2.2.2.2.2.1).2.1), .tc Rp.limbs [117] 0 (x.2.2.2.2.2.2.2.1).2.2, .is (.bool (x.2.2.2.2.2.2.2.2.1).1.1), .tc Rp.limbs [117] 0 (x.2.2.2.2.2.2.2.2.1).1.2, .is (.bool (x.2.2.2.2.2.2.2.2.1).2.1), .tc Rp.limbs [117] 0 (x.2.2.2.2.2.2.2.2.1).2.2, .is (.int .i64 (x.2.2.2.2.2.2.2.2.2.1)), .to bt 95 [117] 0 (B) ([]), .to Rp.str 9 [] 0 (B) ([]), .to aA 103 [171,173,175,177,179,117] 0 (B) ([])]).holds X w v:=by
 obtain ⟨cs,e,h⟩:=h
 have hone:=cp.one h
 obtain ⟨c0,q0,e0,h0,c1,q1,e1,h1,c2,q2,e2,h2,c3,q3,e3,h3,c4,q4,e4,h4,c5,q5,e5,h5,c6,q6,e6,h6,c7,q7,e7,h7,c8,q8,e8,h8,c9,q9,e9,h9,c10,q10,e10,h10,c11,q11,e11,h11,h12⟩:=h
 obtain ⟨v0,g0⟩:=v2 rfl h0
 subst g0
 obtain ⟨v1,g1⟩:=v2 rfl h1
 subst g1
 have h2:c2=[.slice none 0 0]:=h2
 subst h2
 obtain ⟨f3a,f3b,f3c,f3d,g3,m3a,m3b,m3c,m3d⟩:=jM h3
 subst g3
 obtain ⟨f4a,f4b,f4c,f4d,g4,m4a,m4b,m4c,m4d⟩:=jM h4
 subst g4
 have h5:c5=[.int .i64 _]:=h5
 subst h5
 have h6:c6=[.int .i64 _]:=h6
 subst h6
 obtain ⟨f7a,f7b,f7c,f7d,g7,m7a,m7b,m7c,m7d⟩:=jM h7
 subst g7
 obtain ⟨f8a,f8b,f8c,f8d,g8,m8a,m8b,m8c,m8d⟩:=jM h8
 subst g8
 have h9:c9=[.int .i64 _]:=h9
 subst h9
 have h10:c10=[.slice none 0 0]:=h10
 subst h10
 have h11:c11=[.slice none 0 0]:=h11
 subst h11
 have h12:q11=[.slice none 0 0]:=h12
 subst h12
 subst e11 e10 e9 e8 e7 e6 e5 e4 e3 e2 e1 e0
 exact ⟨_,e,⟨kA.ok (r:=Rp.str) (Rp.str.more h0 fun _ hb=>hb.1),kA.ok (r:=Rp.str) (Rp.str.more h1 fun _ hb=>hb.1),je rfl,m3a,m3b,m3c,m3d,m4a,m4b,m4c,m4d,rfl,rfl,m7a,m7b,m7c,m7d,m8a,m8b,m8c,m8d,rfl,je rfl,je rfl,je rfl,trivial⟩,hone⟩
theorem xr{d:aI} (h:(aa.st [.is (Tx (d.1)), .is (Tx (d.2.1)), .to a8 93 [117] 0 (B) (d.2.2.1), .is (.bool (d.2.2.2.1).1.1), .tc Rp.limbs [117] 0 (d.2.2.2.1).1.2, .is (.bool (d.2.2.2.1).2.1), .tc Rp.limbs [117] 0 (d.2.2.2.1).2.2, .is (.bool (d.2.2.2.2.1).1.1), .tc Rp.limbs [117] 0 (d.2.2.2.2.1).1.2, .is (.bool (d.2.2.2.2.1).2.1), .tc Rp.limbs [117] 0 (d.2.2.2.2.1).2.2, .is (.int .i64 (d.2.2.2.2.2.1)), .is (.int .i64 (d.2.2.2.2.2.2.1)), .is (.bool (d.2.2.2.2.2.2.2.1).1.1), .tc Rp.limbs [117] 0 (d.2.2.2.2.2.2.2.1).1.2, .is (.bool (d.2.2.2.2.2.2.2.1).2.1), .tc Rp.limbs [117] 0 (d.2.2.2.2.2.2.2.1).2.2, .is (.bool (d.2.2.2.2.2.2.2.2.1).1.1), .tc Rp.limbs [117] 0 (d.2.2.2.2.2.2.2.2.1).1.2, .is (.bool (d.2.2.2.2.2.2.2.2.1).2.1), .tc Rp.limbs [117] 0 (d.2.2.2.2.2.2.2.2.1).2.2, .is (.int .i64 (d.2.2.2.2.2.2.2.2.2.1)), .to bt 95 [117] 0 (B) (d.2.2.2.2.2.2.2.2.2.2.1), .to Rp.str 9 [] 0 (B) (d.2.2.2.2.2.2.2.2.2.2.2.1), .to aA 103 [171,173,175,177,179,117] 0 (B) (d.2.2.2.2.2.2.2.2.2.2.2.2)]).holds X w v):(aa.tr ai [9,93,95,103,171,173,175,177,179,117] 0 d).holds X w v:=by
 obtain ⟨cs,e,h,ho⟩:=h
 obtain ⟨a0,r0,rfl,u0,h⟩:=h.uncons
 obtain ⟨a1,r1,rfl,u1,h⟩:=h.uncons
 obtain ⟨a2,r2,rfl,u2,h⟩:=h.uncons
 obtain ⟨a3a,r3,rfl,u3a,h⟩:=h.uncons
 obtain ⟨a3b,r4,rfl,u3b,h⟩:=h.uncons
 obtain ⟨a3c,r5,rfl,u3c,h⟩:=h.uncons
 obtain ⟨a3d,r6,rfl,u3d,h⟩:=h.uncons
 obtain ⟨a4a,r7,rfl,u4a,h⟩:=h.uncons
 obtain ⟨a4b,r8,rfl,u4b,h⟩:=h.uncons
 obtain ⟨a4c,r9,rfl,u4c,h⟩:=h.uncons
 obtain ⟨a4d,r10,rfl,u4d,h⟩:=h.uncons
 obtain ⟨a5,r11,rfl,u5,h⟩:=h.uncons
 obtain ⟨a6,r12,rfl,u6,h⟩:=h.uncons
 obtain ⟨a7a,r13,rfl,u7a,h⟩:=h.uncons
 obtain ⟨a7b,r14,rfl,u7b,h⟩:=h.uncons
 obtain ⟨a7c,r15,rfl,u7c,h⟩:=h.uncons
 obtain ⟨a7d,r16,rfl,u7d,h⟩:=h.uncons
 obtain ⟨a8a,r17,rfl,u8a,h⟩:=h.uncons
 obtain ⟨a8b,r18,rfl,u8b,h⟩:=h.uncons
 obtain ⟨a8c,r19,rfl,u8c,h⟩:=h.uncons
 obtain ⟨a8d,r20,rfl,u8d,h⟩:=h.uncons
 obtain ⟨a9,r21,rfl,u9,h⟩:=h.uncons
 obtain ⟨a10,r22,rfl,u10,h⟩:=h.uncons
 obtain ⟨a11,r23,rfl,u11,h⟩:=h.uncons
 obtain ⟨a12,r24,rfl,u12,h⟩:=h.uncons
 obtain rfl:=h.unnil
 exact ⟨_,e,⟨[a0],[a1,a2,a3a,a3b,a3c,a3d,a4a,a4b,a4c,a4d,a5,a6,a7a,a7b,a7c,a7d,a8a,a8b,a8c,a8d,a9,a10,a11,a12],rfl,zt u0,⟨[a1],[a2,a3a,a3b,a3c,a3d,a4a,a4b,a4c,a4d,a5,a6,a7a,a7b,a7c,a7d,a8a,a8b,a8c,a8d,a9,a10,a11,a12],rfl,zt u1,⟨[a2],[a3a,a3b,a3c,a3d,a4a,a4b,a4c,a4d,a5,a6,a7a,a7b,a7c,a7d,a8a,a8b,a8c,a8d,a9,a10,a11,a12],rfl,i8 u2,⟨[a3a,a3b,a3c,a3d],[a4a,a4b,a4c,a4d,a5,a6,a7a,a7b,a7c,a7d,a8a,a8b,a8c,a8d,a9,a10,a11,a12],rfl,n_ u3a u3b u3c u3d,⟨[a4a,a4b,a4c,a4d],[a5,a6,a7a,a7b,a7c,a7d,a8a,a8b,a8c,a8d,a9,a10,a11,a12],rfl,n_ u4a u4b u4c u4d,⟨[a5],[a6,a7a,a7b,a7c,a7d,a8a,a8b,a8c,a8d,a9,a10,a11,a12],rfl,(by rw [show a5=_ from u5];rfl),⟨[a6],[a7a,a7b,a7c,a7d,a8a,a8b,a8c,a8d,a9,a10,a11,a12],rfl,(by rw [show a6=_ from u6];rfl),⟨[a7a,a7b,a7c,a7d],[a8a,a8b,a8c,a8d,a9,a10,a11,a12],rfl,n_ u7a u7b u7c u7d,⟨[a8a,a8b,a8c,a8d],[a9,a10,a11,a12],rfl,n_ u8a u8b u8c u8d,⟨[a9],[a10,a11,a12],rfl,(by rw [show a9=_ from u9];rfl),⟨[a10],[a11,a12],rfl,i8 u10,⟨[a11],[a12],rfl,i8 u11,i8 u12⟩⟩⟩⟩⟩⟩⟩⟩⟩⟩⟩⟩⟩
instance {ts ts':List TypeId} {C:Nat} {l:List (List UInt8)} [a:tw (.tc Rp.str.row ts C l) Rp.str ts C l]:tw (.tc Rp.str.row ts C l) Rp.str ts' 0 l:=⟨fun h=>by
 obtain ⟨A,c,ps,h1,h2,h3,h4,h5⟩:=a.ok h
 exact ⟨A,c,ps,h1,h2,fun q hq=>h3 q hq,h4,h5⟩⟩
theorem uw{y:bw} {ts:List TypeId} (hf:px y) (hn:y.2.1.length≤40∧y.2.2.1.length≤40∧y.2.2.2.1.length≤40∧y.2.2.2.2.1.length≤40∧y.2.2.2.2.2.length≤40):cw Tryz.prog S1 44 [0] [.tr aA ts C y] (fun _=> .tr aA [171,173,175,177,179,117] 0 y):=(xb hf hn).args fun h=>by
 obtain ⟨v,us,rfl,h1,h2⟩:=h.tail
 exact ⟨pK h1,h2⟩
section
variable {P:Program} {w00:World} {X:List Nat} {L:List Loc} {E:List (Nat×aa)} {n r:Nat} {ops:Array Oper} {rest:List Oper} {Q:Exit→Act→World→Prop} {cs:List Code}
theorem Gh {x:mI} (h:GR P w00 X ((r, .st [.is (Tx (x.1)), .is (Tx (x.2.1)), .to a8 93 [117] 0 (w00.heap.size) ([]), .is (.bool (x.2.2.2.1).1.1), .tc Rp.limbs [117] 0 (x.2.2.2.1).1.2, .is (.bool (x.2.2.2.1).2.1), .tc Rp.limbs [117] 0 (x.2.2.2.1).2.2, .is (.bool (x.2.2.2.2.1).1.1), .tc Rp.limbs [117] 0 (x.2.2.2.2.1).1.2, .is (.bool (x.2.2.2.2.1).2.1), .tc Rp.limbs [117] 0 (x.2.2.2.2.1).2.2, .is (.int .i64 (x.2.2.2.2.2.1)), .is (.int .i64 (x.2.2.2.2.2.2.1)), .is (.bool (x.2.2.2.2.2.2.2.1).1.1), .tc Rp.limbs [117] 0 (x.2.2.2.2.2.2.2.1).1.2, .is (.bool (x.2.2.2.2.2.2.2.1).2.1), .tc Rp.limbs [117] 0 (x.2.2.2.2.2.2.2.1).2.2, .is (.bool (x.2.2.2.2.2.2.2.2.1).1.1), .tc Rp.limbs [117] 0 (x.2.2.2.2.2.2.2.2.1).1.2, .is (.bool (x.2.2.2.2.2.2.2.2.1).2.1), .tc Rp.limbs [117] 0 (x.2.2.2.2.2.2.2.2.1).2.2, .is (.int .i64 (x.2.2.2.2.2.2.2.2.2.1)), .to bt 95 [117] 0 (w00.heap.size) ([]), .to Rp.str 9 [] 0 (w00.heap.size) ([]), .to aA 103 [171,173,175,177,179,117] 0 (w00.heap.size) ([])])::L) E n ops rest cs Q):GR P w00 X ((r, .tr cp [117] 0 x)::L) E n ops rest cs Q:=⟨fun a w ht=>by
 obtain ⟨v,hv,f⟩:=ht.openL (r:=r) List.mem_cons_self
 exact h.run a w (f (uM hv) .here)⟩
theorem D9{Ts':List aa} (i:Nat) [hc:sn Ts i .any Ts'] (h:GR P w00 X ((r, .st Ts')::L) E n ops rest cs Q):GR P w00 X ((r, .st Ts)::L) E n ops rest cs Q:=⟨fun a w ht=>by
 obtain ⟨v,⟨c,e,ha,ho⟩,f⟩:=ht.openL (r:=r) List.mem_cons_self
 exact h.run a w (f (T':= .st Ts') ⟨c,e,by rw [←hc.ok.1];exact ha.any_,ho⟩ .here)⟩
end
theorem DM {d:aI} (hf:tD d) (hn:vD d):cw Tryz.prog S1 10 [0] [.ra ai d] (fun _=> .tr ai [9,93,95,103,171,173,175,177,179,117] 0 d):=by
 have hn1:=hn.br
 have hn2:=hn.cl
 have hn3:=hn.en
 have hn4:=hn.ys
 have m0:=fun (C:Nat)=>ej (x:=d.2.2.2.1) (ts:=[]) (C:=C) (by have g1:=hf.thr.1;have g2:=hf.thr.2.1;omega)
 have m1:=fun (C:Nat)=>ej (x:=d.2.2.2.2.1) (ts:=[]) (C:=C) (by have g1:=hf.cap.1;have g2:=hf.cap.2.1;omega)
 have m2:=fun (C:Nat)=>ej (x:=d.2.2.2.2.2.2.2.1) (ts:=[]) (C:=C) (by have g1:=hf.int.1;have g2:=hf.int.2.1;omega)
 have m3:=fun (C:Nat)=>ej (x:=d.2.2.2.2.2.2.2.2.1) (ts:=[]) (C:=C) (by have g1:=hf.flo.1;have g2:=hf.flo.2.1;omega)
 refine CZ (As':=fun B=>[.tr ai [] B d]) Tryz.func10 rfl Tryz.ntmps10 qE (fun _ _=>by kernel_rfl) (fun {X w vs} ha=>by
  obtain ⟨v,rfl,h⟩:=ha.one
  exact ⟨rt h,trivial⟩) fun X w0 hE=> ?_
 simp only [ar,Nat.zero_add,Nat.reduceAdd]
 repeat' first|kernel_rfl|apply Gh|(refine D9 23 ?_;refine dL [31,3,2,1] (Nat.le_refl _) (Nat.zero_le _) (fun _ _ ht=>ht.mem.below.size) gP (by simp only [List.length_nil];omega) qD qK ?_)|(refine mo ?_)|apply bI|apply bJ|apply bM|apply ab (id:=1) [] [] 24|apply au|apply aR|apply bG|apply bL|apply bB|apply bK|apply bC|apply bH|apply ae|apply bc|apply cI|apply cG|apply bF|refine aO rfl ?_|apply bE|apply cH|apply cF|apply fz|apply fy|refine fC rfl ?_|apply fA|apply fE|apply cJ|exact sc trivial (m0 _)|exact sc trivial (m1 _)|exact sc trivial (m2 _)|exact sc trivial (m3 _)|exact bN [117] 0 lg|exact gU|(intro _;simp only[cu,cx,cC,List.map,List.cons_append,List.nil_append])|intro _
 refine bn fun a w h=> ?_
 rename_i r1 r2 rr
 clear m0 m1 m2 m3
 obtain ⟨r3,hr3⟩:∃ r,r=rr 3:=⟨_,rfl⟩
 rw [←hr3] at h
 clear hr3 rr
 have h:TS w0 (r3::r2::r1::X) [(r3, .st [.is (Tx (d.1)), .is (Tx (d.2.1)), .to a8 93 [117] 0 (w0.heap.size) ((d.2.2.1).take 0), .is (.bool (d.2.2.2.1).1.1), .tc Rp.limbs [117] 0 (d.2.2.2.1).1.2, .is (.bool (d.2.2.2.1).2.1), .tc Rp.limbs [117] 0 (d.2.2.2.1).2.2, .is (.bool (d.2.2.2.2.1).1.1), .tc Rp.limbs [117] 0 (d.2.2.2.2.1).1.2, .is (.bool (d.2.2.2.2.1).2.1), .tc Rp.limbs [117] 0 (d.2.2.2.2.1).2.2, .is (.int .i64 (d.2.2.2.2.2.1)), .is (.int .i64 (d.2.2.2.2.2.2.1)), .is (.bool (d.2.2.2.2.2.2.2.1).1.1), .tc Rp.limbs [117] 0 (d.2.2.2.2.2.2.2.1).1.2, .is (.bool (d.2.2.2.2.2.2.2.1).2.1), .tc Rp.limbs [117] 0 (d.2.2.2.2.2.2.2.1).2.2, .is (.bool (d.2.2.2.2.2.2.2.2.1).1.1), .tc Rp.limbs [117] 0 (d.2.2.2.2.2.2.2.2.1).1.2, .is (.bool (d.2.2.2.2.2.2.2.2.1).2.1), .tc Rp.limbs [117] 0 (d.2.2.2.2.2.2.2.2.1).2.2, .is (.int .i64 (d.2.2.2.2.2.2.2.2.2.1)), .to bt 95 [117] 0 (w0.heap.size) ([]), .to Rp.str 9 [] 0 (w0.heap.size) (d.2.2.2.2.2.2.2.2.2.2.2.1), .to aA 103 [171,173,175,177,179,117] 0 (w0.heap.size) ([])]),(r2, .tr cp [] 0 ([],[],(),((false,[]),(false,[])),((false,[]),(false,[])),0,0,((false,[]),(false,[])),((false,[]),(false,[])),0,(),(),())),(r1, .tr ai [] w0.heap.size d)] [(4, .is (.int .i64 ((0:Nat):Int))),(3, .is (.pointer (some ⟨r3,0,none⟩))),(2, .is (.pointer (some ⟨r2,0,none⟩))),(1, .is (.pointer (some ⟨r1,0,none⟩)))] 108 a w:=h.keep [4,3,2,1]
 refine aY (fun k a u=>∃ i:Nat,i+k=(d.2.2.1).length∧TS w0 (r3::r2::r1::X) [(r3, .st [.is (Tx (d.1)), .is (Tx (d.2.1)), .to a8 93 [117] 0 (w0.heap.size) ((d.2.2.1).take i), .is (.bool (d.2.2.2.1).1.1), .tc Rp.limbs [117] 0 (d.2.2.2.1).1.2, .is (.bool (d.2.2.2.1).2.1), .tc Rp.limbs [117] 0 (d.2.2.2.1).2.2, .is (.bool (d.2.2.2.2.1).1.1), .tc Rp.limbs [117] 0 (d.2.2.2.2.1).1.2, .is (.bool (d.2.2.2.2.1).2.1), .tc Rp.limbs [117] 0 (d.2.2.2.2.1).2.2, .is (.int .i64 (d.2.2.2.2.2.1)), .is (.int .i64 (d.2.2.2.2.2.2.1)), .is (.bool (d.2.2.2.2.2.2.2.1).1.1), .tc Rp.limbs [117] 0 (d.2.2.2.2.2.2.2.1).1.2, .is (.bool (d.2.2.2.2.2.2.2.1).2.1), .tc Rp.limbs [117] 0 (d.2.2.2.2.2.2.2.1).2.2, .is (.bool (d.2.2.2.2.2.2.2.2.1).1.1), .tc Rp.limbs [117] 0 (d.2.2.2.2.2.2.2.2.1).1.2, .is (.bool (d.2.2.2.2.2.2.2.2.1).2.1), .tc Rp.limbs [117] 0 (d.2.2.2.2.2.2.2.2.1).2.2, .is (.int .i64 (d.2.2.2.2.2.2.2.2.2.1)), .to bt 95 [117] 0 (w0.heap.size) ([]), .to Rp.str 9 [] 0 (w0.heap.size) (d.2.2.2.2.2.2.2.2.2.2.2.1), .to aA 103 [171,173,175,177,179,117] 0 (w0.heap.size) ([])]),(r2, .tr cp [] 0 ([],[],(),((false,[]),(false,[])),((false,[]),(false,[])),0,0,((false,[]),(false,[])),((false,[]),(false,[])),0,(),(),())),(r1, .tr ai [] w0.heap.size d)] [(4, .is (.int .i64 (i:Int))),(3, .is (.pointer (some ⟨r3,0,none⟩))),(2, .is (.pointer (some ⟨r2,0,none⟩))),(1, .is (.pointer (some ⟨r1,0,none⟩)))] 108 a u) (d.2.2.1).length ⟨0,by omega,h⟩ ?_
 clear h
 rintro k a u ⟨i,hi,h⟩
 by_cases hlt:i<(d.2.2.1).length
 ·obtain ⟨x,hx⟩:∃ x,(d.2.2.1)[i]? =some x:=⟨_,List.getElem?_eq_getElem hlt⟩
  have hc:decide ((i:Int)<((d.2.2.1).length:Int))=true:=decide_eq_true qO
  have hw:IntKind.i64.wrap ((i:Int)+1)=((i+1:Nat):Int):=az qO qO
  have hh:=hf.brk x (List.mem_of_getElem? hx)
  have hlen:((d.2.2.1).take i).length≤70:=by rw [List.length_take];omega
  have k0:=fun (C:Nat)=>ej (x:=x.1) (ts:=[]) (C:=C) (by have g1:=hh.1.1;have g2:=hh.1.2.1;omega)
  have k1:=fun (C:Nat)=>ej (x:=x.2) (ts:=[]) (C:=C) (by have g1:=hh.2.1;have g2:=hh.2.2.1;omega)
  refine aD h ?_
  clear h
  repeat' first|kernel_rfl|(refine ny r3 2 ?_;refine dL [4,3,2,1] (Nat.le_refl _) (Nat.zero_le _) (fun _ _ ht=>ht.mem.below.size) jc (by simp only [List.length_cons,List.length_nil];omega) qD qK ?_)|(refine mo ?_)|exact bq fun _ _ h=>⟨k - 1,by omega,i+1,by omega,by rw [gg hx];exact h.keep [4,3,2,1]⟩|apply bI|apply bJ|apply bM|apply ab (id:=6) [] [] 18|apply au|apply aR|apply bG|apply bL|apply bB|apply bK|apply bC|apply bH|apply ae|apply bc|apply cI|apply cG|apply bF|refine aO rfl ?_|apply bE|apply cH|apply cF|apply fz|apply fy|refine fC rfl ?_|apply fA|apply fE|apply cJ|exact bN [117] 0 jd|exact c_ (r:=a8) [117] 0 jf rfl qD qD qD|exact gU|(intro _;simp only[cu,cx,cC,List.map,List.cons_append,List.nil_append])|intro _
 ·have hil:i=(d.2.2.1).length:=qO
  have hc:decide ((i:Int)<((d.2.2.1).length:Int))=false:=decide_eq_false qO
  have e:(d.2.2.1).take i=d.2.2.1:=by rw [hil,List.take_length]
  rw [e] at h
  refine aD h ?_
  clear h
  repeat' first|kernel_rfl|apply bI|apply bJ|apply bM|apply au|apply aR|apply bG|apply bL|apply bB|apply bK|apply bC|apply bH|apply ae|apply bc|apply cI|apply cG|apply bF|refine aO rfl ?_|apply bE|apply cH|apply cF|apply fz|apply fy|refine fC rfl ?_|apply fA|apply fE|apply cJ|exact gU|(intro _;simp only[cu,cx,cC,List.map,List.cons_append,List.nil_append])|intro _
  refine bn fun a w h=> ?_
  have h:TS w0 (r3::r2::r1::X) [(r3, .st [.is (Tx (d.1)), .is (Tx (d.2.1)), .to a8 93 [117] 0 (w0.heap.size) (d.2.2.1), .is (.bool (d.2.2.2.1).1.1), .tc Rp.limbs [117] 0 (d.2.2.2.1).1.2, .is (.bool (d.2.2.2.1).2.1), .tc Rp.limbs [117] 0 (d.2.2.2.1).2.2, .is (.bool (d.2.2.2.2.1).1.1), .tc Rp.limbs [117] 0 (d.2.2.2.2.1).1.2, .is (.bool (d.2.2.2.2.1).2.1), .tc Rp.limbs [117] 0 (d.2.2.2.2.1).2.2, .is (.int .i64 (d.2.2.2.2.2.1)), .is (.int .i64 (d.2.2.2.2.2.2.1)), .is (.bool (d.2.2.2.2.2.2.2.1).1.1), .tc Rp.limbs [117] 0 (d.2.2.2.2.2.2.2.1).1.2, .is (.bool (d.2.2.2.2.2.2.2.1).2.1), .tc Rp.limbs [117] 0 (d.2.2.2.2.2.2.2.1).2.2, .is (.bool (d.2.2.2.2.2.2.2.2.1).1.1), .tc Rp.limbs [117] 0 (d.2.2.2.2.2.2.2.2.1).1.2, .is (.bool (d.2.2.2.2.2.2.2.2.1).2.1), .tc Rp.limbs [117] 0 (d.2.2.2.2.2.2.2.2.1).2.2, .is (.int .i64 (d.2.2.2.2.2.2.2.2.2.1)), .to bt 95 [117] 0 (w0.heap.size) ((d.2.2.2.2.2.2.2.2.2.2.1).take 0), .to Rp.str 9 [] 0 (w0.heap.size) (d.2.2.2.2.2.2.2.2.2.2.2.1), .to aA 103 [171,173,175,177,179,117] 0 (w0.heap.size) ([])]),(r2, .tr cp [] 0 ([],[],(),((false,[]),(false,[])),((false,[]),(false,[])),0,0,((false,[]),(false,[])),((false,[]),(false,[])),0,(),(),())),(r1, .tr ai [] w0.heap.size d)] [(5, .is (.int .i64 ((0:Nat):Int))),(3, .is (.pointer (some ⟨r3,0,none⟩))),(2, .is (.pointer (some ⟨r2,0,none⟩))),(1, .is (.pointer (some ⟨r1,0,none⟩)))] 108 a w:=h.keep [5,3,2,1]
  refine aY (fun k a u=>∃ i:Nat,i+k=(d.2.2.2.2.2.2.2.2.2.2.1).length∧TS w0 (r3::r2::r1::X) [(r3, .st [.is (Tx (d.1)), .is (Tx (d.2.1)), .to a8 93 [117] 0 (w0.heap.size) (d.2.2.1), .is (.bool (d.2.2.2.1).1.1), .tc Rp.limbs [117] 0 (d.2.2.2.1).1.2, .is (.bool (d.2.2.2.1).2.1), .tc Rp.limbs [117] 0 (d.2.2.2.1).2.2, .is (.bool (d.2.2.2.2.1).1.1), .tc Rp.limbs [117] 0 (d.2.2.2.2.1).1.2, .is (.bool (d.2.2.2.2.1).2.1), .tc Rp.limbs [117] 0 (d.2.2.2.2.1).2.2, .is (.int .i64 (d.2.2.2.2.2.1)), .is (.int .i64 (d.2.2.2.2.2.2.1)), .is (.bool (d.2.2.2.2.2.2.2.1).1.1), .tc Rp.limbs [117] 0 (d.2.2.2.2.2.2.2.1).1.2, .is (.bool (d.2.2.2.2.2.2.2.1).2.1), .tc Rp.limbs [117] 0 (d.2.2.2.2.2.2.2.1).2.2, .is (.bool (d.2.2.2.2.2.2.2.2.1).1.1), .tc Rp.limbs [117] 0 (d.2.2.2.2.2.2.2.2.1).1.2, .is (.bool (d.2.2.2.2.2.2.2.2.1).2.1), .tc Rp.limbs [117] 0 (d.2.2.2.2.2.2.2.2.1).2.2, .is (.int .i64 (d.2.2.2.2.2.2.2.2.2.1)), .to bt 95 [117] 0 (w0.heap.size) ((d.2.2.2.2.2.2.2.2.2.2.1).take i), .to Rp.str 9 [] 0 (w0.heap.size) (d.2.2.2.2.2.2.2.2.2.2.2.1), .to aA 103 [171,173,175,177,179,117] 0 (w0.heap.size) ([])]),(r2, .tr cp [] 0 ([],[],(),((false,[]),(false,[])),((false,[]),(false,[])),0,0,((false,[]),(false,[])),((false,[]),(false,[])),0,(),(),())),(r1, .tr ai [] w0.heap.size d)] [(5, .is (.int .i64 (i:Int))),(3, .is (.pointer (some ⟨r3,0,none⟩))),(2, .is (.pointer (some ⟨r2,0,none⟩))),(1, .is (.pointer (some ⟨r1,0,none⟩)))] 108 a u) (d.2.2.2.2.2.2.2.2.2.2.1).length ⟨0,by omega,h⟩ ?_
  clear h
  rintro k a u ⟨i,hi,h⟩
  by_cases hlt:i<(d.2.2.2.2.2.2.2.2.2.2.1).length
  ·obtain ⟨x,hx⟩:∃ x,(d.2.2.2.2.2.2.2.2.2.2.1)[i]? =some x:=⟨_,List.getElem?_eq_getElem hlt⟩
   have hc:decide ((i:Int)<((d.2.2.2.2.2.2.2.2.2.2.1).length:Int))=true:=decide_eq_true qO
   have hw:IntKind.i64.wrap ((i:Int)+1)=((i+1:Nat):Int):=az qO qO
   have hh:=hf.cls x (List.mem_of_getElem? hx)
   have hlen:((d.2.2.2.2.2.2.2.2.2.2.1).take i).length≤70:=by rw [List.length_take];omega
   have k0:=fun (C:Nat)=>ej (x:=x.2.2) (ts:=[]) (C:=C) (by have g1:=hh.1;have g2:=hh.2.1;omega)
   refine aD h ?_
   clear h
   repeat' first|kernel_rfl|(refine ny r3 22 ?_;refine dL [5,3,2,1] (Nat.le_refl _) (Nat.zero_le _) (fun _ _ ht=>ht.mem.below.size) ju (by simp only [List.length_cons,List.length_nil];omega) qD qK ?_)|(refine mo ?_)|exact bq fun _ _ h=>⟨k - 1,by omega,i+1,by omega,by rw [gg hx];exact h.drop.keep [5,3,2,1]⟩|apply bI|apply bJ|apply bM|apply ab (id:=11) [] [] 11|apply au|apply aR|apply bG|apply bL|apply bB|apply bK|apply bC|apply bH|apply ae|apply bc|apply cI|apply cG|apply bF|refine aO rfl ?_|apply bE|apply cH|apply cF|apply fz|apply fy|refine fC rfl ?_|apply fA|apply fE|apply cJ|exact bN [117] 0 jA|exact c_ (r:=bt) [117] 0 j8 rfl qD qD qD|exact gU|(intro _;simp only[cu,cx,cC,List.map,List.cons_append,List.nil_append])|intro _
  ·have hil:i=(d.2.2.2.2.2.2.2.2.2.2.1).length:=qO
   have hc:decide ((i:Int)<((d.2.2.2.2.2.2.2.2.2.2.1).length:Int))=false:=decide_eq_false qO
   have e:(d.2.2.2.2.2.2.2.2.2.2.1).take i=d.2.2.2.2.2.2.2.2.2.2.1:=by rw [hil,List.take_length]
   rw [e] at h
   refine aD h ?_
   clear h
   repeat' first|kernel_rfl|apply bI|apply bJ|apply bM|apply au|apply aR|apply bG|apply bL|apply bB|apply bK|apply bC|apply bH|apply ae|apply bc|apply cI|apply cG|apply bF|refine aO rfl ?_|apply bE|apply cH|apply cF|apply fz|apply fy|refine fC rfl ?_|apply fA|apply fE|apply cJ|exact gU|(intro _;simp only[cu,cx,cC,List.map,List.cons_append,List.nil_append])|intro _
   refine bn fun a w h=> ?_
   have h:TS w0 (r3::r2::r1::X) [(r3, .st [.is (Tx (d.1)), .is (Tx (d.2.1)), .to a8 93 [117] 0 (w0.heap.size) (d.2.2.1), .is (.bool (d.2.2.2.1).1.1), .tc Rp.limbs [117] 0 (d.2.2.2.1).1.2, .is (.bool (d.2.2.2.1).2.1), .tc Rp.limbs [117] 0 (d.2.2.2.1).2.2, .is (.bool (d.2.2.2.2.1).1.1), .tc Rp.limbs [117] 0 (d.2.2.2.2.1).1.2, .is (.bool (d.2.2.2.2.1).2.1), .tc Rp.limbs [117] 0 (d.2.2.2.2.1).2.2, .is (.int .i64 (d.2.2.2.2.2.1)), .is (.int .i64 (d.2.2.2.2.2.2.1)), .is (.bool (d.2.2.2.2.2.2.2.1).1.1), .tc Rp.limbs [117] 0 (d.2.2.2.2.2.2.2.1).1.2, .is (.bool (d.2.2.2.2.2.2.2.1).2.1), .tc Rp.limbs [117] 0 (d.2.2.2.2.2.2.2.1).2.2, .is (.bool (d.2.2.2.2.2.2.2.2.1).1.1), .tc Rp.limbs [117] 0 (d.2.2.2.2.2.2.2.2.1).1.2, .is (.bool (d.2.2.2.2.2.2.2.2.1).2.1), .tc Rp.limbs [117] 0 (d.2.2.2.2.2.2.2.2.1).2.2, .is (.int .i64 (d.2.2.2.2.2.2.2.2.2.1)), .to bt 95 [117] 0 (w0.heap.size) (d.2.2.2.2.2.2.2.2.2.2.1), .to Rp.str 9 [] 0 (w0.heap.size) (d.2.2.2.2.2.2.2.2.2.2.2.1), .to aA 103 [171,173,175,177,179,117] 0 (w0.heap.size) ((d.2.2.2.2.2.2.2.2.2.2.2.2).take 0)]),(r2, .tr cp [] 0 ([],[],(),((false,[]),(false,[])),((false,[]),(false,[])),0,0,((false,[]),(false,[])),((false,[]),(false,[])),0,(),(),())),(r1, .tr ai [] w0.heap.size d)] [(7, .is (.int .i64 ((0:Nat):Int))),(3, .is (.pointer (some ⟨r3,0,none⟩))),(2, .is (.pointer (some ⟨r2,0,none⟩))),(1, .is (.pointer (some ⟨r1,0,none⟩)))] 108 a w:=h.keep [7,3,2,1]
   refine aY (fun k a u=>∃ i:Nat,i+k=(d.2.2.2.2.2.2.2.2.2.2.2.2).length∧TS w0 (r3::r2::r1::X) [(r3, .st [.is (Tx (d.1)), .is (Tx (d.2.1)), .to a8 93 [117] 0 (w0.heap.size) (d.2.2.1), .is (.bool (d.2.2.2.1).1.1), .tc Rp.limbs [117] 0 (d.2.2.2.1).1.2, .is (.bool (d.2.2.2.1).2.1), .tc Rp.limbs [117] 0 (d.2.2.2.1).2.2, .is (.bool (d.2.2.2.2.1).1.1), .tc Rp.limbs [117] 0 (d.2.2.2.2.1).1.2, .is (.bool (d.2.2.2.2.1).2.1), .tc Rp.limbs [117] 0 (d.2.2.2.2.1).2.2, .is (.int .i64 (d.2.2.2.2.2.1)), .is (.int .i64 (d.2.2.2.2.2.2.1)), .is (.bool (d.2.2.2.2.2.2.2.1).1.1), .tc Rp.limbs [117] 0 (d.2.2.2.2.2.2.2.1).1.2, .is (.bool (d.2.2.2.2.2.2.2.1).2.1), .tc Rp.limbs [117] 0 (d.2.2.2.2.2.2.2.1).2.2, .is (.bool (d.2.2.2.2.2.2.2.2.1).1.1), .tc Rp.limbs [117] 0 (d.2.2.2.2.2.2.2.2.1).1.2, .is (.bool (d.2.2.2.2.2.2.2.2.1).2.1), .tc Rp.limbs [117] 0 (d.2.2.2.2.2.2.2.2.1).2.2, .is (.int .i64 (d.2.2.2.2.2.2.2.2.2.1)), .to bt 95 [117] 0 (w0.heap.size) (d.2.2.2.2.2.2.2.2.2.2.1), .to Rp.str 9 [] 0 (w0.heap.size) (d.2.2.2.2.2.2.2.2.2.2.2.1), .to aA 103 [171,173,175,177,179,117] 0 (w0.heap.size) ((d.2.2.2.2.2.2.2.2.2.2.2.2).take i)]),(r2, .tr cp [] 0 ([],[],(),((false,[]),(false,[])),((false,[]),(false,[])),0,0,((false,[]),(false,[])),((false,[]),(false,[])),0,(),(),())),(r1, .tr ai [] w0.heap.size d)] [(7, .is (.int .i64 (i:Int))),(3, .is (.pointer (some ⟨r3,0,none⟩))),(2, .is (.pointer (some ⟨r2,0,none⟩))),(1, .is (.pointer (some ⟨r1,0,none⟩)))] 108 a u) (d.2.2.2.2.2.2.2.2.2.2.2.2).length ⟨0,by omega,h⟩ ?_
   clear h
   rintro k a u ⟨i,hi,h⟩
   by_cases hlt:i<(d.2.2.2.2.2.2.2.2.2.2.2.2).length
   ·obtain ⟨x,hx⟩:∃ x,(d.2.2.2.2.2.2.2.2.2.2.2.2)[i]? =some x:=⟨_,List.getElem?_eq_getElem hlt⟩
    have hc:decide ((i:Int)<((d.2.2.2.2.2.2.2.2.2.2.2.2).length:Int))=true:=decide_eq_true qO
    have hw:IntKind.i64.wrap ((i:Int)+1)=((i+1:Nat):Int):=az qO qO
    have hh:=hf.yrs x (List.mem_of_getElem? hx)
    have hlen:((d.2.2.2.2.2.2.2.2.2.2.2.2).take i).length≤70:=by rw [List.length_take];omega
    have k0:=fun (C:Nat)=>uw (y:=x) (ts:=[]) (C:=C) hh (hn.yr x (List.mem_of_getElem? hx))
    refine aD h ?_
    clear h
    repeat' first|kernel_rfl|(refine ny r3 24 ?_;refine dL [7,3,2,1] (Nat.le_refl _) (Nat.zero_le _) (fun _ _ ht=>ht.mem.below.size) j4 (by simp only [List.length_cons,List.length_nil];omega) qD qK ?_)|(refine mo ?_)|exact bq fun _ _ h=>⟨k - 1,by omega,i+1,by omega,by rw [gg hx];exact h.keep [7,3,2,1]⟩|apply bI|apply bJ|apply bM|apply ab (id:=15) [] [] 9|apply au|apply aR|apply bG|apply bL|apply bB|apply bK|apply bC|apply bH|apply ae|apply bc|apply cI|apply cG|apply bF|refine aO rfl ?_|apply bE|apply cH|apply cF|apply fz|apply fy|refine fC rfl ?_|apply fA|apply fE|apply cJ|exact c_ (r:=aA) [171,173,175,177,179,117] 0 kI rfl qD qD qD|exact gU|(intro _;simp only[cu,cx,cC,List.map,List.cons_append,List.nil_append])|intro _
   ·have hil:i=(d.2.2.2.2.2.2.2.2.2.2.2.2).length:=qO
    have hc:decide ((i:Int)<((d.2.2.2.2.2.2.2.2.2.2.2.2).length:Int))=false:=decide_eq_false qO
    have e:(d.2.2.2.2.2.2.2.2.2.2.2.2).take i=d.2.2.2.2.2.2.2.2.2.2.2.2:=by rw [hil,List.take_length]
    rw [e] at h
    refine aD h ?_
    clear h
    repeat' first|kernel_rfl|apply bI|apply bJ|apply bM|apply au|apply aR|apply bG|apply bL|apply bB|apply bK|apply bC|apply bH|apply ae|apply bc|apply cI|apply cG|apply bF|refine aO rfl ?_|apply bE|apply cH|apply cF|apply fz|apply fy|refine fC rfl ?_|apply fA|apply fE|apply cJ|exact ⟨fun _ _=>fun _ h=>xr h⟩|exact gU|(intro _;simp only[cu,cx,cC,List.map,List.cons_append,List.nil_append])|intro _
theorem ze{da db:aI} {ts ts':List TypeId} {C':Nat} (hf:tD da) (hn:vD da):cw Tryz.prog S1 9 [0,0] [.tr ai ts C da, .tr ai ts' C' db] (fun _=> .is (.bool (decide (da=db)))):=(B_ hf hn).args fun h=>by
 obtain ⟨v,us,rfl,h1,h2⟩:=h.tail
 obtain ⟨u,us,rfl,h3,h4⟩:=h2.tail
 exact ⟨pK h1,pK h3,h4⟩
theorem Cr {d g:aI}:cw Tryz.prog dZ 3 [0,0] [.ra ai d, .ra ai g] (fun _=> .is (.bool true)):=by
 have kF:=DP (d:=d)
 have kG:=DP (d:=g)
 cases hF:ic d
 ·rw [hF] at kF
  refine oy Tryz.func3 rfl Tryz.ntmps3 qE (fun _ _=>by kernel_rfl) fun X w hE=> ?_
  simp only [ar,Nat.zero_add,Nat.reduceAdd]
  repeat' first|kernel_rfl|apply bI|apply bJ|apply bM|apply au|apply aR|refine @aM.cons _ _ _ _ inferInstance ?_|refine @aL.cons _ _ _ inferInstance ?_|apply bG|apply bL|apply bB|apply bK|apply bC|apply bH|refine bO rfl inferInstance gU qK ?_|refine cR rfl inferInstance rfl qK ?_|refine cN rfl inferInstance qK ?_|apply ae|apply bc|apply cI|apply cG|apply bF|refine aO rfl ?_|apply cJ|exact gU|(intro _;simp only[cu,cx,cC,List.map,List.cons_append,List.nil_append])|intro _
 rw [hF] at kF
 cases hG:ic g
 ·rw [hG] at kG
  refine oy Tryz.func3 rfl Tryz.ntmps3 qE (fun _ _=>by kernel_rfl) fun X w hE=> ?_
  simp only [ar,Nat.zero_add,Nat.reduceAdd]
  repeat' first|kernel_rfl|apply bI|apply bJ|apply bM|apply au|apply aR|refine @aM.cons _ _ _ _ inferInstance ?_|refine @aL.cons _ _ _ inferInstance ?_|apply bG|apply bL|apply bB|apply bK|apply bC|apply bH|refine bO rfl inferInstance gU qK ?_|refine cR rfl inferInstance rfl qK ?_|refine cN rfl inferInstance qK ?_|apply ae|apply bc|apply cI|apply cG|apply bF|refine aO rfl ?_|apply cJ|exact gU|(intro _;simp only[cu,cx,cC,List.map,List.cons_append,List.nil_append])|intro _
 rw [hG] at kG
 obtain ⟨hcnt,hfew⟩:=vV hF
 obtain ⟨gcnt,gfew⟩:=vV hG
 have kS:=vr (a:=d) (b:=g)
 have kT:=vr (a:=g) (b:=d)
 rw [show decide (g=d)=decide (d=g) by rw [Bool.eq_iff_iff];simp [eq_comm]] at kT
 have kU:=vr (a:=d) (b:=d)
 rw [show decide (d=d)=true from decide_eq_true rfl] at kU
 have kR:=fun (ts ts':List TypeId) (C C':Nat)=>ze (da:=d) (db:=g) (ts:=ts) (ts':=ts') (C:=C) (C':=C') hfew hcnt
 have kf:=DM hfew hcnt
 have kg:=DM gfew gcnt
 cases hE2:decide (d=g)
 ·rw [hE2] at kS kT
  have kR:=fun (ts ts':List TypeId) (C C':Nat)=>hE2▸kR ts ts' C C'
  refine oy Tryz.func3 rfl Tryz.ntmps3 qE (fun _ _=>by kernel_rfl) fun X w hE=> ?_
  simp only [ar,Nat.zero_add,Nat.reduceAdd]
  repeat' first|kernel_rfl|apply bI|apply bJ|apply bM|apply ab (id:=3) [(23,true),(32,true),(37,true)] [] 26|apply au|apply aR|refine @aM.cons _ _ _ _ inferInstance ?_|refine @aL.cons _ _ _ inferInstance ?_|apply bG|apply bL|apply bB|apply bK|apply bC|apply bH|refine bO rfl inferInstance (by first|exact sc trivial kS|exact sc trivial kT|exact sc trivial kU|exact sc trivial (kR _ _ _ _)|exact sc trivial kf|exact sc trivial kg|exact gU) qK ?_|refine cR rfl inferInstance rfl qK ?_|refine cN rfl inferInstance qK ?_|apply ae|apply bc|apply cI|apply cG|apply bF|refine aO rfl ?_|apply cJ|exact sc trivial kS|exact sc trivial kT|exact sc trivial kU|exact sc trivial (kR _ _ _ _)|exact sc trivial kf|exact sc trivial kg|exact gU|(intro _;simp only[cu,cx,cC,List.map,List.cons_append,List.nil_append])|intro _
 ·rw [hE2] at kS kT
  have kR:=fun (ts ts':List TypeId) (C C':Nat)=>hE2▸kR ts ts' C C'
  refine oy Tryz.func3 rfl Tryz.ntmps3 qE (fun _ _=>by kernel_rfl) fun X w hE=> ?_
  simp only [ar,Nat.zero_add,Nat.reduceAdd]
  repeat' first|kernel_rfl|apply bI|apply bJ|apply bM|apply ab (id:=3) [(23,true),(32,true),(37,true)] [] 26|apply au|apply aR|refine @aM.cons _ _ _ _ inferInstance ?_|refine @aL.cons _ _ _ inferInstance ?_|apply bG|apply bL|apply bB|apply bK|apply bC|apply bH|refine bO rfl inferInstance (by first|exact sc trivial kS|exact sc trivial kT|exact sc trivial kU|exact sc trivial (kR _ _ _ _)|exact sc trivial kf|exact sc trivial kg|exact gU) qK ?_|refine cR rfl inferInstance rfl qK ?_|refine cN rfl inferInstance qK ?_|apply ae|apply bc|apply cI|apply cG|apply bF|refine aO rfl ?_|apply cJ|exact sc trivial kS|exact sc trivial kT|exact sc trivial kU|exact sc trivial (kR _ _ _ _)|exact sc trivial kf|exact sc trivial kg|exact gU|(intro _;simp only[cu,cx,cC,List.map,List.cons_append,List.nil_append])|intro _
theorem z6 {P1 P2:aI→Prop}:cw Tryz.prog dZ 3 [0,0] [.ex ai P1, .ex ai P2] (fun _=> .is (.bool true)):=⟨fun _ _=>by kernel_rfl,fY.const.down,fun hG hX h=>by
 obtain ⟨u,us,rfl,⟨y,_,h1⟩,h2⟩:=h.tail
 obtain ⟨v,vs,rfl,⟨z,_,h3⟩,h4⟩:=h2.tail
 exact Cr.run hG hX ⟨h1,h3,h4⟩⟩
end Go.Proofs.YtjjkikchncfekaaGreatDoor
