/- A struct whose cells have types of their own (.st): its parts are read, and written, one by one. No program stands in it. -/
import Derived.Test.YtpmhjieibebclaaGreatDoorCT
set_option maxHeartbeats 40000000
set_option maxRecDepth 20000
set_option synthInstance.maxHeartbeats 400000
set_option synthInstance.maxSize 4000
set_option linter.unusedSimpArgs false
set_option linter.unusedVariables false
namespace Go.Proofs.YtpmhjieibebclaaGreatDoor
open Go Go.RowKit
variable {w:World} {X:List Nat} {v:Value} {C B:Nat} {Ts:List aa} {x:aR}
theorem cM.len {X:List Nat} {w:World}:∀ {Ts:List aa} {vs:List Value},cM X w Ts vs→vs.length=Ts.length
 |[],[],_=>rfl
 |T::Ts,v::vs,h=>by rw [List.length_cons,List.length_cons,cM.len h.2]
 |[],_::_,h=>h.elim
 |_::_,[],h=>h.elim
theorem cM.at_ {X:List Nat} {w:World} {T:aa}:∀ {Ts:List aa} {vs:List Value} {i:Nat},cM X w Ts vs→Ts[i]? =some T→∃ v,vs[i]? =some v∧T.holds X w v
 |[],_,_,_,h=>by simp at h
 |T::Ts,[],_,h,_=>h.elim
 |T::Ts,v::vs,0,h,e=>by
  rw [List.getElem?_cons_zero] at e
  injection e with e
  subst e
  exact ⟨v,rfl,h.1⟩
 |T::Ts,v::vs,i+1,h,e=>by
  obtain ⟨u,h1,h2⟩:=cM.at_ (i:=i) h.2 (by simpa using e)
  exact ⟨u,by simpa using h1,h2⟩
theorem cM.put {X:List Nat} {w:World} {T:aa} {u:Value} (hu:T.holds X w u):∀ {Ts:List aa} {vs:List Value} {i:Nat},cM X w Ts vs→cM X w (Ts.set i T) (vs.set i u)
 |[],[],_,_=>trivial
 |T::Ts,v::vs,0,h=>⟨hu,h.2⟩
 |T::Ts,v::vs,i+1,h=>⟨h.1,cM.put hu h.2⟩
 |[],_::_,_,h=>h.elim
 |_::_,[],_,h=>h.elim
def aa.st (Ts:List aa):aa:=⟨fun X w v=>∃ cs:List Value,v= .agg cs.toArray∧cM X w Ts cs∧∀ u∈cs,u.oneCell'=true,fun ⟨cs,e,h,o⟩ hk hX=>⟨cs,e,h.stable hk hX,o⟩⟩
class Aj (Ts:List aa) (i:Nat) (T:outParam aa):Prop where
 ok:Ts[i]? =some T
instance Aj.here {Ts:List aa} {T:aa}:Aj (T::Ts) 0 T:=⟨rfl⟩
instance Aj.there {Ts:List aa} {T T':aa} {i:Nat} [h:Aj Ts i T]:Aj (T'::Ts) (i+1) T:=⟨by simpa using h.ok⟩
class ul (Ts:List aa) (i:Nat) (T:aa) (Ts':outParam (List aa)):Prop where
 ok:Ts.set i T=Ts'∧i<Ts.length
instance ul.here {Ts:List aa} {T T':aa}:ul (T'::Ts) 0 T (T::Ts):=⟨rfl,by simp⟩
instance ul.there {Ts Ts':List aa} {T T':aa} {i:Nat} [h:ul Ts i T Ts']:ul (T'::Ts) (i+1) T (T'::Ts'):=⟨by rw [List.set_cons_succ,h.ok.1],by rw [List.length_cons];exact Nat.succ_lt_succ h.ok.2⟩
class xC (Ts:List aa) (k:outParam Nat):Prop where
 ok:Ts.length=k
instance xC.nil:xC [] 0:=⟨rfl⟩
instance xC.cons {Ts:List aa} {T:aa} {k:Nat} [h:xC Ts k]:xC (T::Ts) (k+1):=⟨by rw [List.length_cons,h.ok]⟩
class ou (e:TypeId) (B:Nat) (Ts:List aa):Prop where
 ok:∀ {X:List Nat} {w w':World} {vs:List Value},cM X w Ts vs→Dy e B X w w'→cM X w' Ts vs
instance ou.nil {e:TypeId} {B:Nat}:ou e B []:=⟨fun {X w w' vs} h _=>by cases vs with
 |nil=>trivial
 |cons v vs=>exact h.elim⟩
instance ou.cons {e:TypeId} {B:Nat} {T:aa} {Ts:List aa} [a:oN e B T] [k:ou e B Ts]:ou e B (T::Ts):=⟨fun {X w w' vs} h hc=>by cases vs with
 |nil=>exact h.elim
 |cons v vs=>exact ⟨a.ok h.1 hc,k.ok h.2 hc⟩⟩
instance {e:TypeId} {B:Nat} {Ts:List aa} [k:ou e B Ts]:oN e B (.st Ts):=⟨fun ⟨cs,e,h,o⟩ hc=>⟨cs,e,k.ok h hc,o⟩⟩
instance {Ts:List aa} {i:Nat} {T:aa} [n:Aj Ts i T]:ai (.st Ts) i 1 false T:=⟨fun _=>rfl,fun {X w v} ⟨cs,e,h,o⟩=>by
 obtain ⟨u,h1,h2⟩:=h.at_ n.ok
 refine ⟨[u],rfl,fun j x hj=> ?_,fun x _ hx=> ?_⟩
 ·have:j=0∧x=u:=by
   cases j with
   |zero=>exact ⟨rfl,by simpa using hj.symm⟩
   |succ j=>simp at hj
  rw [e,this.1,this.2]
  show (cs.toArray)[i+0]? =some u
  simpa using h1
 ·have:=hx rfl
  have:u=x:=by simpa using this
  rw [←this];exact h2⟩
instance {Ts:List aa} {k:Nat} [n:xC Ts k]:aL (.st Ts) k true:=⟨fun {X w v} ⟨cs,e,h,o⟩=>by
 subst e
 refine ⟨?_,?_,fun _=>rfl,fun h=>by cases h⟩
 ·show cs.toArray.size=k
  simp [h.len,n.ok]
 ·show cs.toArray.all (·.oneCell')=true
  simpa using o⟩
section
variable {P:Program} {w00:World} {X:List Nat} {L L':List Loc} {E:List (Nat×aa)} {n:Nat} {ops:Array Oper} {rest:List Oper} {Q:Exit→Act→World→Prop} {cs:List Code} {t0:TypeId} {pos:String} {af:Array Edge}
theorem nk {Ts Ts':List aa} {ty:TypeId} {s r i:Nat} {o:Operand} {T:aa} [hs:ck E s (.is (.pointer (some ⟨r,i,none⟩)))] [hl:p5 L r (.st Ts)] [ho:bD E o T] [hc:ul Ts i T Ts'] [hu:j8 L r (.st Ts) (.st Ts') L'] [z:aL T 1 false] [hty:fw P ty 1 false]
 (h:GR P w00 X L' E n ops rest cs Q):GR P w00 X L E n ops (⟨none, .store ty (.tmp s) o,t0,pos,af,none⟩::rest) cs Q:=⟨fun a w ht=>by
 refine dT rfl ?_
 have e1:a.eval (.tmp s)= .pointer (some ⟨r,i,none⟩):=ht.slots _ hs.mem
 have e2:T.holds X w (a.eval o):=ho.get (X:=X) (w:=w) (fun _=>rfl) fun p hp _=>ht.slots p hp
 obtain ⟨g1,g2,u,ty',⟨c0,rfl,ha,hone⟩,g4⟩:=ht.mem.loc _ hu.upd.mem
 replace g4:w.heap[r]? =some (.cells c0.toArray ty' (0,0)):=g4
 obtain ⟨hc1,hc2⟩:=hc.ok
 have hlen:=ha.len
 have hi:=hty.size
 obtain ⟨z1,z2,_,z4⟩:=z.ok e2
 have hcl:(a.eval o).cells= #[a.eval o]:=z4 rfl
 have h1:(a.eval o).oneCell'=true:=by
  rw [hcl] at z2
  simpa using z2
 have hcell:w.cell? ⟨r,i,none⟩=some (c0[i]' qO):=gg g4 (by simp [show i<c0.length by omega])
 have hfro:w.frozen? ⟨r,i,none⟩=false:=by simp [World.frozen?,g4]
 have hadd:(⟨r,i,none⟩:Addr).add 0=⟨r,i,none⟩:=by unfold Addr.add;split<;>simp_all
 have hst:(store ((⟨r,i,none⟩:Addr).add 0) (a.eval o)).run P w= .ok () (w.setRow r (c0.set i (a.eval o)).toArray):=by
  rw [hadd,run_store P w _ _ _ h1,hcell]
  simp [hfro,setCell_eq_setRow w r i c0.toArray ty' (0,0) _ g4]
 have hsv:(storeVar ty ⟨r,i,none⟩ (a.eval o)).run P w= .ok () (w.setRow r (c0.set i (a.eval o)).toArray):=by
  cases hq:P.info? ty with
  |none=>simp [hq] at hi
  |some q=>
   have hs:q.size=1:=by simpa [hq] using hi
   simp [storeVar,sizeOf,typeInfo,hq,hcl,hs,storeCells,hst]
 unfold Oper.wp execOp
 simp only [e1,Instr.storeAt,Instr.sureAddr,Sem.run_bind,Sem.run_pure,Result.andThen_ok,hsv]
 have hnew:(aa.st Ts').holds X w (.agg (c0.set i (a.eval o)).toArray):=⟨_,rfl,by rw [←hc1];exact ha.put e2,fun x hx=>by
  rcases List.mem_or_eq_of_mem_set hx with hx|hx
  ·exact hone x hx
  ·rw [hx];exact h1⟩
 exact h.run a _ (ht.write (k:=0) (k0:=0) (ag:=true) (ag0:=true) (v:= .agg (c0.set i (a.eval o)).toArray) hu.upd hnew)⟩
end
section
variable {P:Program} {w00:World} {X:List Nat} {L L':List Loc} {E:List (Nat×aa)} {n:Nat} {ops:Array Oper} {rest:List Oper} {Q:Exit→Act→World→Prop} {cs:List Code}
theorem cM.any_ {X:List Nat} {w:World}:∀ {Ts:List aa} {vs:List Value} {i:Nat},cM X w Ts vs→cM X w (Ts.set i .any) vs
 |[],[],_,_=>trivial
 |T::Ts,v::vs,0,h=>⟨trivial,h.2⟩
 |T::Ts,v::vs,i+1,h=>⟨h.1,cM.any_ h.2⟩
 |[],_::_,_,h=>h.elim
 |_::_,[],_,h=>h.elim
theorem pg{Ts':List aa} (r i:Nat) [hc:ul Ts i .any Ts'] [hu:j8 L r (.st Ts) (.st Ts') L'] (h:GR P w00 X L' E n ops rest cs Q):GR P w00 X L E n ops rest cs Q:=⟨fun a w ht=>by
 obtain ⟨v,⟨c,e,ha,ho⟩,f⟩:=ht.openL hu.upd.mem
 exact h.run a w (f (T':= .st Ts') ⟨c,e,by rw [←hc.ok.1];exact ha.any_,ho⟩ hu.upd)⟩
end
instance {Ts:List aa} {k:Nat} [n:xC Ts k]:ai (.st Ts) 0 k true (.st Ts):=⟨(fun h=>by cases h),fun {X w v} ⟨cs,e,h,o⟩=>⟨cs,h.len.trans n.ok,fun j u hj=>by
 rw [e]
 show (cs.toArray)[0+j]? =some u
 simpa using hj,fun u hu _=>⟨cs,hu rfl,h,o⟩⟩⟩
instance {e:TypeId} {B:Nat}:oN e B .any:=⟨fun _ _=>trivial⟩
def Rp.nil:Rp Unit:=⟨1,fun _ _ _ cs=>cs=[.slice none 0 0],fun h=>by rw [h];rfl,fun h v hv=>by rw [h,List.mem_singleton] at hv;rw [hv];rfl,fun h _=>h,fun h _=>h⟩
abbrev yw:=Int×Unit×Unit×Unit×Unit×Unit
abbrev eM:Rp yw:=(Rp.int .i64).pair (Rp.nil.pair (Rp.nil.pair (Rp.nil.pair (Rp.nil.pair Rp.nil))))
theorem oU:dS Tryz.prog 85 eM (0,(),(),(),(),()):=⟨by
 obtain ⟨i,h1,h2,h3,h4⟩:∃ i,Tryz.prog.info? 85=some i∧i.zero=some (.agg #[.int .i64 0, .slice none 0 0, .slice none 0 0, .slice none 0 0, .slice none 0 0, .slice none 0 0])∧i.size=6∧i.bytes=128:=info_parts qK
 refine ⟨_,i,_,Tryz.underlying85,(fun f hf=> ?_),h1,h2,fun w S=> ?_⟩
 ·simp only [List.mem_cons,List.not_mem_nil,or_false] at hf
  rcases hf with rfl|rfl|rfl|rfl|rfl|rfl<;>exact Option.isSome_iff_exists.1 qK
 ·exact ⟨[.int .i64 0],[.slice none 0 0, .slice none 0 0, .slice none 0 0, .slice none 0 0, .slice none 0 0],rfl,rfl,[.slice none 0 0],[.slice none 0 0, .slice none 0 0, .slice none 0 0, .slice none 0 0],rfl,rfl,[.slice none 0 0],[.slice none 0 0, .slice none 0 0, .slice none 0 0],rfl,rfl,[.slice none 0 0],[.slice none 0 0, .slice none 0 0],rfl,rfl,[.slice none 0 0],[.slice none 0 0],rfl,rfl,rfl⟩⟩
instance:ah eM 0 (Rp.int .i64) (fun a b=>(b,a.2)):=ah.fst
instance:KC eM 6:=⟨rfl⟩
theorem Dc{ts:List TypeId} {x:yw} {t1 t2 t3 t4 t5:TypeId} (h:(aa.tr eM ts C x).holds X w v):(aa.st [.is (.int .i64 x.1), .to bl t1 [115] 0 B [], .to bk t2 [115] 0 B [], .to a7 t3 [115] 0 B [], .to bn t4 [115] 0 B [], .to b7 t5 [115] 0 B []]).holds X w v:=by
 obtain ⟨cs,e,c1,c2,e1,h1,c3,c4,e2,h2,c5,c6,e3,h3,c7,c8,e4,h4,c9,c10,e5,h5,h6⟩:=h
 have h1:c1=[.int .i64 x.1]:=h1
 have h2:c3=[.slice none 0 0]:=h2
 have h3:c5=[.slice none 0 0]:=h3
 have h4:c7=[.slice none 0 0]:=h4
 have h5:c9=[.slice none 0 0]:=h5
 have h6:c10=[.slice none 0 0]:=h6
 subst h1 h2 h3 h4 h5 h6 e5 e4 e3 e2 e1
 refine ⟨_,e,⟨rfl,jA rfl,jA rfl,jA rfl,jA rfl,jA rfl,trivial⟩,fun u hu=> ?_⟩
 simp only [List.cons_append,List.nil_append,List.mem_cons,List.not_mem_nil,or_false] at hu
 rcases hu with rfl|rfl|rfl|rfl|rfl|rfl<;>rfl
instance:iw 126 [115]:=⟨by decide⟩
instance:fT [126,115] [126,128,130,132,134,115]:=⟨by decide⟩
instance:iw 126 [128,115]:=⟨by decide⟩
instance:iw 126 [130,115]:=⟨by decide⟩
instance:iw 126 [132,115]:=⟨by decide⟩
instance:iw 126 [134,115]:=⟨by decide⟩
instance:iw 128 [115]:=⟨by decide⟩
instance:fT [128,115] [126,128,130,132,134,115]:=⟨by decide⟩
instance:iw 128 [126,115]:=⟨by decide⟩
instance:iw 128 [130,115]:=⟨by decide⟩
instance:iw 128 [132,115]:=⟨by decide⟩
instance:iw 128 [134,115]:=⟨by decide⟩
instance:iw 130 [115]:=⟨by decide⟩
instance:fT [130,115] [126,128,130,132,134,115]:=⟨by decide⟩
instance:iw 130 [126,115]:=⟨by decide⟩
instance:iw 130 [128,115]:=⟨by decide⟩
instance:iw 130 [132,115]:=⟨by decide⟩
instance:iw 130 [134,115]:=⟨by decide⟩
instance:iw 132 [115]:=⟨by decide⟩
instance:fT [132,115] [126,128,130,132,134,115]:=⟨by decide⟩
instance:iw 132 [126,115]:=⟨by decide⟩
instance:iw 132 [128,115]:=⟨by decide⟩
instance:iw 132 [130,115]:=⟨by decide⟩
instance:iw 132 [134,115]:=⟨by decide⟩
instance:iw 134 [115]:=⟨by decide⟩
instance:fT [134,115] [126,128,130,132,134,115]:=⟨by decide⟩
instance:iw 134 [126,115]:=⟨by decide⟩
instance:iw 134 [128,115]:=⟨by decide⟩
instance:iw 134 [130,115]:=⟨by decide⟩
instance:iw 134 [132,115]:=⟨by decide⟩
instance:cQ Tryz.prog 85 (.tr eM [] 0 (0,(),(),(),(),())):=oU.alT
theorem EI{y:aX} (h:(aa.st [.is (.int .i64 y.1), .to bl 126 [115] 0 (B) (y.2.1), .to bk 128 [115] 0 (B) (y.2.2.1), .to a7 130 [115] 0 (B) (y.2.2.2.1), .to bn 132 [115] 0 (B) (y.2.2.2.2.1), .to b7 134 [115] 0 (B) (y.2.2.2.2.2)]).holds X w v):(aa.tr aw [126,128,130,132,134,115] 0 y).holds X w v:=by
 obtain ⟨cs,e,h,ho⟩:=h
 match cs,h with
 |[c0,c1,c2,c3,c4,c5],⟨h0,h1,h2,h3,h4,h5,_⟩=>
  have h0:c0= .int .i64 y.1:=h0
  exact ⟨_,e,[c0],[c1,c2,c3,c4,c5],rfl,by rw [h0];rfl,[c1],[c2,c3,c4,c5],rfl,jp h1,[c2],[c3,c4,c5],rfl,jp h2,[c3],[c4,c5],rfl,jp h3,[c4],[c5],rfl,jp h4,jp h5⟩
theorem dK{ts:List TypeId} (hx:x.1.2.length≤1000∧x.2.2.length≤1000):bW Tryz.prog S1 20 [0] [.tr Rp.frac ts C x] (fun _=> .tr Rp.frac [115] 0 x):=(C5 hx).args fun h=>by
 obtain ⟨v,us,rfl,h1,h2⟩:=h.tail
 exact ⟨pS h1,h2⟩
theorem kZ {p:Prop} (h:p:=by first|exact yD|exact xO (by assumption)|exact xX|exact vt|exact uU|exact l8 (by assumption)|exact dt|exact dE|exact du|exact bm|exact iE (by first|assumption|rfl)|exact iA|exact dh (by assumption)|exact dA|exact d8.nil|exact bG.nil|exact bE.nil|exact sc trivial (k0 _)|exact sc trivial (k1 _)|exact Cv.rfl'):p:=h
theorem yO {y:aX} (hf:p9 y) (hn:y.2.1.length≤40∧y.2.2.1.length≤40∧y.2.2.2.1.length≤40∧y.2.2.2.2.1.length≤40∧y.2.2.2.2.2.length≤40):bW Tryz.prog S1 21 [0] [.ra aw y] (fun _=> .tr aw [126,128,130,132,134,115] 0 y):=by
 obtain ⟨hn1,hn2,hn3,hn4,hn5⟩:=hn
 unfold p9 at hf
 obtain ⟨hf1,hf2,hf3,hf4,hf5⟩:=hf
 refine Ii (As':=fun B=>[.tr aw [] B y]) Tryz.func21 rfl Tryz.ntmps21 qE (fun _ _=>by kernel_rfl) (fun {X w vs} ha=>by
  obtain ⟨v,rfl,h⟩:=ha.one
  exact ⟨tG h,trivial⟩) fun X w0 hE=> ?_
 simp only [eK,Nat.zero_add,Nat.reduceAdd]
 repeat' first|kernel_rfl|apply cx|apply cy|apply cE|apply az|apply aW|apply cu|apply cB|apply co|apply cA|apply cp|apply cw|apply ae|apply bB|apply eB|apply eu|apply ct|refine aQ rfl ?_|apply cq|apply ew|apply ep|apply jl|apply jj|refine jt rfl ?_|apply jn|apply jw|apply eC|exact bi [] 0 oU|exact kZ|(intro _;simp only[cf,ci,cm,List.map,List.cons_append,List.nil_append])|intro _
 refine aY fun a w h=> ?_
 rename_i r1 r2 r3
 obtain ⟨v,hv,fv⟩:=h.openL (r:=r3) List.mem_cons_self
 have h:=fv (Dc (C:=0) (B:=w0.heap.size) (t1:=126) (t2:=128) (t3:=130) (t4:=132) (t5:=134) hv) .here
 clear hv fv
 have h:TS w0 (r3::r2::r1::X) [(r3, .st [.is (.int .i64 y.1), .to bl 126 [115] 0 (w0.heap.size) ((y.2.1).take 0), .to bk 128 [115] 0 (w0.heap.size) ([]), .to a7 130 [115] 0 (w0.heap.size) ([]), .to bn 132 [115] 0 (w0.heap.size) ([]), .to b7 134 [115] 0 (w0.heap.size) ([])]),(r2, .tr eM [] 0 (0,(),(),(),(),())),(r1, .tr aw [] w0.heap.size y)] [(4, .is (.int .i64 ((0:Nat):Int))),(3, .is (.pointer (some ⟨r3,0,none⟩))),(2, .is (.pointer (some ⟨r2,0,none⟩))),(1, .is (.pointer (some ⟨r1,0,none⟩)))] 152 a w:=h.keep [4,3,2,1]
 refine aO (fun k a u=>∃ i:Nat,i+k=(y.2.1).length∧TS w0 (r3::r2::r1::X) [(r3, .st [.is (.int .i64 y.1), .to bl 126 [115] 0 (w0.heap.size) ((y.2.1).take i), .to bk 128 [115] 0 (w0.heap.size) ([]), .to a7 130 [115] 0 (w0.heap.size) ([]), .to bn 132 [115] 0 (w0.heap.size) ([]), .to b7 134 [115] 0 (w0.heap.size) ([])]),(r2, .tr eM [] 0 (0,(),(),(),(),())),(r1, .tr aw [] w0.heap.size y)] [(4, .is (.int .i64 (i:Int))),(3, .is (.pointer (some ⟨r3,0,none⟩))),(2, .is (.pointer (some ⟨r2,0,none⟩))),(1, .is (.pointer (some ⟨r1,0,none⟩)))] 152 a u) (y.2.1).length ⟨0,by omega,h⟩ ?_
 clear h
 rintro k a u ⟨i,hi,h⟩
 by_cases hlt:i<(y.2.1).length
 ·obtain ⟨x,hx⟩:∃ x,(y.2.1)[i]? =some x:=⟨_,List.getElem?_eq_getElem hlt⟩
  have hc:decide ((i:Int)<((y.2.1).length:Int))=true:=decide_eq_true qO
  have hw:IntKind.i64.wrap ((i:Int)+1)=((i+1:Nat):Int):=aA qO qO
  have hh:=hf1 x (List.mem_of_getElem? hx)
  have hlen:((y.2.1).take i).length≤40:=by rw [List.length_take];omega
  have k0:=fun (C:Nat)=>dK (x:=x.2.2) (ts:=[]) (C:=C) (by have g1:=hh.1;have g2:=hh.2.1;omega)
  refine aB h ?_
  clear h
  repeat' first|kernel_rfl|(refine pg r3 1 ?_;refine dk [4,3,2,1] (Nat.le_refl _) (Nat.zero_le _) (fun _ _ ht=>ht.mem.below.size) kP (by simp only [List.length_cons,List.length_nil];omega) qD qK ?_)|(refine nk ?_)|exact a8 fun _ _ h=>⟨k - 1,by omega,i+1,by omega,by rw [fQ hx];exact h.drop.keep [4,3,2,1]⟩|apply cx|apply cy|apply cE|apply ar (id:=6) [] [] 11|apply az|apply aW|apply cu|apply cB|apply co|apply cA|apply cp|apply cw|apply ae|apply bB|apply eB|apply eu|apply ct|refine aQ rfl ?_|apply cq|apply ew|apply ep|apply jl|apply jj|refine jt rfl ?_|apply jn|apply jw|apply eC|exact bi [115] 0 fc|exact cO (r:=bl) [115] 0 ie rfl qD qD qD|exact kZ|(intro _;simp only[cf,ci,cm,List.map,List.cons_append,List.nil_append])|intro _
 ·have hil:i=(y.2.1).length:=qO
  have hc:decide ((i:Int)<((y.2.1).length:Int))=false:=decide_eq_false qO
  have e:(y.2.1).take i=y.2.1:=by rw [hil,List.take_length]
  rw [e] at h
  refine aB h ?_
  clear h
  repeat' first|kernel_rfl|apply cx|apply cy|apply cE|apply az|apply aW|apply cu|apply cB|apply co|apply cA|apply cp|apply cw|apply ae|apply bB|apply eB|apply eu|apply ct|refine aQ rfl ?_|apply cq|apply ew|apply ep|apply jl|apply jj|refine jt rfl ?_|apply jn|apply jw|apply eC|exact bi [115] 0 fc|exact cO (r:=bl) [115] 0 ie rfl qD qD qD|exact kZ|(intro _;simp only[cf,ci,cm,List.map,List.cons_append,List.nil_append])|intro _
  refine aY fun a w h=> ?_
  have h:TS w0 (r3::r2::r1::X) [(r3, .st [.is (.int .i64 y.1), .to bl 126 [115] 0 (w0.heap.size) (y.2.1), .to bk 128 [115] 0 (w0.heap.size) ((y.2.2.1).take 0), .to a7 130 [115] 0 (w0.heap.size) ([]), .to bn 132 [115] 0 (w0.heap.size) ([]), .to b7 134 [115] 0 (w0.heap.size) ([])]),(r2, .tr eM [] 0 (0,(),(),(),(),())),(r1, .tr aw [] w0.heap.size y)] [(6, .is (.int .i64 ((0:Nat):Int))),(3, .is (.pointer (some ⟨r3,0,none⟩))),(2, .is (.pointer (some ⟨r2,0,none⟩))),(1, .is (.pointer (some ⟨r1,0,none⟩)))] 152 a w:=h.keep [6,3,2,1]
  refine aO (fun k a u=>∃ i:Nat,i+k=(y.2.2.1).length∧TS w0 (r3::r2::r1::X) [(r3, .st [.is (.int .i64 y.1), .to bl 126 [115] 0 (w0.heap.size) (y.2.1), .to bk 128 [115] 0 (w0.heap.size) ((y.2.2.1).take i), .to a7 130 [115] 0 (w0.heap.size) ([]), .to bn 132 [115] 0 (w0.heap.size) ([]), .to b7 134 [115] 0 (w0.heap.size) ([])]),(r2, .tr eM [] 0 (0,(),(),(),(),())),(r1, .tr aw [] w0.heap.size y)] [(6, .is (.int .i64 (i:Int))),(3, .is (.pointer (some ⟨r3,0,none⟩))),(2, .is (.pointer (some ⟨r2,0,none⟩))),(1, .is (.pointer (some ⟨r1,0,none⟩)))] 152 a u) (y.2.2.1).length ⟨0,by omega,h⟩ ?_
  clear h
  rintro k a u ⟨i,hi,h⟩
  by_cases hlt:i<(y.2.2.1).length
  ·obtain ⟨x,hx⟩:∃ x,(y.2.2.1)[i]? =some x:=⟨_,List.getElem?_eq_getElem hlt⟩
   have hc:decide ((i:Int)<((y.2.2.1).length:Int))=true:=decide_eq_true qO
   have hw:IntKind.i64.wrap ((i:Int)+1)=((i+1:Nat):Int):=aA qO qO
   have hh:=hf2 x (List.mem_of_getElem? hx)
   have hlen:((y.2.2.1).take i).length≤40:=by rw [List.length_take];omega
   have k0:=fun (C:Nat)=>dK (x:=x.2.2) (ts:=[]) (C:=C) (by have g1:=hh.1;have g2:=hh.2.1;omega)
   refine aB h ?_
   clear h
   repeat' first|kernel_rfl|(refine pg r3 2 ?_;refine dk [6,3,2,1] (Nat.le_refl _) (Nat.zero_le _) (fun _ _ ht=>ht.mem.below.size) kM (by simp only [List.length_cons,List.length_nil];omega) qD qK ?_)|(refine nk ?_)|exact a8 fun _ _ h=>⟨k - 1,by omega,i+1,by omega,by rw [fQ hx];exact h.drop.keep [6,3,2,1]⟩|apply cx|apply cy|apply cE|apply ar (id:=11) [] [] 11|apply az|apply aW|apply cu|apply cB|apply co|apply cA|apply cp|apply cw|apply ae|apply bB|apply eB|apply eu|apply ct|refine aQ rfl ?_|apply cq|apply ew|apply ep|apply jl|apply jj|refine jt rfl ?_|apply jn|apply jw|apply eC|exact bi [115] 0 fd|exact cO (r:=bk) [115] 0 ic rfl qD qD qD|exact kZ|(intro _;simp only[cf,ci,cm,List.map,List.cons_append,List.nil_append])|intro _
  ·have hil:i=(y.2.2.1).length:=qO
   have hc:decide ((i:Int)<((y.2.2.1).length:Int))=false:=decide_eq_false qO
   have e:(y.2.2.1).take i=y.2.2.1:=by rw [hil,List.take_length]
   rw [e] at h
   refine aB h ?_
   clear h
   repeat' first|kernel_rfl|apply cx|apply cy|apply cE|apply az|apply aW|apply cu|apply cB|apply co|apply cA|apply cp|apply cw|apply ae|apply bB|apply eB|apply eu|apply ct|refine aQ rfl ?_|apply cq|apply ew|apply ep|apply jl|apply jj|refine jt rfl ?_|apply jn|apply jw|apply eC|exact bi [115] 0 fd|exact cO (r:=bk) [115] 0 ic rfl qD qD qD|exact kZ|(intro _;simp only[cf,ci,cm,List.map,List.cons_append,List.nil_append])|intro _
   refine aY fun a w h=> ?_
   have h:TS w0 (r3::r2::r1::X) [(r3, .st [.is (.int .i64 y.1), .to bl 126 [115] 0 (w0.heap.size) (y.2.1), .to bk 128 [115] 0 (w0.heap.size) (y.2.2.1), .to a7 130 [115] 0 (w0.heap.size) ((y.2.2.2.1).take 0), .to bn 132 [115] 0 (w0.heap.size) ([]), .to b7 134 [115] 0 (w0.heap.size) ([])]),(r2, .tr eM [] 0 (0,(),(),(),(),())),(r1, .tr aw [] w0.heap.size y)] [(8, .is (.int .i64 ((0:Nat):Int))),(3, .is (.pointer (some ⟨r3,0,none⟩))),(2, .is (.pointer (some ⟨r2,0,none⟩))),(1, .is (.pointer (some ⟨r1,0,none⟩)))] 152 a w:=h.keep [8,3,2,1]
   refine aO (fun k a u=>∃ i:Nat,i+k=(y.2.2.2.1).length∧TS w0 (r3::r2::r1::X) [(r3, .st [.is (.int .i64 y.1), .to bl 126 [115] 0 (w0.heap.size) (y.2.1), .to bk 128 [115] 0 (w0.heap.size) (y.2.2.1), .to a7 130 [115] 0 (w0.heap.size) ((y.2.2.2.1).take i), .to bn 132 [115] 0 (w0.heap.size) ([]), .to b7 134 [115] 0 (w0.heap.size) ([])]),(r2, .tr eM [] 0 (0,(),(),(),(),())),(r1, .tr aw [] w0.heap.size y)] [(8, .is (.int .i64 (i:Int))),(3, .is (.pointer (some ⟨r3,0,none⟩))),(2, .is (.pointer (some ⟨r2,0,none⟩))),(1, .is (.pointer (some ⟨r1,0,none⟩)))] 152 a u) (y.2.2.2.1).length ⟨0,by omega,h⟩ ?_
   clear h
   rintro k a u ⟨i,hi,h⟩
   by_cases hlt:i<(y.2.2.2.1).length
   ·obtain ⟨x,hx⟩:∃ x,(y.2.2.2.1)[i]? =some x:=⟨_,List.getElem?_eq_getElem hlt⟩
    have hc:decide ((i:Int)<((y.2.2.2.1).length:Int))=true:=decide_eq_true qO
    have hw:IntKind.i64.wrap ((i:Int)+1)=((i+1:Nat):Int):=aA qO qO
    have hh:=hf3 x (List.mem_of_getElem? hx)
    have hlen:((y.2.2.2.1).take i).length≤40:=by rw [List.length_take];omega
    have k0:=fun (C:Nat)=>dK (x:=x.2.2.2.2.2.2) (ts:=[]) (C:=C) (by have g1:=hh.1;have g2:=hh.2.1;omega)
    refine aB h ?_
    clear h
    repeat' first|kernel_rfl|(refine pg r3 3 ?_;refine dk [8,3,2,1] (Nat.le_refl _) (Nat.zero_le _) (fun _ _ ht=>ht.mem.below.size) kO (by simp only [List.length_cons,List.length_nil];omega) qD qK ?_)|(refine nk ?_)|exact a8 fun _ _ h=>⟨k - 1,by omega,i+1,by omega,by rw [fQ hx];exact h.drop.keep [8,3,2,1]⟩|apply cx|apply cy|apply cE|apply ar (id:=16) [] [] 19|apply az|apply aW|apply cu|apply cB|apply co|apply cA|apply cp|apply cw|apply ae|apply bB|apply eB|apply eu|apply ct|refine aQ rfl ?_|apply cq|apply ew|apply ep|apply jl|apply jj|refine jt rfl ?_|apply jn|apply jw|apply eC|exact bi [115] 0 e_|exact cO (r:=a7) [115] 0 ig rfl qD qD qD|exact kZ|(intro _;simp only[cf,ci,cm,List.map,List.cons_append,List.nil_append])|intro _
   ·have hil:i=(y.2.2.2.1).length:=qO
    have hc:decide ((i:Int)<((y.2.2.2.1).length:Int))=false:=decide_eq_false qO
    have e:(y.2.2.2.1).take i=y.2.2.2.1:=by rw [hil,List.take_length]
    rw [e] at h
    refine aB h ?_
    clear h
    repeat' first|kernel_rfl|apply cx|apply cy|apply cE|apply az|apply aW|apply cu|apply cB|apply co|apply cA|apply cp|apply cw|apply ae|apply bB|apply eB|apply eu|apply ct|refine aQ rfl ?_|apply cq|apply ew|apply ep|apply jl|apply jj|refine jt rfl ?_|apply jn|apply jw|apply eC|exact bi [115] 0 e_|exact cO (r:=a7) [115] 0 ig rfl qD qD qD|exact kZ|(intro _;simp only[cf,ci,cm,List.map,List.cons_append,List.nil_append])|intro _
    refine aY fun a w h=> ?_
    have h:TS w0 (r3::r2::r1::X) [(r3, .st [.is (.int .i64 y.1), .to bl 126 [115] 0 (w0.heap.size) (y.2.1), .to bk 128 [115] 0 (w0.heap.size) (y.2.2.1), .to a7 130 [115] 0 (w0.heap.size) (y.2.2.2.1), .to bn 132 [115] 0 (w0.heap.size) ((y.2.2.2.2.1).take 0), .to b7 134 [115] 0 (w0.heap.size) ([])]),(r2, .tr eM [] 0 (0,(),(),(),(),())),(r1, .tr aw [] w0.heap.size y)] [(10, .is (.int .i64 ((0:Nat):Int))),(3, .is (.pointer (some ⟨r3,0,none⟩))),(2, .is (.pointer (some ⟨r2,0,none⟩))),(1, .is (.pointer (some ⟨r1,0,none⟩)))] 152 a w:=h.keep [10,3,2,1]
    refine aO (fun k a u=>∃ i:Nat,i+k=(y.2.2.2.2.1).length∧TS w0 (r3::r2::r1::X) [(r3, .st [.is (.int .i64 y.1), .to bl 126 [115] 0 (w0.heap.size) (y.2.1), .to bk 128 [115] 0 (w0.heap.size) (y.2.2.1), .to a7 130 [115] 0 (w0.heap.size) (y.2.2.2.1), .to bn 132 [115] 0 (w0.heap.size) ((y.2.2.2.2.1).take i), .to b7 134 [115] 0 (w0.heap.size) ([])]),(r2, .tr eM [] 0 (0,(),(),(),(),())),(r1, .tr aw [] w0.heap.size y)] [(10, .is (.int .i64 (i:Int))),(3, .is (.pointer (some ⟨r3,0,none⟩))),(2, .is (.pointer (some ⟨r2,0,none⟩))),(1, .is (.pointer (some ⟨r1,0,none⟩)))] 152 a u) (y.2.2.2.2.1).length ⟨0,by omega,h⟩ ?_
    clear h
    rintro k a u ⟨i,hi,h⟩
    by_cases hlt:i<(y.2.2.2.2.1).length
    ·obtain ⟨x,hx⟩:∃ x,(y.2.2.2.2.1)[i]? =some x:=⟨_,List.getElem?_eq_getElem hlt⟩
     have hc:decide ((i:Int)<((y.2.2.2.2.1).length:Int))=true:=decide_eq_true qO
     have hw:IntKind.i64.wrap ((i:Int)+1)=((i+1:Nat):Int):=aA qO qO
     have hh:=hf4 x (List.mem_of_getElem? hx)
     have hlen:((y.2.2.2.2.1).take i).length≤40:=by rw [List.length_take];omega
     have k0:=fun (C:Nat)=>dK (x:=x.2.1) (ts:=[]) (C:=C) (by have g1:=hh.1.1;have g2:=hh.1.2.1;omega)
     have k1:=fun (C:Nat)=>dK (x:=x.2.2) (ts:=[]) (C:=C) (by have g1:=hh.2.1;have g2:=hh.2.2.1;omega)
     refine aB h ?_
     clear h
     repeat' first|kernel_rfl|(refine pg r3 4 ?_;refine dk [10,3,2,1] (Nat.le_refl _) (Nat.zero_le _) (fun _ _ ht=>ht.mem.below.size) kh (by simp only [List.length_cons,List.length_nil];omega) qD qK ?_)|(refine nk ?_)|exact a8 fun _ _ h=>⟨k - 1,by omega,i+1,by omega,by rw [fQ hx];exact h.drop.keep [10,3,2,1]⟩|apply cx|apply cy|apply cE|apply ar (id:=21) [] [] 12|apply az|apply aW|apply cu|apply cB|apply co|apply cA|apply cp|apply cw|apply ae|apply bB|apply eB|apply eu|apply ct|refine aQ rfl ?_|apply cq|apply ew|apply ep|apply jl|apply jj|refine jt rfl ?_|apply jn|apply jw|apply eC|exact bi [115] 0 go|exact cO (r:=bn) [115] 0 gx rfl qD qD qD|exact kZ|(intro _;simp only[cf,ci,cm,List.map,List.cons_append,List.nil_append])|intro _
    ·have hil:i=(y.2.2.2.2.1).length:=qO
     have hc:decide ((i:Int)<((y.2.2.2.2.1).length:Int))=false:=decide_eq_false qO
     have e:(y.2.2.2.2.1).take i=y.2.2.2.2.1:=by rw [hil,List.take_length]
     rw [e] at h
     refine aB h ?_
     clear h
     repeat' first|kernel_rfl|apply cx|apply cy|apply cE|apply az|apply aW|apply cu|apply cB|apply co|apply cA|apply cp|apply cw|apply ae|apply bB|apply eB|apply eu|apply ct|refine aQ rfl ?_|apply cq|apply ew|apply ep|apply jl|apply jj|refine jt rfl ?_|apply jn|apply jw|apply eC|exact bi [115] 0 go|exact cO (r:=bn) [115] 0 gx rfl qD qD qD|exact kZ|(intro _;simp only[cf,ci,cm,List.map,List.cons_append,List.nil_append])|intro _
     refine aY fun a w h=> ?_
     have h:TS w0 (r3::r2::r1::X) [(r3, .st [.is (.int .i64 y.1), .to bl 126 [115] 0 (w0.heap.size) (y.2.1), .to bk 128 [115] 0 (w0.heap.size) (y.2.2.1), .to a7 130 [115] 0 (w0.heap.size) (y.2.2.2.1), .to bn 132 [115] 0 (w0.heap.size) (y.2.2.2.2.1), .to b7 134 [115] 0 (w0.heap.size) ((y.2.2.2.2.2).take 0)]),(r2, .tr eM [] 0 (0,(),(),(),(),())),(r1, .tr aw [] w0.heap.size y)] [(12, .is (.int .i64 ((0:Nat):Int))),(3, .is (.pointer (some ⟨r3,0,none⟩))),(2, .is (.pointer (some ⟨r2,0,none⟩))),(1, .is (.pointer (some ⟨r1,0,none⟩)))] 152 a w:=h.keep [12,3,2,1]
     refine aO (fun k a u=>∃ i:Nat,i+k=(y.2.2.2.2.2).length∧TS w0 (r3::r2::r1::X) [(r3, .st [.is (.int .i64 y.1), .to bl 126 [115] 0 (w0.heap.size) (y.2.1), .to bk 128 [115] 0 (w0.heap.size) (y.2.2.1), .to a7 130 [115] 0 (w0.heap.size) (y.2.2.2.1), .to bn 132 [115] 0 (w0.heap.size) (y.2.2.2.2.1), .to b7 134 [115] 0 (w0.heap.size) ((y.2.2.2.2.2).take i)]),(r2, .tr eM [] 0 (0,(),(),(),(),())),(r1, .tr aw [] w0.heap.size y)] [(12, .is (.int .i64 (i:Int))),(3, .is (.pointer (some ⟨r3,0,none⟩))),(2, .is (.pointer (some ⟨r2,0,none⟩))),(1, .is (.pointer (some ⟨r1,0,none⟩)))] 152 a u) (y.2.2.2.2.2).length ⟨0,by omega,h⟩ ?_
     clear h
     rintro k a u ⟨i,hi,h⟩
     by_cases hlt:i<(y.2.2.2.2.2).length
     ·obtain ⟨x,hx⟩:∃ x,(y.2.2.2.2.2)[i]? =some x:=⟨_,List.getElem?_eq_getElem hlt⟩
      have hc:decide ((i:Int)<((y.2.2.2.2.2).length:Int))=true:=decide_eq_true qO
      have hw:IntKind.i64.wrap ((i:Int)+1)=((i+1:Nat):Int):=aA qO qO
      have hh:=hf5 x (List.mem_of_getElem? hx)
      have hlen:((y.2.2.2.2.2).take i).length≤40:=by rw [List.length_take];omega
      have k0:=fun (C:Nat)=>dK (x:=x.2) (ts:=[]) (C:=C) (by have g1:=hh.1;have g2:=hh.2.1;omega)
      refine aB h ?_
      clear h
      repeat' first|kernel_rfl|(refine pg r3 5 ?_;refine dk [12,3,2,1] (Nat.le_refl _) (Nat.zero_le _) (fun _ _ ht=>ht.mem.below.size) kV (by simp only [List.length_cons,List.length_nil];omega) qD qK ?_)|(refine nk ?_)|exact a8 fun _ _ h=>⟨k - 1,by omega,i+1,by omega,by rw [fQ hx];exact h.keep [12,3,2,1]⟩|apply cx|apply cy|apply cE|apply ar (id:=25) [] [] 17|apply az|apply aW|apply cu|apply cB|apply co|apply cA|apply cp|apply cw|apply ae|apply bB|apply eB|apply eu|apply ct|refine aQ rfl ?_|apply cq|apply ew|apply ep|apply jl|apply jj|refine jt rfl ?_|apply jn|apply jw|apply eC|exact bi [115] 0 gw|exact cO (r:=b7) [115] 0 ia rfl qD qD qD|exact kZ|(intro _;simp only[cf,ci,cm,List.map,List.cons_append,List.nil_append])|intro _
     ·have hil:i=(y.2.2.2.2.2).length:=qO
      have hc:decide ((i:Int)<((y.2.2.2.2.2).length:Int))=false:=decide_eq_false qO
      have e:(y.2.2.2.2.2).take i=y.2.2.2.2.2:=by rw [hil,List.take_length]
      rw [e] at h
      refine aB h ?_
      clear h
      repeat' first|kernel_rfl|apply cx|apply cy|apply cE|apply az|apply aW|apply cu|apply cB|apply co|apply cA|apply cp|apply cw|apply ae|apply bB|apply eB|apply eu|apply ct|refine aQ rfl ?_|apply cq|apply ew|apply ep|apply jl|apply jj|refine jt rfl ?_|apply jn|apply jw|apply eC|exact bi [115] 0 gw|exact cO (r:=b7) [115] 0 ia rfl qD qD qD|exact ⟨fun _ _=>fun _ h=>EI h⟩|exact kZ|(intro _;simp only[cf,ci,cm,List.map,List.cons_append,List.nil_append])|intro _
abbrev nU:=(List UInt8)×(List UInt8)×(Unit)×(aR)×(aR)×(Int)×(Int)×(aR)×(aR)×(Int)×(Unit)×(Unit)×(Unit)
abbrev bP:Rp nU:=(Rp.str).pair ((Rp.str).pair ((Rp.nil).pair ((Rp.frac).pair ((Rp.frac).pair (((Rp.int .i64)).pair (((Rp.int .i64)).pair ((Rp.frac).pair ((Rp.frac).pair (((Rp.int .i64)).pair ((Rp.nil).pair ((Rp.nil).pair (Rp.nil))))))))))))
theorem mh:dS Tryz.prog 42 bP ([],[],(),((false,[]),(false,[])),((false,[]),(false,[])),0,0,((false,[]),(false,[])),((false,[]),(false,[])),0,(),(),()):=⟨by
 obtain ⟨i,h1,h2,h3,h4⟩:∃ i,Tryz.prog.info? 42=some i∧i.zero=some (.agg #[Tx [],Tx [], .slice none 0 0, .bool false, .slice none 0 0, .bool false, .slice none 0 0, .bool false, .slice none 0 0, .bool false, .slice none 0 0, .int .i64 0, .int .i64 0, .bool false, .slice none 0 0, .bool false, .slice none 0 0, .bool false, .slice none 0 0, .bool false, .slice none 0 0, .int .i64 0, .slice none 0 0, .slice none 0 0, .slice none 0 0])∧i.size=25∧i.bytes=408:=info_parts qK
 refine ⟨_,i,_,Tryz.underlying42,(fun f hf=> ?_),h1,h2,fun w S=> ?_⟩
 ·simp only [List.mem_cons,List.not_mem_nil,or_false] at hf
  rcases hf with rfl|rfl|rfl|rfl|rfl|rfl|rfl|rfl|rfl|rfl|rfl|rfl|rfl<;>exact Option.isSome_iff_exists.1 qK
 ·exact ⟨[Tx []],[Tx [], .slice none 0 0, .bool false, .slice none 0 0, .bool false, .slice none 0 0, .bool false, .slice none 0 0, .bool false, .slice none 0 0, .int .i64 0, .int .i64 0, .bool false, .slice none 0 0, .bool false, .slice none 0 0, .bool false, .slice none 0 0, .bool false, .slice none 0 0, .int .i64 0, .slice none 0 0, .slice none 0 0, .slice none 0 0],rfl,⟨_,rfl,bu []⟩,⟨[Tx []],[.slice none 0 0, .bool false, .slice none 0 0, .bool false, .slice none 0 0, .bool false, .slice none 0 0, .bool false, .slice none 0 0, .int .i64 0, .int .i64 0, .bool false, .slice none 0 0, .bool false, .slice none 0 0, .bool false, .slice none 0 0, .bool false, .slice none 0 0, .int .i64 0, .slice none 0 0, .slice none 0 0, .slice none 0 0],rfl,⟨_,rfl,bu []⟩,⟨[.slice none 0 0],[.bool false, .slice none 0 0, .bool false, .slice none 0 0, .bool false, .slice none 0 0, .bool false, .slice none 0 0, .int .i64 0, .int .i64 0, .bool false, .slice none 0 0, .bool false, .slice none 0 0, .bool false, .slice none 0 0, .bool false, .slice none 0 0, .int .i64 0, .slice none 0 0, .slice none 0 0, .slice none 0 0],rfl,rfl,⟨[.bool false, .slice none 0 0, .bool false, .slice none 0 0],[.bool false, .slice none 0 0, .bool false, .slice none 0 0, .int .i64 0, .int .i64 0, .bool false, .slice none 0 0, .bool false, .slice none 0 0, .bool false, .slice none 0 0, .bool false, .slice none 0 0, .int .i64 0, .slice none 0 0, .slice none 0 0, .slice none 0 0],rfl,⟨[.bool false, .slice none 0 0],[.bool false, .slice none 0 0],rfl,⟨[.bool false],[.slice none 0 0],rfl,rfl,⟨none,0,0,rfl,⟨⟨rfl,Nat.le_refl _,Nat.zero_le _,fun _=>rfl,fun h=>absurd h qO⟩,fun h=>absurd h qO⟩,fun _ h=>by cases h⟩⟩,⟨[.bool false],[.slice none 0 0],rfl,rfl,⟨none,0,0,rfl,⟨⟨rfl,Nat.le_refl _,Nat.zero_le _,fun _=>rfl,fun h=>absurd h qO⟩,fun h=>absurd h qO⟩,fun _ h=>by cases h⟩⟩⟩,⟨[.bool false, .slice none 0 0, .bool false, .slice none 0 0],[.int .i64 0, .int .i64 0, .bool false, .slice none 0 0, .bool false, .slice none 0 0, .bool false, .slice none 0 0, .bool false, .slice none 0 0, .int .i64 0, .slice none 0 0, .slice none 0 0, .slice none 0 0],rfl,⟨[.bool false, .slice none 0 0],[.bool false, .slice none 0 0],rfl,⟨[.bool false],[.slice none 0 0],rfl,rfl,⟨none,0,0,rfl,⟨⟨rfl,Nat.le_refl _,Nat.zero_le _,fun _=>rfl,fun h=>absurd h qO⟩,fun h=>absurd h qO⟩,fun _ h=>by cases h⟩⟩,⟨[.bool false],[.slice none 0 0],rfl,rfl,⟨none,0,0,rfl,⟨⟨rfl,Nat.le_refl _,Nat.zero_le _,fun _=>rfl,fun h=>absurd h qO⟩,fun h=>absurd h qO⟩,fun _ h=>by cases h⟩⟩⟩,⟨[.int .i64 0],[.int .i64 0, .bool false, .slice none 0 0, .bool false, .slice none 0 0, .bool false, .slice none 0 0, .bool false, .slice none 0 0, .int .i64 0, .slice none 0 0, .slice none 0 0, .slice none 0 0],rfl,rfl,⟨[.int .i64 0],[.bool false, .slice none 0 0, .bool false, .slice none 0 0, .bool false, .slice none 0 0, .bool false, .slice none 0 0, .int .i64 0, .slice none 0 0, .slice none 0 0, .slice none 0 0],rfl,rfl,⟨[.bool false, .slice none 0 0, .bool false, .slice none 0 0],[.bool false, .slice none 0 0, .bool false, .slice none 0 0, .int .i64 0, .slice none 0 0, .slice none 0 0, .slice none 0 0],rfl,⟨[.bool false, .slice none 0 0],[.bool false, .slice none 0 0],rfl,⟨[.bool false],[.slice none 0 0],rfl,rfl,⟨none,0,0,rfl,⟨⟨rfl,Nat.le_refl _,Nat.zero_le _,fun _=>rfl,fun h=>absurd h qO⟩,fun h=>absurd h qO⟩,fun _ h=>by cases h⟩⟩,⟨[.bool false],[.slice none 0 0],rfl,rfl,⟨none,0,0,rfl,⟨⟨rfl,Nat.le_refl _,Nat.zero_le _,fun _=>rfl,fun h=>absurd h qO⟩,fun h=>absurd h qO⟩,fun _ h=>by cases h⟩⟩⟩,⟨[.bool false, .slice none 0 0, .bool false, .slice none 0 0],[.int .i64 0, .slice none 0 0, .slice none 0 0, .slice none 0 0],rfl,⟨[.bool false, .slice none 0 0],[.bool false, .slice none 0 0],rfl,⟨[.bool false],[.slice none 0 0],rfl,rfl,⟨none,0,0,rfl,⟨⟨rfl,Nat.le_refl _,Nat.zero_le _,fun _=>rfl,fun h=>absurd h qO⟩,fun h=>absurd h qO⟩,fun _ h=>by cases h⟩⟩,⟨[.bool false],[.slice none 0 0],rfl,rfl,⟨none,0,0,rfl,⟨⟨rfl,Nat.le_refl _,Nat.zero_le _,fun _=>rfl,fun h=>absurd h qO⟩,fun h=>absurd h qO⟩,fun _ h=>by cases h⟩⟩⟩,⟨[.int .i64 0],[.slice none 0 0, .slice none 0 0, .slice none 0 0],rfl,rfl,⟨[.slice none 0 0],[.slice none 0 0, .slice none 0 0],rfl,rfl,⟨[.slice none 0 0],[.slice none 0 0],rfl,rfl,rfl⟩⟩⟩⟩⟩⟩⟩⟩⟩⟩⟩⟩⟩
instance:ah bP 0 Rp.str (fun a b=>(b,a.2)):=ah.fst
instance:ah bP 1 Rp.str (fun a b=>(a.1,(b,a.2.2))):=(ah.tail (n:=1) ⟨rfl⟩ ah.fst rfl)
instance:ah bP 3 Rp.frac (fun a b=>(a.1,(a.2.1,(a.2.2.1,(b,a.2.2.2.2))))):=(ah.tail (n:=3) ⟨rfl⟩ (ah.tail (n:=2) ⟨rfl⟩ (ah.tail (n:=1) ⟨rfl⟩ ah.fst rfl) rfl) rfl)
instance:ah bP 7 Rp.frac (fun a b=>(a.1,(a.2.1,(a.2.2.1,(a.2.2.2.1,(b,a.2.2.2.2.2)))))):=(ah.tail (n:=7) ⟨rfl⟩ (ah.tail (n:=6) ⟨rfl⟩ (ah.tail (n:=5) ⟨rfl⟩ (ah.tail (n:=4) ⟨rfl⟩ ah.fst rfl) rfl) rfl) rfl)
instance:ah bP 11 (Rp.int .i64) (fun a b=>(a.1,(a.2.1,(a.2.2.1,(a.2.2.2.1,(a.2.2.2.2.1,(b,a.2.2.2.2.2.2))))))):=(ah.tail (n:=11) ⟨rfl⟩ (ah.tail (n:=10) ⟨rfl⟩ (ah.tail (n:=9) ⟨rfl⟩ (ah.tail (n:=8) ⟨rfl⟩ (ah.tail (n:=4) ⟨rfl⟩ ah.fst rfl) rfl) rfl) rfl) rfl)
instance:ah bP 12 (Rp.int .i64) (fun a b=>(a.1,(a.2.1,(a.2.2.1,(a.2.2.2.1,(a.2.2.2.2.1,(a.2.2.2.2.2.1,(b,a.2.2.2.2.2.2.2)))))))):=(ah.tail (n:=12) ⟨rfl⟩ (ah.tail (n:=11) ⟨rfl⟩ (ah.tail (n:=10) ⟨rfl⟩ (ah.tail (n:=9) ⟨rfl⟩ (ah.tail (n:=5) ⟨rfl⟩ (ah.tail (n:=1) ⟨rfl⟩ ah.fst rfl) rfl) rfl) rfl) rfl) rfl)
instance:ah bP 13 Rp.frac (fun a b=>(a.1,(a.2.1,(a.2.2.1,(a.2.2.2.1,(a.2.2.2.2.1,(a.2.2.2.2.2.1,(a.2.2.2.2.2.2.1,(b,a.2.2.2.2.2.2.2.2))))))))):=(ah.tail (n:=13) ⟨rfl⟩ (ah.tail (n:=12) ⟨rfl⟩ (ah.tail (n:=11) ⟨rfl⟩ (ah.tail (n:=10) ⟨rfl⟩ (ah.tail (n:=6) ⟨rfl⟩ (ah.tail (n:=2) ⟨rfl⟩ (ah.tail (n:=1) ⟨rfl⟩ ah.fst rfl) rfl) rfl) rfl) rfl) rfl) rfl)
instance:ah bP 17 Rp.frac (fun a b=>(a.1,(a.2.1,(a.2.2.1,(a.2.2.2.1,(a.2.2.2.2.1,(a.2.2.2.2.2.1,(a.2.2.2.2.2.2.1,(a.2.2.2.2.2.2.2.1,(b,a.2.2.2.2.2.2.2.2.2)))))))))):=(ah.tail (n:=17) ⟨rfl⟩ (ah.tail (n:=16) ⟨rfl⟩ (ah.tail (n:=15) ⟨rfl⟩ (ah.tail (n:=14) ⟨rfl⟩ (ah.tail (n:=10) ⟨rfl⟩ (ah.tail (n:=6) ⟨rfl⟩ (ah.tail (n:=5) ⟨rfl⟩ (ah.tail (n:=4) ⟨rfl⟩ ah.fst rfl) rfl) rfl) rfl) rfl) rfl) rfl) rfl)
instance:ah bP 21 (Rp.int .i64) (fun a b=>(a.1,(a.2.1,(a.2.2.1,(a.2.2.2.1,(a.2.2.2.2.1,(a.2.2.2.2.2.1,(a.2.2.2.2.2.2.1,(a.2.2.2.2.2.2.2.1,(a.2.2.2.2.2.2.2.2.1,(b,a.2.2.2.2.2.2.2.2.2.2))))))))))):=(ah.tail (n:=21) ⟨rfl⟩ (ah.tail (n:=20) ⟨rfl⟩ (ah.tail (n:=19) ⟨rfl⟩ (ah.tail (n:=18) ⟨rfl⟩ (ah.tail (n:=14) ⟨rfl⟩ (ah.tail (n:=10) ⟨rfl⟩ (ah.tail (n:=9) ⟨rfl⟩ (ah.tail (n:=8) ⟨rfl⟩ (ah.tail (n:=4) ⟨rfl⟩ ah.fst rfl) rfl) rfl) rfl) rfl) rfl) rfl) rfl) rfl)
instance:KC bP 25:=⟨rfl⟩
instance:cQ Tryz.prog 42 (.tr bP [] 0 ([],[],(),((false,[]),(false,[])),((false,[]),(false,[])),0,0,((false,[]),(false,[])),((false,[]),(false,[])),0,(),(),())):=mh.alT
theorem cM.uncons{T:aa} :∀ {cs:List Value},cM X w (T::Ts) cs→∃ v cs',cs=v::cs'∧T.holds X w v∧cM X w Ts cs'
 |[],h=>h.elim
 |v::cs',h=>⟨v,cs',rfl,h.1,h.2⟩
theorem cM.unnil:∀ {cs:List Value},cM X w [] cs→cs=[]
 |[],_=>rfl
 |_::_,h=>h.elim
theorem xW{α:Type} {r:Rp α} {S:Nat→Prop} {a:α} {cs:List Value} (hk:r.k=1) (h:r.rd w S a cs):∃ v,cs=[v]:=by
 have:=r.len h
 rw [hk] at this
 match cs,this with
 |[v],_=>exact ⟨v,rfl⟩
theorem kp{ts:List TypeId} {cs:List Value} (h:Rp.frac.rd w (ca ts C X w) x cs):∃ a b c d,cs=[a,b,c,d]∧a= .bool x.1.1∧(aa.tc Rp.limbs ts C x.1.2).holds X w b∧c= .bool x.2.1∧(aa.tc Rp.limbs ts C x.2.2).holds X w d:=by
 obtain ⟨_,_,rfl,⟨a,b,rfl,h1,h2⟩,⟨c,d,rfl,h3,h4⟩⟩:=h
 have h1:a=[.bool x.1.1]:=h1
 have h3:c=[.bool x.2.1]:=h3
 subst h1 h3
 obtain ⟨b,rfl⟩:=xW rfl h2
 obtain ⟨d,rfl⟩:=xW rfl h4
 exact ⟨_,b,_,d,rfl,rfl,h2,rfl,h4⟩
theorem pI{ts:List TypeId} {a b c d:Value} (h1:a= .bool x.1.1) (h2:(aa.tc Rp.limbs ts C x.1.2).holds X w b) (h3:c= .bool x.2.1) (h4:(aa.tc Rp.limbs ts C x.2.2).holds X w d) {ts':List TypeId} [s:fT ts ts']:Rp.frac.rd w (ca ts' C X w) x [a,b,c,d]:=
 Rp.frac.more (S:=ca ts C X w) ⟨[a,b],[c,d],rfl,⟨[a],[b],rfl,by rw [h1];rfl,h2⟩,⟨[c],[d],rfl,by rw [h3];rfl,h4⟩⟩ (ca.sub (s:=s))
theorem BZ{S:Nat→Prop} {l:List UInt8} (h:v=Tx l):Rp.str.rd w S l [v]:=⟨_,congrArg (fun u=>[u]) h,bu l⟩
instance:iw 74 [115]:=⟨by decide⟩
instance:iw 74 [78,115]:=⟨by decide⟩
instance:iw 74 [9]:=⟨by decide⟩
instance:iw 74 [85,126,128,130,132,134,115]:=⟨by decide⟩
instance:iw 78 [115]:=⟨by decide⟩
instance:iw 78 [74,115]:=⟨by decide⟩
instance:iw 78 [9]:=⟨by decide⟩
instance:iw 78 [85,126,128,130,132,134,115]:=⟨by decide⟩
instance:iw 9 [74,115]:=⟨by decide⟩
instance:iw 9 [78,115]:=⟨by decide⟩
instance:iw 9 [85,126,128,130,132,134,115]:=⟨by decide⟩
instance:iw 85 [126,128,130,132,134,115]:=⟨by decide⟩
instance:iw 85 [74,115]:=⟨by decide⟩
instance:iw 85 [78,115]:=⟨by decide⟩
instance:iw 85 [9]:=⟨by decide⟩
instance:fT [74,115] [9,74,78,85,126,128,130,132,134,115]:=⟨by decide⟩
instance:fT [78,115] [9,74,78,85,126,128,130,132,134,115]:=⟨by decide⟩
instance:fT [9] [9,74,78,85,126,128,130,132,134,115]:=⟨by decide⟩
instance:fT [85,126,128,130,132,134,115] [9,74,78,85,126,128,130,132,134,115]:=⟨by decide⟩
instance:fT [115] [9,74,78,85,126,128,130,132,134,115]:=⟨by decide⟩
instance:iw 9 [115]:=⟨by decide⟩
instance:iw 85 [115]:=⟨by decide⟩
theorem wK{x:nU} (h:(aa.tr bP [115] 0 x).holds X w v):(aa.st [.is (Tx (x.1)), .is (Tx (x.2.1)), .to a_ 74 [115] 0 (B) ([]), .is (.bool (x.2.2.2.1).1.1), .tc Rp.limbs [115] 0 (x.2.2.2.1).1.2, .is (.bool (x.2.2.2.1).2.1), .tc Rp.limbs [115] 0 (x.2.2.2.1).2.2, .is (.bool (x.2.2.2.2.1).1.1), .tc Rp.limbs [115] 0 (x.2.2.2.2.1).1.2, .is (.bool (x.2.2.2.2.1).2.1), .tc Rp.limbs [115] 0 (x.2.2.2.2.1).2.2, .is (.int .i64 (x.2.2.2.2.2.1)), .is (.int .i64 (x.2.2.2.2.2.2.1)), .is (.bool (x.2.2.2.2.2.2.2.1).1.1), .tc Rp.limbs [115] 0 (x.2.2.2.2.2.2.2.1).1.2, .is (.bool (x.2.2.2.2.2.2.2.1).2.1), .tc Rp.limbs [115] 0 (x.2.2.2.2.2.2.2.1).2.2, .is (.bool (x.2.2.2.2.2.2.2.2.1).1.1), .tc Rp.limbs [115] 0 (x.2.2.2.2.2.2.2.2.1).1.2, .is (.bool (x.2.2.2.2.2.2.2.2.1).2.1), .tc Rp.limbs [115] 0 (x.2.2.2.2.2.2.2.2.1).2.2, .is (.int .i64 (x.2.2.2.2.2.2.2.2.2.1)), .to bq 78 [115] 0 (B) ([]), .to Rp.str 9 [] 0 (B) ([]), .to aw 85 [126,128,130,132,134,115] 0 (B) ([])]).holds X w v:=by
 obtain ⟨cs,e,h⟩:=h
 have hone:=bP.one h
 obtain ⟨c0,q0,e0,h0,c1,q1,e1,h1,c2,q2,e2,h2,c3,q3,e3,h3,c4,q4,e4,h4,c5,q5,e5,h5,c6,q6,e6,h6,c7,q7,e7,h7,c8,q8,e8,h8,c9,q9,e9,h9,c10,q10,e10,h10,c11,q11,e11,h11,h12⟩:=h
 obtain ⟨v0,g0⟩:=xW rfl h0
 subst g0
 obtain ⟨v1,g1⟩:=xW rfl h1
 subst g1
 have h2:c2=[.slice none 0 0]:=h2
 subst h2
 obtain ⟨f3a,f3b,f3c,f3d,g3,m3a,m3b,m3c,m3d⟩:=kp h3
 subst g3
 obtain ⟨f4a,f4b,f4c,f4d,g4,m4a,m4b,m4c,m4d⟩:=kp h4
 subst g4
 have h5:c5=[.int .i64 _]:=h5
 subst h5
 have h6:c6=[.int .i64 _]:=h6
 subst h6
 obtain ⟨f7a,f7b,f7c,f7d,g7,m7a,m7b,m7c,m7d⟩:=kp h7
 subst g7
 obtain ⟨f8a,f8b,f8c,f8d,g8,m8a,m8b,m8c,m8d⟩:=kp h8
 subst g8
 have h9:c9=[.int .i64 _]:=h9
 subst h9
 have h10:c10=[.slice none 0 0]:=h10
 subst h10
 have h11:c11=[.slice none 0 0]:=h11
 subst h11
 have h12:q11=[.slice none 0 0]:=h12
 subst h12
 subst e11 e10 e9 e8 e7 e6 e5 e4 e3 e2 e1 e0
 exact ⟨_,e,⟨lC.ok (r:=Rp.str) (Rp.str.more h0 fun _ hb=>hb.1),lC.ok (r:=Rp.str) (Rp.str.more h1 fun _ hb=>hb.1),jA rfl,m3a,m3b,m3c,m3d,m4a,m4b,m4c,m4d,rfl,rfl,m7a,m7b,m7c,m7d,m8a,m8b,m8c,m8d,rfl,jA rfl,jA rfl,jA rfl,trivial⟩,hone⟩
theorem y_{d:aj} (h:(aa.st [.is (Tx (d.1)), .is (Tx (d.2.1)), .to a_ 74 [115] 0 (B) (d.2.2.1), .is (.bool (d.2.2.2.1).1.1), .tc Rp.limbs [115] 0 (d.2.2.2.1).1.2, .is (.bool (d.2.2.2.1).2.1), .tc Rp.limbs [115] 0 (d.2.2.2.1).2.2, .is (.bool (d.2.2.2.2.1).1.1), .tc Rp.limbs [115] 0 (d.2.2.2.2.1).1.2, .is (.bool (d.2.2.2.2.1).2.1), .tc Rp.limbs [115] 0 (d.2.2.2.2.1).2.2, .is (.int .i64 (d.2.2.2.2.2.1)), .is (.int .i64 (d.2.2.2.2.2.2.1)), .is (.bool (d.2.2.2.2.2.2.2.1).1.1), .tc Rp.limbs [115] 0 (d.2.2.2.2.2.2.2.1).1.2, .is (.bool (d.2.2.2.2.2.2.2.1).2.1), .tc Rp.limbs [115] 0 (d.2.2.2.2.2.2.2.1).2.2, .is (.bool (d.2.2.2.2.2.2.2.2.1).1.1), .tc Rp.limbs [115] 0 (d.2.2.2.2.2.2.2.2.1).1.2, .is (.bool (d.2.2.2.2.2.2.2.2.1).2.1), .tc Rp.limbs [115] 0 (d.2.2.2.2.2.2.2.2.1).2.2, .is (.int .i64 (d.2.2.2.2.2.2.2.2.2.1)), .to bq 78 [115] 0 (B) (d.2.2.2.2.2.2.2.2.2.2.1), .to Rp.str 9 [] 0 (B) (d.2.2.2.2.2.2.2.2.2.2.2.1), .to aw 85 [126,128,130,132,134,115] 0 (B) (d.2.2.2.2.2.2.2.2.2.2.2.2)]).holds X w v):(aa.tr ab [9,74,78,85,126,128,130,132,134,115] 0 d).holds X w v:=by
 obtain ⟨cs,e,h,ho⟩:=h
 obtain ⟨a0,r0,rfl,u0,h⟩:=h.uncons
 obtain ⟨a1,r1,rfl,u1,h⟩:=h.uncons
 obtain ⟨a2,r2,rfl,u2,h⟩:=h.uncons
 obtain ⟨a3a,r3,rfl,u3a,h⟩:=h.uncons
 obtain ⟨a3b,r4,rfl,u3b,h⟩:=h.uncons
 obtain ⟨a3c,r5,rfl,u3c,h⟩:=h.uncons
 obtain ⟨a3d,r6,rfl,u3d,h⟩:=h.uncons
 obtain ⟨a4a,r7,rfl,u4a,h⟩:=h.uncons
 obtain ⟨a4b,r8,rfl,u4b,h⟩:=h.uncons
 obtain ⟨a4c,r9,rfl,u4c,h⟩:=h.uncons
 obtain ⟨a4d,r10,rfl,u4d,h⟩:=h.uncons
 obtain ⟨a5,r11,rfl,u5,h⟩:=h.uncons
 obtain ⟨a6,r12,rfl,u6,h⟩:=h.uncons
 obtain ⟨a7a,r13,rfl,u7a,h⟩:=h.uncons
 obtain ⟨a7b,r14,rfl,u7b,h⟩:=h.uncons
 obtain ⟨a7c,r15,rfl,u7c,h⟩:=h.uncons
 obtain ⟨a7d,r16,rfl,u7d,h⟩:=h.uncons
 obtain ⟨a8a,r17,rfl,u8a,h⟩:=h.uncons
 obtain ⟨a8b,r18,rfl,u8b,h⟩:=h.uncons
 obtain ⟨a8c,r19,rfl,u8c,h⟩:=h.uncons
 obtain ⟨a8d,r20,rfl,u8d,h⟩:=h.uncons
 obtain ⟨a9,r21,rfl,u9,h⟩:=h.uncons
 obtain ⟨a10,r22,rfl,u10,h⟩:=h.uncons
 obtain ⟨a11,r23,rfl,u11,h⟩:=h.uncons
 obtain ⟨a12,r24,rfl,u12,h⟩:=h.uncons
 obtain rfl:=h.unnil
 exact ⟨_,e,⟨[a0],[a1,a2,a3a,a3b,a3c,a3d,a4a,a4b,a4c,a4d,a5,a6,a7a,a7b,a7c,a7d,a8a,a8b,a8c,a8d,a9,a10,a11,a12],rfl,BZ u0,⟨[a1],[a2,a3a,a3b,a3c,a3d,a4a,a4b,a4c,a4d,a5,a6,a7a,a7b,a7c,a7d,a8a,a8b,a8c,a8d,a9,a10,a11,a12],rfl,BZ u1,⟨[a2],[a3a,a3b,a3c,a3d,a4a,a4b,a4c,a4d,a5,a6,a7a,a7b,a7c,a7d,a8a,a8b,a8c,a8d,a9,a10,a11,a12],rfl,jp u2,⟨[a3a,a3b,a3c,a3d],[a4a,a4b,a4c,a4d,a5,a6,a7a,a7b,a7c,a7d,a8a,a8b,a8c,a8d,a9,a10,a11,a12],rfl,pI u3a u3b u3c u3d,⟨[a4a,a4b,a4c,a4d],[a5,a6,a7a,a7b,a7c,a7d,a8a,a8b,a8c,a8d,a9,a10,a11,a12],rfl,pI u4a u4b u4c u4d,⟨[a5],[a6,a7a,a7b,a7c,a7d,a8a,a8b,a8c,a8d,a9,a10,a11,a12],rfl,(by rw [show a5=_ from u5];rfl),⟨[a6],[a7a,a7b,a7c,a7d,a8a,a8b,a8c,a8d,a9,a10,a11,a12],rfl,(by rw [show a6=_ from u6];rfl),⟨[a7a,a7b,a7c,a7d],[a8a,a8b,a8c,a8d,a9,a10,a11,a12],rfl,pI u7a u7b u7c u7d,⟨[a8a,a8b,a8c,a8d],[a9,a10,a11,a12],rfl,pI u8a u8b u8c u8d,⟨[a9],[a10,a11,a12],rfl,(by rw [show a9=_ from u9];rfl),⟨[a10],[a11,a12],rfl,jp u10,⟨[a11],[a12],rfl,jp u11,jp u12⟩⟩⟩⟩⟩⟩⟩⟩⟩⟩⟩⟩⟩
instance {ts ts':List TypeId} {C:Nat} {l:List (List UInt8)} [a:vh (.tc Rp.str.row ts C l) Rp.str ts C l]:vh (.tc Rp.str.row ts C l) Rp.str ts' 0 l:=⟨fun h=>by
 obtain ⟨A,c,ps,h1,h2,h3,h4,h5⟩:=a.ok h
 exact ⟨A,c,ps,h1,h2,fun q hq=>h3 q hq,h4,h5⟩⟩
theorem ww{y:aX} {ts:List TypeId} (hf:p9 y) (hn:y.2.1.length≤40∧y.2.2.1.length≤40∧y.2.2.2.1.length≤40∧y.2.2.2.2.1.length≤40∧y.2.2.2.2.2.length≤40):bW Tryz.prog S1 21 [0] [.tr aw ts C y] (fun _=> .tr aw [126,128,130,132,134,115] 0 y):=(yO hf hn).args fun h=>by
 obtain ⟨v,us,rfl,h1,h2⟩:=h.tail
 exact ⟨pS h1,h2⟩
section
variable {P:Program} {w00:World} {X:List Nat} {L:List Loc} {E:List (Nat×aa)} {n r:Nat} {ops:Array Oper} {rest:List Oper} {Q:Exit→Act→World→Prop} {cs:List Code}
theorem Je {x:nU} (h:GR P w00 X ((r, .st [.is (Tx (x.1)), .is (Tx (x.2.1)), .to a_ 74 [115] 0 (w00.heap.size) ([]), .is (.bool (x.2.2.2.1).1.1), .tc Rp.limbs [115] 0 (x.2.2.2.1).1.2, .is (.bool (x.2.2.2.1).2.1), .tc Rp.limbs [115] 0 (x.2.2.2.1).2.2, .is (.bool (x.2.2.2.2.1).1.1), .tc Rp.limbs [115] 0 (x.2.2.2.2.1).1.2, .is (.bool (x.2.2.2.2.1).2.1), .tc Rp.limbs [115] 0 (x.2.2.2.2.1).2.2, .is (.int .i64 (x.2.2.2.2.2.1)), .is (.int .i64 (x.2.2.2.2.2.2.1)), .is (.bool (x.2.2.2.2.2.2.2.1).1.1), .tc Rp.limbs [115] 0 (x.2.2.2.2.2.2.2.1).1.2, .is (.bool (x.2.2.2.2.2.2.2.1).2.1), .tc Rp.limbs [115] 0 (x.2.2.2.2.2.2.2.1).2.2, .is (.bool (x.2.2.2.2.2.2.2.2.1).1.1), .tc Rp.limbs [115] 0 (x.2.2.2.2.2.2.2.2.1).1.2, .is (.bool (x.2.2.2.2.2.2.2.2.1).2.1), .tc Rp.limbs [115] 0 (x.2.2.2.2.2.2.2.2.1).2.2, .is (.int .i64 (x.2.2.2.2.2.2.2.2.2.1)), .to bq 78 [115] 0 (w00.heap.size) ([]), .to Rp.str 9 [] 0 (w00.heap.size) ([]), .to aw 85 [126,128,130,132,134,115] 0 (w00.heap.size) ([])])::L) E n ops rest cs Q):GR P w00 X ((r, .tr bP [115] 0 x)::L) E n ops rest cs Q:=⟨fun a w ht=>by
 obtain ⟨v,hv,f⟩:=ht.openL (r:=r) List.mem_cons_self
 exact h.run a w (f (wK hv) .here)⟩
theorem Gd{Ts':List aa} (i:Nat) [hc:ul Ts i .any Ts'] (h:GR P w00 X ((r, .st Ts')::L) E n ops rest cs Q):GR P w00 X ((r, .st Ts)::L) E n ops rest cs Q:=⟨fun a w ht=>by
 obtain ⟨v,⟨c,e,ha,ho⟩,f⟩:=ht.openL (r:=r) List.mem_cons_self
 exact h.run a w (f (T':= .st Ts') ⟨c,e,by rw [←hc.ok.1];exact ha.any_,ho⟩ .here)⟩
end
theorem Jd {d:aj} (hf:nf d) (hn:qX d):bW Tryz.prog S1 7 [0] [.ra ab d] (fun _=> .tr ab [9,74,78,85,126,128,130,132,134,115] 0 d):=by
 have hn1:=hn.br
 have hn2:=hn.cl
 have hn3:=hn.en
 have hn4:=hn.ys
 have m0:=fun (C:Nat)=>dK (x:=d.2.2.2.1) (ts:=[]) (C:=C) (by have g1:=hf.thr.1;have g2:=hf.thr.2.1;omega)
 have m1:=fun (C:Nat)=>dK (x:=d.2.2.2.2.1) (ts:=[]) (C:=C) (by have g1:=hf.cap.1;have g2:=hf.cap.2.1;omega)
 have m2:=fun (C:Nat)=>dK (x:=d.2.2.2.2.2.2.2.1) (ts:=[]) (C:=C) (by have g1:=hf.int.1;have g2:=hf.int.2.1;omega)
 have m3:=fun (C:Nat)=>dK (x:=d.2.2.2.2.2.2.2.2.1) (ts:=[]) (C:=C) (by have g1:=hf.flo.1;have g2:=hf.flo.2.1;omega)
 refine Ii (As':=fun B=>[.tr ab [] B d]) Tryz.func7 rfl Tryz.ntmps7 qE (fun _ _=>by kernel_rfl) (fun {X w vs} ha=>by
  obtain ⟨v,rfl,h⟩:=ha.one
  exact ⟨tG h,trivial⟩) fun X w0 hE=> ?_
 simp only [eK,Nat.zero_add,Nat.reduceAdd]
 repeat' first|kernel_rfl|apply Je|(refine Gd 23 ?_;refine dk [31,3,2,1] (Nat.le_refl _) (Nat.zero_le _) (fun _ _ ht=>ht.mem.below.size) hZ (by simp only [List.length_nil];omega) qD qK ?_)|(refine nk ?_)|apply cx|apply cy|apply cE|apply ar (id:=1) [] [] 24|apply az|apply aW|apply cu|apply cB|apply co|apply cA|apply cp|apply cw|apply ae|apply bB|apply eB|apply eu|apply ct|refine aQ rfl ?_|apply cq|apply ew|apply ep|apply jl|apply jj|refine jt rfl ?_|apply jn|apply jw|apply eC|exact sc trivial (m0 _)|exact sc trivial (m1 _)|exact sc trivial (m2 _)|exact sc trivial (m3 _)|exact bi [115] 0 mh|exact kZ|(intro _;simp only[cf,ci,cm,List.map,List.cons_append,List.nil_append])|intro _
 refine aY fun a w h=> ?_
 rename_i r1 r2 rr
 clear m0 m1 m2 m3
 obtain ⟨r3,hr3⟩:∃ r,r=rr 3:=⟨_,rfl⟩
 rw [←hr3] at h
 clear hr3 rr
 have h:TS w0 (r3::r2::r1::X) [(r3, .st [.is (Tx (d.1)), .is (Tx (d.2.1)), .to a_ 74 [115] 0 (w0.heap.size) ((d.2.2.1).take 0), .is (.bool (d.2.2.2.1).1.1), .tc Rp.limbs [115] 0 (d.2.2.2.1).1.2, .is (.bool (d.2.2.2.1).2.1), .tc Rp.limbs [115] 0 (d.2.2.2.1).2.2, .is (.bool (d.2.2.2.2.1).1.1), .tc Rp.limbs [115] 0 (d.2.2.2.2.1).1.2, .is (.bool (d.2.2.2.2.1).2.1), .tc Rp.limbs [115] 0 (d.2.2.2.2.1).2.2, .is (.int .i64 (d.2.2.2.2.2.1)), .is (.int .i64 (d.2.2.2.2.2.2.1)), .is (.bool (d.2.2.2.2.2.2.2.1).1.1), .tc Rp.limbs [115] 0 (d.2.2.2.2.2.2.2.1).1.2, .is (.bool (d.2.2.2.2.2.2.2.1).2.1), .tc Rp.limbs [115] 0 (d.2.2.2.2.2.2.2.1).2.2, .is (.bool (d.2.2.2.2.2.2.2.2.1).1.1), .tc Rp.limbs [115] 0 (d.2.2.2.2.2.2.2.2.1).1.2, .is (.bool (d.2.2.2.2.2.2.2.2.1).2.1), .tc Rp.limbs [115] 0 (d.2.2.2.2.2.2.2.2.1).2.2, .is (.int .i64 (d.2.2.2.2.2.2.2.2.2.1)), .to bq 78 [115] 0 (w0.heap.size) ([]), .to Rp.str 9 [] 0 (w0.heap.size) (d.2.2.2.2.2.2.2.2.2.2.2.1), .to aw 85 [126,128,130,132,134,115] 0 (w0.heap.size) ([])]),(r2, .tr bP [] 0 ([],[],(),((false,[]),(false,[])),((false,[]),(false,[])),0,0,((false,[]),(false,[])),((false,[]),(false,[])),0,(),(),())),(r1, .tr ab [] w0.heap.size d)] [(4, .is (.int .i64 ((0:Nat):Int))),(3, .is (.pointer (some ⟨r3,0,none⟩))),(2, .is (.pointer (some ⟨r2,0,none⟩))),(1, .is (.pointer (some ⟨r1,0,none⟩)))] 108 a w:=h.keep [4,3,2,1]
 refine aO (fun k a u=>∃ i:Nat,i+k=(d.2.2.1).length∧TS w0 (r3::r2::r1::X) [(r3, .st [.is (Tx (d.1)), .is (Tx (d.2.1)), .to a_ 74 [115] 0 (w0.heap.size) ((d.2.2.1).take i), .is (.bool (d.2.2.2.1).1.1), .tc Rp.limbs [115] 0 (d.2.2.2.1).1.2, .is (.bool (d.2.2.2.1).2.1), .tc Rp.limbs [115] 0 (d.2.2.2.1).2.2, .is (.bool (d.2.2.2.2.1).1.1), .tc Rp.limbs [115] 0 (d.2.2.2.2.1).1.2, .is (.bool (d.2.2.2.2.1).2.1), .tc Rp.limbs [115] 0 (d.2.2.2.2.1).2.2, .is (.int .i64 (d.2.2.2.2.2.1)), .is (.int .i64 (d.2.2.2.2.2.2.1)), .is (.bool (d.2.2.2.2.2.2.2.1).1.1), .tc Rp.limbs [115] 0 (d.2.2.2.2.2.2.2.1).1.2, .is (.bool (d.2.2.2.2.2.2.2.1).2.1), .tc Rp.limbs [115] 0 (d.2.2.2.2.2.2.2.1).2.2, .is (.bool (d.2.2.2.2.2.2.2.2.1).1.1), .tc Rp.limbs [115] 0 (d.2.2.2.2.2.2.2.2.1).1.2, .is (.bool (d.2.2.2.2.2.2.2.2.1).2.1), .tc Rp.limbs [115] 0 (d.2.2.2.2.2.2.2.2.1).2.2, .is (.int .i64 (d.2.2.2.2.2.2.2.2.2.1)), .to bq 78 [115] 0 (w0.heap.size) ([]), .to Rp.str 9 [] 0 (w0.heap.size) (d.2.2.2.2.2.2.2.2.2.2.2.1), .to aw 85 [126,128,130,132,134,115] 0 (w0.heap.size) ([])]),(r2, .tr bP [] 0 ([],[],(),((false,[]),(false,[])),((false,[]),(false,[])),0,0,((false,[]),(false,[])),((false,[]),(false,[])),0,(),(),())),(r1, .tr ab [] w0.heap.size d)] [(4, .is (.int .i64 (i:Int))),(3, .is (.pointer (some ⟨r3,0,none⟩))),(2, .is (.pointer (some ⟨r2,0,none⟩))),(1, .is (.pointer (some ⟨r1,0,none⟩)))] 108 a u) (d.2.2.1).length ⟨0,by omega,h⟩ ?_
 clear h
 rintro k a u ⟨i,hi,h⟩
 by_cases hlt:i<(d.2.2.1).length
 ·obtain ⟨x,hx⟩:∃ x,(d.2.2.1)[i]? =some x:=⟨_,List.getElem?_eq_getElem hlt⟩
  have hc:decide ((i:Int)<((d.2.2.1).length:Int))=true:=decide_eq_true qO
  have hw:IntKind.i64.wrap ((i:Int)+1)=((i+1:Nat):Int):=aA qO qO
  have hh:=hf.brk x (List.mem_of_getElem? hx)
  have hlen:((d.2.2.1).take i).length≤70:=by rw [List.length_take];omega
  have k0:=fun (C:Nat)=>dK (x:=x.1) (ts:=[]) (C:=C) (by have g1:=hh.1.1;have g2:=hh.1.2.1;omega)
  have k1:=fun (C:Nat)=>dK (x:=x.2) (ts:=[]) (C:=C) (by have g1:=hh.2.1;have g2:=hh.2.2.1;omega)
  refine aB h ?_
  clear h
  repeat' first|kernel_rfl|(refine pg r3 2 ?_;refine dk [4,3,2,1] (Nat.le_refl _) (Nat.zero_le _) (fun _ _ ht=>ht.mem.below.size) ju (by simp only [List.length_cons,List.length_nil];omega) qD qK ?_)|(refine nk ?_)|exact a8 fun _ _ h=>⟨k - 1,by omega,i+1,by omega,by rw [fQ hx];exact h.keep [4,3,2,1]⟩|apply cx|apply cy|apply cE|apply ar (id:=6) [] [] 18|apply az|apply aW|apply cu|apply cB|apply co|apply cA|apply cp|apply cw|apply ae|apply bB|apply eB|apply eu|apply ct|refine aQ rfl ?_|apply cq|apply ew|apply ep|apply jl|apply jj|refine jt rfl ?_|apply jn|apply jw|apply eC|exact bi [115] 0 jx|exact cO (r:=a_) [115] 0 jC rfl qD qD qD|exact kZ|(intro _;simp only[cf,ci,cm,List.map,List.cons_append,List.nil_append])|intro _
 ·have hil:i=(d.2.2.1).length:=qO
  have hc:decide ((i:Int)<((d.2.2.1).length:Int))=false:=decide_eq_false qO
  have e:(d.2.2.1).take i=d.2.2.1:=by rw [hil,List.take_length]
  rw [e] at h
  refine aB h ?_
  clear h
  repeat' first|kernel_rfl|apply cx|apply cy|apply cE|apply az|apply aW|apply cu|apply cB|apply co|apply cA|apply cp|apply cw|apply ae|apply bB|apply eB|apply eu|apply ct|refine aQ rfl ?_|apply cq|apply ew|apply ep|apply jl|apply jj|refine jt rfl ?_|apply jn|apply jw|apply eC|exact kZ|(intro _;simp only[cf,ci,cm,List.map,List.cons_append,List.nil_append])|intro _
  refine aY fun a w h=> ?_
  have h:TS w0 (r3::r2::r1::X) [(r3, .st [.is (Tx (d.1)), .is (Tx (d.2.1)), .to a_ 74 [115] 0 (w0.heap.size) (d.2.2.1), .is (.bool (d.2.2.2.1).1.1), .tc Rp.limbs [115] 0 (d.2.2.2.1).1.2, .is (.bool (d.2.2.2.1).2.1), .tc Rp.limbs [115] 0 (d.2.2.2.1).2.2, .is (.bool (d.2.2.2.2.1).1.1), .tc Rp.limbs [115] 0 (d.2.2.2.2.1).1.2, .is (.bool (d.2.2.2.2.1).2.1), .tc Rp.limbs [115] 0 (d.2.2.2.2.1).2.2, .is (.int .i64 (d.2.2.2.2.2.1)), .is (.int .i64 (d.2.2.2.2.2.2.1)), .is (.bool (d.2.2.2.2.2.2.2.1).1.1), .tc Rp.limbs [115] 0 (d.2.2.2.2.2.2.2.1).1.2, .is (.bool (d.2.2.2.2.2.2.2.1).2.1), .tc Rp.limbs [115] 0 (d.2.2.2.2.2.2.2.1).2.2, .is (.bool (d.2.2.2.2.2.2.2.2.1).1.1), .tc Rp.limbs [115] 0 (d.2.2.2.2.2.2.2.2.1).1.2, .is (.bool (d.2.2.2.2.2.2.2.2.1).2.1), .tc Rp.limbs [115] 0 (d.2.2.2.2.2.2.2.2.1).2.2, .is (.int .i64 (d.2.2.2.2.2.2.2.2.2.1)), .to bq 78 [115] 0 (w0.heap.size) ((d.2.2.2.2.2.2.2.2.2.2.1).take 0), .to Rp.str 9 [] 0 (w0.heap.size) (d.2.2.2.2.2.2.2.2.2.2.2.1), .to aw 85 [126,128,130,132,134,115] 0 (w0.heap.size) ([])]),(r2, .tr bP [] 0 ([],[],(),((false,[]),(false,[])),((false,[]),(false,[])),0,0,((false,[]),(false,[])),((false,[]),(false,[])),0,(),(),())),(r1, .tr ab [] w0.heap.size d)] [(5, .is (.int .i64 ((0:Nat):Int))),(3, .is (.pointer (some ⟨r3,0,none⟩))),(2, .is (.pointer (some ⟨r2,0,none⟩))),(1, .is (.pointer (some ⟨r1,0,none⟩)))] 108 a w:=h.keep [5,3,2,1]
  refine aO (fun k a u=>∃ i:Nat,i+k=(d.2.2.2.2.2.2.2.2.2.2.1).length∧TS w0 (r3::r2::r1::X) [(r3, .st [.is (Tx (d.1)), .is (Tx (d.2.1)), .to a_ 74 [115] 0 (w0.heap.size) (d.2.2.1), .is (.bool (d.2.2.2.1).1.1), .tc Rp.limbs [115] 0 (d.2.2.2.1).1.2, .is (.bool (d.2.2.2.1).2.1), .tc Rp.limbs [115] 0 (d.2.2.2.1).2.2, .is (.bool (d.2.2.2.2.1).1.1), .tc Rp.limbs [115] 0 (d.2.2.2.2.1).1.2, .is (.bool (d.2.2.2.2.1).2.1), .tc Rp.limbs [115] 0 (d.2.2.2.2.1).2.2, .is (.int .i64 (d.2.2.2.2.2.1)), .is (.int .i64 (d.2.2.2.2.2.2.1)), .is (.bool (d.2.2.2.2.2.2.2.1).1.1), .tc Rp.limbs [115] 0 (d.2.2.2.2.2.2.2.1).1.2, .is (.bool (d.2.2.2.2.2.2.2.1).2.1), .tc Rp.limbs [115] 0 (d.2.2.2.2.2.2.2.1).2.2, .is (.bool (d.2.2.2.2.2.2.2.2.1).1.1), .tc Rp.limbs [115] 0 (d.2.2.2.2.2.2.2.2.1).1.2, .is (.bool (d.2.2.2.2.2.2.2.2.1).2.1), .tc Rp.limbs [115] 0 (d.2.2.2.2.2.2.2.2.1).2.2, .is (.int .i64 (d.2.2.2.2.2.2.2.2.2.1)), .to bq 78 [115] 0 (w0.heap.size) ((d.2.2.2.2.2.2.2.2.2.2.1).take i), .to Rp.str 9 [] 0 (w0.heap.size) (d.2.2.2.2.2.2.2.2.2.2.2.1), .to aw 85 [126,128,130,132,134,115] 0 (w0.heap.size) ([])]),(r2, .tr bP [] 0 ([],[],(),((false,[]),(false,[])),((false,[]),(false,[])),0,0,((false,[]),(false,[])),((false,[]),(false,[])),0,(),(),())),(r1, .tr ab [] w0.heap.size d)] [(5, .is (.int .i64 (i:Int))),(3, .is (.pointer (some ⟨r3,0,none⟩))),(2, .is (.pointer (some ⟨r2,0,none⟩))),(1, .is (.pointer (some ⟨r1,0,none⟩)))] 108 a u) (d.2.2.2.2.2.2.2.2.2.2.1).length ⟨0,by omega,h⟩ ?_
  clear h
  rintro k a u ⟨i,hi,h⟩
  by_cases hlt:i<(d.2.2.2.2.2.2.2.2.2.2.1).length
  ·obtain ⟨x,hx⟩:∃ x,(d.2.2.2.2.2.2.2.2.2.2.1)[i]? =some x:=⟨_,List.getElem?_eq_getElem hlt⟩
   have hc:decide ((i:Int)<((d.2.2.2.2.2.2.2.2.2.2.1).length:Int))=true:=decide_eq_true qO
   have hw:IntKind.i64.wrap ((i:Int)+1)=((i+1:Nat):Int):=aA qO qO
   have hh:=hf.cls x (List.mem_of_getElem? hx)
   have hlen:((d.2.2.2.2.2.2.2.2.2.2.1).take i).length≤70:=by rw [List.length_take];omega
   have k0:=fun (C:Nat)=>dK (x:=x.2.2) (ts:=[]) (C:=C) (by have g1:=hh.1;have g2:=hh.2.1;omega)
   refine aB h ?_
   clear h
   repeat' first|kernel_rfl|(refine pg r3 22 ?_;refine dk [5,3,2,1] (Nat.le_refl _) (Nat.zero_le _) (fun _ _ ht=>ht.mem.below.size) jV (by simp only [List.length_cons,List.length_nil];omega) qD qK ?_)|(refine nk ?_)|exact a8 fun _ _ h=>⟨k - 1,by omega,i+1,by omega,by rw [fQ hx];exact h.drop.keep [5,3,2,1]⟩|apply cx|apply cy|apply cE|apply ar (id:=11) [] [] 11|apply az|apply aW|apply cu|apply cB|apply co|apply cA|apply cp|apply cw|apply ae|apply bB|apply eB|apply eu|apply ct|refine aQ rfl ?_|apply cq|apply ew|apply ep|apply jl|apply jj|refine jt rfl ?_|apply jn|apply jw|apply eC|exact bi [115] 0 j5|exact cO (r:=bq) [115] 0 k8 rfl qD qD qD|exact kZ|(intro _;simp only[cf,ci,cm,List.map,List.cons_append,List.nil_append])|intro _
  ·have hil:i=(d.2.2.2.2.2.2.2.2.2.2.1).length:=qO
   have hc:decide ((i:Int)<((d.2.2.2.2.2.2.2.2.2.2.1).length:Int))=false:=decide_eq_false qO
   have e:(d.2.2.2.2.2.2.2.2.2.2.1).take i=d.2.2.2.2.2.2.2.2.2.2.1:=by rw [hil,List.take_length]
   rw [e] at h
   refine aB h ?_
   clear h
   repeat' first|kernel_rfl|apply cx|apply cy|apply cE|apply az|apply aW|apply cu|apply cB|apply co|apply cA|apply cp|apply cw|apply ae|apply bB|apply eB|apply eu|apply ct|refine aQ rfl ?_|apply cq|apply ew|apply ep|apply jl|apply jj|refine jt rfl ?_|apply jn|apply jw|apply eC|exact kZ|(intro _;simp only[cf,ci,cm,List.map,List.cons_append,List.nil_append])|intro _
   refine aY fun a w h=> ?_
   have h:TS w0 (r3::r2::r1::X) [(r3, .st [.is (Tx (d.1)), .is (Tx (d.2.1)), .to a_ 74 [115] 0 (w0.heap.size) (d.2.2.1), .is (.bool (d.2.2.2.1).1.1), .tc Rp.limbs [115] 0 (d.2.2.2.1).1.2, .is (.bool (d.2.2.2.1).2.1), .tc Rp.limbs [115] 0 (d.2.2.2.1).2.2, .is (.bool (d.2.2.2.2.1).1.1), .tc Rp.limbs [115] 0 (d.2.2.2.2.1).1.2, .is (.bool (d.2.2.2.2.1).2.1), .tc Rp.limbs [115] 0 (d.2.2.2.2.1).2.2, .is (.int .i64 (d.2.2.2.2.2.1)), .is (.int .i64 (d.2.2.2.2.2.2.1)), .is (.bool (d.2.2.2.2.2.2.2.1).1.1), .tc Rp.limbs [115] 0 (d.2.2.2.2.2.2.2.1).1.2, .is (.bool (d.2.2.2.2.2.2.2.1).2.1), .tc Rp.limbs [115] 0 (d.2.2.2.2.2.2.2.1).2.2, .is (.bool (d.2.2.2.2.2.2.2.2.1).1.1), .tc Rp.limbs [115] 0 (d.2.2.2.2.2.2.2.2.1).1.2, .is (.bool (d.2.2.2.2.2.2.2.2.1).2.1), .tc Rp.limbs [115] 0 (d.2.2.2.2.2.2.2.2.1).2.2, .is (.int .i64 (d.2.2.2.2.2.2.2.2.2.1)), .to bq 78 [115] 0 (w0.heap.size) (d.2.2.2.2.2.2.2.2.2.2.1), .to Rp.str 9 [] 0 (w0.heap.size) (d.2.2.2.2.2.2.2.2.2.2.2.1), .to aw 85 [126,128,130,132,134,115] 0 (w0.heap.size) ((d.2.2.2.2.2.2.2.2.2.2.2.2).take 0)]),(r2, .tr bP [] 0 ([],[],(),((false,[]),(false,[])),((false,[]),(false,[])),0,0,((false,[]),(false,[])),((false,[]),(false,[])),0,(),(),())),(r1, .tr ab [] w0.heap.size d)] [(7, .is (.int .i64 ((0:Nat):Int))),(3, .is (.pointer (some ⟨r3,0,none⟩))),(2, .is (.pointer (some ⟨r2,0,none⟩))),(1, .is (.pointer (some ⟨r1,0,none⟩)))] 108 a w:=h.keep [7,3,2,1]
   refine aO (fun k a u=>∃ i:Nat,i+k=(d.2.2.2.2.2.2.2.2.2.2.2.2).length∧TS w0 (r3::r2::r1::X) [(r3, .st [.is (Tx (d.1)), .is (Tx (d.2.1)), .to a_ 74 [115] 0 (w0.heap.size) (d.2.2.1), .is (.bool (d.2.2.2.1).1.1), .tc Rp.limbs [115] 0 (d.2.2.2.1).1.2, .is (.bool (d.2.2.2.1).2.1), .tc Rp.limbs [115] 0 (d.2.2.2.1).2.2, .is (.bool (d.2.2.2.2.1).1.1), .tc Rp.limbs [115] 0 (d.2.2.2.2.1).1.2, .is (.bool (d.2.2.2.2.1).2.1), .tc Rp.limbs [115] 0 (d.2.2.2.2.1).2.2, .is (.int .i64 (d.2.2.2.2.2.1)), .is (.int .i64 (d.2.2.2.2.2.2.1)), .is (.bool (d.2.2.2.2.2.2.2.1).1.1), .tc Rp.limbs [115] 0 (d.2.2.2.2.2.2.2.1).1.2, .is (.bool (d.2.2.2.2.2.2.2.1).2.1), .tc Rp.limbs [115] 0 (d.2.2.2.2.2.2.2.1).2.2, .is (.bool (d.2.2.2.2.2.2.2.2.1).1.1), .tc Rp.limbs [115] 0 (d.2.2.2.2.2.2.2.2.1).1.2, .is (.bool (d.2.2.2.2.2.2.2.2.1).2.1), .tc Rp.limbs [115] 0 (d.2.2.2.2.2.2.2.2.1).2.2, .is (.int .i64 (d.2.2.2.2.2.2.2.2.2.1)), .to bq 78 [115] 0 (w0.heap.size) (d.2.2.2.2.2.2.2.2.2.2.1), .to Rp.str 9 [] 0 (w0.heap.size) (d.2.2.2.2.2.2.2.2.2.2.2.1), .to aw 85 [126,128,130,132,134,115] 0 (w0.heap.size) ((d.2.2.2.2.2.2.2.2.2.2.2.2).take i)]),(r2, .tr bP [] 0 ([],[],(),((false,[]),(false,[])),((false,[]),(false,[])),0,0,((false,[]),(false,[])),((false,[]),(false,[])),0,(),(),())),(r1, .tr ab [] w0.heap.size d)] [(7, .is (.int .i64 (i:Int))),(3, .is (.pointer (some ⟨r3,0,none⟩))),(2, .is (.pointer (some ⟨r2,0,none⟩))),(1, .is (.pointer (some ⟨r1,0,none⟩)))] 108 a u) (d.2.2.2.2.2.2.2.2.2.2.2.2).length ⟨0,by omega,h⟩ ?_
   clear h
   rintro k a u ⟨i,hi,h⟩
   by_cases hlt:i<(d.2.2.2.2.2.2.2.2.2.2.2.2).length
   ·obtain ⟨x,hx⟩:∃ x,(d.2.2.2.2.2.2.2.2.2.2.2.2)[i]? =some x:=⟨_,List.getElem?_eq_getElem hlt⟩
    have hc:decide ((i:Int)<((d.2.2.2.2.2.2.2.2.2.2.2.2).length:Int))=true:=decide_eq_true qO
    have hw:IntKind.i64.wrap ((i:Int)+1)=((i+1:Nat):Int):=aA qO qO
    have hh:=hf.yrs x (List.mem_of_getElem? hx)
    have hlen:((d.2.2.2.2.2.2.2.2.2.2.2.2).take i).length≤70:=by rw [List.length_take];omega
    have k0:=fun (C:Nat)=>ww (y:=x) (ts:=[]) (C:=C) hh (hn.yr x (List.mem_of_getElem? hx))
    refine aB h ?_
    clear h
    repeat' first|kernel_rfl|(refine pg r3 24 ?_;refine dk [7,3,2,1] (Nat.le_refl _) (Nat.zero_le _) (fun _ _ ht=>ht.mem.below.size) kU (by simp only [List.length_cons,List.length_nil];omega) qD qK ?_)|(refine nk ?_)|exact a8 fun _ _ h=>⟨k - 1,by omega,i+1,by omega,by rw [fQ hx];exact h.keep [7,3,2,1]⟩|apply cx|apply cy|apply cE|apply ar (id:=15) [] [] 9|apply az|apply aW|apply cu|apply cB|apply co|apply cA|apply cp|apply cw|apply ae|apply bB|apply eB|apply eu|apply ct|refine aQ rfl ?_|apply cq|apply ew|apply ep|apply jl|apply jj|refine jt rfl ?_|apply jn|apply jw|apply eC|exact cO (r:=aw) [126,128,130,132,134,115] 0 lI rfl qD qD qD|exact kZ|(intro _;simp only[cf,ci,cm,List.map,List.cons_append,List.nil_append])|intro _
   ·have hil:i=(d.2.2.2.2.2.2.2.2.2.2.2.2).length:=qO
    have hc:decide ((i:Int)<((d.2.2.2.2.2.2.2.2.2.2.2.2).length:Int))=false:=decide_eq_false qO
    have e:(d.2.2.2.2.2.2.2.2.2.2.2.2).take i=d.2.2.2.2.2.2.2.2.2.2.2.2:=by rw [hil,List.take_length]
    rw [e] at h
    refine aB h ?_
    clear h
    repeat' first|kernel_rfl|apply cx|apply cy|apply cE|apply az|apply aW|apply cu|apply cB|apply co|apply cA|apply cp|apply cw|apply ae|apply bB|apply eB|apply eu|apply ct|refine aQ rfl ?_|apply cq|apply ew|apply ep|apply jl|apply jj|refine jt rfl ?_|apply jn|apply jw|apply eC|exact ⟨fun _ _=>fun _ h=>y_ h⟩|exact kZ|(intro _;simp only[cf,ci,cm,List.map,List.cons_append,List.nil_append])|intro _
end Go.Proofs.YtpmhjieibebclaaGreatDoor
