/- Calls that leave a caller's variables with other contents; rules that keep what they read; rows whose parts have types of their own. No program stands in it. -/
import Derived.Test.YtcpeiijdgabenaaGreatDoorEQ
import Derived.ArgAppend
import Derived.Test.YtcpeiijdgabenaaGreatDoorEO
import Derived.Test.YtcpeiijdgabenaaGreatDoorEL
set_option linter.unusedSimpArgs false
set_option linter.unusedVariables false
namespace Go.Proofs.YtcpeiijdgabenaaGreatDoor
open Go Go.RowKit
variable {w w0 w':World} {T T':ai} {X X0:List Nat} {B s C B':Nat} {v:Value} {ty e:TypeId} {a:Act} {P:Program} {L1:List Loc} {Ts As:List ai} {f:FuncId} {fn:Func} {cs:List Value}
section
variable {P:Program} {w00:World} {X:List Nat} {L:List Loc} {E:List (Nat×ai)} {n:Nat} {Q:Exit→Act→World→Prop} {cs:List Code}
theorem BH {f:FuncId} {fn:Func} {c:Code} {Ts:List ai} {vs:List Value} {w:World} {R:Ending→World→Prop} (hf:P.funcs[f]? =some fn) (hb:fn.body=some c) (hn:fn.ntmps=n) (hl:Ts.length≤n) (hm:kO w00 X L w) (ha:bF X w Ts vs)
 (next:GC P w00 X L (bf 0 Ts++[(999, .gh X w)]) n [c] (bodyPost P fn R)):Calls P f vs.toArray w R:=by
 have hlen:=ha.count
 refine calls_of_wp hf hb (CW.out (fh (X:=X) (L:=L) (E:=bf 0 Ts++[(999, .gh X w)]) ⟨?_,rfl,fun p hp=> ?_,hm⟩ next))
 ·rw [hn]
  simp
  omega
 ·rcases List.mem_append.1 hp with hp|hp
  ·refine iT ha (fun j hj=> ?_) p hp
   rw [Nat.zero_add,Array.getD_eq_getD_getElem?,Array.getElem?_append_left (by simpa using hj),List.getElem?_toArray,List.getD_eq_getElem?_getD]
  ·rw [List.mem_singleton.1 hp]
   exact pr
end
section
variable {P:Program} {ops:Array Oper} {Q:Exit→Act→World→Prop}
theorem uP {m l:Nat} {ol om:Oper} (hl:ops[l]? =some ol) (hm:ops[m]? =some om) (hne:l≠m) (he:∀ {a:Act} {w:World} {K:Act→World→Prop},ol.wp P a w K Q→∃ v,(∀ w,(execOp a.eval ol).run P w= .ok (.value v) w)∧K (a.put ol.dst v) w) (hg:ol.guard=none)
 (hfree:∀ j oj,ops[j]? =some oj→j≠l→(∀ e∈ol.after,Region.binds .any e=true→e.on≠j)→(∀ e∈oj.after,Region.binds .any e=true→e.on≠l)→ol.apart ops oj=true) (hsel:∀ (j:Nat) (o:Oper) cs b,ops[j]? =some o→o.op≠ .select cs b)
 (hdep:∀ e∈ol.after,Region.binds .any e=true→∃ e'∈om.after,Region.binds .any e'=true∧e'.on=e.on) (hQp:∀ c a w,¬ Q (.panic c) a w) (hQo:¬ LetsOut Q):
 ∀ fuel listed a w,listed.size=ops.size→wpAny P .any (lO ops m l) Q fuel listed a w→wpAny P .any ops Q fuel listed a w:=by
 have hlr:∀ {listed:Array Bool},m∈Region.ready .any ops listed→listed.getD l true=false→l∈Region.ready .any ops listed:=by
  intro listed h h0
  rw [mem_ready] at h ⊢
  obtain ⟨_,o,ho,h1⟩:=h
  rw [hm] at ho
  injection ho with ho
  subst ho
  refine ⟨h0,ol,hl,fun e he hb=> ?_⟩
  obtain ⟨e',h2,h3,h4⟩:=hdep e he hb
  rw [←h4]
  exact h1 e' h2 h3
 have hll:∀ {listed:Array Bool},¬ listed.getD l false=true→listed.size=ops.size→listed.getD l true=false:=by
  intro listed h hs
  have hlt:l<listed.size:=by rw [hs];exact (Array.getElem?_eq_some_iff.1 hl).1
  rw [Array.getD_eq_getD_getElem?,Array.getElem?_eq_getElem hlt] at h ⊢
  simpa using h
 have hmr:∀ {listed:Array Bool},listed.size=ops.size→Region.ready .any (lO ops m l) listed=[]→Region.ready .any ops listed=[]:=by
  intro listed hs h
  rw [List.eq_nil_iff_forall_not_mem] at h ⊢
  intro i hi
  by_cases hc:listed.getD l false=true
  ·exact h i (gS.2 ⟨hi,fun _=>hc⟩)
  ·by_cases e:i=m
   ·subst e
    exact h l (gS.2 ⟨hlr hi (hll hc hs),fun e=>absurd e hne⟩)
   ·exact h i (gS.2 ⟨hi,fun e'=>absurd e' e⟩)
 intro fuel
 induction fuel with
 |zero=>intro listed a w hs h;exact ⟨hmr hs h.1,h.2⟩
 |succ f ih=>
  intro listed a w hs h
  by_cases hc:m∈Region.ready .any ops listed∧¬ listed.getD l false=true
  ·obtain ⟨h1,h2⟩:=hc
   have hr:=hlr h1 (hll h2 hs)
   have hx:=h.2 l (gS.2 ⟨hr,fun e=>absurd e hne⟩)
   have hx:=w9 (fun a w h=>ih _ a w (by simpa using hs) h) hx
   unfold wpOp at hx
   simp only [hl] at hx
   have hwt:Region.wanted ol (yielded ops a.tmps)=true:=by unfold Region.wanted;rw [hg]
   rw [if_pos hwt] at hx
   rcases hx with hx|⟨_,hx⟩
   ·obtain ⟨v,hv,hk⟩:=he hx
    exact wpAny_first hl hsel (fun c a w h=>absurd h (hQp c _ w)) f listed a w (fun j oj h1 h2 h3 h4=>hfree j oj h1 h2 (fun e he hb heq=>by
     rw [mem_ready] at hr
     obtain ⟨_,o',ho',hd⟩:=hr
     rw [hl] at ho'
     injection ho' with ho'
     subst ho'
     have:=hd e he hb
     rw [heq] at this
     rw [Array.getD_eq_getD_getElem?] at this h3
     cases hx:listed[j]? with
     |none=>rw [hx] at this;cases this
     |some b=>rw [hx] at this h3;simp at this h3;rw [this] at h3;cases h3) h4) hr (.inl ⟨hwt,hv⟩) hk
   ·exact absurd hx hQo
  ·refine ⟨fun h0=>h.1 ?_,fun i hi=> ?_⟩
   ·rw [List.eq_nil_iff_forall_not_mem] at h0 ⊢
    exact fun i hi=>h0 i (gS.1 hi).1
   ·have hi':i∈Region.ready .any (lO ops m l) listed:=gS.2 ⟨hi,fun e=>by
     subst e
     exact Classical.byContradiction fun h2=>hc ⟨hi,h2⟩⟩
    exact w9 (fun a w h=>ih _ a w (by simpa using hs) h) (h.2 i hi')
theorem Ad{o:Oper} {x:Operand} (ho:o.op= .move x) {K:Act→World→Prop} (h:o.wp P a w K Q):∃ v,(∀ w,(execOp a.eval o).run P w= .ok (.value v) w)∧K (a.put o.dst v) w:=by
 have hv:∀ w,(execOp a.eval o).run P w= .ok (.value (a.eval x)) w:=fun w=>by
  unfold execOp
  simp only [ho]
  rfl
 refine ⟨_,hv,?_⟩
 unfold Oper.wp at h
 rw [hv w] at h
 exact h
def zE (ops:Array Oper) (m l:Nat):Bool:=
 Region.noSelect ops&& !Nat.beq l m&&
 (match ops[l]?,ops[m]? with
  |some ol,some om=>((List.range ops.size).all fun j=>Nat.beq j l || (ol.after.toList.any fun e=>Region.binds .any e&&Nat.beq e.on j) || (match ops[j]? with|some oj=>(oj.after.toList.any fun e=>Region.binds .any e&&Nat.beq e.on l) || Oper.apart ops ol oj|none=>true))&&(match ol.op with| .extract (.tmp _) _=>true| .move _=>true|_=>false)&&(match ol.guard with|none=>true|_=>false)&&ol.after.toList.all (fun e=> !Region.binds .any e || om.after.toList.any (fun e'=>Region.binds .any e'&&Nat.beq e'.on e.on))
  |_,_=>false)
theorem um{m l:Nat} {K:Act→World→Prop} (hc:zE ops m l=true) {fuel:Nat} {listed:Array Bool} (hs:listed.size=ops.size) (h:wpAny P .any (lO ops m l) (jt K) fuel listed a w):wpAny P .any ops (jt K) fuel listed a w:=by
 unfold zE at hc
 simp only [Bool.and_eq_true,Bool.not_eq_true'] at hc
 obtain ⟨⟨hsel,hne⟩,hc⟩:=hc
 cases hl:ops[l]? with
 |none=>rw [hl] at hc;simp at hc
 |some ol=>
  cases hm:ops[m]? with
  |none=>rw [hl,hm] at hc;simp at hc
  |some om=>
   rw [hl,hm] at hc
   simp only [Bool.and_eq_true,List.all_eq_true,Bool.or_eq_true,Bool.not_eq_true',List.any_eq_true] at hc
   obtain ⟨⟨⟨hf,h1⟩,h2⟩,h3⟩:=hc
   have he:∀ {a:Act} {w:World} {K':Act→World→Prop},ol.wp P a w K' (jt K)→∃ v,(∀ w,(execOp a.eval ol).run P w= .ok (.value v) w)∧K' (a.put ol.dst v) w:=by
    split at h1
    ·rename_i hop
     exact fun h=>uK hop h
    ·rename_i hop
     exact fun h=>Ad hop h
    ·cases h1
   have hg:ol.guard=none:=by
    split at h2
    ·assumption
    ·cases h2
   refine uP hl hm (fun e=>by rw [e,Nat.beq_refl] at hne;cases hne) he hg (fun j oj hj hjl hnl hne=> ?_) (Region.noSelect_spec hsel) (fun e he hb=> ?_) (fun _ _ _ h=>h) ny fuel listed a w hs h
   ·have:=hf j (by simpa using (Array.getElem?_eq_some_iff.1 hj).1)
    rw [hj] at this
    simp only [Bool.or_eq_true,List.any_eq_true,Bool.and_eq_true] at this
    rcases this with (h|⟨e,h4,h5,h6⟩)|⟨e,h4,h5,h6⟩|h
    ·exact absurd (Nat.eq_of_beq_eq_true h) hjl
    ·exact absurd (Nat.eq_of_beq_eq_true h6) (hnl e (by simpa using h4) h5)
    ·exact absurd (Nat.eq_of_beq_eq_true h6) (hne e (by simpa using h4) h5)
    ·exact h
   ·rcases h3 e (by simpa using he) with h|⟨e',h4,h5,h6⟩
    ·rw [hb] at h;cases h
    ·exact ⟨e',by simpa using h4,h5,Nat.eq_of_beq_eq_true h6⟩
end
def rh:List Oper→List (Nat×Nat)→List Oper
 |l,[]=>l
 |l,e::es=>rh (l.modify e.1 fun o=>{ o with after:=o.after.push { on:=e.2,ground:= .data } }) es
def xC:List Oper→List (Nat×Nat)→Bool
 |_,[]=>true
 |l,e::es=>zE l.toArray e.1 e.2&&xC (l.modify e.1 fun o=>{ o with after:=o.after.push { on:=e.2,ground:= .data } }) es
theorem sk:∀ (l:List Oper) (es:List (Nat×Nat)),(rh l es).length=l.length
 |_,[]=>rfl
 |l,e::es=>by unfold rh;rw [sk];simp
theorem pR {P:Program} {K:Act→World→Prop}:∀ {es:List (Nat×Nat)} {l:List Oper} {fuel:Nat} {listed:Array Bool} {a:Act} {w:World},xC l es=true→listed.size=l.length→wpAny P .any (rh l es).toArray (jt K) fuel listed a w→wpAny P .any l.toArray (jt K) fuel listed a w
 |[],_,_,_,_,_,_,_,h=>h
 |e::es,l,fuel,listed,a,w,hc,hs,h=>by
  unfold xC at hc
  rw [Bool.and_eq_true] at hc
  refine um hc.1 (by simpa using hs) ?_
  have:=pR hc.2 (by simpa using hs) h
  unfold lO
  simpa using this
section
variable {P:Program} {w00:World} {X:List Nat} {L:List Loc} {E E':List (Nat×ai)} {n:Nat} {cs:List Code} {Q:Exit→Act→World→Prop}
theorem cR {id:Nat} {l:List Oper} {al:List (Nat×ai)} (gs:List (Nat×Bool)) (us:List Nat) (m:Nat) (es:List (Nat×Nat)) (hl:xC l es=true) (ht:bT P w00 0 L (rh l es).toArray gs E ((rh l es).take m) E' al)
 (hc:(iA (rh l es).toArray (E'.map Prod.fst) (E.map Prod.fst) gs us n m&&dA (E'.map Prod.fst)&&dA (al.map Prod.fst)&&(al.map Prod.fst).all (fun d=> !(E'.map Prod.fst).elem d))=true)
 (hg:aZ E' gs) (hu:aY E' us) (hm:P.follows .mixedOrders=true) (h:∀ r:Nat→Nat,GR P w00 (cP r al X) (cQ r al L) (cS r al E') n (rh l es).toArray ((rh l es).drop m) [] (jt (CL P cs Q))):GC P w00 X L E n (Code.region id l.toArray true::cs) Q:=by
 refine ⟨fun a w hts=> ?_⟩
 have key:=uQ (Q:=jt (CL P cs Q)) hts gs us m ht.zero hc hg hu fun r a w h'=>by
  have:=(h r).run a w h'
  rw [show CL P [] (jt (CL P cs Q))=fun a w=>jt (CL P cs Q) .normal a w from rfl,sf] at this
  exact this
 have hsz:(rh l es).toArray.size=l.toArray.size:=by simp [sk]
 rw [hsz] at key
 exact wp_region_any hm (oE (fun a w h=>h) _ _ _ _ (pR hl qE key))
theorem kV (h:GC P w00 X L E n cs Q):GC P w00 X L E n [] (jt (CL P cs Q)):=⟨fun a w ht=>h.run a w ht⟩
end
class m6 {σ:Type} (LT:σ→List Loc):Prop where
 ok:∀ s s',(LT s').map Prod.fst=(LT s).map Prod.fst
instance {σ:Type} {r:Nat} {T:σ→ai} {LR:List Loc}:m6 fun s=>(r,T s)::LR:=⟨fun _ _=>rfl⟩
instance (priority:=low) {σ:Type} {r q:Nat} {T U:σ→ai}:m6 fun s=>[(r,T s),(q,U s)]:=⟨fun _ _=>rfl⟩
structure j6 {σ:Type} (P:Program) (G:World→Prop) (f:FuncId) (LT:σ→List Loc) (As:List ai) (s:σ) (res:Option σ) (T:ai):Prop where
 ent:bE P f
 run:∀ {w00 w:World} {X:List Nat} {L0:List Loc} {vs:List Value},G w00→kO w00 X (LT s++L0) w→bF X w As vs→Calls P f vs.toArray w fun e w'=>∃ s',(∀ s1,res=some s1→s'=s1)∧fY w00 X (LT s'++L0) w T e w'
theorem tQ {σ:Type} {P:Program} {G:World→Prop} {f:FuncId} {fn:Func} {c:Code} {LT:σ→List Loc} {As:List ai} {s:σ} {res:Option σ} {T:ai} {n:Nat} (hf:P.funcs[f]? =some fn) (hb:fn.body=some c) (hn:fn.ntmps=n) (hl:As.length≤n) (he:bE P f)
 (h:∀ w00 X L0 w,G w00→kO w00 X (LT s++L0) w→GC P w00 X (LT s++L0) (bf 0 As++[(999, .gh X w)]) n [c] (bodyPost P fn fun e w'=>∃ s',(∀ s1,res=some s1→s'=s1)∧fY w00 X (LT s'++L0) w T e w')):j6 P G f LT As s res T:=
 ⟨he,fun {w00 w X L0 vs} hG hm ha=>BH hf hb hn hl hm ha (h w00 X L0 w hG hm)⟩
theorem j6.args{σ:Type} {G:World→Prop} {LT:σ→List Loc} {As':List ai} {s:σ} {res:Option σ} (h:j6 P G f LT As s res T) (ha:∀ {X:List Nat} {w:World} {vs:List Value},bF X w As' vs→bF X w As vs):j6 P G f LT As' s res T:=⟨h.ent,fun hG hm hv=>h.run hG hm (ha hv)⟩
section
variable {σ:Type} {P:Program} {w00:World} {X:List Nat} {L L0:List Loc} {E:List (Nat×ai)} {n:Nat} {LT:σ→List Loc} {s s':σ} {res:Option σ}
theorem zS(hm:kO w00 X0 (LT s++L0) w0) (ht:TS w00 X L E n a w) [kl:m6 LT] [g:kH E 999 (.gh X0 w0)] (hX:∀ b∈X0,b∈X) (hL:LT s'++L0=L1) (sl:∀ p∈L1,p∈L) (hs:∀ s1,res=some s1→s'=s1) (hT:T.holds X w v):∃ s',(∀ s1,res=some s1→s'=s1)∧fY w00 X0 (LT s'++L0) w0 T (.returned v) w:=by
 have hk:(LT s'++L0).map Prod.fst=(LT s++L0).map Prod.fst:=by rw [List.map_append,List.map_append,kl.ok s s']
 refine ⟨s',hs,zI ht hX (fun p hp=>sl p (hL▸hp)) (fun p hp=> ?_) (by rw [hk];exact hm.nodup) hm.far hT⟩
 have h1:p.1∈(LT s++L0).map Prod.fst:=by rw [←hk];exact List.mem_map_of_mem hp
 obtain ⟨q,hq,e⟩:=List.mem_map.1 h1
 rw [←e]
 exact (hm.loc q hq).1
theorem tM{q:ResultVar} (hr:fn.results= #[q]) (hm:kO w00 X0 (LT s++L0) w0) (hs:∀ s1,res=some s1→s'=s1) (hL:LT s'++L0=L1) [kl:m6 LT] [g:kH E 999 (.gh X0 w0)] [hX:lQ X0 X] [sl:oW L1 L] [k:gK P L E q T] (hc:Cv T T'):GT w00 X L E n (bodyPost P fn fun e w'=>∃ s',(∀ s1,res=some s1→s'=s1)∧fY w00 X0 (LT s'++L0) w0 T' e w'):=
 ⟨fun a w ht=>by
  obtain ⟨v,e,hT⟩:=k.ok ht
  exact bodyPost_ret (ig hr e) ht.df (zS hm ht hX.sub hL sl.sub hs (hc.ok _ _ _ hT))⟩
theorem pb{q q2:ResultVar} {U:ai} (hr:fn.results= #[q,q2]) (hm:kO w00 X0 (LT s++L0) w0) (hs:∀ s1,res=some s1→s'=s1) (hL:LT s'++L0=L1) [kl:m6 LT] [g:kH E 999 (.gh X0 w0)] [hX:lQ X0 X] [sl:oW L1 L] [k:gK P L E q T] [k2:gK P L E q2 U] (hc:Cv (.tup [T,U]) T'):GT w00 X L E n (bodyPost P fn fun e w'=>∃ s',(∀ s1,res=some s1→s'=s1)∧fY w00 X0 (LT s'++L0) w0 T' e w'):=
 ⟨fun a w ht=>by
  obtain ⟨v,e,hT⟩:=k.ok ht
  obtain ⟨u,e2,hU⟩:=k2.ok ht
  exact bodyPost_ret (jl hr e e2) ht.df (zS hm ht hX.sub hL sl.sub hs (hc.ok _ _ _ ⟨[v,u],rfl,hT,hU,trivial⟩))⟩
end
theorem mN {α:Type} (A B C:List α):(A++(B++C)).Perm (B++(C++A)):=by
 rw [←List.append_assoc B C A]
 exact List.perm_append_comm
section
variable {σ:Type} {P:Program} {w00:World} {X:List Nat} {L0:List Loc} {E:List (Nat×ai)} {n:Nat} {ops:Array Oper} {rest:List Oper} {Q:Exit→Act→World→Prop} {cs:List Code} {t0:TypeId} {pos:String} {af:Array Edge} {ats:Array TypeId} {LT:σ→List Loc} {st:σ} {d:Nat}
theorem ET {G:World→Prop} {f:FuncId} {L1:List Loc} {As:List ai} {res:Option σ} {T:ai} {a:Act} {w:World} {vs:List Value} {o:Oper} (ho:o.dst=some d) (ht:TS w00 X (L1++(LT st++L0)) E n a w) (hG:G w00) (h:j6 P G f LT As st res T) (ha:bF X w As vs) (hr:(execOp a.eval o).run P w= .ok (.enter f vs.toArray) w) (hd:(Nat.blt d n&& !(E.map Prod.fst).elem d)=true)
 (next:∀ s',(∀ s1,res=some s1→s'=s1)→GR P w00 X (L1++(LT s'++L0)) ((d,T)::E) n ops rest cs Q):o.wp P a w (fun a' w'=>WL P ops (Exit.then (CL P cs Q) Q) rest a' w') (Exit.then (CL P cs Q) Q):=by
 have hm1:=ht.mem.perm (mN L1 (LT st) L0)
 have hc:=h.run hG hm1 ha
 unfold Oper.wp
 rw [hr]
 refine hc.mono ?_
 rintro e w' ⟨s',hs',v,rfl,hT,hm,hk⟩
 simp only [Bool.and_eq_true,Bool.not_eq_true'] at hd
 show WL P ops (Exit.then (CL P cs Q) Q) rest (a.put o.dst v) w'
 rw [ho]
 refine (next s' hs').run _ _ ⟨by simp [Act.put,ht.size],ht.df,fun q hq=> ?_,hm.perm (mN L1 (LT s') L0).symm⟩
 have hsz:d<a.tmps.size:=by rw [ht.size,←Nat.blt_eq];exact hd.1
 rcases List.mem_cons.1 hq with rfl|hq
 ·rw [bK _ _ _ _ hsz,if_pos rfl];exact hT
 ·have hne:q.1≠d:=fun e=>by
   have:(E.map Prod.fst).elem d=true:=by rw [List.elem_eq_mem,decide_eq_true_eq,←e];exact List.mem_map_of_mem hq
   rw [hd.2] at this;cases this
  rw [bK _ _ _ _ hsz,if_neg hne]
  exact q.2.stable (ht.slots q hq) hk fun _ hb _=>hb
theorem lR {G:World→Prop} {f:FuncId} (L1:List Loc) {os:List Operand} {ks:List Nat} {As:List ai} {res:Option σ} {T:ai} {L:List Loc} (hL:L=L1++(LT st++L0)) [k:kR E os ks As] (hG:G w00) (h:j6 P G f LT As st res T) (hd:(Nat.blt d n&& !(E.map Prod.fst).elem d)=true)
 (next:∀ s',(∀ s1,res=some s1→s'=s1)→GR P w00 X (L1++(LT s'++L0)) ((d,T)::E) n ops rest cs Q):GR P w00 X L E n ops (⟨some d, .call { callee:= .value (.func f),args:=os.toArray,argTypes:=ats },t0,pos,af,none⟩::rest) cs Q:=⟨fun a w ht=>by
 subst hL
 refine cA rfl ?_
 have e2:=k.get (X:=X) (w:=w) (ρ:=a.eval) (fun _=>rfl) (fun _=>rfl) fun q hq _=>ht.slots q hq
 have hr:∀ ρ:Operand→Value,ρ (.func f)= .func (.func f) #[] #[]→(execOp ρ ⟨some d, .call { callee:= .value (.func f),args:=os.toArray,argTypes:=ats },t0,pos,af,none⟩).run P w= .ok (.enter f (os.map ρ).toArray) w:=by
  intro ρ hff
  have hen:=h.ent
  clear e2 k next
  go_simp
  exact hen _ _
 exact ET rfl ht hG h e2 (hr a.eval rfl) hd next⟩
end
def uz {σ:Type} (P:Program) (G:World→Prop) (f:FuncId) (Us:List ai) (LT:σ→List Loc) (g:σ→List UInt8→Option σ):Prop:=∀ (s:σ) (t:List UInt8),t.length≤65536→j6 P G f LT (.is (Tx t)::Us) s (g s t) (.is (.bool (g s t).isSome))
def ai.rl {σ:Type} (P:Program) (G:World→Prop) (LT:σ→List Loc) (g:σ→List UInt8→Option σ):ai:=⟨fun X w v=>∃ (f:FuncId) (us:List Value) (Us:List ai),v= .func (.func f) #[] us.toArray∧bF X w Us us∧uz P G f Us LT g,
 fun ⟨f,us,Us,e,h,hc⟩ hk hX=>⟨f,us,Us,e,h.stable hk hX,hc⟩⟩
theorem Fa{σ:Type} {G:World→Prop} {LT:σ→List Loc} {g:σ→List UInt8→Option σ} (h:(ai.rl P G LT g).holds X w v):v.oneCell'=true:=by
 obtain ⟨f,us,Us,rfl,_⟩:=h
 rfl
section
variable {σ:Type} {P:Program} {w00:World} {X:List Nat} {L0:List Loc} {E:List (Nat×ai)} {n:Nat} {ops:Array Oper} {rest:List Oper} {Q:Exit→Act→World→Prop} {cs:List Code} {t0:TypeId} {pos:String} {af:Array Edge} {ats:Array TypeId} {LT:σ→List Loc} {st:σ} {d:Nat}
theorem Hw {G:World→Prop} {L1:List Loc} {p:Nat} {o:Operand} {t:List UInt8} {g:σ→List UInt8→Option σ} [hs:ce E p (.rl P G LT g)] [ho:b_ E o (.is (Tx t))] (hG:G w00) (hl:t.length≤65536) {gd:Option (Nat×Bool)} {a:Act} {w:World} (ht:TS w00 X (L1++(LT st++L0)) E n a w) (hd:(Nat.blt d n&& !(E.map Prod.fst).elem d)=true)
 (next:∀ s',(∀ s1,g st t=some s1→s'=s1)→GR P w00 X (L1++(LT s'++L0)) ((d, .is (.bool (g st t).isSome))::E) n ops rest cs Q):(⟨some d, .call { callee:= .value (.tmp p),args:= #[o],argTypes:=ats },t0,pos,af,gd⟩:Oper).wp P a w (fun a' w'=>WL P ops (Exit.then (CL P cs Q) Q) rest a' w') (Exit.then (CL P cs Q) Q):=by
 obtain ⟨f,us,Us,e,h,hct⟩:=ht.slots _ hs.mem
 have e0:a.eval o=Tx t:=ho.get (X:=X) (w:=w) (ρ:=a.eval) (fun _=>rfl) fun q hq _=>ht.slots q hq
 have e':a.eval (.tmp p)= .func (.func f) #[] us.toArray:=e
 have hr:∀ ρ:Operand→Value,ρ o=Tx t→ρ (.tmp p)= .func (.func f) #[] us.toArray→(execOp ρ ⟨some d, .call { callee:= .value (.tmp p),args:= #[o],argTypes:=ats },t0,pos,af,gd⟩).run P w= .ok (.enter f (Tx t::us).toArray) w:=by
  intro ρ e0 e'
  have hen:=(hct st t hl).ent
  clear next e h hct
  go_simp
  exact hen _ _
 exact ET rfl ht hG (hct st t hl) (vs:=Tx t::us) ⟨rfl,h⟩ (hr a.eval e0 e') hd next
end
section
variable {σ:Type} {P:Program} {w00:World} {X:List Nat} {L0:List Loc} {E:List (Nat×ai)} {n:Nat} {ops:Array Oper} {rest:List Oper} {Q:Exit→Act→World→Prop} {cs:List Code} {t0:TypeId} {pos:String} {af:Array Edge} {ats:Array TypeId} {LT:σ→List Loc} {st:σ} {d:Nat}
theorem uT{o:Oper} {g dg:Nat} {want:Bool} {Q:Exit→Act→World→Prop} (ht:TS w00 X L0 E n a w) (hg:o.guard=some (g,want)) (hgd:(ops[g]?).bind (·.dst)=some dg) [hl:ce E dg (.is (.bool want))] (hd:Nat.blt dg n=true) (h:o.wp P a w (WL P ops Q rest) Q):WL P ops Q (o::rest) a w:=by
 have hv:a.tmps.getD dg undef= .bool want:=ht.slots _ hl.mem
 have hdg:dg<a.tmps.size:=by rw [ht.size,←Nat.blt_eq];exact hd
 have hget:a.tmps[dg]? =some (.bool want):=by
  rw [Array.getD_eq_getD_getElem?,Array.getElem?_eq_getElem hdg] at hv
  rw [Array.getElem?_eq_getElem hdg]
  simpa using hv
 refine ⟨?_⟩
 unfold wpList
 rw [if_pos (by
  cases hq:ops[g]? with
  |none=>rw [hq] at hgd;cases hgd
  |some og=>
   rw [hq] at hgd
   have:og.dst=some dg:=by simpa using hgd
   simp [Region.wanted,hg,yielded,hq,this,hget])]
 exact .inl (Oper.wp_mono (fun _ _ h=>h.out) h)
theorem AD {G:World→Prop} (L1:List Loc) {p g dg:Nat} {want:Bool} {o:Operand} {t:List UInt8} {gg:σ→List UInt8→Option σ} {L:List Loc} (hL:L=L1++(LT st++L0)) [hs:ce E p (.rl P G LT gg)] [ho:b_ E o (.is (Tx t))] (hG:G w00) (hlen:t.length≤65536) (hgd:(ops[g]?).bind (·.dst)=some dg) (hlk:ce E dg (.is (.bool want))) (hd:(Nat.blt d n&&Nat.blt dg n&& !(E.map Prod.fst).elem d)=true)
 (next:∀ s',(∀ s1,gg st t=some s1→s'=s1)→GR P w00 X (L1++(LT s'++L0)) ((d, .is (.bool (gg st t).isSome))::E) n ops rest cs Q):GR P w00 X L E n ops (⟨some d, .call { callee:= .value (.tmp p),args:= #[o],argTypes:=ats },t0,pos,af,some (g,want)⟩::rest) cs Q:=⟨fun a w ht=>by
 subst hL
 simp only [Bool.and_eq_true] at hd
 exact uT ht rfl hgd hd.1.2 (Hw hG hlen ht (by simp only [Bool.and_eq_true];exact ⟨hd.1.1,hd.2⟩) next)⟩
end
def ai.tv (Ts:List ai):ai:=⟨fun X w v=>∃ (b c:Nat) (us:List Value),v= .slice (some ⟨b,0,none⟩) Ts.length c∧Ts.length≤c∧cZ X w b∧bF X w Ts us∧∀ (j:Nat) (u:Value),us[j]? =some u→w.cell? ⟨b,j,none⟩=some u,
 fun ⟨b,c,us,e,hc,hb,ha,h⟩ hk hX=>⟨b,c,us,e,hc,cZ.mono hk hX b hb,ha.stable hk hX,fun j u hj=>(World.cell?_of_block (hk.block b hb.1 hb.2)).trans (h j u hj)⟩⟩
def ai.tf (Ts:List ai):ai:=⟨fun X w v=>∃ (b:Nat) (us:List Value),v= .slice (some ⟨b,0,none⟩) Ts.length Ts.length∧cZ X w b∧bF X w Ts us∧us.all (·.oneCell')=true∧∀ (j:Nat) (u:Value),us[j]? =some u→w.cell? ⟨b,j,none⟩=some u,
 fun ⟨b,us,e,hb,ha,h1,h⟩ hk hX=>⟨b,us,e,cZ.mono hk hX b hb,ha.stable hk hX,h1,fun j u hj=>(World.cell?_of_block (hk.block b hb.1 hb.2)).trans (h j u hj)⟩⟩
theorem jd(h:(ai.tf Ts).holds X w v):(ai.tv Ts).holds X w v:=by
 obtain ⟨b,us,e,hb,ha,_,h⟩:=h
 exact ⟨b,_,us,e,Nat.le_refl _,hb,ha,h⟩
class Fw (T:ai):Prop where
 ok:∀ {X:List Nat} {w:World} {v:Value},T.holds X w v→v.oneCell'=true
instance {σ:Type} {P:Program} {G:World→Prop} {LT:σ→List Loc} {g:σ→List UInt8→Option σ}:Fw (.rl P G LT g):=⟨Fa⟩
instance {f:FuncId} {Ts Us:List ai}:Fw (.fv f Ts Us):=⟨fun ⟨vs,us,e,_⟩=>by rw [e];rfl⟩
class yf (E:List (Nat×ai)) (ps:List (Nat×Operand)) (k:Nat) (Ts:outParam (List ai)):Prop where
 get:∀ {X:List Nat} {w:World} {ρ:Operand→Value},(∀ c,ρ (.const c)=c)→(∀ p∈E, .tmp p.1∈ps.map Prod.snd→p.2.holds X w (ρ (.tmp p.1)))→∃ vs,ps.map (fun p=>(p.1,ρ p.2))=ir k vs∧bF X w Ts vs∧vs.all (·.oneCell')=true
instance yf.nil {E:List (Nat×ai)} {k:Nat}:yf E [] k []:=⟨fun _ _=>⟨[],rfl,trivial,rfl⟩⟩
instance yf.cons {E:List (Nat×ai)} {o:Operand} {ps:List (Nat×Operand)} {k:Nat} {T:ai} {Ts:List ai} [ho:b_ E o T] [o1:Fw T] [t:yf E ps (k+1) Ts]:yf E ((k,o)::ps) k (T::Ts):=⟨fun {X w ρ} hc hs=>by
 obtain ⟨vs,h1,h2,h3⟩:=t.get (X:=X) (w:=w) hc fun p hp hm=>hs p hp (List.mem_cons_of_mem _ hm)
 have e:T.holds X w (ρ o):=ho.get (X:=X) (w:=w) hc fun p hp e=>hs p hp (by rw [e];exact List.mem_cons_self)
 exact ⟨ρ o::vs,by rw [List.map_cons,h1];rfl,⟨e,h2⟩,by rw [List.all_cons,h3,o1.ok e];rfl⟩⟩
section
variable {P:Program} {w00:World} {N:Nat} {L:List Loc} {E:List (Nat×ai)} {d:Nat} {t0:TypeId} {pos:String} {af:Array Edge} {gd:Option (Nat×Bool)} {ats:Array TypeId}
theorem eJ{n:Nat} {ps:List (Nat×Operand)} [r:o_ P ty] [h:yf E ps 0 Ts] (hn:Nat.beq Ts.length n=true) (hs:Nat.ble n 10000=true):aR P w00 N L E ⟨some d, .buildSlice ty n ps.toArray,t0,pos,af,gd⟩ (.tf Ts):=by
 constructor
 intro X ρ w hc hf hN hm hsl
 obtain ⟨vs,h1,h2,h3⟩:=h.get (X:=X) (w:=w) (ρ:=ρ) hc fun p hp hm=>hsl p hp (by
  simp only [Op.operands]
  obtain ⟨q,hq,e⟩:=List.mem_map.1 hm
  simp
  exact ⟨q.1,by rw [←e];exact hq⟩)
 have hlen:=h2.len
 have hps:ps.map (fun p=>(p.1,ρ p.2))=ir 0 vs:=h1
 have hst:=lu (P:=P) (w00:=w00) (N:=N) (L:=L) (E:=[]) (d:=d) (t0:=t0) (pos:=pos) (af:=af) (gd:=gd) (ty:=ty) (n:=n) (ps:=(ir 0 vs).map fun p=>(p.1, .const p.2)) (vs:=vs) (h:=⟨fun {X w ρ} hc _=>by
  rw [List.map_map]
  refine (List.map_congr_left fun p _=> ?_).trans (List.map_id _)
  show (p.1,ρ (.const p.2))=p
  rw [hc]⟩) (by rw [hlen];exact hn) hs h3
 have hy:=hst.run X ρ w hc hf hN hm (fun p hp=>by cases hp)
 have he:execOp ρ ⟨some d, .buildSlice ty n ps.toArray,t0,pos,af,gd⟩=execOp ρ ⟨some d, .buildSlice ty n ((ir 0 vs).map fun p=>(p.1,Operand.const p.2)).toArray,t0,pos,af,gd⟩:=by
  unfold execOp
  have:(ps.toArray.map fun (i,x)=>(i,ρ x))=(((ir 0 vs).map fun p=>(p.1,Operand.const p.2)).toArray.map fun (i,x)=>(i,ρ x)):=by
   apply Array.ext'
   simp only [Array.toList_map,List.map_map]
   rw [show (ps.map fun p=>(p.1,ρ p.2))=ir 0 vs from hps]
   refine ((List.map_congr_left fun p _=> ?_).trans (List.map_id _)).symm
   show (p.1,ρ (.const p.2))=p
   rw [hc]
  simp only [this]
 unfold Yields at hy ⊢
 rw [he]
 split at hy
 ·obtain ⟨⟨b,e,hb,hcs⟩,hB⟩:=hy
  rename_i v w' _
  exact ⟨⟨b,vs,by rw [e,hlen],hb,h2.stable (Below.keeps hB X) fun _ h _=>h,h3,hcs⟩,hB⟩
 ·rename_i f args w' heq
  exfalso
  revert heq
  unfold execOp
  simp only [Sem.run_bind]
  intro heq
  cases hz:(Instr.buildSlice ty n (((ir 0 vs).map fun p=>(p.1,Operand.const p.2)).toArray.map fun (i,x)=>(i,ρ x))).run P w<;>rw [hz] at heq<;>simp [Result.andThen] at heq
 ·exact hy.elim
theorem jS[ho:ce E s (.tv Ts)] [ht:o_ P ty]:aR P w00 N L E ⟨some d, .call { callee:= .builtin .len,args:= #[.tmp s],argTypes:= #[ty] },t0,pos,af,gd⟩ (.is (.int .i64 Ts.length)):=by
 constructor
 intro X ρ w hc _ hN hm hsl
 obtain ⟨b,c,us,e,_⟩:=hsl _ ho.mem qJ
 have e1:ρ (.tmp s)= .slice (some ⟨b,0,none⟩) Ts.length c:=e
 obtain ⟨el,hu,_⟩:=ht.ok
 clear hc hsl ho ht e hm
 unfold Yields
 go_simp
 exact ⟨rfl,Below.refl _ _⟩
def ai.pt (T:ai):ai:=⟨fun X w v=>∃ b o u,v= .pointer (some ⟨b,o,none⟩)∧cZ X w b∧w.cell? ⟨b,o,none⟩=some u∧T.holds X w u,
 fun ⟨b,o,u,e,hb,h,hT⟩ hk hX=>⟨b,o,u,e,cZ.mono hk hX b hb,(World.cell?_of_block (hk.block b hb.1 hb.2)).trans h,T.stable hT hk hX⟩⟩
theorem jM{o oi:Operand} {j:Nat} [ho:b_ E o (.tv Ts)] [hi:b_ E oi (.is (.int .i64 (j:Int)))] [ht:o_ P ty] (hT:Ts[j]? =some T):aR P w00 N L E ⟨some d, .indexAddr ty o oi,t0,pos,af,gd⟩ (.pt T):=by
 constructor
 intro X ρ w hc _ hN hm hsl
 obtain ⟨b,c,us,e,hle,hb,ha,h⟩:=ho.get (X:=X) (w:=w) hc fun p hp e=>hsl p hp qS
 have e1:ρ o= .slice (some ⟨b,0,none⟩) Ts.length c:=e
 have e2:ρ oi= .int .i64 j:=hi.get (X:=X) (w:=w) hc fun p hp e=>hsl p hp qS
 have hj:j<Ts.length:=(List.getElem?_eq_some_iff.1 hT).1
 obtain ⟨u,hu1,hu2⟩:=ha.at_ hT
 obtain ⟨el,hu,hs,_⟩:=ht.ok
 have hz:(sizeOf el).run P w= .ok 1 w:=by
  cases hq:P.info? el with
  |none=>rw [hq] at hs;cases hs
  |some q=>
   rw [hq] at hs
   have:q.size=1:=by simpa using hs
   simp [sizeOf,typeInfo,hq,this]
 have hrun:(execOp ρ ⟨some d, .indexAddr ty o oi,t0,pos,af,gd⟩).run P w= .ok (.value (.pointer (some ⟨b,0+j*1,none⟩))) w:=by
  unfold execOp
  have hji:(0:Int)≤(j:Int)∧(j:Int)<(Ts.length:Int):=⟨by omega,by omega⟩
  simp only [e1,e2,Instr.indexAt,asIntOf,Sem.run_bind,Sem.run_pure,Result.andThen_ok,run_underlying hu w,hji,and_self,if_true,hz,Int.toNat_natCast,Addr.add_mid]
 unfold Yields
 rw [hrun]
 exact ⟨⟨b,_,u,rfl,hb,by rw [show 0+j*1=j by omega];exact h j u hu1,hu2⟩,Below.refl _ _⟩
theorem dj[ho:ce E s (.pt T)] [ht:eV P ty 1 false]:aR P w00 N L E ⟨some d, .load ty (.tmp s),t0,pos,af,gd⟩ T:=by
 constructor
 intro X ρ w hc _ hN hm hsl
 obtain ⟨b,o,u,e,hb,hcell,hT⟩:=hsl _ ho.mem qI
 have e1:ρ (.tmp s)= .pointer (some ⟨b,o,none⟩):=e
 obtain ⟨dd,hu,hd⟩:=ht.row
 have hag:(isAgg ty).run P w= .ok false w:=by
  unfold isAgg
  rw [Sem.run_bind,run_underlying hu w]
  cases dd<;>first|rfl|cases hd
 have hrun:(execOp ρ ⟨some d, .load ty (.tmp s),t0,pos,af,gd⟩).run P w= .ok (.value u) w:=by
  unfold execOp
  simp only [e1,Instr.loadAt,Instr.sureAddr,loadVar,Sem.run_bind,Sem.run_pure,Result.andThen_ok,hag,run_load,hcell,if_false,Bool.false_eq_true]
 unfold Yields
 rw [hrun]
 exact ⟨hT,Below.refl _ _⟩
end
def qT:List TypeId:=[122,124,9,80,130,82,132,134,136]
def Im (B:Nat) (X0:List Nat) (w0 w:World):Prop:=w0.heap.size≤w.heap.size∧∀ b,b<w0.heap.size→b ∉ X0→w.heap[b]? =w0.heap[b]? ∨B≤b∧∃ cs t f,w0.heap[b]? =some (.cells cs t f)∧t∈qT
class kD (e:TypeId):Prop where
 ok:e∈qT
def ai.gc (B:Nat) (X0:List Nat) (w0:World):ai:=⟨fun X w _=>(∀ b∈X,b<w0.heap.size→b∈X0)∧Im B X0 w0 w,fun {X X' w w' v} ⟨h1,h2⟩ hk hX=>⟨fun b hb hlt=>h1 b (hX b hb (Nat.lt_of_lt_of_le hlt h2.1)) hlt,
 ⟨Nat.le_trans h2.1 hk.size,fun b hb hx=>by
  rw [hk.block b (Nat.lt_of_lt_of_le hb h2.1) fun h=>hx (h1 b h hb)]
  exact h2.2 b hb hx⟩⟩⟩
instance {e:TypeId} {B B':Nat} {X0:List Nat} {w0:World} [l:ka B B'] [rt:kD e]:jT e B' (.gc B X0 w0):=⟨fun {X w w' v} ⟨h1,h2⟩ hc=>⟨h1,Nat.le_trans h2.1 hc.size,fun b hb hx=>by
 rcases hc.block b (Nat.lt_of_lt_of_le hb h2.1) with g|⟨g,_,cs,f,g2⟩
 ·rw [g];exact h2.2 b hb hx
 ·rcases h2.2 b hb hx with g3|g3
  ·exact .inr ⟨Nat.le_trans l.ok g,cs,e,f,g3▸g2,rt.ok⟩
  ·exact .inr g3⟩⟩
theorem Hj(h:(ai.gh X0 w0).holds X w v):(ai.gc B X0 w0).holds X w v:=⟨h.1,h.2.size,fun b hb hx=> .inl (h.2.block b hb hx)⟩
instance:kD 122:=⟨by decide⟩
instance:kD 124:=⟨by decide⟩
instance:kD 80:=⟨by decide⟩
instance:kD 130:=⟨by decide⟩
instance:kD 82:=⟨by decide⟩
instance:kD 132:=⟨by decide⟩
instance:kD 134:=⟨by decide⟩
instance:kD 136:=⟨by decide⟩
instance:kD 9:=⟨by decide⟩
class sb (B:Nat) (T:ai):Prop where
 ok:∀ {X:List Nat} {w w':World} {v:Value},T.holds X w v→Im B X w w'→T.holds X w' v
instance {B:Nat} {c:Value}:sb B (.is c):=⟨fun h _=>h⟩
instance {B:Nat}:sb B .any:=⟨fun _ _=>trivial⟩
instance {B B':Nat} {T:ai} [l:ka B B']:sb B' (.und B T):=⟨fun {X w w' v} ⟨hB,h⟩ hs=>⟨Nat.le_trans hB hs.1,T.stable h ⟨hs.1,fun b hb hx=>by
 rcases hs.2 b hb (fun h=>hx (List.mem_append_left _ h)) with e|g
 ·exact e
 ·exact absurd (List.mem_append_right _ (di.2 ⟨hb,Nat.le_trans l.ok g.1⟩)) hx⟩ (fun b hb hlt=>by
 rcases List.mem_append.1 hb with hb|hb
 ·exact List.mem_append_left _ hb
 ·exact List.mem_append_right _ (di.2 ⟨hlt,(di.1 hb).2⟩))⟩⟩
class e_ (B:Nat) (L:List (Nat×ai)):Prop where
 ok:∀ p∈L,∀ {X:List Nat} {w w':World} {v:Value},p.2.holds X w v→Im B X w w'→p.2.holds X w' v
instance e_.nil {B:Nat}:e_ B []:=⟨fun _ h=>by cases h⟩
instance e_.cons {B r:Nat} {L:List (Nat×ai)} {T:ai} [a:sb B T] [k:e_ B L]:e_ B ((r,T)::L):=⟨fun p hp=>by
 rcases List.mem_cons.1 hp with rfl|hp
 ·exact a.ok
 ·exact k.ok p hp⟩
def sM (B:Nat) (w00:World) (X:List Nat) (L:List Loc) (w:World) (T:ai) (e:Ending) (w':World):Prop:=∃ v,e= .returned v∧T.holds X w' v∧kO w00 X L w'∧Im B X w w'
theorem vg.chX[rt:kD e] (h:vg e B' X w w') (hB:B≤B'):Im B X w w':=⟨h.size,fun b hb _=>(h.block b hb).imp id fun ⟨g,_,cs,f,g2⟩=>⟨Nat.le_trans hB g,cs,e,f,g2,rt.ok⟩⟩
instance (priority:=low) {e:TypeId} {B:Nat} {L:List (Nat×ai)} [rt:kD e] [s:e_ B L]:gG e B L:=⟨fun p hp {X w w' v} h hc=>s.ok p hp h (hc.chX (Nat.le_refl _))⟩
theorem e_.up{L:List (Nat×ai)} (s:e_ B L) (hB:B≤B'):e_ B' L:=⟨fun p hp {X w w' v} h hc=>s.ok p hp h ⟨hc.1,fun b hb hx=>(hc.2 b hb hx).imp id fun g=>⟨Nat.le_trans hB g.1,g.2⟩⟩⟩
structure lP {σ:Type} (P:Program) (G:World→Prop) (f:FuncId) (B:Nat) (LT:σ→List Loc) (As:List ai) (s:σ) (res:Option σ) (T:ai):Prop where
 ent:bE P f
 run:∀ {w00 w:World} {X:List Nat} {L0:List Loc} {vs:List Value},e_ B L0→G w00→w00.heap.size≤B→B≤w.heap.size→kO w00 X (LT s++L0) w→bF X w As vs→Calls P f vs.toArray w fun e w'=>∃ s',(∀ s1,res=some s1→s'=s1)∧sM B w00 X (LT s'++L0) w T e w'
theorem j6.h{σ:Type} {G:World→Prop} {LT:σ→List Loc} {s:σ} {res:Option σ} (h:j6 P G f LT As s res T):lP P G f B LT As s res T:=⟨h.ent,fun {w00 w X L0 vs} _ hG _ _ hm ha=>(h.run hG hm ha).mono fun e w' ⟨s',h1,v,h2,h3,h4,h5⟩=>⟨s',h1,v,h2,h3,h4,h5.size,fun b hb hx=> .inl (h5.block b hb hx)⟩⟩
theorem lP.args{σ:Type} {G:World→Prop} {LT:σ→List Loc} {As':List ai} {s:σ} {res:Option σ} (h:lP P G f B LT As s res T) (ha:∀ {X:List Nat} {w:World} {vs:List Value},bF X w As' vs→bF X w As vs):lP P G f B LT As' s res T:=⟨h.ent,fun hs hG h1 h2 hm hv=>h.run hs hG h1 h2 hm (ha hv)⟩
theorem ya {σ:Type} {P:Program} {G:World→Prop} {f:FuncId} {fn:Func} {c:Code} {B:Nat} {LT:σ→List Loc} {As:List ai} {s:σ} {res:Option σ} {T:ai} {n:Nat} (hf:P.funcs[f]? =some fn) (hb:fn.body=some c) (hn:fn.ntmps=n) (hl:As.length≤n) (he:bE P f)
 (h:∀ w00 X L0 w,e_ B L0→G w00→w00.heap.size≤B→B≤w.heap.size→kO w00 X (LT s++L0) w→GC P w00 X (LT s++L0) (bf 0 As++[(999, .gc B X w)]) n [c] (bodyPost P fn fun e w'=>∃ s',(∀ s1,res=some s1→s'=s1)∧sM B w00 X (LT s'++L0) w T e w')):lP P G f B LT As s res T:=
 ⟨he,fun {w00 w X L0 vs} hs hG h1 h2 hm ha=>by
  refine BH hf hb hn hl hm ha ⟨fun a u ht=>(h w00 X L0 w hs hG h1 h2 hm).run a u ⟨ht.size,ht.df,fun p hp=> ?_,ht.mem⟩⟩
  rcases List.mem_append.1 hp with hp|hp
  ·exact ht.slots p (List.mem_append_left _ hp)
  ·rw [List.mem_singleton.1 hp]
   exact Hj (ht.slots (999, .gh X w) (List.mem_append_right _ List.mem_cons_self))⟩
section
variable {σ:Type} {P:Program} {w00:World} {X:List Nat} {L L0:List Loc} {E:List (Nat×ai)} {n:Nat} {LT:σ→List Loc} {s s':σ} {res:Option σ} {B:Nat}
theorem Fc(hm:kO w00 X0 (LT s++L0) w0) (ht:TS w00 X L E n a w) [kl:m6 LT] [g:kH E 999 (.gc B X0 w0)] (hX:∀ b∈X0,b∈X) (hL:LT s'++L0=L1) (sl:∀ p∈L1,p∈L) (hs:∀ s1,res=some s1→s'=s1) (hT:T.holds X w v):∃ s',(∀ s1,res=some s1→s'=s1)∧sM B w00 X0 (LT s'++L0) w0 T (.returned v) w:=by
 obtain ⟨g1,g2⟩:=ht.slots _ g.mem
 have hk:(LT s'++L0).map Prod.fst=(LT s++L0).map Prod.fst:=by rw [List.map_append,List.map_append,kl.ok s s']
 have hz:∀ {T:ai} {u:Value},T.holds X w u→T.holds X0 w u:=fun {T u} h=>T.stable h ⟨Nat.le_refl _,fun _ _ _=>rfl⟩ fun b hb _=>hX b hb
 refine ⟨s',hs,v,rfl,hz hT,⟨fun p hp=> ?_,fun b hb=>Nat.lt_of_lt_of_le (hm.far b hb) g2.1,by rw [hk];exact hm.nodup,ht.mem.below⟩,g2⟩
 obtain ⟨k1,k2,u,ty,k3,k4⟩:=ht.mem.loc _ (sl p (hL▸hp))
 refine ⟨?_,k2,u,ty,hz k3,k4⟩
 have h1:p.1∈(LT s++L0).map Prod.fst:=by rw [←hk];exact List.mem_map_of_mem hp
 obtain ⟨q,hq,e⟩:=List.mem_map.1 h1
 rw [←e]
 exact (hm.loc q hq).1
theorem nD{q q2:ResultVar} {U:ai} (hr:fn.results= #[q,q2]) (hm:kO w00 X0 (LT s++L0) w0) (hs:∀ s1,res=some s1→s'=s1) (hL:LT s'++L0=L1) [kl:m6 LT] [g:kH E 999 (.gc B X0 w0)] [hX:lQ X0 X] [sl:oW L1 L] [k:gK P L E q T] [k2:gK P L E q2 U] (hc:Cv (.tup [T,U]) T'):GT w00 X L E n (bodyPost P fn fun e w'=>∃ s',(∀ s1,res=some s1→s'=s1)∧sM B w00 X0 (LT s'++L0) w0 T' e w'):=
 ⟨fun a w ht=>by
  obtain ⟨v,e,hT⟩:=k.ok ht
  obtain ⟨u,e2,hU⟩:=k2.ok ht
  exact bodyPost_ret (jl hr e e2) ht.df (Fc hm ht hX.sub hL sl.sub hs (hc.ok _ _ _ ⟨[v,u],rfl,hT,hU,trivial⟩))⟩
end
section
variable {σ:Type} {P:Program} {w00:World} {X:List Nat} {L L0:List Loc} {E E0:List (Nat×ai)} {n:Nat} {ops:Array Oper} {rest:List Oper} {Q:Exit→Act→World→Prop} {cs:List Code} {t0:TypeId} {pos:String} {af:Array Edge} {ats:Array TypeId} {LT:σ→List Loc} {st:σ} {d B:Nat}
theorem ze {G:World→Prop} {f:FuncId} (L1:List Loc) (ss:List Nat) {os:List Operand} {ks:List Nat} {As:List ai} {res:Option σ} {T:ai} (hL:L=L1++(LT st++L0)) (hB:w00.heap.size≤B) (hsz:∀ a w,TS w00 X L E n a w→B≤w.heap.size) [k:kR E os ks As] (hG:G w00) (h:lP P G f B LT As st res T) [kk:jQ E ss E0] [s2:e_ B L1] (s0:e_ B L0) [s1:e_ B E0] (hd:(Nat.blt d n&& !(E0.map Prod.fst).elem d)=true)
 (next:∀ s',(∀ s1,res=some s1→s'=s1)→GR P w00 X (L1++(LT s'++L0)) ((d,T)::E0) n ops rest cs Q):GR P w00 X L E n ops (⟨some d, .call { callee:= .value (.func f),args:=os.toArray,argTypes:=ats },t0,pos,af,none⟩::rest) cs Q:=⟨fun a w ht=>by
 have hBw:=hsz a w ht
 subst hL
 refine cA rfl ?_
 have e2:=k.get (X:=X) (w:=w) (ρ:=a.eval) (fun _=>rfl) (fun _=>rfl) fun q hq _=>ht.slots q hq
 have hr:∀ ρ:Operand→Value,ρ (.func f)= .func (.func f) #[] #[]→(execOp ρ ⟨some d, .call { callee:= .value (.func f),args:=os.toArray,argTypes:=ats },t0,pos,af,none⟩).run P w= .ok (.enter f (os.map ρ).toArray) w:=by
  intro ρ hff
  have hen:=h.ent
  clear e2 k next
  go_simp
  exact hen _ _
 have hm1:=ht.mem.perm (mN L1 (LT st) L0)
 have hc:=h.run (L0:=L0++L1) ⟨fun p hp=>by
  rcases List.mem_append.1 hp with hp|hp
  ·exact s0.ok p hp
  ·exact s2.ok p hp⟩ hG hB hBw hm1 e2
 unfold Oper.wp
 rw [hr a.eval rfl]
 refine hc.mono ?_
 rintro e w' ⟨s',hs',v,rfl,hT,hm,hk⟩
 simp only [Bool.and_eq_true,Bool.not_eq_true'] at hd
 refine (next s' hs').run _ _ ⟨by simp [Act.put,ht.size],ht.df,fun q hq=> ?_,hm.perm (mN L1 (LT s') L0).symm⟩
 have hsz:d<a.tmps.size:=by rw [ht.size,←Nat.blt_eq];exact hd.1
 rcases List.mem_cons.1 hq with rfl|hq
 ·rw [bK _ _ _ _ hsz,if_pos rfl];exact hT
 ·have hne:q.1≠d:=fun e=>by
   have:(E0.map Prod.fst).elem d=true:=by rw [List.elem_eq_mem,decide_eq_true_eq,←e];exact List.mem_map_of_mem hq
   rw [hd.2] at this;cases this
  rw [bK _ _ _ _ hsz,if_neg hne]
  exact s1.ok q hq (ht.slots q (kk.sub q hq)) hk⟩
end
def jA (ts:List TypeId) (C:Nat) (X:List Nat) (w:World) (b:Nat):Prop:=cu ts 0 X w b∧b<C
theorem jA.mono{ts:List TypeId} {X':List Nat} (hk:fV X w w') (hX:∀ b∈X',b<w.heap.size→b∈X) (b:Nat) (h:jA ts C X w b):jA ts C X' w' b:=⟨cu.mono hk hX b h.1,h.2⟩
theorem Rp.upB{α:Type} (r:Rp α) {ts:List TypeId} {X':List Nat} {a:α} (h:r.rd w (jA ts C X w) a cs) (hk:fV X w w') (hX:∀ b∈X',b<w.heap.size→b∈X):r.rd w' (jA ts C X' w') a cs:=
 r.more (r.keep h fun b hb=>hk.block b hb.1.1.1 hb.1.1.2) (jA.mono hk hX)
theorem Rp.stB{α:Type} (r:Rp α) {ts:List TypeId} {a:α} (hr:r.rd w (jA ts C X w) a cs) (h:vg e B X w w') (hn:e ∉ ts):r.rd w' (jA ts C X w') a cs:=
 r.more (r.keep hr fun _ hb=>cu.stay h (Nat.zero_le _) hn hb.1) fun b hb=>⟨cu.still h (Nat.zero_le _) hn b hb.1,hb.2⟩
theorem Rp.stC{α:Type} (r:Rp α) {ts:List TypeId} {a:α} (hr:r.rd w (jA ts C X w) a cs) (h:vg e B X w w') (hC:C≤B):r.rd w' (jA ts C X w') a cs:=by
 have hs:∀ b,jA ts C X w b→w'.heap[b]? =w.heap[b]? :=fun b hb=>by
  rcases h.block b hb.1.1.1 with g|⟨g,_⟩
  ·exact g
  ·have:=hb.2;omega
 refine r.more (r.keep hr hs) fun b hb=>⟨⟨⟨Nat.lt_of_lt_of_le hb.1.1.1 h.size,hb.1.1.2⟩,?_⟩,hb.2⟩
 rcases hb.1.2 with g|⟨cs,t,f,g1,g2⟩
 ·exact .inl g
 ·exact .inr ⟨cs,t,f,(hs b hb).trans g1,g2⟩
def ai.la {α:Type} (r:Rp α) (e:TypeId) (ts:List TypeId) (C B b c:Nat) (l:List α) (Ys:List ai):ai:=⟨fun X w v=>v= .slice (some ⟨b,0,none⟩) (l.length+1) c∧B≤C∧C≤w.heap.size∧∃ (ps:List (α×List Value)) (ys:List Value),ps.map Prod.fst=l∧(∀ q∈ps,r.rd w (jA ts C X w) q.1 q.2)∧bF X w Ys ys∧ys.length=r.k∧(∀ u∈ys,u.oneCell'=true)∧dt r.k e w B (some ⟨b,0,none⟩) (l.length+1) c (ps.flatMap Prod.snd++ys)∧cZ X w b,
 fun ⟨h1,hBC,hC,ps,ys,h2,h3,h4,h5,h6,h7,h8⟩ hk hX=>⟨h1,hBC,Nat.le_trans hC hk.size,ps,ys,h2,fun q hq=>r.upB (h3 q hq) hk hX,h4.stable hk hX,h5,h6,h7.same fun g hg=>by
  have:b=g:=by simpa [fC] using hg
  subst this
  exact hk.block b h8.1 h8.2,cZ.mono hk hX b h8⟩⟩
theorem xM{α:Type} {r:Rp α} {e2:TypeId} {ts:List TypeId} {b c:Nat} {l:List α} {Ys:List ai} (hn:e≠e2) (h:(ai.la r e2 ts C B b c l Ys).holds X w v) (hc:vg e B' X w w') (hr:∀ {a:α} {cs:List Value},r.rd w (jA ts C X w) a cs→r.rd w' (jA ts C X w') a cs) (k:∀ {ys:List Value},bF X w Ys ys→bF X w' Ys ys):(ai.la r e2 ts C B b c l Ys).holds X w' v:=by
 obtain ⟨h1,hBC,hCw,ps,ys,h2,h3,h4,h5,h6,h7,h8⟩:=h
 have hst:∀ g,fC (some (⟨b,0,none⟩:Addr))=some g→w'.heap[g]? =w.heap[g]? :=fun g hg=>by
  have hbg:b=g:=by simpa [fC] using hg
  subst hbg
  rcases hc.block b h8.1 with g1|⟨_,_,cs,f,g2⟩
  ·exact g1
  ·obtain ⟨cur,hcur⟩:=h7.type hg
   rw [g2] at hcur
   injection hcur with hcur
   injection hcur with _ hcur _
   exact absurd hcur hn
 exact ⟨h1,hBC,Nat.le_trans hCw hc.size,ps,ys,h2,fun q hq=>hr (h3 q hq),k h4,h5,h6,h7.same hst,⟨Nat.lt_of_lt_of_le h8.1 hc.size,h8.2⟩⟩
class G4 (a b:TypeId):Prop where
 ne:a≠b
instance {α:Type} {r:Rp α} {e e2:TypeId} {ts:List TypeId} {C B B' b c:Nat} {l:List α} {Ys:List ai} [n:dH e (e2::ts)] [k:kz e B' Ys]:jT e B' (.la r e2 ts C B b c l Ys):=⟨fun h hc=>xM (fun h=>n.ok (h▸List.mem_cons_self)) h hc (fun h=>r.stB h hc fun h=>n.ok (List.mem_cons_of_mem _ h)) fun h=>k.ok h hc⟩
instance (priority:=low) {α:Type} {r:Rp α} {e e2:TypeId} {ts:List TypeId} {C B B' b c:Nat} {l:List α} {Ys:List ai} [hC:ka C B'] [n:G4 e e2] [k:kz e B' Ys]:jT e B' (.la r e2 ts C B b c l Ys):=⟨fun h hc=>xM n.ne h hc (fun h=>r.stC h hc hC.ok) fun h=>k.ok h hc⟩
instance {α:Type} {r:Rp α} {e:TypeId} {ts:List TypeId} {C B b c:Nat} {l:List α} {Ys:List ai}:bi (.la r e ts C B b c l Ys) 1 false:=⟨fun {X w v} ⟨h1,_⟩=>by rw [h1];exact ⟨rfl,by simp [Value.cells,Value.oneCell'],(fun h=>by cases h),fun _=>rfl⟩⟩
theorem nQ {α:Type} {k:Nat}:∀ {ps:List (α×List Value)} (_:∀ q∈ps,q.2.length=k),(ps.flatMap Prod.snd).length=ps.length*k
 |[],_=>by simp
 |p::ps,h=>by rw [List.flatMap_cons,List.length_append,h p List.mem_cons_self,nQ fun q hq=>h q (List.mem_cons_of_mem _ hq),List.length_cons,Nat.add_mul,Nat.one_mul,Nat.add_comm]
instance (priority:=10) {a b:Nat}:wJ a b (a+b):=⟨rfl⟩
section
variable {P:Program} {w00:World} {N:Nat} {L:List Loc} {E:List (Nat×ai)} {d:Nat} {t0:TypeId} {pos:String} {af:Array Edge} {gd:Option (Nat×Bool)} {ats:Array TypeId} {α:Type} {r:Rp α} {e:TypeId} {ts:List TypeId} {C B b c:Nat} {l:List α} {Ys:List ai}
theorem BP{k:Nat} [ho:ce E s (.la r e ts C B b c l Ys)] [ht:cO P ty k]:aR P w00 N L E ⟨some d, .call { callee:= .builtin .len,args:= #[.tmp s],argTypes:= #[ty] },t0,pos,af,gd⟩ (.is (.int .i64 ((l.length+1:Nat):Int))):=by
 constructor
 intro X ρ w hc _ hN hm hsl
 obtain ⟨e1,_⟩:=hsl _ ho.mem qJ
 have e1:ρ (.tmp s)= .slice (some ⟨b,0,none⟩) (l.length+1) c:=e1
 obtain ⟨el,hu,_⟩:=ht.ok
 clear hc hsl ho ht hm
 unfold Yields
 go_simp
 exact ⟨rfl,Below.refl _ _⟩
theorem AN{k:Nat} {oi:Operand} {z:Int} [ho:ce E s (.la r e ts C B b c l Ys)] [hi:b_ E oi (.is (.int .i64 z))] [ht:cO P ty k] (hz:z=(l.length:Int)):aR P w00 N L E ⟨some d, .indexAddr ty (.tmp s) oi,t0,pos,af,gd⟩ (.is (.pointer (some ⟨b,l.length*k,none⟩))):=by
 constructor
 intro X ρ w hc _ hN hm hsl
 obtain ⟨e1,_⟩:=hsl _ ho.mem qI
 have e1:ρ (.tmp s)= .slice (some ⟨b,0,none⟩) (l.length+1) c:=e1
 have e2:ρ oi= .int .i64 z:=hi.get (X:=X) (w:=w) hc fun p hp e=>hsl p hp qS
 obtain ⟨el,hu,hs⟩:=ht.ok
 have hzz:(sizeOf el).run P w= .ok k w:=by
  cases hq:P.info? el with
  |none=>rw [hq] at hs;cases hs
  |some q=>
   rw [hq] at hs
   have:q.size=k:=by simpa using hs
   simp [sizeOf,typeInfo,hq,this]
 subst hz
 have hrun:(execOp ρ ⟨some d, .indexAddr ty (.tmp s) oi,t0,pos,af,gd⟩).run P w= .ok (.value (.pointer (some ⟨b,0+l.length*k,none⟩))) w:=by
  unfold execOp
  have hji:(0:Int)≤(l.length:Int)∧(l.length:Int)<((l.length+1:Nat):Int):=⟨by omega,by omega⟩
  simp only [e1,e2,Instr.indexAt,asIntOf,Sem.run_bind,Sem.run_pure,Result.andThen_ok,run_underlying hu w,hji,and_self,if_true,hzz,Int.toNat_natCast,Addr.add_mid]
 unfold Yields
 rw [hrun]
 exact ⟨by rw [Nat.zero_add];rfl,Below.refl _ _⟩
theorem lK(q j i:Nat) {o:Nat} [hs:ce E s (.is (.pointer (some ⟨b,o,none⟩)))] [hl:ke L q (.st Ts)] [hj:mu Ts j (.la r e ts C B b c l Ys)] [hi:mu Ys i T] [ht:eV P ty 1 false] (ho:o=l.length*r.k+i):aR P w00 N L E ⟨some d, .load ty (.tmp s),t0,pos,af,gd⟩ T:=by
 constructor
 intro X ρ w hc _ hN hm hsl
 have e1:ρ (.tmp s)= .pointer (some ⟨b,o,none⟩):=hsl _ hs.mem qI
 obtain ⟨_,_,v,ty',⟨cs,_,ha,_⟩,_⟩:=hm.loc _ hl.mem
 obtain ⟨u,hu1,h1,hBC,hCw,ps,ys,h2,h3,h4,h5,h6,h7,h8⟩:=ha.at_ hj.ok
 obtain ⟨x,hx1,hx2⟩:=h4.at_ hi.ok
 have hi':i<ys.length:=(List.getElem?_eq_some_iff.1 hx1).1
 obtain ⟨g1,g2,g3,g4,g5⟩:=h7.sl
 obtain ⟨b',off,eb,hb',hcell⟩:=g5 qO
 injection eb with eb
 injection eb with eb1 eb2 _
 subst eb1 eb2
 have hfl:(ps.flatMap Prod.snd).length=l.length*r.k:=by
  rw [nQ fun q hq=>r.len (h3 q hq),←h2,List.length_map]
 have hcell:=hcell o x (by rw [ho,List.getElem?_append_right (by omega),hfl,Nat.add_sub_cancel_left];exact hx1)
 rw [Nat.zero_add] at hcell
 obtain ⟨dd,hu,hd⟩:=ht.row
 have hag:(isAgg ty).run P w= .ok false w:=by
  unfold isAgg
  rw [Sem.run_bind,run_underlying hu w]
  cases dd<;>first|rfl|cases hd
 have hrun:(execOp ρ ⟨some d, .load ty (.tmp s),t0,pos,af,gd⟩).run P w= .ok (.value x) w:=by
  unfold execOp
  simp only [e1,Instr.loadAt,Instr.sureAddr,loadVar,Sem.run_bind,Sem.run_pure,Result.andThen_ok,hag,run_load,hcell,if_false,Bool.false_eq_true]
 unfold Yields
 rw [hrun]
 exact ⟨hx2,Below.refl _ _⟩
end
theorem Cy{sz:Nat} {g n c o:Nat} {vs:List Value} {u:Value} (h:dt sz e w B (some ⟨g,0,none⟩) n c vs) (ho:vs[o]? =some u) (hv:v.oneCell'=true):(store ((⟨g,o,none⟩:Addr)) v).run P w= .ok () (w.setCell ⟨g,o,none⟩ v)∧dt sz e (w.setCell ⟨g,o,none⟩ v) B (some ⟨g,0,none⟩) n c (vs.set o v)∧(w.setCell ⟨g,o,none⟩ v).heap.size=w.heap.size∧∀ k,k≠g→(w.setCell ⟨g,o,none⟩ v).heap[k]? =w.heap[k]? :=by
 obtain ⟨hl,h4⟩:=h
 rcases h4 with ⟨h4,_⟩|⟨g',cap,cur,k1,k2,k3,k4,k5,k6,k7⟩
 ·cases h4
 ·injection k1 with k1 kn kc
  injection k1 with k1
  injection k1 with k1 _ _
  subst k1;subst kc
  have hlt:o<vs.length:=(List.getElem?_eq_some_iff.1 ho).1
  have hcur:cur[o]? =some u:=by
   rw [←k7,List.getElem?_take] at ho
   split at ho
   ·simpa using ho
   ·cases ho
  have hcell:w.cell? ⟨g,o,none⟩=some u:=eX k3 hcur
  have hfz:w.frozen? ⟨g,o,none⟩=false:=by simp [World.frozen?,k3]
  refine ⟨?_,⟨by rw [List.length_set];exact hl, .inr ⟨g,c,cur.setIfInBounds o v,rfl,k2,kC _ k3,k4,k5,by simp [k6],?_⟩⟩,by simp [World.setCell],fun k hk=>heap_setCell_other w ⟨g,o,none⟩ k v hk⟩
  ·rw [run_store P w _ _ _ hv,hcell]
   simp [hfz]
  ·rw [Array.toList_setIfInBounds,List.take_set,k7]
section
variable {P:Program} {w00:World} {X:List Nat} {L L':List Loc} {E E0:List (Nat×ai)} {n:Nat} {ops:Array Oper} {rest:List Oper} {Q:Exit→Act→World→Prop} {cs:List Code} {t0:TypeId} {pos:String} {af:Array Edge} {α:Type} {r:Rp α} {e:TypeId} {ts:List TypeId} {C B b c:Nat} {l:List α} {Ys Ys':List ai}
theorem sw (q j i:Nat) (ss:List Nat) {ty:TypeId} {s o':Nat} {o:Operand} {Ts Ts1 Ts2:List ai} {T:ai} (hB:w00.heap.size≤B) [hs:ce E s (.is (.pointer (some ⟨b,o',none⟩)))] [ho:b_ E o T] [hl:ke L q (.st Ts)] [hj:mu Ts j (.la r e ts C B b c l Ys)] [hT:jT e B T] [hi:gQ Ys i T Ys'] [h1:gQ Ts j .any Ts1] [h2:gQ Ts1 j (.la r e ts C B b c l Ys') Ts2] {L1:List Loc} [hu1:ko L q (.st Ts) (.st Ts1) L1] [hu2:ko L1 q (.st Ts1) (.st Ts2) L'] [z:bi T 1 false] [hn:dH e ts] [kY:kz e B Ys] [kL:gG e B L1] [kk:jQ E ss E0] [kE:gG e B E0] [hty:eV P ty 1 false] (ho':o'=l.length*r.k+i)
 (h:GR P w00 X L' E0 n ops rest cs Q):GR P w00 X L E n ops (⟨none, .store ty (.tmp s) o,t0,pos,af,none⟩::rest) cs Q:=⟨fun a w ht=>by
 refine cA rfl ?_
 have e1:a.eval (.tmp s)= .pointer (some ⟨b,o',none⟩):=ht.slots _ hs.mem
 have e2:T.holds X w (a.eval o):=ho.get (X:=X) (w:=w) (fun _=>rfl) fun p hp _=>ht.slots p hp
 obtain ⟨_,_,fv⟩:=ht.openL hl.mem
 obtain ⟨l1,l2,v,ty',⟨c0,rfl,ha,hone⟩,hbq⟩:=ht.mem.loc _ hl.mem
 obtain ⟨u,hu,g1,hBC,hCw,ps,ys,g2,g3,g4,g5,g6,g7,g8⟩:=ha.at_ hj.ok
 have hTs1:TS w00 X L1 E n a w:=by
  obtain ⟨v',⟨c',e',ha',hone'⟩,fv⟩:=ht.openL hl.mem
  exact fv (T':= .st Ts1) ⟨c',e',by rw [←h1.ok.1];exact ha'.any_,hone'⟩ hu1.upd
 obtain ⟨hY1,hY2⟩:=hi.ok
 have hlen:=g4.len
 have hik:i<ys.length:=qO
 obtain ⟨z1,z2,_,z4⟩:=z.ok e2
 have hcl:(a.eval o).cells= #[a.eval o]:=z4 rfl
 have hv1:(a.eval o).oneCell'=true:=by
  rw [hcl] at z2
  simpa using z2
 have hfl:(ps.flatMap Prod.snd).length=l.length*r.k:=by
  rw [nQ fun q hq=>r.len (g3 q hq),←g2,List.length_map]
 have hat:(ps.flatMap Prod.snd++ys)[o']? =some ys[i]:=by
  rw [ho',List.getElem?_append_right qO,hfl,Nat.add_sub_cancel_left,List.getElem?_eq_getElem hik]
 obtain ⟨hw',hown,hsz',hother⟩:=Cy (P:=P) g7 hat hv1
 have hcht:vg e B X w (w.setCell ⟨b,o',none⟩ (a.eval o)):=⟨rfl,rfl,rfl,Nat.le_of_eq hsz'.symm,fun g hg=>by
  by_cases hgb:g=b
  ·subst hgb
   obtain ⟨cur,hcur⟩:=g7.type (g:=g) rfl
   exact .inr ⟨(g7.blk_ g rfl).1,g8.2,cur,_,hcur⟩
  ·exact .inl (hother g hgb)⟩
 have h5:=(hTs1.keep (E':=E0) ss).chT hcht hB
 have hsz:=hty.size
 have hsv:(storeVar ty ⟨b,o',none⟩ (a.eval o)).run P w= .ok () (w.setCell ⟨b,o',none⟩ (a.eval o)):=by
  cases hq:P.info? ty with
  |none=>simp [hq] at hsz
  |some q=>
   have hs:q.size=1:=by simpa [hq] using hsz
   have hadd:(⟨b,o',none⟩:Addr).add 0=⟨b,o',none⟩:=by unfold Addr.add;split<;>simp_all
   simp [storeVar,sizeOf,typeInfo,hq,hcl,hs,storeCells,hadd,hw']
 unfold Oper.wp execOp
 simp only [e1,Instr.storeAt,Instr.sureAddr,Sem.run_bind,Sem.run_pure,Result.andThen_ok,hsv]
 generalize hwe:w.setCell ⟨b,o',none⟩ (a.eval o)=w' at*
 have hla:(ai.la r e ts C B b c l Ys').holds X w' u:=⟨g1,hBC,by rw [hsz'];exact hCw,ps,ys.set i (a.eval o),g2,fun q hq=>r.stB (g3 q hq) hcht hn.ok,by rw [←hY1];exact bF.put (hT.ok e2 hcht) (kY.ok g4 hcht),by rw [List.length_set];exact g5,fun x hx=>by
  rcases List.mem_or_eq_of_mem_set hx with hx|hx
  ·exact g6 x hx
  ·rw [hx];exact hv1,by
   rw [ho',List.set_append_right _ _ qO,hfl,Nat.add_sub_cancel_left] at hown
   exact hown,⟨by rw [hsz'];exact g8.1,g8.2⟩⟩
 have ha1:(ai.st Ts1).holds X w' (.agg c0.toArray):=kL.ok (q, .st Ts1) hu2.upd.mem (v:= .agg c0.toArray) ⟨c0,rfl,by rw [←h1.ok.1];exact ha.any_,hone⟩ hcht
 have ha2:(ai.st Ts2).holds X w' (.agg c0.toArray):=by
  obtain ⟨c1,e3,ha1,ho1⟩:=ha1
  injection e3 with e3
  have e3:c0=c1:=by simpa using e3
  subst e3
  have hset:c0.set j u=c0:=by
   apply List.ext_getElem?
   intro k
   rw [List.getElem?_set]
   by_cases hk:j=k
   ·subst hk
    rw [if_pos rfl,hu]
    simp [(List.getElem?_eq_some_iff.1 hu).1]
   ·rw [if_neg hk]
  have:=bF.put (i:=j) hla ha1
  rw [h2.ok.1,hset] at this
  exact ⟨c0,rfl,this,ho1⟩
 refine h.run a w' ⟨h5.size,h5.df,h5.slots,⟨fun p hp=> ?_,h5.mem.far,by rw [hu2.upd.map];exact h5.mem.nodup,h5.mem.below⟩⟩
 rcases hu2.upd.of h5.mem.nodup p hp with rfl|⟨hp,_⟩
 ·refine ⟨l1,l2, .agg c0.toArray,ty',ha2,?_⟩
  rcases hcht.block q (ht.mem.far _ l1) with g|⟨_,g,_⟩
  ·exact g.trans hbq
  ·exact absurd l1 g
 ·exact h5.mem.loc p hp⟩
theorem Fj {α0:Type} {r0:Rp α0} {t:TypeId} {ts0:List TypeId} {C0 s x d bytes:Nat} {y0:α0} {Tl Tx':ai} {Ys0:Nat→List ai} (ss:List Nat) (hB0:w00.heap.size≤B) (hsz:∀ a w,TS w00 X L E n a w→B≤w.heap.size) [hs:ce E s Tl] (ho:∀ {X:List Nat} {w:World} {v:Value},Tl.holds X w v→(ai.to r e ts 0 B l).holds X w v) [hn:dH e ts] [hx:ce E x Tx'] [ax:tw Tx' r0 ts0 C0 [y0]] (hk:r0.k=r.k) (hY:∀ {X:List Nat} {w w':World} {S:Nat→Prop} {ys:List Value} {C:Nat},r0.rd w S y0 ys→bF X w' (Ys0 C) ys) [k:jQ E ss E0] [kL:gG e B L] [kE:gG e B E0] (T:iC P t e r.k bytes)
 (hlen:l.length+1≤1000000) (hby:bytes≤1000) (hd:(Nat.blt d n&& !(E0.map Prod.fst).elem d)=true)
 (h:∀ b c C,B≤C→GR P w00 X L ((d, .la r e ts C B b c l (Ys0 C))::E0) n ops rest cs Q):GR P w00 X L E n ops (⟨some d, .call { callee:= .builtin .append,args:= #[.tmp s, .tmp x],argTypes:= #[t,t] },t0,pos,af,none⟩::rest) cs Q:=⟨fun a w ht=>by
 simp only [Bool.and_eq_true,Bool.not_eq_true'] at hd
 have hBw:=hsz a w ht
 obtain ⟨A,c,ps,es,hps,hrd,hown,hfree⟩:=ho (ht.slots _ hs.mem)
 obtain ⟨A2,c2,ps2,ex,hps2,hrd2,hsl2,hfree2⟩:=ax.ok (ht.slots _ hx.mem)
 obtain ⟨ys,hys⟩:∃ ys,ps2=[(y0,ys)]:=by
  match ps2,hps2 with
  |[(y,ys)],h=>exact ⟨ys,by simp at h;rw [h]⟩
 subst hys
 have hry:=hrd2 (y0,ys) List.mem_cons_self
 have hpos:=T.pos
 have hmx:l.length+[y0].length≤maxLen:=by unfold maxLen;simp only [List.length_cons,List.length_nil];omega
 have h1c:∀ u∈[(y0,ys)].flatMap Prod.snd,u.oneCell'=true:=fun u hu=>by
  obtain ⟨q,hq,hu⟩:=List.mem_flatMap.1 hu
  rw [List.mem_singleton.1 hq] at hu
  exact r0.one hry u hu
 rw [hk] at hsl2
 obtain ⟨A',c',w',hr,h2,h3,h4⟩:=mZ (A:=A) (A2:=A2) T t0 hown hsl2 h1c (by have:=Nat.mul_le_mul (show l.length+[y0].length≤1000000 by simp only [List.length_cons,List.length_nil];omega) hby;omega) hmx hBw
 have hch:vg e B X w w':=⟨h3.os,h3.tape,h3.output,h3.size,fun g hg=>by
  by_cases hA:fC A=some g
  ·obtain ⟨cur,hcur⟩:=hown.type hA
   exact .inr ⟨(hown.blk_ g hA).1,(hfree g hA).2,cur,_,hcur⟩
  ·exact .inl (h3.block g hg (fun e=>hA e.symm))⟩
 have h5:=(ht.keep (E':=E0) ss).chT hch hB0
 obtain ⟨g,rfl⟩:∃ g,A'=some ⟨g,0,none⟩:=by
  rcases h2.form with ⟨_,h0,_⟩|⟨g,h0,_⟩
  ·simp at h0
  ·exact ⟨g,h0⟩
 have hT:(ai.la r e ts w'.heap.size B g c' l (Ys0 w'.heap.size)).holds X w' (.slice (some ⟨g,0,none⟩) (l.length+1) c'):=by
  refine ⟨rfl,Nat.le_trans hBw h3.size,Nat.le_refl _,ps,ys,hps,fun q hq=>r.more (r.stT (hrd q hq) hch (Nat.zero_le _) hn.ok) fun b hb=>⟨hb,hb.1.1⟩,hY hry,(r0.len hry).trans hk,r0.one hry,by simpa using h2,?_⟩
  have hlt:=(h2.blk_ g rfl).2
  rcases h4 g rfl with h5|h5
  ·exact ⟨hlt,(hfree g h5).2⟩
  ·exact ⟨hlt,fun hx=>by have:=ht.mem.far g hx;omega⟩
 refine ⟨wpList_plain rfl fun K hK'=> ?_⟩
 have e1:a.eval (.tmp s)= .slice A l.length c:=es
 have e2:a.eval (.tmp x)= .slice A2 [y0].length c2:=ex
 unfold Oper.wp execOp
 simp only [resolve,invoke,builtin,Sem.run_bind,Sem.run_pure,Result.andThen_ok,List.map_toArray,List.map_cons,List.map_nil,e1,e2,hr]
 exact hK' _ _ ((h g c' w'.heap.size (Nat.le_trans hBw h3.size)).run _ _ (h5.new hd.2 (by rw [←Nat.blt_eq];exact hd.1) hT (Below.refl _ _))).out⟩
theorem H_{y:α} (hY:∀ {X:List Nat} {w:World} {ys:List Value},bF X w Ys ys→r.rd w (cu ts 0 X w) y ys) (h:(ai.la r e ts C B b c l Ys).holds X w v):(ai.to r e ts 0 B (l++[y])).holds X w v:=by
 obtain ⟨rfl,hBC,hCw,ps,ys,h2,h3,h4,h5,h6,h7,h8⟩:=h
 refine ⟨some ⟨b,0,none⟩,c,ps++[(y,ys)],by simp,by simp [h2],fun q hq=> ?_,by simpa using h7,fun g hg=> ?_⟩
 ·rcases List.mem_append.1 hq with hq|hq
  ·exact r.more (h3 q hq) fun _ hb=>hb.1
  ·rw [List.mem_singleton.1 hq]
   exact hY h4
 ·have:b=g:=by simpa [fC] using hg
  rw [←this];exact h8
end
def Ct:Nat→Nat→List Int
 |0,_=>[]
 |k+1,n=>bif n==0 then [] else ((n%4294967296:Nat):Int)::Ct k (n / 4294967296)
theorem tk:∀ (k n:Nat),n≤k→go 4294967296 (n:Int) (Ct k n)
 |0,n,h=>by
  obtain rfl:n=0:=qO
  exact ⟨Dg.nil,rfl,rfl⟩
 |k+1,n,h=>by
  unfold Ct
  by_cases hn:n=0
  ·subst hn
   exact ⟨Dg.nil,rfl,rfl⟩
  ·rw [show (n==0)=false from beq_eq_false_iff_ne.2 hn,cond_false]
   have ih:=tk k (n / 4294967296) qO
   refine ⟨Dg.cons ⟨by omega,by omega⟩ ih.dg,?_,?_⟩
   ·show tl _=_
    have ht:tl (Ct k (n / 4294967296))=Ct k (n / 4294967296):=ih.tr
    unfold tl
    rw [ht]
    by_cases h0:Ct k (n / 4294967296)=[]
    ·rw [if_pos h0,h0]
     have hv:=ih.val
     rw [h0] at hv
     have hv:((n / 4294967296:Nat):Int)=0:=hv.symm
     rw [if_neg qO]
    ·rw [if_neg h0]
   ·show ((n%4294967296:Nat):Int)+4294967296*Go.Proofs.YtcpeiijdgabenaaGreatDoor.val 4294967296 (Ct k (n / 4294967296))=_
    rw [ih.val]
    omega
def G_ (q:Rat):bA:=((decide (q.num<0),Ct q.num.natAbs q.num.natAbs),(false,Ct q.den q.den))
theorem pK (q:Rat):jG q (G_ q):=⟨⟨tk _ _ (Nat.le_refl _),rfl⟩,⟨by rw [Int.natAbs_natCast];exact tk _ _ (Nat.le_refl _),(decide_eq_false qO).symm⟩⟩
theorem Gu {q:Rat} {x:bA} (h:jG q x):x=G_ q:=h.uniq (pK q)
def zz:bA:=((false,[]),(false,[]))
def si (q:Rat) (e:Int):bA:=bif e==0 then G_ q else zz
def dE:List (List UInt8)→List UInt8→Nat
 |[],_=>0
 |w::ws,t=>bif w==t then 1 else (bif dE ws t==0 then 0 else dE ws t+1)
theorem mo:∀ (ws:List (List UInt8)) (t:List UInt8),dE ws t≤ws.length
 |[],_=>Nat.le_refl _
 |w::ws,t=>by
  have:=mo ws t
  unfold dE
  cases w==t
  ·cases dE ws t==0<;>simp<;>omega
  ·simp
def iZ (lo hi:Int) (t:List UInt8):Option Int:=match Lib.atoiAll t with
 | .ok v=>bif (Lib.itoa v==t)&&(decide (lo≤v)&&decide (v≤hi)) then some v else none
 |_=>none
def kM (t:List UInt8):Option bA:=bif (pE 2 t==0)&&s8 (si (dq t) (pE 2 t)) then some (si (dq t) (pE 2 t)) else none
def m4 (t:List UInt8):Option bA:=bif zl t==0 then some (si (dq t / tK) (zl t)) else none
def gW (t:List UInt8):Option (List UInt8):=bif lW t then some t else none
def ua (ws:List (List UInt8)) (t:List UInt8):Option Int:=bif decide (0<dE ws t) then some (dE ws t:Int) else none
end Go.Proofs.YtcpeiijdgabenaaGreatDoor
