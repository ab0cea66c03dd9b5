/- Package parse: read, and readOneMore: a line's words, each by its own rule. -/
import Derived.Test.YtcpeiijdgabenaaGreatDoorET
set_option maxHeartbeats 40000000
set_option maxRecDepth 20000
set_option synthInstance.maxHeartbeats 400000
set_option synthInstance.maxSize 4000
set_option linter.unusedSimpArgs false
set_option linter.unusedVariables false
namespace Go.Proofs.YtcpeiijdgabenaaGreatDoor
open Go Go.RowKit
variable {w:World} {B rf:Nat} {X:List Nat} {v:Value} {cs:List Value} {at_:Int} {Ts:List ai}
section
variable {P:Program} {w00:World} {N:Nat} {L:List Loc} {E:List (Nat×ai)} {d:Nat} {t0:TypeId} {pos:String} {af:Array Edge} {gd:Option (Nat×Bool)}
theorem lG {α:Type} {r:Rp α} {l:List α} {o o1:Operand} {ty:TypeId} {z:Int} {k:Nat} [ho:b_ E o (.rw r tt l)] [hi:b_ E o1 (.is (.int .i64 z))] [kc:KC r k] [ht:cO P ty k] (hz:0≤z∧z≤(l.length:Int)):aR P w00 N L E ⟨some d, .slice ty o (some o1) none none,t0,pos,af,gd⟩ (.rw r tt (l.drop z.toNat)):=by
 constructor
 intro X ρ w hc _ hN hm hsl
 obtain ⟨_,A,n,c,e,h1,h2,h3,h4,h5⟩:=ho.get (X:=X) (w:=w) hc fun p hp e=>hsl p hp qS
 have e1:ρ o= .slice A n c:=by simpa using e
 have e2:ρ o1= .int .i64 z:=hi.get (X:=X) (w:=w) hc fun p hp e=>hsl p hp qS
 obtain ⟨el,hu,hsz⟩:=ht.ok
 have hk:=kc.ok
 have hel:P.underlying ty=some (.slice (P.elem ty)):=by
  have:P.elem ty=el:=by unfold Program.elem;rw [hu]
  rw [this];exact hu
 have hze:(sizeOf (P.elem ty)).run P w= .ok k w:=by
  have:P.elem ty=el:=by unfold Program.elem;rw [hu]
  rw [this]
  cases hq:P.info? el with
  |none=>rw [hq] at hsz;cases hsz
  |some q=>
   rw [hq] at hsz
   have:q.size=k:=by simpa using hsz
   simp [sizeOf,typeInfo,hq,this]
 have hrun:(execOp ρ ⟨some d, .slice ty o (some o1) none none,t0,pos,af,gd⟩).run P w= .ok (.value (.slice (if c=z.toNat then A else A.map (·.add (z.toNat*k))) (n - z.toNat) (c - z.toNat))) w:=by
  unfold execOp
  simp only [Option.map_none,Option.map_some,e1,e2,Sem.run_bind,run_sliceAt_slice w ty _ _ _ _ hel,run_slice_l w ty A n c hel .i64 z hz.1 qO,hze,Result.andThen_ok,Sem.run_pure,sliced]
 unfold Yields
 rw [hrun]
 refine ⟨⟨fun _ _=>trivial,_,n - z.toNat,c - z.toNat,rfl,by rw [List.length_drop];omega,by omega,by omega,fun hA=> ?_,fun hn=> ?_⟩,Below.refl _ _⟩
 ·by_cases hc0:c=z.toNat
  ·omega
  ·rw [if_neg hc0] at hA
   have:=h4 (by
    cases A with
    |none=>rfl
    |some a=>cases hA)
   omega
 ·obtain ⟨b,off,rfl,hb,hcl⟩:=h5 qO
  refine ⟨b,off+z.toNat*k,?_,hb,fun j a ha=> ?_⟩
  ·rw [if_neg qO]
   have:((⟨b,off,none⟩:Addr).add (z.toNat*k))=⟨b,off+z.toNat*k,none⟩:=Addr.add_mid b off _
   simp [this]
  ·rw [List.getElem?_drop] at ha
   have:=hcl (z.toNat+j) a ha
   rw [hk] at this ⊢
   rwa [Nat.add_mul,←Nat.add_assoc] at this
end
theorem dK{σ:Type} {P:Program} {G:World→Prop} {f:FuncId} {Us:List ai} {LT:σ→List Loc} {g:σ→List UInt8→Option σ} (h:uz P G f Us LT g) (hv:(ai.fv f [] Us).holds X w v):(ai.rl P G LT g).holds X w v:=by
 obtain ⟨vs,us,e,h1,h2⟩:=hv
 cases vs with
 |nil=>exact ⟨f,us,Us,e,h2,h⟩
 |cons=>exact h1.elim
inductive GU:List ai→List ai→Prop
 |nil:GU [] []
 |cons {T T':ai} {Ts Ts':List ai} (h:∀ {X:List Nat} {w:World} {v:Value},T.holds X w v→T'.holds X w v) (t:GU Ts Ts'):GU (T::Ts) (T'::Ts')
theorem GU.all{Ts':List ai} (h:GU Ts Ts'):Ts.length=Ts'.length∧∀ {X:List Nat} {w:World} {vs:List Value},bF X w Ts vs→bF X w Ts' vs:=by
 induction h with
 |nil=>exact ⟨rfl,fun h=>h⟩
 |cons h _ ih=>exact ⟨by rw [List.length_cons,List.length_cons,ih.1],fun {X w vs} g=>by cases vs with
  |nil=>exact g.elim
  |cons v vs=>exact ⟨h g.1,ih.2 g.2⟩⟩
theorem i_{Ts':List ai} (h:GU Ts Ts') (hv:(ai.tv Ts).holds X w v):(ai.tv Ts').holds X w v:=by
 obtain ⟨b,c,us,e,hc,hb,ha,hu⟩:=hv
 exact ⟨b,c,us,by rw [←h.all.1];exact e,by rw [←h.all.1];exact hc,hb,h.all.2 ha,hu⟩
def fB {σ:Type}:List (σ→List UInt8→Option σ)→List Wd→Int→σ→Option σ×Int×Int
 |[],[],_,s=>(some s,0,0)
 |[],w::_,_,_=>(none,w.2,90)
 |_::_,[],a,_=>(none,a,90)
 |g::gs,w::ws,a,s=>match g s w.1 with
  |some s'=>fB gs ws a s'
  |none=>(none,w.2,90)
instance:KC Rp.wd.row 1:=⟨rfl⟩
instance:KC (Rp.int .i64) 1:=⟨rfl⟩
instance:KC Rp.wd 2:=⟨rfl⟩
instance {l:List Wd} {a:Int}:az (.ra Rp.lr (l,a)) 0 1 false (.rw Rp.wd tt l):= .cell (g:=Prod.fst) bB.fst inferInstance (inferInstanceAs (fI Rp.wd.row l _))
instance {l:List Wd} {a:Int}:az (.ra Rp.lr (l,a)) 1 1 false (.is (.int .i64 a)):= .cell (g:=Prod.snd) bB.snd inferInstance (inferInstanceAs (fI (Rp.int .i64) a _))
instance {t:List UInt8} {a:Int}:az (.ra Rp.wd (t,a)) 0 1 false (.is (Tx t)):= .cell (g:=Prod.fst) bB.fst ⟨rfl⟩ (inferInstanceAs (fI Rp.str t _))
instance {t:List UInt8} {a:Int}:az (.ra Rp.wd (t,a)) 1 1 false (.is (.int .i64 a)):= .cell (g:=Prod.snd) bB.snd inferInstance (inferInstanceAs (fI (Rp.int .i64) a _))
section
variable {σ:Type} {P:Program} {w00:World} {X:List Nat} {L0:List Loc} {E:List (Nat×ai)} {n:Nat} {ops:Array Oper} {rest:List Oper} {Q:Exit→Act→World→Prop} {cs:List Code} {t0:TypeId} {pos:String} {af:Array Edge} {ats:Array TypeId} {LT:σ→List Loc} {st:σ} {d:Nat}
theorem Gr {G:World→Prop} (L1:List Loc) {p g dg:Nat} {want:Bool} {o:Operand} {t:List UInt8} {gg:σ→List UInt8→Option σ} {L:List Loc} {s2:σ} (hg:gg st t=some s2) (hL:L=L1++(LT st++L0)) [hs:ce E p (.rl P G LT gg)] [ho:b_ E o (.is (Tx t))] (hG:G w00) (hlen:t.length≤65536) (hgd:(ops[g]?).bind (·.dst)=some dg) (hlk:ce E dg (.is (.bool want))) (hd:(Nat.blt d n&&Nat.blt dg n&& !(E.map Prod.fst).elem d)=true)
 (next:GR P w00 X (L1++(LT s2++L0)) ((d, .is (.bool true))::E) n ops rest cs Q):GR P w00 X L E n ops (⟨some d, .call { callee:= .value (.tmp p),args:= #[o],argTypes:=ats },t0,pos,af,some (g,want)⟩::rest) cs Q:=
 AD (gg:=gg) L1 hL hG hlen hgd hlk hd fun s' hs'=>by
  obtain rfl:=hs' _ hg
  rw [hg]
  exact next
theorem Fg {G:World→Prop} (L1:List Loc) {p g dg:Nat} {want:Bool} {o:Operand} {t:List UInt8} {gg:σ→List UInt8→Option σ} {L:List Loc} (hg:gg st t=none) (hL:L=L1++(LT st++L0)) [hs:ce E p (.rl P G LT gg)] [ho:b_ E o (.is (Tx t))] (hG:G w00) (hlen:t.length≤65536) (hgd:(ops[g]?).bind (·.dst)=some dg) (hlk:ce E dg (.is (.bool want))) (hd:(Nat.blt d n&&Nat.blt dg n&& !(E.map Prod.fst).elem d)=true)
 (next:∀ s',GR P w00 X (L1++(LT s'++L0)) ((d, .is (.bool false))::E) n ops rest cs Q):GR P w00 X L E n ops (⟨some d, .call { callee:= .value (.tmp p),args:= #[o],argTypes:=ats },t0,pos,af,some (g,want)⟩::rest) cs Q:=
 AD (gg:=gg) L1 hL hG hlen hgd hlk hd fun s' _=>by
  rw [hg]
  exact next s'
end
theorem ma{σ:Type} {LT:σ→List Loc} [kl:m6 LT] {gs:List (σ→List UInt8→Option σ)} {w0:Wd} {ws:List Wd} {s:σ} (hl:ws.length≤100000) (hg:gs.length≤100) (hw:∀ x∈ws,x.1.length≤65536):j6 Tryz.prog (dk B) 121 LT [.ra Rp.lr (w0::ws,at_), .tv (gs.map fun g=> .rl Tryz.prog (dk B) LT g)] s (fB gs ws w0.2 s).1 (.tup [.is (.int .i64 (fB gs ws w0.2 s).2.1), .is (.int .i64 (fB gs ws w0.2 s).2.2)]):=by
 have hz1:0≤(1:Int)∧(1:Int)≤((w0::ws).length:Int):=⟨by decide,by rw [List.length_cons];omega⟩
 have hw0:(w0::ws)[0]? =some w0:=rfl
 generalize hR:fB gs ws w0.2 s=R
 refine tQ Tryz.func121 rfl Tryz.ntmps121 qE (fun _ _=>by kernel_rfl) fun w00 X L0 w hE hm=> ?_
 simp only [List.cons_append,List.nil_append,bf,Nat.zero_add,Nat.reduceAdd]
 repeat' first|kernel_rfl|apply aF|apply aG|apply aI|apply bQ|apply de|exact bT.nil|exact aZ.nil|exact aY.nil|refine @aZ.cons _ _ _ _ inferInstance ?_|refine @aY.cons _ _ _ inferInstance ?_|apply aD|apply aH|apply aM|apply aN|apply aA|apply aE|refine bw rfl inferInstance (by first|fail) qK ?_|refine bZ rfl inferInstance rfl qK ?_|refine bW rfl inferInstance qK ?_|apply be|apply aq|apply a_|apply a8|apply aB|refine oI rfl ?_|apply bl|apply bO|apply bN|apply eo|apply em|refine eu rfl ?_|apply ep|apply ew|apply bc|exact am|exact jS|exact lG qL|exact cN qL|exact cN hw0|exact fH|exact jM hT|exact dj|exact fg|exact eG|exact fQ qL|exact bG qL|exact aj|exact ab|exact ah|exact aa|exact bI|exact bH|exact ak (b:=true) (u:=false) rfl|exact ak (b:=false) (u:=true) rfl|exact ak rfl|exact au qG|exact bu qG|exact am|exact aK qL|exact ae|exact Cv.rfl'|(intro _;simp only[cP,cQ,cS,List.map,List.cons_append,List.nil_append])|intro _
 refine kd fun a w h=> ?_
 rename_i wE r2
 refine iG (fun k a u=>∃ (i:Nat) (s1:σ),i+k=ws.length∧i≤gs.length∧fB (gs.drop i) (ws.drop i) w0.2 s1=R∧TS w00 (r2::X) ((r2, .ra Rp.lr (w0::ws,at_))::(LT s1++L0)) [(12, .is (.int .i64 (i:Int))),(11, .is (.int .i64 (ws.length:Int))),(10, .rw Rp.wd tt ws),(2, .is (.pointer (some ⟨r2,0,none⟩))),(1, .tv (gs.map fun g=> .rl Tryz.prog (dk B) LT g)),(999, .gh X wE)] 46 a u) ws.length ⟨0,s,by omega,by omega,hR,h.keep [12,11,10,2,1,999]⟩ ?_
 clear h hR
 rintro k a u ⟨i,s1,hi,hig,hR,h⟩
 by_cases hlt:i<ws.length
 ·obtain ⟨x,hx⟩:∃ x,ws[i]? =some x:=⟨_,List.getElem?_eq_getElem hlt⟩
  have hxl:=hw x (List.mem_of_getElem? hx)
  have hwd:ws.drop i=x::ws.drop (i+1):=by
   rw [List.drop_eq_getElem_cons hlt]
   congr 1
   rw [List.getElem?_eq_getElem hlt] at hx
   injection hx
  have hc:decide ((i:Int)<(ws.length:Int))=true:=decide_eq_true qO
  have hw1:IntKind.i64.wrap ((i:Int)+1)=((i+1:Nat):Int):=dh qO qO
  obtain ⟨xt,xa⟩:=x
  by_cases hge:i=gs.length
  ·have hc2:((i:Int)==(((gs.map fun g=>ai.rl Tryz.prog (dk B) LT g).length:Nat):Int))=true:=by rw [List.length_map];exact beq_iff_eq.2 qO
   have hc3:decide ((i:Int)=(((gs.map fun g=>ai.rl Tryz.prog (dk B) LT g).length:Nat):Int))=true:=by rw [List.length_map];exact decide_eq_true qO
   rw [hwd,hge,List.drop_length] at hR
   obtain rfl:(none,xa,90)=R:=hR
   have hs:∀ s2,(none:Option σ)=some s2→s1=s2:=fun s2 h=>by cases h
   refine fh h ?_
   clear h
   repeat' first|kernel_rfl|apply aF|apply aG|apply aI|apply kK (s:=12)|apply b9 (id:=4) [(21,true)] [] 13|(apply FZ;(focus rfl);(focus kernel_rfl))|apply bQ|apply de|exact bT.nil|exact aZ.nil|exact aY.nil|refine @aZ.cons _ _ _ _ inferInstance ?_|refine @aY.cons _ _ _ inferInstance ?_|apply aD|apply aH|apply aM|apply aN|apply aA|apply aE|refine bw rfl inferInstance (by first|fail) qK ?_|refine bZ rfl inferInstance rfl qK ?_|refine bW rfl inferInstance qK ?_|apply be|apply aq|apply a_|apply a8|apply aB|refine pb (LT:=LT) (s':=s1) (L1:=LT s1++L0) rfl hm hs rfl ?_|apply bl|apply bO|apply bN|apply eo|apply em|refine eu rfl ?_|apply ep|apply ew|apply bc|exact am|exact jS|exact lG qL|exact cN qL|exact cN hw0|exact fH|exact jM hT|exact dj|exact fg|exact eG|exact fQ qL|exact bG qL|exact au qL|exact aj|exact ab|exact ah|exact aa|exact bI|exact bH|exact ak (b:=true) (u:=false) rfl|exact ak (b:=false) (u:=true) rfl|exact ak rfl|exact au qG|exact bu qG|exact am|exact aK qL|exact ae|exact Cv.rfl'|(intro _;simp only[cP,cQ,cS,List.map,List.cons_append,List.nil_append])|intro _
  ·obtain ⟨g,hgx⟩:∃ g,gs[i]? =some g:=⟨_,List.getElem?_eq_getElem qO⟩
   have hgd:gs.drop i=g::gs.drop (i+1):=by
    rw [List.drop_eq_getElem_cons qO]
    congr 1
    rw [List.getElem?_eq_getElem qO] at hgx
    injection hgx
   have hT:(gs.map fun g=>ai.rl Tryz.prog (dk B) LT g)[i]? =some (ai.rl Tryz.prog (dk B) LT g):=by rw [List.getElem?_map,hgx];rfl
   have hc3:decide ((i:Int)=(((gs.map fun g=>ai.rl Tryz.prog (dk B) LT g).length:Nat):Int))=false:=by rw [List.length_map];exact decide_eq_false qO
   have hc2:((i:Int)==(((gs.map fun g=>ai.rl Tryz.prog (dk B) LT g).length:Nat):Int))=false:=by rw [List.length_map];exact beq_eq_false_iff_ne.2 qO
   rw [hwd,hgd] at hR
   cases hq:g s1 xt with
   |none=>
    have hR':fB (g::gs.drop (i+1)) ((xt,xa)::ws.drop (i+1)) w0.2 s1=(none,xa,90):=by
     unfold fB
     dsimp only
     rw [hq]
    rw [hR'] at hR
    subst hR
    have hs:∀ (s':σ) s2,(none:Option σ)=some s2→s'=s2:=fun s' s2 h=>by cases h
    refine fh h ?_
    clear h
    repeat' first|kernel_rfl|apply b9 (id:=4) [(21,false)] [] 11|refine bw rfl inferInstance (by first|exact ak (b:=false) (u:=true) rfl|exact ak (b:=true) (u:=false) rfl) qK ?_|(refine Fg (LT:=LT) (st:=s1) (L0:=L0) [(_,_),(_,_)] hq rfl hE hxl rfl inferInstance qK fun s'=> ?_;simp only [List.cons_append,List.nil_append])|apply aF|apply aG|apply aI|apply kK (s:=12)|apply bQ|apply de|exact bT.nil|exact aZ.nil|exact aY.nil|refine @aZ.cons _ _ _ _ inferInstance ?_|refine @aY.cons _ _ _ inferInstance ?_|apply aD|apply aH|apply aM|apply aN|apply aA|apply aE|refine bw rfl inferInstance (by first|fail) qK ?_|refine bZ rfl inferInstance rfl qK ?_|refine bW rfl inferInstance qK ?_|apply be|apply aq|apply a_|apply a8|apply aB|refine pb (LT:=LT) (s':=s') (L1:=LT s'++L0) rfl hm (hs _) rfl ?_|apply bl|apply bO|apply bN|apply eo|apply em|refine eu rfl ?_|apply ep|apply ew|apply bc|exact am|exact jS|exact lG qL|exact cN qL|exact cN hw0|exact fH|exact jM hT|exact dj|exact fg|exact eG|exact fQ qL|exact bG qL|exact au qL|exact aj|exact ab|exact ah|exact aa|exact bI|exact bH|exact ak (b:=true) (u:=false) rfl|exact ak (b:=false) (u:=true) rfl|exact ak rfl|exact au qG|exact bu qG|exact am|exact aK qL|exact ae|exact Cv.rfl'|(intro _;simp only[cP,cQ,cS,List.map,List.cons_append,List.nil_append])|intro _
   |some s2=>
    have hR':fB (g::gs.drop (i+1)) ((xt,xa)::ws.drop (i+1)) w0.2 s1=fB (gs.drop (i+1)) (ws.drop (i+1)) w0.2 s2:=by
     conv=>lhs;unfold fB
     dsimp only
     rw [hq]
    rw [hR'] at hR
    refine fh h ?_
    clear h
    repeat' first|kernel_rfl|apply b9 (id:=4) [(21,false)] [] 11|refine bw rfl inferInstance (by first|exact ak (b:=false) (u:=true) rfl|exact ak (b:=true) (u:=false) rfl) qK ?_|(refine Gr (LT:=LT) (st:=s1) (L0:=L0) [(_,_),(_,_)] hq rfl hE hxl rfl inferInstance qK ?_;simp only [List.cons_append,List.nil_append])|exact iz fun _ _ h=>⟨k - 1,by omega,i+1,s2,by omega,by omega,hR,h.drop.keep [12,11,10,2,1,999]⟩|apply aF|apply aG|apply aI|apply kK (s:=12)|apply bQ|apply de|exact bT.nil|exact aZ.nil|exact aY.nil|refine @aZ.cons _ _ _ _ inferInstance ?_|refine @aY.cons _ _ _ inferInstance ?_|apply aD|apply aH|apply aM|apply aN|apply aA|apply aE|refine bw rfl inferInstance (by first|fail) qK ?_|refine bZ rfl inferInstance rfl qK ?_|refine bW rfl inferInstance qK ?_|apply be|apply aq|apply a_|apply a8|apply aB|refine oI rfl ?_|apply bl|apply bO|apply bN|apply eo|apply em|refine eu rfl ?_|apply ep|apply ew|apply bc|exact am|exact jS|exact lG qL|exact cN qL|exact cN hw0|exact fH|exact jM hT|exact dj|exact fg|exact eG|exact fQ qL|exact bG qL|exact au qL|exact aj|exact ab|exact ah|exact aa|exact bI|exact bH|exact ak (b:=true) (u:=false) rfl|exact ak (b:=false) (u:=true) rfl|exact ak rfl|exact au qG|exact bu qG|exact am|exact aK qL|exact ae|exact Cv.rfl'|(intro _;simp only[cP,cQ,cS,List.map,List.cons_append,List.nil_append])|intro _
 ·have hie:i=ws.length:=qO
  have hc:decide ((i:Int)<(ws.length:Int))=false:=decide_eq_false qO
  have hwl:IntKind.i64.wrap (((w0::ws).length:Int) - 1)=(ws.length:Int):=by
   rw [List.length_cons]
   have:(((ws.length+1:Nat):Int) - 1)=(ws.length:Int):=qO
   rw [this]
   exact dh qO qO
  by_cases hge:i=gs.length
  ·have hc2:decide ((ws.length:Int)<(((gs.map fun g=>ai.rl Tryz.prog (dk B) LT g).length:Nat):Int))=false:=by rw [List.length_map];exact decide_eq_false qO
   rw [show gs.drop i=[] by rw [hge,List.drop_length],show ws.drop i=[] by rw [hie,List.drop_length]] at hR
   obtain rfl:(some s1,0,0)=R:=hR
   have hs:∀ s2,some s1=some s2→s1=s2:=fun s2 h=>by injection h
   refine fh h ?_
   clear h
   repeat' first|kernel_rfl|apply aF|apply aG|apply aI|apply kK (s:=12)|apply bQ|apply de|exact bT.nil|exact aZ.nil|exact aY.nil|refine @aZ.cons _ _ _ _ inferInstance ?_|refine @aY.cons _ _ _ inferInstance ?_|apply aD|apply aH|apply aM|apply aN|apply aA|apply aE|refine bw rfl inferInstance (by first|fail) qK ?_|refine bZ rfl inferInstance rfl qK ?_|refine bW rfl inferInstance qK ?_|apply be|apply aq|apply a_|apply a8|apply aB|refine pb (LT:=LT) (s':=s1) (L1:=LT s1++L0) rfl hm hs rfl ?_|apply bl|apply bO|apply bN|apply eo|apply em|refine eu rfl ?_|apply ep|apply ew|apply bc|exact am|exact jS|exact lG qL|exact cN qL|exact cN hw0|exact fH|exact jM hT|exact dj|exact fg|exact eG|exact fQ qL|exact bG qL|exact aj|exact ab|exact ah|exact aa|exact bI|exact bH|exact ak (b:=true) (u:=false) rfl|exact ak (b:=false) (u:=true) rfl|exact ak rfl|exact au qG|exact bu qG|exact am|exact aK qL|exact ae|exact Cv.rfl'|(intro _;simp only[cP,cQ,cS,List.map,List.cons_append,List.nil_append])|intro _
  ·have hc2:decide ((ws.length:Int)<(((gs.map fun g=>ai.rl Tryz.prog (dk B) LT g).length:Nat):Int))=true:=by rw [List.length_map];exact decide_eq_true qO
   obtain ⟨g,hgx⟩:∃ g,gs[i]? =some g:=⟨_,List.getElem?_eq_getElem qO⟩
   have hgd:gs.drop i=g::gs.drop (i+1):=List.drop_eq_getElem_cons qO |>.trans (by
    congr 1
    rw [List.getElem?_eq_getElem qO] at hgx
    injection hgx)
   rw [hgd,show ws.drop i=[] by rw [hie,List.drop_length]] at hR
   obtain rfl:(none,w0.2,90)=R:=hR
   have hs:∀ s2,(none:Option σ)=some s2→s1=s2:=fun s2 h=>by cases h
   obtain ⟨w0t,w0a⟩:=w0
   refine fh h ?_
   clear h
   repeat' first|kernel_rfl|apply aF|apply aG|apply aI|apply kK (s:=12)|apply bQ|apply de|exact bT.nil|exact aZ.nil|exact aY.nil|refine @aZ.cons _ _ _ _ inferInstance ?_|refine @aY.cons _ _ _ inferInstance ?_|apply aD|apply aH|apply aM|apply aN|apply aA|apply aE|refine bw rfl inferInstance (by first|fail) qK ?_|refine bZ rfl inferInstance rfl qK ?_|refine bW rfl inferInstance qK ?_|apply be|apply aq|apply a_|apply a8|apply aB|refine pb (LT:=LT) (s':=s1) (L1:=LT s1++L0) rfl hm hs rfl ?_|apply bl|apply bO|apply bN|apply eo|apply em|refine eu rfl ?_|apply ep|apply ew|apply bc|exact am|exact jS|exact lG qL|exact cN qL|exact cN hw0|exact fH|exact jM hT|exact dj|exact fg|exact eG|exact fQ qL|exact bG qL|exact aj|exact ab|exact ah|exact aa|exact bI|exact bH|exact ak (b:=true) (u:=false) rfl|exact ak (b:=false) (u:=true) rfl|exact ak rfl|exact au qG|exact bu qG|exact am|exact aK qL|exact ae|exact Cv.rfl'|(intro _;simp only[cP,cQ,cS,List.map,List.cons_append,List.nil_append])|intro _
def eS {σ:Type} (are most:Int) (gs:List (σ→List UInt8→Option σ)) (ws:List Wd) (a:Int) (s:σ):Option σ×Int×Int:=bif decide (most≤are) then (none,a,3) else fB gs ws a s
instance {l:Ln}:az (.ra Rp.lr l) 0 2 true (.ra Rp.lr l):= .whole inferInstance
theorem fO{σ:Type} {LT:σ→List Loc} [kl:m6 LT] {are most:Int} {gs:List (σ→List UInt8→Option σ)} {w0:Wd} {ws:List Wd} {s:σ} (hl:ws.length≤100000) (hg:gs.length≤100) (hw:∀ x∈ws,x.1.length≤65536):j6 Tryz.prog (dk B) 114 LT [.ra Rp.lr (w0::ws,at_), .is (.int .i64 are), .is (.int .i64 most), .tv (gs.map fun g=> .rl Tryz.prog (dk B) LT g)] s (eS are most gs ws w0.2 s).1 (.tup [.is (.int .i64 (eS are most gs ws w0.2 s).2.1), .is (.int .i64 (eS are most gs ws w0.2 s).2.2)]):=by
 have cr:=ma (B:=B) (LT:=LT) (gs:=gs) (w0:=w0) (ws:=ws) (at_:=at_) (s:=s) hl hg hw
 have hw0:(w0::ws)[0]? =some w0:=rfl
 unfold eS
 cases hc:decide (most≤are) with
 |true=>
  obtain ⟨w0t,w0a⟩:=w0
  simp only [cond_true]
  have hs:∀ s2,(none:Option σ)=some s2→s=s2:=fun s2 h=>by cases h
  refine tQ Tryz.func114 rfl Tryz.ntmps114 qE (fun _ _=>by kernel_rfl) fun w00 X L0 w hE hm=> ?_
  simp only [List.cons_append,List.nil_append,bf,Nat.zero_add,Nat.reduceAdd]
  repeat' first|kernel_rfl|apply aF|apply aG|apply aI|apply aD|apply aH|apply aM|apply aN|apply aA|apply aE|apply be|apply aq|apply a_|apply a8|apply aB|refine pb (LT:=LT) (s':=s) (L1:=LT s++L0) rfl hm hs rfl ?_|apply bl|apply bO|apply bN|apply eo|apply em|refine eu rfl ?_|apply ep|apply ew|apply bc|exact cN hw0|exact fg|exact eG|exact aj|exact ab|exact ah|exact aa|exact aJ|exact bP qG|exact aK qL|exact ae|exact Cv.rfl'|intro _
 |false=>
  simp only [cond_false]
  generalize fB gs ws w0.2 s=R at*
  refine tQ Tryz.func114 rfl Tryz.ntmps114 qE (fun _ _=>by kernel_rfl) fun w00 X L0 w hE hm=> ?_
  simp only [List.cons_append,List.nil_append,bf,Nat.zero_add,Nat.reduceAdd]
  repeat' first|kernel_rfl|(refine lR (LT:=LT) (st:=s) (L0:=L0) (ks:=[0,0]) [(_,_)] rfl hE cr qK fun s' hs'=> ?_;simp only [List.cons_append,List.nil_append])|apply aF|apply aG|apply aI|apply aD|apply aH|apply aM|apply aN|apply aA|apply aE|apply be|apply aq|apply a_|apply a8|apply aB|refine pb (LT:=LT) (s':=s') (L1:=LT s'++L0) rfl hm hs' rfl ?_|apply bl|apply bO|apply bN|apply eo|apply em|refine eu rfl ?_|apply ep|apply ew|apply bc|exact cN hw0|exact fg|exact eG|exact aj|exact ab|exact ah|exact aa|exact aJ|exact bP qG|exact aK qL|exact ae|exact Cv.rfl'|intro _
def EV (d:ar) (x:List UInt8):ar:=(x,d.2.1,d.2.2.1,d.2.2.2.1,d.2.2.2.2.1,d.2.2.2.2.2.1,d.2.2.2.2.2.2.1,d.2.2.2.2.2.2.2.1,d.2.2.2.2.2.2.2.2.1,d.2.2.2.2.2.2.2.2.2.1,d.2.2.2.2.2.2.2.2.2.2.1,d.2.2.2.2.2.2.2.2.2.2.2.1,d.2.2.2.2.2.2.2.2.2.2.2.2)
def xA (d:ar) (x:List UInt8):ar:=(d.1,x,d.2.2.1,d.2.2.2.1,d.2.2.2.2.1,d.2.2.2.2.2.1,d.2.2.2.2.2.2.1,d.2.2.2.2.2.2.2.1,d.2.2.2.2.2.2.2.2.1,d.2.2.2.2.2.2.2.2.2.1,d.2.2.2.2.2.2.2.2.2.2.1,d.2.2.2.2.2.2.2.2.2.2.2.1,d.2.2.2.2.2.2.2.2.2.2.2.2)
def pX (d:ar) (x:bA):ar:=(d.1,d.2.1,d.2.2.1,x,d.2.2.2.2.1,d.2.2.2.2.2.1,d.2.2.2.2.2.2.1,d.2.2.2.2.2.2.2.1,d.2.2.2.2.2.2.2.2.1,d.2.2.2.2.2.2.2.2.2.1,d.2.2.2.2.2.2.2.2.2.2.1,d.2.2.2.2.2.2.2.2.2.2.2.1,d.2.2.2.2.2.2.2.2.2.2.2.2)
def Hm (d:ar) (x:bA):ar:=(d.1,d.2.1,d.2.2.1,d.2.2.2.1,x,d.2.2.2.2.2.1,d.2.2.2.2.2.2.1,d.2.2.2.2.2.2.2.1,d.2.2.2.2.2.2.2.2.1,d.2.2.2.2.2.2.2.2.2.1,d.2.2.2.2.2.2.2.2.2.2.1,d.2.2.2.2.2.2.2.2.2.2.2.1,d.2.2.2.2.2.2.2.2.2.2.2.2)
def EF (d:ar) (x:Int):ar:=(d.1,d.2.1,d.2.2.1,d.2.2.2.1,d.2.2.2.2.1,x,d.2.2.2.2.2.2.1,d.2.2.2.2.2.2.2.1,d.2.2.2.2.2.2.2.2.1,d.2.2.2.2.2.2.2.2.2.1,d.2.2.2.2.2.2.2.2.2.2.1,d.2.2.2.2.2.2.2.2.2.2.2.1,d.2.2.2.2.2.2.2.2.2.2.2.2)
def ub (d:ar) (x:Int):ar:=(d.1,d.2.1,d.2.2.1,d.2.2.2.1,d.2.2.2.2.1,d.2.2.2.2.2.1,x,d.2.2.2.2.2.2.2.1,d.2.2.2.2.2.2.2.2.1,d.2.2.2.2.2.2.2.2.2.1,d.2.2.2.2.2.2.2.2.2.2.1,d.2.2.2.2.2.2.2.2.2.2.2.1,d.2.2.2.2.2.2.2.2.2.2.2.2)
def sC (d:ar) (x:bA):ar:=(d.1,d.2.1,d.2.2.1,d.2.2.2.1,d.2.2.2.2.1,d.2.2.2.2.2.1,d.2.2.2.2.2.2.1,x,d.2.2.2.2.2.2.2.2.1,d.2.2.2.2.2.2.2.2.2.1,d.2.2.2.2.2.2.2.2.2.2.1,d.2.2.2.2.2.2.2.2.2.2.2.1,d.2.2.2.2.2.2.2.2.2.2.2.2)
def Bj (d:ar) (x:bA):ar:=(d.1,d.2.1,d.2.2.1,d.2.2.2.1,d.2.2.2.2.1,d.2.2.2.2.2.1,d.2.2.2.2.2.2.1,d.2.2.2.2.2.2.2.1,x,d.2.2.2.2.2.2.2.2.2.1,d.2.2.2.2.2.2.2.2.2.2.1,d.2.2.2.2.2.2.2.2.2.2.2.1,d.2.2.2.2.2.2.2.2.2.2.2.2)
def EY (d:ar) (x:Int):ar:=(d.1,d.2.1,d.2.2.1,d.2.2.2.1,d.2.2.2.2.1,d.2.2.2.2.2.1,d.2.2.2.2.2.2.1,d.2.2.2.2.2.2.2.1,d.2.2.2.2.2.2.2.2.1,x,d.2.2.2.2.2.2.2.2.2.2.1,d.2.2.2.2.2.2.2.2.2.2.2.1,d.2.2.2.2.2.2.2.2.2.2.2.2)
abbrev FA (B:Nat) (d:ar):List ai:=[.is (Tx (d.1)), .is (Tx (d.2.1)), .to (Rp.frn B cq) 122 [128] 0 B (d.2.2.1), .is (.bool ((d.2.2.2.1)).1.1), .tc (Rp.frn B Rp.limbs) [128] 0 ((d.2.2.2.1)).1.2, .is (.bool ((d.2.2.2.1)).2.1), .tc (Rp.frn B Rp.limbs) [128] 0 ((d.2.2.2.1)).2.2, .is (.bool ((d.2.2.2.2.1)).1.1), .tc (Rp.frn B Rp.limbs) [128] 0 ((d.2.2.2.2.1)).1.2, .is (.bool ((d.2.2.2.2.1)).2.1), .tc (Rp.frn B Rp.limbs) [128] 0 ((d.2.2.2.2.1)).2.2, .is (.int .i64 (d.2.2.2.2.2.1)), .is (.int .i64 (d.2.2.2.2.2.2.1)), .is (.bool ((d.2.2.2.2.2.2.2.1)).1.1), .tc (Rp.frn B Rp.limbs) [128] 0 ((d.2.2.2.2.2.2.2.1)).1.2, .is (.bool ((d.2.2.2.2.2.2.2.1)).2.1), .tc (Rp.frn B Rp.limbs) [128] 0 ((d.2.2.2.2.2.2.2.1)).2.2, .is (.bool ((d.2.2.2.2.2.2.2.2.1)).1.1), .tc (Rp.frn B Rp.limbs) [128] 0 ((d.2.2.2.2.2.2.2.2.1)).1.2, .is (.bool ((d.2.2.2.2.2.2.2.2.1)).2.1), .tc (Rp.frn B Rp.limbs) [128] 0 ((d.2.2.2.2.2.2.2.2.1)).2.2, .is (.int .i64 (d.2.2.2.2.2.2.2.2.2.1)), .to (Rp.frn B d7) 124 [128] 0 B (d.2.2.2.2.2.2.2.2.2.2.1), .to (Rp.frn B Rp.str) 9 [] 0 B (d.2.2.2.2.2.2.2.2.2.2.2.1), .to (Rp.frn B cU) 80 [130,82,132,134,136,128] 0 B (d.2.2.2.2.2.2.2.2.2.2.2.2)]
def yV:List (ar→List UInt8→Option ar):=[fun s t=>(gW t).map (EV s),fun s t=>(gW t).map (xA s)]
def yK:List (ar→List UInt8→Option ar):=[fun s t=>(m4 t).map (pX s)]
def xU:List (ar→List UInt8→Option ar):=[fun s t=>(m4 t).map (Hm s)]
def yn:List (ar→List UInt8→Option ar):=[fun s t=>(iZ 0 3 t).map (EF s)]
def za:List (ar→List UInt8→Option ar):=[fun s t=>(iZ 0 40 t).map (ub s)]
def yh:List (ar→List UInt8→Option ar):=[fun s t=>(m4 t).map (sC s),fun s t=>(kM t).map (Bj s),fun s t=>(iZ 0 40 t).map (EY s)]
theorem Fq{w0:Wd} {ws:List Wd} {d:ar} (hl:ws.length≤100000) (hw:∀ x∈ws,x.1.length≤65536):j6 Tryz.prog (dk B) 75 (fun d=>[(rf, .st (FA B d))]) [.is (.pointer (some ⟨rf,0,none⟩)), .is (.int .u8 1), .ra Rp.lr (w0::ws,at_)] d (fB yV ws w0.2 d).1 (.tup [.is (.int .i64 (fB yV ws w0.2 d).2.1), .is (.int .i64 (fB yV ws w0.2 d).2.2)]):=by
 have cr:j6 Tryz.prog (dk B) 121 (fun d=>[(rf, .st (FA B d))]) [.ra Rp.lr (w0::ws,at_), .tf [.fv 161 [] [.pt (.is (.pointer (some ⟨rf,0,none⟩)))], .fv 161 [] [.pt (.is (.pointer (some ⟨rf,1,none⟩)))]]] d (fB yV ws w0.2 d).1 (.tup [.is (.int .i64 (fB yV ws w0.2 d).2.1), .is (.int .i64 (fB yV ws w0.2 d).2.2)]):=
  (ma (B:=B) (LT:=(fun d=>[(rf, .st (FA B d))])) (gs:=yV) (w0:=w0) (ws:=ws) (at_:=at_) (s:=d) hl qD hw).args fun {X w vs} h=>by
    obtain ⟨v,u,rfl,h1,h2⟩:=h.two
    exact ⟨h1,i_ (.cons (dK (eY (r:=rf) (Ts:=FA B) (LR:=fun _=>[]) (u:=EV) (fun _ _=>rfl) (fun s a=>⟨rfl,(by decide:0<25)⟩))) (.cons (dK (eY (r:=rf) (Ts:=FA B) (LR:=fun _=>[]) (u:=xA) (fun _ _=>rfl) (fun s a=>⟨rfl,(by decide:1<25)⟩))) .nil)) (jd h2),trivial⟩
 generalize fB yV ws w0.2 d=R at*
 refine tQ Tryz.func75 rfl Tryz.ntmps75 qE (fun _ _=>by kernel_rfl) fun w00 X L0 w hE hm=> ?_
 simp only [List.cons_append,List.nil_append,bf,Nat.zero_add,Nat.reduceAdd]
 repeat' first|kernel_rfl|apply cR (id:=3) [] [] 10 [(12,11)]|apply kV|(refine lR (LT:=(fun d=>[(rf, .st (FA B d))])) (st:=d) (L0:=L0) (ks:=[0,0]) [(_,_)] rfl hE cr qK fun s' hs'=> ?_;simp only [List.cons_append,List.nil_append])|apply aF|apply aG|apply aI|apply bQ|apply de|exact bT.nil|exact aZ.nil|exact aY.nil|apply aD|apply aH|apply aM|apply aN|apply aA|apply aE|apply be|apply aq|apply a_|apply a8|apply aB|refine pb (LT:=(fun d=>[(rf, .st (FA B d))])) (s':=s') (L1:=(rf, .st (FA B s'))::L0) rfl hm hs' rfl ?_|apply bl|apply bO|apply bN|apply eo|apply em|refine eu rfl ?_|apply ep|apply ew|apply bc|exact bn|exact sc trivial fw|exact sc trivial eO|exact sc trivial ee|exact sc trivial g_|exact eJ rfl rfl|exact au rfl|exact aj|exact ab|exact ah|exact aa|exact aJ|exact au qG|exact ae|exact Cv.rfl'|(intro _;simp only[cP,cQ,cS,List.map,List.cons_append,List.nil_append])|intro _
theorem FI{w0:Wd} {ws:List Wd} {d:ar} (hl:ws.length≤100000) (hw:∀ x∈ws,x.1.length≤65536):j6 Tryz.prog (dk B) 75 (fun d=>[(rf, .st (FA B d))]) [.is (.pointer (some ⟨rf,0,none⟩)), .is (.int .u8 3), .ra Rp.lr (w0::ws,at_)] d (fB yK ws w0.2 d).1 (.tup [.is (.int .i64 (fB yK ws w0.2 d).2.1), .is (.int .i64 (fB yK ws w0.2 d).2.2)]):=by
 have cr:j6 Tryz.prog (dk B) 121 (fun d=>[(rf, .st (FA B d))]) [.ra Rp.lr (w0::ws,at_), .tf [.fv 162 [] [.pt (.is (.pointer (some ⟨rf,3,none⟩)))]]] d (fB yK ws w0.2 d).1 (.tup [.is (.int .i64 (fB yK ws w0.2 d).2.1), .is (.int .i64 (fB yK ws w0.2 d).2.2)]):=
  (ma (B:=B) (LT:=(fun d=>[(rf, .st (FA B d))])) (gs:=yK) (w0:=w0) (ws:=ws) (at_:=at_) (s:=d) hl qD hw).args fun {X w vs} h=>by
    obtain ⟨v,u,rfl,h1,h2⟩:=h.two
    exact ⟨h1,i_ (.cons (dK (i7 (r:=rf) (Ts:=FA B) (LR:=fun _=>[]) (u:=pX) (fun _ _=>rfl) (fun s a=>⟨_,_,_,⟨rfl,(by decide:3<25)⟩,⟨rfl,(by decide:4<25)⟩,⟨rfl,(by decide:5<25)⟩,⟨rfl,(by decide:6<25)⟩⟩))) .nil) (jd h2),trivial⟩
 generalize fB yK ws w0.2 d=R at*
 refine tQ Tryz.func75 rfl Tryz.ntmps75 qE (fun _ _=>by kernel_rfl) fun w00 X L0 w hE hm=> ?_
 simp only [List.cons_append,List.nil_append,bf,Nat.zero_add,Nat.reduceAdd]
 repeat' first|kernel_rfl|apply cR (id:=5) [] [] 6 [(8,7)]|apply kV|(refine lR (LT:=(fun d=>[(rf, .st (FA B d))])) (st:=d) (L0:=L0) (ks:=[0,0]) [(_,_)] rfl hE cr qK fun s' hs'=> ?_;simp only [List.cons_append,List.nil_append])|apply aF|apply aG|apply aI|apply bQ|apply de|exact bT.nil|exact aZ.nil|exact aY.nil|apply aD|apply aH|apply aM|apply aN|apply aA|apply aE|apply be|apply aq|apply a_|apply a8|apply aB|refine pb (LT:=(fun d=>[(rf, .st (FA B d))])) (s':=s') (L1:=(rf, .st (FA B s'))::L0) rfl hm hs' rfl ?_|apply bl|apply bO|apply bN|apply eo|apply em|refine eu rfl ?_|apply ep|apply ew|apply bc|exact bn|exact sc trivial fw|exact sc trivial eO|exact sc trivial ee|exact sc trivial g_|exact eJ rfl rfl|exact au rfl|exact aj|exact ab|exact ah|exact aa|exact aJ|exact au qG|exact ae|exact Cv.rfl'|(intro _;simp only[cP,cQ,cS,List.map,List.cons_append,List.nil_append])|intro _
theorem Gk{w0:Wd} {ws:List Wd} {d:ar} (hl:ws.length≤100000) (hw:∀ x∈ws,x.1.length≤65536):j6 Tryz.prog (dk B) 75 (fun d=>[(rf, .st (FA B d))]) [.is (.pointer (some ⟨rf,0,none⟩)), .is (.int .u8 4), .ra Rp.lr (w0::ws,at_)] d (fB xU ws w0.2 d).1 (.tup [.is (.int .i64 (fB xU ws w0.2 d).2.1), .is (.int .i64 (fB xU ws w0.2 d).2.2)]):=by
 have cr:j6 Tryz.prog (dk B) 121 (fun d=>[(rf, .st (FA B d))]) [.ra Rp.lr (w0::ws,at_), .tf [.fv 162 [] [.pt (.is (.pointer (some ⟨rf,7,none⟩)))]]] d (fB xU ws w0.2 d).1 (.tup [.is (.int .i64 (fB xU ws w0.2 d).2.1), .is (.int .i64 (fB xU ws w0.2 d).2.2)]):=
  (ma (B:=B) (LT:=(fun d=>[(rf, .st (FA B d))])) (gs:=xU) (w0:=w0) (ws:=ws) (at_:=at_) (s:=d) hl qD hw).args fun {X w vs} h=>by
    obtain ⟨v,u,rfl,h1,h2⟩:=h.two
    exact ⟨h1,i_ (.cons (dK (i7 (r:=rf) (Ts:=FA B) (LR:=fun _=>[]) (u:=Hm) (fun _ _=>rfl) (fun s a=>⟨_,_,_,⟨rfl,(by decide:7<25)⟩,⟨rfl,(by decide:8<25)⟩,⟨rfl,(by decide:9<25)⟩,⟨rfl,(by decide:10<25)⟩⟩))) .nil) (jd h2),trivial⟩
 generalize fB xU ws w0.2 d=R at*
 refine tQ Tryz.func75 rfl Tryz.ntmps75 qE (fun _ _=>by kernel_rfl) fun w00 X L0 w hE hm=> ?_
 simp only [List.cons_append,List.nil_append,bf,Nat.zero_add,Nat.reduceAdd]
 repeat' first|kernel_rfl|apply cR (id:=7) [] [] 6 [(8,7)]|apply kV|(refine lR (LT:=(fun d=>[(rf, .st (FA B d))])) (st:=d) (L0:=L0) (ks:=[0,0]) [(_,_)] rfl hE cr qK fun s' hs'=> ?_;simp only [List.cons_append,List.nil_append])|apply aF|apply aG|apply aI|apply bQ|apply de|exact bT.nil|exact aZ.nil|exact aY.nil|apply aD|apply aH|apply aM|apply aN|apply aA|apply aE|apply be|apply aq|apply a_|apply a8|apply aB|refine pb (LT:=(fun d=>[(rf, .st (FA B d))])) (s':=s') (L1:=(rf, .st (FA B s'))::L0) rfl hm hs' rfl ?_|apply bl|apply bO|apply bN|apply eo|apply em|refine eu rfl ?_|apply ep|apply ew|apply bc|exact bn|exact sc trivial fw|exact sc trivial eO|exact sc trivial ee|exact sc trivial g_|exact eJ rfl rfl|exact au rfl|exact aj|exact ab|exact ah|exact aa|exact aJ|exact au qG|exact ae|exact Cv.rfl'|(intro _;simp only[cP,cQ,cS,List.map,List.cons_append,List.nil_append])|intro _
theorem FB{w0:Wd} {ws:List Wd} {d:ar} (hl:ws.length≤100000) (hw:∀ x∈ws,x.1.length≤65536):j6 Tryz.prog (dk B) 75 (fun d=>[(rf, .st (FA B d))]) [.is (.pointer (some ⟨rf,0,none⟩)), .is (.int .u8 5), .ra Rp.lr (w0::ws,at_)] d (fB yn ws w0.2 d).1 (.tup [.is (.int .i64 (fB yn ws w0.2 d).2.1), .is (.int .i64 (fB yn ws w0.2 d).2.2)]):=by
 have cr:j6 Tryz.prog (dk B) 121 (fun d=>[(rf, .st (FA B d))]) [.ra Rp.lr (w0::ws,at_), .tf [.fv 169 [] [.pt (.is (.pointer (some ⟨rf,11,none⟩))), .pt (.is (.int .i64 0)), .pt (.is (.int .i64 3))]]] d (fB yn ws w0.2 d).1 (.tup [.is (.int .i64 (fB yn ws w0.2 d).2.1), .is (.int .i64 (fB yn ws w0.2 d).2.2)]):=
  (ma (B:=B) (LT:=(fun d=>[(rf, .st (FA B d))])) (gs:=yn) (w0:=w0) (ws:=ws) (at_:=at_) (s:=d) hl qD hw).args fun {X w vs} h=>by
    obtain ⟨v,u,rfl,h1,h2⟩:=h.two
    exact ⟨h1,i_ (.cons (dK (lz (r:=rf) (Ts:=FA B) (LR:=fun _=>[]) (u:=EF) (fun _ _=>rfl) (fun s a=>⟨rfl,(by decide:11<25)⟩))) .nil) (jd h2),trivial⟩
 generalize fB yn ws w0.2 d=R at*
 refine tQ Tryz.func75 rfl Tryz.ntmps75 qE (fun _ _=>by kernel_rfl) fun w00 X L0 w hE hm=> ?_
 simp only [List.cons_append,List.nil_append,bf,Nat.zero_add,Nat.reduceAdd]
 repeat' first|kernel_rfl|apply cR (id:=9) [] [] 6 [(8,7)]|apply kV|(refine lR (LT:=(fun d=>[(rf, .st (FA B d))])) (st:=d) (L0:=L0) (ks:=[0,0]) [(_,_)] rfl hE cr qK fun s' hs'=> ?_;simp only [List.cons_append,List.nil_append])|apply aF|apply aG|apply aI|apply bQ|apply de|exact bT.nil|exact aZ.nil|exact aY.nil|apply aD|apply aH|apply aM|apply aN|apply aA|apply aE|apply be|apply aq|apply a_|apply a8|apply aB|refine pb (LT:=(fun d=>[(rf, .st (FA B d))])) (s':=s') (L1:=(rf, .st (FA B s'))::L0) rfl hm hs' rfl ?_|apply bl|apply bO|apply bN|apply eo|apply em|refine eu rfl ?_|apply ep|apply ew|apply bc|exact bn|exact sc trivial fw|exact sc trivial eO|exact sc trivial ee|exact sc trivial g_|exact eJ rfl rfl|exact au rfl|exact aj|exact ab|exact ah|exact aa|exact aJ|exact au qG|exact ae|exact Cv.rfl'|(intro _;simp only[cP,cQ,cS,List.map,List.cons_append,List.nil_append])|intro _
theorem E5{w0:Wd} {ws:List Wd} {d:ar} (hl:ws.length≤100000) (hw:∀ x∈ws,x.1.length≤65536):j6 Tryz.prog (dk B) 75 (fun d=>[(rf, .st (FA B d))]) [.is (.pointer (some ⟨rf,0,none⟩)), .is (.int .u8 6), .ra Rp.lr (w0::ws,at_)] d (fB za ws w0.2 d).1 (.tup [.is (.int .i64 (fB za ws w0.2 d).2.1), .is (.int .i64 (fB za ws w0.2 d).2.2)]):=by
 have cr:j6 Tryz.prog (dk B) 121 (fun d=>[(rf, .st (FA B d))]) [.ra Rp.lr (w0::ws,at_), .tf [.fv 169 [] [.pt (.is (.pointer (some ⟨rf,12,none⟩))), .pt (.is (.int .i64 0)), .pt (.is (.int .i64 40))]]] d (fB za ws w0.2 d).1 (.tup [.is (.int .i64 (fB za ws w0.2 d).2.1), .is (.int .i64 (fB za ws w0.2 d).2.2)]):=
  (ma (B:=B) (LT:=(fun d=>[(rf, .st (FA B d))])) (gs:=za) (w0:=w0) (ws:=ws) (at_:=at_) (s:=d) hl qD hw).args fun {X w vs} h=>by
    obtain ⟨v,u,rfl,h1,h2⟩:=h.two
    exact ⟨h1,i_ (.cons (dK (lz (r:=rf) (Ts:=FA B) (LR:=fun _=>[]) (u:=ub) (fun _ _=>rfl) (fun s a=>⟨rfl,(by decide:12<25)⟩))) .nil) (jd h2),trivial⟩
 generalize fB za ws w0.2 d=R at*
 refine tQ Tryz.func75 rfl Tryz.ntmps75 qE (fun _ _=>by kernel_rfl) fun w00 X L0 w hE hm=> ?_
 simp only [List.cons_append,List.nil_append,bf,Nat.zero_add,Nat.reduceAdd]
 repeat' first|kernel_rfl|apply cR (id:=11) [] [] 6 [(8,7)]|apply kV|(refine lR (LT:=(fun d=>[(rf, .st (FA B d))])) (st:=d) (L0:=L0) (ks:=[0,0]) [(_,_)] rfl hE cr qK fun s' hs'=> ?_;simp only [List.cons_append,List.nil_append])|apply aF|apply aG|apply aI|apply bQ|apply de|exact bT.nil|exact aZ.nil|exact aY.nil|apply aD|apply aH|apply aM|apply aN|apply aA|apply aE|apply be|apply aq|apply a_|apply a8|apply aB|refine pb (LT:=(fun d=>[(rf, .st (FA B d))])) (s':=s') (L1:=(rf, .st (FA B s'))::L0) rfl hm hs' rfl ?_|apply bl|apply bO|apply bN|apply eo|apply em|refine eu rfl ?_|apply ep|apply ew|apply bc|exact bn|exact sc trivial fw|exact sc trivial eO|exact sc trivial ee|exact sc trivial g_|exact eJ rfl rfl|exact au rfl|exact aj|exact ab|exact ah|exact aa|exact aJ|exact au qG|exact ae|exact Cv.rfl'|(intro _;simp only[cP,cQ,cS,List.map,List.cons_append,List.nil_append])|intro _
theorem FH{w0:Wd} {ws:List Wd} {d:ar} (hl:ws.length≤100000) (hw:∀ x∈ws,x.1.length≤65536):j6 Tryz.prog (dk B) 75 (fun d=>[(rf, .st (FA B d))]) [.is (.pointer (some ⟨rf,0,none⟩)), .is (.int .u8 7), .ra Rp.lr (w0::ws,at_)] d (fB yh ws w0.2 d).1 (.tup [.is (.int .i64 (fB yh ws w0.2 d).2.1), .is (.int .i64 (fB yh ws w0.2 d).2.2)]):=by
 have cr:j6 Tryz.prog (dk B) 121 (fun d=>[(rf, .st (FA B d))]) [.ra Rp.lr (w0::ws,at_), .tf [.fv 162 [] [.pt (.is (.pointer (some ⟨rf,13,none⟩)))], .fv 164 [] [.pt (.is (.pointer (some ⟨rf,17,none⟩)))], .fv 169 [] [.pt (.is (.pointer (some ⟨rf,21,none⟩))), .pt (.is (.int .i64 0)), .pt (.is (.int .i64 40))]]] d (fB yh ws w0.2 d).1 (.tup [.is (.int .i64 (fB yh ws w0.2 d).2.1), .is (.int .i64 (fB yh ws w0.2 d).2.2)]):=
  (ma (B:=B) (LT:=(fun d=>[(rf, .st (FA B d))])) (gs:=yh) (w0:=w0) (ws:=ws) (at_:=at_) (s:=d) hl qD hw).args fun {X w vs} h=>by
    obtain ⟨v,u,rfl,h1,h2⟩:=h.two
    exact ⟨h1,i_ (.cons (dK (i7 (r:=rf) (Ts:=FA B) (LR:=fun _=>[]) (u:=sC) (fun _ _=>rfl) (fun s a=>⟨_,_,_,⟨rfl,(by decide:13<25)⟩,⟨rfl,(by decide:14<25)⟩,⟨rfl,(by decide:15<25)⟩,⟨rfl,(by decide:16<25)⟩⟩))) (.cons (dK (iQ (r:=rf) (Ts:=FA B) (LR:=fun _=>[]) (u:=Bj) (fun _ _=>rfl) (fun s a=>⟨_,_,_,⟨rfl,(by decide:17<25)⟩,⟨rfl,(by decide:18<25)⟩,⟨rfl,(by decide:19<25)⟩,⟨rfl,(by decide:20<25)⟩⟩))) (.cons (dK (lz (r:=rf) (Ts:=FA B) (LR:=fun _=>[]) (u:=EY) (fun _ _=>rfl) (fun s a=>⟨rfl,(by decide:21<25)⟩))) .nil))) (jd h2),trivial⟩
 generalize fB yh ws w0.2 d=R at*
 refine tQ Tryz.func75 rfl Tryz.ntmps75 qE (fun _ _=>by kernel_rfl) fun w00 X L0 w hE hm=> ?_
 simp only [List.cons_append,List.nil_append,bf,Nat.zero_add,Nat.reduceAdd]
 repeat' first|kernel_rfl|apply cR (id:=12) [] [] 14 [(16,15)]|apply kV|(refine lR (LT:=(fun d=>[(rf, .st (FA B d))])) (st:=d) (L0:=L0) (ks:=[0,0]) [(_,_)] rfl hE cr qK fun s' hs'=> ?_;simp only [List.cons_append,List.nil_append])|apply aF|apply aG|apply aI|apply bQ|apply de|exact bT.nil|exact aZ.nil|exact aY.nil|apply aD|apply aH|apply aM|apply aN|apply aA|apply aE|apply be|apply aq|apply a_|apply a8|apply aB|refine pb (LT:=(fun d=>[(rf, .st (FA B d))])) (s':=s') (L1:=(rf, .st (FA B s'))::L0) rfl hm hs' rfl ?_|apply bl|apply bO|apply bN|apply eo|apply em|refine eu rfl ?_|apply ep|apply ew|apply bc|exact bn|exact sc trivial fw|exact sc trivial eO|exact sc trivial ee|exact sc trivial g_|exact eJ rfl rfl|exact au rfl|exact aj|exact ab|exact ah|exact aa|exact aJ|exact au qG|exact ae|exact Cv.rfl'|(intro _;simp only[cP,cQ,cS,List.map,List.cons_append,List.nil_append])|intro _
theorem bF.unconsP{T:ai} :∀ {cs:List Value},bF X w (T::Ts) cs→∃ v cs',cs=v::cs'∧T.holds X w v∧bF X w Ts cs'
 |[],h=>h.elim
 |v::cs',h=>⟨v,cs',rfl,h.1,h.2⟩
theorem bF.unnilP:∀ {cs:List Value},bF X w [] cs→cs=[]
 |[],_=>rfl
 |_::_,h=>h.elim
theorem iy{α:Type} {r:Rp α} {S:Nat→Prop} {a:α} (hk:r.k=1) (h:r.rd w S a cs):∃ v,cs=[v]:=by
 have:=r.len h
 rw [hk] at this
 match cs,this with
 |[v],_=>exact ⟨v,rfl⟩
theorem fP{S:Nat→Prop} {l:List UInt8} (h:v=Tx l):Rp.str.rd w S l [v]:=⟨_,congrArg (fun u=>[u]) h,bU l⟩
theorem gi{S S':Nat→Prop} {l:List UInt8} (h:Rp.str.rd w S l cs):Rp.str.rd w S' l cs:=h
theorem im{S:Nat→Prop} (h:Rp.frac.rd w S zz cs):∃ a b,cs=[.bool false,a, .bool false,b]∧(∀ {S':Nat→Prop},Rp.limbs.rd w S' [] [a])∧(∀ {S':Nat→Prop},Rp.limbs.rd w S' [] [b]):=by
 obtain ⟨_,_,rfl,⟨a,b,rfl,h1,h2⟩,⟨c,d,rfl,h3,h4⟩⟩:=h
 have h1:a=[.bool false]:=h1
 have h3:c=[.bool false]:=h3
 subst h1 h3
 obtain ⟨b,rfl⟩:=iy rfl h2
 obtain ⟨d,rfl⟩:=iy rfl h4
 exact ⟨b,d,rfl,lw h2,lw h4⟩
def yE:List UInt8:=[105,110,99,111,109,101,32,101,120,112,101,110,115,101,32,101,120,101,109,112,116,32,100,101,110,105,101,100,32,99,97,112,112,101,100,32,100,101,102,101,114,114,101,100,32,100,101,112,114,101,99,105,97,116,105,111,110,32,105,110,116,101,114,101,115,116,45,105,110,32,105,110,116,101,114,101,115,116,45,111,117,116,32,100,105,118,105,100,101,110,100,32,100,105,115,116,114,105,98,117,116,105,111,110]
def yS:List (List UInt8):=Lib.fields yE
theorem pF:∀ (j:Nat) b,yE[j]? =some b→b.toNat<128:=fun j b h=>(by decide:∀ b∈yE,b.toNat<128) b (List.mem_of_getElem? h)
theorem zQ:yS.length≤200:=by decide +kernel
def zi:List UInt8:=[103,111,111,100,115,32,115,101,114,118,105,99,101,32,105,110,116,101,114,101,115,116,32,100,105,118,105,100,101,110,100]
def sF:List (List UInt8):=Lib.fields zi
theorem pZ:∀ (j:Nat) b,zi[j]? =some b→b.toNat<128:=fun j b h=>(by decide:∀ b∈zi,b.toNat<128) b (List.mem_of_getElem? h)
theorem BB:sF.length≤200:=by decide +kernel
def zG:List UInt8:=[102,105,108,105,110,103,32,98,114,97,99,107,101,116,32,116,104,114,101,115,104,111,108,100,32,99,97,112,32,98,97,99,107,32,102,111,114,119,97,114,100,32,105,110,116,101,114,101,115,116,32,99,108,97,115,115,32,101,110,116,105,116,121,32,121,101,97,114,32,104,111,108,100,32,98,111,111,107,32,103,105,118,101,32,116,97,107,101,32,115,116,111,99,107,32,115,111,108,100]
def fW:List (List UInt8):=Lib.fields zG
theorem vW:∀ (j:Nat) b,zG[j]? =some b→b.toNat<128:=fun j b h=>(by decide:∀ b∈zG,b.toNat<128) b (List.mem_of_getElem? h)
theorem An:fW.length≤200:=by decide +kernel
theorem vj {t:List UInt8}:dB Tryz.prog fE 14 [0] [.is (Tx t)] (fun _=> .tup [.is (.int .u8 (dE yS t:Int)), .is (.bool (decide (0<dE yS t)))]):=by
 have cp:dB Tryz.prog fE 44 [0,0] [.is (Tx t), .is (Tx yE)] (fun _=> .tup [.is (.int .u8 (dE yS t:Int)), .is (.bool (decide (0<dE yS t)))]):=s7 (l:=yE) qD pF zQ
 refine fA Tryz.func14 rfl Tryz.ntmps14 qE (fun _ _=>by kernel_rfl) fun X w hE=> ?_
 simp only [bf,Nat.zero_add,Nat.reduceAdd]
 repeat' first|kernel_rfl|apply aF|apply aG|apply aI|apply aD|apply aH|apply aM|apply aN|apply aA|apply aE|apply be|apply aq|apply a_|apply a8|apply aB|refine oI rfl ?_|apply bc|exact sc hE cp|exact aj|exact ab|exact aJ|exact Cv.rfl'|intro _
theorem l_ {t:List UInt8}:dB Tryz.prog fE 16 [0] [.is (Tx t)] (fun _=> .tup [.is (.int .u8 (dE sF t:Int)), .is (.bool (decide (0<dE sF t)))]):=by
 have cp:dB Tryz.prog fE 44 [0,0] [.is (Tx t), .is (Tx zi)] (fun _=> .tup [.is (.int .u8 (dE sF t:Int)), .is (.bool (decide (0<dE sF t)))]):=s7 (l:=zi) qD pZ BB
 refine fA Tryz.func16 rfl Tryz.ntmps16 qE (fun _ _=>by kernel_rfl) fun X w hE=> ?_
 simp only [bf,Nat.zero_add,Nat.reduceAdd]
 repeat' first|kernel_rfl|apply aF|apply aG|apply aI|apply aD|apply aH|apply aM|apply aN|apply aA|apply aE|apply be|apply aq|apply a_|apply a8|apply aB|refine oI rfl ?_|apply bc|exact sc hE cp|exact aj|exact ab|exact aJ|exact Cv.rfl'|intro _
theorem k_ {t:List UInt8}:dB Tryz.prog fE 36 [0] [.is (Tx t)] (fun _=> .is (.int .u8 (dE fW t:Int))):=by
 have cp:dB Tryz.prog fE 44 [0,0] [.is (Tx t), .is (Tx zG)] (fun _=> .tup [.is (.int .u8 (dE fW t:Int)), .is (.bool (decide (0<dE fW t)))]):=s7 (l:=zG) qD vW An
 refine fA Tryz.func36 rfl Tryz.ntmps36 qE (fun _ _=>by kernel_rfl) fun X w hE=> ?_
 simp only [bf,Nat.zero_add,Nat.reduceAdd]
 repeat' first|kernel_rfl|apply aF|apply aG|apply aI|apply aD|apply aH|apply aM|apply aN|apply aA|apply aE|apply be|apply aq|apply a_|apply a8|apply aB|refine fm rfl ?_|apply bc|exact sc hE cp|exact aj|exact ab|exact aJ|exact Cv.rfl'|intro _
abbrev f7 (B:Nat) (x:cK):List ai:=[.is (.bool (x.1).1.1), .tc (Rp.frn B Rp.limbs) [128] 0 (x.1).1.2, .is (.bool (x.1).2.1), .tc (Rp.frn B Rp.limbs) [128] 0 (x.1).2.2, .is (.bool (x.2).1.1), .tc (Rp.frn B Rp.limbs) [128] 0 (x.2).1.2, .is (.bool (x.2).2.1), .tc (Rp.frn B Rp.limbs) [128] 0 (x.2).2.2]
theorem uy{x:cK} (h:(ai.st (f7 B x)).holds X w v):(ai.tr (Rp.frn B cq) [128] 0 x).holds X w v:=by
 obtain ⟨cs,e,h,ho⟩:=h
 obtain ⟨a0a,r0,rfl,u0a,h⟩:=h.unconsP
 obtain ⟨a0b,r1,rfl,u0b,h⟩:=h.unconsP
 obtain ⟨a0c,r2,rfl,u0c,h⟩:=h.unconsP
 obtain ⟨a0d,r3,rfl,u0d,h⟩:=h.unconsP
 obtain ⟨a1a,r4,rfl,u1a,h⟩:=h.unconsP
 obtain ⟨a1b,r5,rfl,u1b,h⟩:=h.unconsP
 obtain ⟨a1c,r6,rfl,u1c,h⟩:=h.unconsP
 obtain ⟨a1d,r7,rfl,u1d,h⟩:=h.unconsP
 obtain rfl:=h.unnilP
 exact ⟨_,e,⟨[a0a,a0b,a0c,a0d],[a1a,a1b,a1c,a1d],rfl,⟨[a0a,a0b],[a0c,a0d],rfl,⟨[a0a],[a0b],rfl,(by rw [show a0a=_ from u0a];rfl),u0b⟩,⟨[a0c],[a0d],rfl,(by rw [show a0c=_ from u0c];rfl),u0d⟩⟩,⟨[a1a,a1b],[a1c,a1d],rfl,⟨[a1a],[a1b],rfl,(by rw [show a1a=_ from u1a];rfl),u1b⟩,⟨[a1c],[a1d],rfl,(by rw [show a1c=_ from u1c];rfl),u1d⟩⟩⟩⟩
theorem ue{x:cK} (z0:x.1=zz) (z1:x.2=zz) {S:Nat→Prop} (h:cq.rd w S x cs):bF X w (f7 B x) cs:=by
 obtain ⟨c0,d0,e0,h0,h1⟩:=h
 rw [z0] at h0
 obtain ⟨q0a,q0b,rfl,k0a,k0b⟩:=im h0
 rw [z1] at h1
 obtain ⟨q1a,q1b,rfl,k1a,k1b⟩:=im h1
 subst e0
 exact ⟨(by rw [z0];rfl),(by rw [z0];exact k0a),(by rw [z0];rfl),(by rw [z0];exact k0b),(by rw [z1];rfl),(by rw [z1];exact k1a),(by rw [z1];rfl),(by rw [z1];exact k1b),trivial⟩
theorem vn{x:cK} (z0:x.1=zz) (z1:x.2=zz) (h:(ai.ra cq x).holds X w v):(ai.st (f7 B x)).holds X w v:=by
 obtain ⟨cs,e,h⟩:=h
 exact ⟨cs,e,ue z0 z1 h,cq.one h⟩
instance {B:Nat} {x:cK}:qW [128] 0 (.st (f7 B x)) (Rp.frn B cq) x:=⟨uy⟩
def mF (d:cK) (x:bA):cK:=(x,d.2)
def mV (d:cK) (x:bA):cK:=(d.1,x)
abbrev Ca (B:Nat) (x:h_):List ai:=[.is (Tx (x.1)), .is (.int .u8 (x.2.1)), .is (.bool (x.2.2).1.1), .tc (Rp.frn B Rp.limbs) [128] 0 (x.2.2).1.2, .is (.bool (x.2.2).2.1), .tc (Rp.frn B Rp.limbs) [128] 0 (x.2.2).2.2]
theorem yU{x:h_} (h:(ai.st (Ca B x)).holds X w v):(ai.tr (Rp.frn B d7) [128] 0 x).holds X w v:=by
 obtain ⟨cs,e,h,ho⟩:=h
 obtain ⟨a0,r0,rfl,u0,h⟩:=h.unconsP
 obtain ⟨a1,r1,rfl,u1,h⟩:=h.unconsP
 obtain ⟨a2a,r2,rfl,u2a,h⟩:=h.unconsP
 obtain ⟨a2b,r3,rfl,u2b,h⟩:=h.unconsP
 obtain ⟨a2c,r4,rfl,u2c,h⟩:=h.unconsP
 obtain ⟨a2d,r5,rfl,u2d,h⟩:=h.unconsP
 obtain rfl:=h.unnilP
 exact ⟨_,e,⟨[a0],[a1,a2a,a2b,a2c,a2d],rfl,fP u0,⟨[a1],[a2a,a2b,a2c,a2d],rfl,(by rw [show a1=_ from u1];rfl),⟨[a2a,a2b],[a2c,a2d],rfl,⟨[a2a],[a2b],rfl,(by rw [show a2a=_ from u2a];rfl),u2b⟩,⟨[a2c],[a2d],rfl,(by rw [show a2c=_ from u2c];rfl),u2d⟩⟩⟩⟩⟩
instance {B:Nat} {x:h_}:qW [128] 0 (.st (Ca B x)) (Rp.frn B d7) x:=⟨yU⟩
abbrev kS (B:Nat) (x:eL):List ai:=[.is (Tx (x.1)), .is (Tx (x.2.1)), .is (.bool (x.2.2).1.1), .tc (Rp.frn B Rp.limbs) [128] 0 (x.2.2).1.2, .is (.bool (x.2.2).2.1), .tc (Rp.frn B Rp.limbs) [128] 0 (x.2.2).2.2]
theorem A_{x:eL} (h:(ai.st (kS B x)).holds X w v):(ai.tr (Rp.frn B eH) [128] 0 x).holds X w v:=by
 obtain ⟨cs,e,h,ho⟩:=h
 obtain ⟨a0,r0,rfl,u0,h⟩:=h.unconsP
 obtain ⟨a1,r1,rfl,u1,h⟩:=h.unconsP
 obtain ⟨a2a,r2,rfl,u2a,h⟩:=h.unconsP
 obtain ⟨a2b,r3,rfl,u2b,h⟩:=h.unconsP
 obtain ⟨a2c,r4,rfl,u2c,h⟩:=h.unconsP
 obtain ⟨a2d,r5,rfl,u2d,h⟩:=h.unconsP
 obtain rfl:=h.unnilP
 exact ⟨_,e,⟨[a0],[a1,a2a,a2b,a2c,a2d],rfl,fP u0,⟨[a1],[a2a,a2b,a2c,a2d],rfl,fP u1,⟨[a2a,a2b],[a2c,a2d],rfl,⟨[a2a],[a2b],rfl,(by rw [show a2a=_ from u2a];rfl),u2b⟩,⟨[a2c],[a2d],rfl,(by rw [show a2c=_ from u2c];rfl),u2d⟩⟩⟩⟩⟩
theorem Ak{x:eL} (z2:x.2.2=zz) {S:Nat→Prop} (h:eH.rd w S x cs):bF X w (kS B x) cs:=by
 obtain ⟨c0,d0,e0,h0,c1,d1,e1,h1,h2⟩:=h
 obtain ⟨v0,g0⟩:=iy rfl h0
 subst g0
 obtain ⟨v1,g1⟩:=iy rfl h1
 subst g1
 rw [z2] at h2
 obtain ⟨q2a,q2b,rfl,k2a,k2b⟩:=im h2
 subst e1
 subst e0
 exact ⟨fI.ok (r:=Rp.str) (X:=[]) (w:=w) (gi h0),fI.ok (r:=Rp.str) (X:=[]) (w:=w) (gi h1),(by rw [z2];rfl),(by rw [z2];exact k2a),(by rw [z2];rfl),(by rw [z2];exact k2b),trivial⟩
theorem Cf{x:eL} (z2:x.2.2=zz) (h:(ai.ra eH x).holds X w v):(ai.st (kS B x)).holds X w v:=by
 obtain ⟨cs,e,h⟩:=h
 exact ⟨cs,e,Ak z2 h,eH.one h⟩
instance {B:Nat} {x:eL}:qW [128] 0 (.st (kS B x)) (Rp.frn B eH) x:=⟨A_⟩
def pM (d:eL) (x:List UInt8):eL:=(x,d.2.1,d.2.2)
def qj (d:eL) (x:List UInt8):eL:=(d.1,x,d.2.2)
def pG (d:eL) (x:bA):eL:=(d.1,d.2.1,x)
def jI:List (eL→List UInt8→Option eL):=[fun s t=>(gW t).map (pM s),fun s t=>(gW t).map (qj s),fun s t=>(m4 t).map (pG s)]
abbrev kQ (B:Nat) (x:eT):List ai:=[.is (Tx (x.1)), .is (Tx (x.2.1)), .is (.bool (x.2.2).1.1), .tc (Rp.frn B Rp.limbs) [128] 0 (x.2.2).1.2, .is (.bool (x.2.2).2.1), .tc (Rp.frn B Rp.limbs) [128] 0 (x.2.2).2.2]
theorem Af{x:eT} (h:(ai.st (kQ B x)).holds X w v):(ai.tr (Rp.frn B eF) [128] 0 x).holds X w v:=by
 obtain ⟨cs,e,h,ho⟩:=h
 obtain ⟨a0,r0,rfl,u0,h⟩:=h.unconsP
 obtain ⟨a1,r1,rfl,u1,h⟩:=h.unconsP
 obtain ⟨a2a,r2,rfl,u2a,h⟩:=h.unconsP
 obtain ⟨a2b,r3,rfl,u2b,h⟩:=h.unconsP
 obtain ⟨a2c,r4,rfl,u2c,h⟩:=h.unconsP
 obtain ⟨a2d,r5,rfl,u2d,h⟩:=h.unconsP
 obtain rfl:=h.unnilP
 exact ⟨_,e,⟨[a0],[a1,a2a,a2b,a2c,a2d],rfl,fP u0,⟨[a1],[a2a,a2b,a2c,a2d],rfl,fP u1,⟨[a2a,a2b],[a2c,a2d],rfl,⟨[a2a],[a2b],rfl,(by rw [show a2a=_ from u2a];rfl),u2b⟩,⟨[a2c],[a2d],rfl,(by rw [show a2c=_ from u2c];rfl),u2d⟩⟩⟩⟩⟩
theorem zU{x:eT} (z2:x.2.2=zz) {S:Nat→Prop} (h:eF.rd w S x cs):bF X w (kQ B x) cs:=by
 obtain ⟨c0,d0,e0,h0,c1,d1,e1,h1,h2⟩:=h
 obtain ⟨v0,g0⟩:=iy rfl h0
 subst g0
 obtain ⟨v1,g1⟩:=iy rfl h1
 subst g1
 rw [z2] at h2
 obtain ⟨q2a,q2b,rfl,k2a,k2b⟩:=im h2
 subst e1
 subst e0
 exact ⟨fI.ok (r:=Rp.str) (X:=[]) (w:=w) (gi h0),fI.ok (r:=Rp.str) (X:=[]) (w:=w) (gi h1),(by rw [z2];rfl),(by rw [z2];exact k2a),(by rw [z2];rfl),(by rw [z2];exact k2b),trivial⟩
theorem BN{x:eT} (z2:x.2.2=zz) (h:(ai.ra eF x).holds X w v):(ai.st (kQ B x)).holds X w v:=by
 obtain ⟨cs,e,h⟩:=h
 exact ⟨cs,e,zU z2 h,eF.one h⟩
instance {B:Nat} {x:eT}:qW [128] 0 (.st (kQ B x)) (Rp.frn B eF) x:=⟨Af⟩
def ox (d:eT) (x:List UInt8):eT:=(x,d.2.1,d.2.2)
def pD (d:eT) (x:List UInt8):eT:=(d.1,x,d.2.2)
def oz (d:eT) (x:bA):eT:=(d.1,d.2.1,x)
def jF:List (eT→List UInt8→Option eT):=[fun s t=>(gW t).map (ox s),fun s t=>(gW t).map (pD s),fun s t=>(kM t).map (oz s)]
abbrev fD (B:Nat) (x:c_):List ai:=[.is (.bool (x.1)), .is (Tx (x.2.1)), .is (.int .u8 (x.2.2.1)), .is (Tx (x.2.2.2.1)), .is (Tx (x.2.2.2.2.1)), .is (Tx (x.2.2.2.2.2.1)), .is (.bool (x.2.2.2.2.2.2).1.1), .tc (Rp.frn B Rp.limbs) [128] 0 (x.2.2.2.2.2.2).1.2, .is (.bool (x.2.2.2.2.2.2).2.1), .tc (Rp.frn B Rp.limbs) [128] 0 (x.2.2.2.2.2.2).2.2]
theorem Bq{x:c_} (h:(ai.st (fD B x)).holds X w v):(ai.tr (Rp.frn B cH) [128] 0 x).holds X w v:=by
 obtain ⟨cs,e,h,ho⟩:=h
 obtain ⟨a0,r0,rfl,u0,h⟩:=h.unconsP
 obtain ⟨a1,r1,rfl,u1,h⟩:=h.unconsP
 obtain ⟨a2,r2,rfl,u2,h⟩:=h.unconsP
 obtain ⟨a3,r3,rfl,u3,h⟩:=h.unconsP
 obtain ⟨a4,r4,rfl,u4,h⟩:=h.unconsP
 obtain ⟨a5,r5,rfl,u5,h⟩:=h.unconsP
 obtain ⟨a6a,r6,rfl,u6a,h⟩:=h.unconsP
 obtain ⟨a6b,r7,rfl,u6b,h⟩:=h.unconsP
 obtain ⟨a6c,r8,rfl,u6c,h⟩:=h.unconsP
 obtain ⟨a6d,r9,rfl,u6d,h⟩:=h.unconsP
 obtain rfl:=h.unnilP
 exact ⟨_,e,⟨[a0],[a1,a2,a3,a4,a5,a6a,a6b,a6c,a6d],rfl,(by rw [show a0=_ from u0];rfl),⟨[a1],[a2,a3,a4,a5,a6a,a6b,a6c,a6d],rfl,fP u1,⟨[a2],[a3,a4,a5,a6a,a6b,a6c,a6d],rfl,(by rw [show a2=_ from u2];rfl),⟨[a3],[a4,a5,a6a,a6b,a6c,a6d],rfl,fP u3,⟨[a4],[a5,a6a,a6b,a6c,a6d],rfl,fP u4,⟨[a5],[a6a,a6b,a6c,a6d],rfl,fP u5,⟨[a6a,a6b],[a6c,a6d],rfl,⟨[a6a],[a6b],rfl,(by rw [show a6a=_ from u6a];rfl),u6b⟩,⟨[a6c],[a6d],rfl,(by rw [show a6c=_ from u6c];rfl),u6d⟩⟩⟩⟩⟩⟩⟩⟩⟩
theorem uV{x:c_} (z6:x.2.2.2.2.2.2=zz) {S:Nat→Prop} (h:cH.rd w S x cs):bF X w (fD B x) cs:=by
 obtain ⟨c0,d0,e0,h0,c1,d1,e1,h1,c2,d2,e2,h2,c3,d3,e3,h3,c4,d4,e4,h4,c5,d5,e5,h5,h6⟩:=h
 have h0:c0=[.bool _]:=h0
 subst h0
 obtain ⟨v1,g1⟩:=iy rfl h1
 subst g1
 have h2:c2=[.int .u8 _]:=h2
 subst h2
 obtain ⟨v3,g3⟩:=iy rfl h3
 subst g3
 obtain ⟨v4,g4⟩:=iy rfl h4
 subst g4
 obtain ⟨v5,g5⟩:=iy rfl h5
 subst g5
 rw [z6] at h6
 obtain ⟨q6a,q6b,rfl,k6a,k6b⟩:=im h6
 subst e5
 subst e4
 subst e3
 subst e2
 subst e1
 subst e0
 exact ⟨rfl,fI.ok (r:=Rp.str) (X:=[]) (w:=w) (gi h1),rfl,fI.ok (r:=Rp.str) (X:=[]) (w:=w) (gi h3),fI.ok (r:=Rp.str) (X:=[]) (w:=w) (gi h4),fI.ok (r:=Rp.str) (X:=[]) (w:=w) (gi h5),(by rw [z6];rfl),(by rw [z6];exact k6a),(by rw [z6];rfl),(by rw [z6];exact k6b),trivial⟩
instance {B:Nat} {x:c_}:qW [128] 0 (.st (fD B x)) (Rp.frn B cH) x:=⟨Bq⟩
def sL (d:c_) (x:List UInt8):c_:=(d.1,x,d.2.2.1,d.2.2.2.1,d.2.2.2.2.1,d.2.2.2.2.2.1,d.2.2.2.2.2.2)
def nI (d:c_) (x:Int):c_:=(d.1,d.2.1,x,d.2.2.2.1,d.2.2.2.2.1,d.2.2.2.2.2.1,d.2.2.2.2.2.2)
def ms (d:c_) (x:List UInt8):c_:=(d.1,d.2.1,d.2.2.1,x,d.2.2.2.2.1,d.2.2.2.2.2.1,d.2.2.2.2.2.2)
def mc (d:c_) (x:List UInt8):c_:=(d.1,d.2.1,d.2.2.1,d.2.2.2.1,x,d.2.2.2.2.2.1,d.2.2.2.2.2.2)
def mf (d:c_) (x:List UInt8):c_:=(d.1,d.2.1,d.2.2.1,d.2.2.2.1,d.2.2.2.2.1,x,d.2.2.2.2.2.2)
def kW (d:c_) (x:bA):c_:=(d.1,d.2.1,d.2.2.1,d.2.2.2.1,d.2.2.2.2.1,d.2.2.2.2.2.1,x)
def fb:List (c_→List UInt8→Option c_):=[fun s t=>(gW t).map (sL s),fun s t=>(ua sF t).map (nI s),fun s t=>(gW t).map (ms s),fun s t=>(gW t).map (mc s),fun s t=>(gW t).map (mf s),fun s t=>(kM t).map (kW s)]
abbrev i5 (B:Nat) (x:dG):List ai:=[.is (Tx (x.1)), .is (.bool (x.2.1).1.1), .tc (Rp.frn B Rp.limbs) [128] 0 (x.2.1).1.2, .is (.bool (x.2.1).2.1), .tc (Rp.frn B Rp.limbs) [128] 0 (x.2.1).2.2, .is (.bool (x.2.2).1.1), .tc (Rp.frn B Rp.limbs) [128] 0 (x.2.2).1.2, .is (.bool (x.2.2).2.1), .tc (Rp.frn B Rp.limbs) [128] 0 (x.2.2).2.2]
theorem y9{x:dG} (h:(ai.st (i5 B x)).holds X w v):(ai.tr (Rp.frn B dz) [128] 0 x).holds X w v:=by
 obtain ⟨cs,e,h,ho⟩:=h
 obtain ⟨a0,r0,rfl,u0,h⟩:=h.unconsP
 obtain ⟨a1a,r1,rfl,u1a,h⟩:=h.unconsP
 obtain ⟨a1b,r2,rfl,u1b,h⟩:=h.unconsP
 obtain ⟨a1c,r3,rfl,u1c,h⟩:=h.unconsP
 obtain ⟨a1d,r4,rfl,u1d,h⟩:=h.unconsP
 obtain ⟨a2a,r5,rfl,u2a,h⟩:=h.unconsP
 obtain ⟨a2b,r6,rfl,u2b,h⟩:=h.unconsP
 obtain ⟨a2c,r7,rfl,u2c,h⟩:=h.unconsP
 obtain ⟨a2d,r8,rfl,u2d,h⟩:=h.unconsP
 obtain rfl:=h.unnilP
 exact ⟨_,e,⟨[a0],[a1a,a1b,a1c,a1d,a2a,a2b,a2c,a2d],rfl,fP u0,⟨[a1a,a1b,a1c,a1d],[a2a,a2b,a2c,a2d],rfl,⟨[a1a,a1b],[a1c,a1d],rfl,⟨[a1a],[a1b],rfl,(by rw [show a1a=_ from u1a];rfl),u1b⟩,⟨[a1c],[a1d],rfl,(by rw [show a1c=_ from u1c];rfl),u1d⟩⟩,⟨[a2a,a2b],[a2c,a2d],rfl,⟨[a2a],[a2b],rfl,(by rw [show a2a=_ from u2a];rfl),u2b⟩,⟨[a2c],[a2d],rfl,(by rw [show a2c=_ from u2c];rfl),u2d⟩⟩⟩⟩⟩
theorem x6{x:dG} (z1:x.2.1=zz) (z2:x.2.2=zz) {S:Nat→Prop} (h:dz.rd w S x cs):bF X w (i5 B x) cs:=by
 obtain ⟨c0,d0,e0,h0,c1,d1,e1,h1,h2⟩:=h
 obtain ⟨v0,g0⟩:=iy rfl h0
 subst g0
 rw [z1] at h1
 obtain ⟨q1a,q1b,rfl,k1a,k1b⟩:=im h1
 rw [z2] at h2
 obtain ⟨q2a,q2b,rfl,k2a,k2b⟩:=im h2
 subst e1
 subst e0
 exact ⟨fI.ok (r:=Rp.str) (X:=[]) (w:=w) (gi h0),(by rw [z1];rfl),(by rw [z1];exact k1a),(by rw [z1];rfl),(by rw [z1];exact k1b),(by rw [z2];rfl),(by rw [z2];exact k2a),(by rw [z2];rfl),(by rw [z2];exact k2b),trivial⟩
theorem ym{x:dG} (z1:x.2.1=zz) (z2:x.2.2=zz) (h:(ai.ra dz x).holds X w v):(ai.st (i5 B x)).holds X w v:=by
 obtain ⟨cs,e,h⟩:=h
 exact ⟨cs,e,x6 z1 z2 h,dz.one h⟩
instance {B:Nat} {x:dG}:qW [128] 0 (.st (i5 B x)) (Rp.frn B dz) x:=⟨y9⟩
def vr (d:dG) (x:List UInt8):dG:=(x,d.2.1,d.2.2)
def mG (d:dG) (x:bA):dG:=(d.1,x,d.2.2)
def mE (d:dG) (x:bA):dG:=(d.1,d.2.1,x)
def ia:List (dG→List UInt8→Option dG):=[fun s t=>(gW t).map (vr s),fun s t=>(kM t).map (mG s),fun s t=>(m4 t).map (mE s)]
abbrev lX (B:Nat) (x:fq):List ai:=[.is (Tx (x.1)), .is (.bool (x.2).1.1), .tc (Rp.frn B Rp.limbs) [128] 0 (x.2).1.2, .is (.bool (x.2).2.1), .tc (Rp.frn B Rp.limbs) [128] 0 (x.2).2.2]
theorem AX{x:fq} (h:(ai.st (lX B x)).holds X w v):(ai.tr (Rp.frn B e9) [128] 0 x).holds X w v:=by
 obtain ⟨cs,e,h,ho⟩:=h
 obtain ⟨a0,r0,rfl,u0,h⟩:=h.unconsP
 obtain ⟨a1a,r1,rfl,u1a,h⟩:=h.unconsP
 obtain ⟨a1b,r2,rfl,u1b,h⟩:=h.unconsP
 obtain ⟨a1c,r3,rfl,u1c,h⟩:=h.unconsP
 obtain ⟨a1d,r4,rfl,u1d,h⟩:=h.unconsP
 obtain rfl:=h.unnilP
 exact ⟨_,e,⟨[a0],[a1a,a1b,a1c,a1d],rfl,fP u0,⟨[a1a,a1b],[a1c,a1d],rfl,⟨[a1a],[a1b],rfl,(by rw [show a1a=_ from u1a];rfl),u1b⟩,⟨[a1c],[a1d],rfl,(by rw [show a1c=_ from u1c];rfl),u1d⟩⟩⟩⟩
theorem Ck{x:fq} (z1:x.2=zz) {S:Nat→Prop} (h:e9.rd w S x cs):bF X w (lX B x) cs:=by
 obtain ⟨c0,d0,e0,h0,h1⟩:=h
 obtain ⟨v0,g0⟩:=iy rfl h0
 subst g0
 rw [z1] at h1
 obtain ⟨q1a,q1b,rfl,k1a,k1b⟩:=im h1
 subst e0
 exact ⟨fI.ok (r:=Rp.str) (X:=[]) (w:=w) (gi h0),(by rw [z1];rfl),(by rw [z1];exact k1a),(by rw [z1];rfl),(by rw [z1];exact k1b),trivial⟩
theorem AV{x:fq} (z1:x.2=zz) (h:(ai.ra e9 x).holds X w v):(ai.st (lX B x)).holds X w v:=by
 obtain ⟨cs,e,h⟩:=h
 exact ⟨cs,e,Ck z1 h,e9.one h⟩
instance {B:Nat} {x:fq}:qW [128] 0 (.st (lX B x)) (Rp.frn B e9) x:=⟨AX⟩
def xQ (d:fq) (x:List UInt8):fq:=(x,d.2)
def qB (d:fq) (x:bA):fq:=(d.1,x)
def jC:List (fq→List UInt8→Option fq):=[fun s t=>(gW t).map (xQ s),fun s t=>(m4 t).map (qB s)]
end Go.Proofs.YtcpeiijdgabenaaGreatDoor
