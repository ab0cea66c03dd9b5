/- Rows that are made of zero elements and written one by one; new memory from a block on (Rp.frn), of known types. No program stands in it. -/
import Derived.Test.YtjjkikchncfekaaGreatDoorCX
import Derived.Test.YtjjkikchncfekaaGreatDoorCG
import Derived.Test.YtjjkikchncfekaaGreatDoorCS
import Derived.Laws.Cover3
set_option maxHeartbeats 4000000
set_option maxRecDepth 20000
set_option synthInstance.maxHeartbeats 400000
set_option synthInstance.maxSize 4000
set_option linter.unusedSimpArgs false
set_option linter.unusedVariables false
namespace Go.Proofs.YtjjkikchncfekaaGreatDoor
open Go Go.RowKit
variable {g:FuncId} {B C bytes i:Nat} {e ty:TypeId} {w:World} {X:List Nat} {v:Value} {P:Program} {xs:List Int}
def Rp.frn {α:Type} (B:Nat) (r:Rp α):Rp α:=⟨r.k,fun w S a cs=>r.rd w (fun b=>S b∧B≤b∧∃ (c:Array Value) (t:TypeId),w.heap[b]? =some (.cells c t (0,0))) a cs,r.len,r.one,
 fun h hk=>r.more (r.keep h fun b hb=>hk b hb.1) fun b hb=>⟨hb.1,hb.2.1,hb.2.2.imp fun c h=>h.imp fun t h=>(hk b hb.1).trans h⟩,fun h hk=>r.more h fun b hb=>⟨hk b hb.1,hb.2⟩⟩
instance {α:Type} {r:Rp α} {B k:Nat} [h:KC r k]:KC (Rp.frn B r) k:=⟨h.ok⟩
instance {α β:Type} {r:Rp α} {s:Rp β} {B off:Nat} {u:α→β→α} [h:ah r off s u]:ah (Rp.frn B r) off (Rp.frn B s) u:=⟨fun h1 h2=>h.ok h1 h2⟩
instance {ts:List TypeId} {C B:Nat} {l:List UInt8}:mZ ts C (.is (Tx l)) (Rp.frn B Rp.str) l:=⟨fun h=>⟨[Tx l],by rw [show _=_ from h];rfl,_,rfl,bn l⟩⟩
instance {ts:List TypeId} {C B:Nat} {k:IntKind} {x:Int}:mZ ts C (.is (.int k x)) (Rp.frn B (Rp.int k)) x:=⟨fun h=>⟨[.int k x],by rw [show _=_ from h];rfl,rfl⟩⟩
instance {ts:List TypeId} {C B:Nat} {x:Bool}:mZ ts C (.is (.bool x)) (Rp.frn B Rp.bool) x:=⟨fun h=>⟨[.bool x],by rw [show _=_ from h];rfl,rfl⟩⟩
theorem wj{α:Type} {r:Rp α} {ts:List TypeId} {l:List α} (h:(aa.to (Rp.frn B r) e ts C B l).holds X w v):(Rp.frn B r.row).rd w (bE (e::ts) C X w) l [v]:=by
 obtain ⟨A,c,ps,rfl,rfl,h3,h4,h5⟩:=h
 refine ⟨A,_,c,rfl,rfl,?_⟩
 obtain ⟨g1,g2,g3,g4,g5⟩:=h4.sl
 refine ⟨g2,g3,g4,fun hn=> ?_⟩
 obtain ⟨b,off,rfl,hb,hc⟩:=g5 hn
 obtain ⟨cur,hcur⟩:=h4.type (g:=b) rfl
 refine ⟨b,off,rfl,⟨⟨h5 b rfl, .inr ⟨cur,_,_,hcur,List.mem_cons_self⟩⟩,(h4.blk_ b rfl).1,cur,e,hcur⟩,fun j a ha=> ?_⟩
 rw [List.getElem?_map] at ha
 cases hq:ps[j]? with
 |none=>rw [hq] at ha;cases ha
 |some q=>
  rw [hq] at ha
  obtain rfl:q.1=a:=by simpa using ha
  refine ⟨q.2,fun i u hu=> ?_,r.more (h3 q (List.mem_of_getElem? hq)) fun b hb=>⟨⟨hb.1.1,hb.1.2.imp id fun ⟨cs,t,f,h3,h4⟩=>⟨cs,t,f,h3,List.mem_cons_of_mem _ h4⟩⟩,hb.2⟩⟩
  have:=hc (j*r.k+i) u (eX (fun q hq=>r.len (h3 q hq)) hq hu)
  rw [Nat.add_assoc]
  exact this
instance {α:Type} {r:Rp α} {e:TypeId} {ts ts':List TypeId} {C B:Nat} {l:List α} [s:eK (e::ts') ts]:mZ ts C (.to (Rp.frn B r) e ts' C B l) (Rp.frn B r.row) l:=⟨fun {X w v} h=>⟨[v],by
 obtain ⟨A,c,ps,e,_⟩:=h
 rw [e];rfl,(Rp.frn B r.row).more (wj h) (bE.sub (s:=s))⟩⟩
instance {α:Type} {r:Rp α} {ts:List TypeId} {C:Nat} {a:α}:d9 fun B=> .tr (Rp.frn B r) ts C a:=⟨fun hB ⟨cs,e,h⟩=>⟨cs,e,r.more h fun _ hb=>⟨hb.1,Nat.le_trans hB hb.2.1,hb.2.2⟩⟩⟩
instance {α:Type} {r:Rp α} {ts:List TypeId} {C:Nat} {a:α}:d9 fun B=> .tc (Rp.frn B r) ts C a:=⟨fun hB h=>r.more h fun _ hb=>⟨hb.1,Nat.le_trans hB hb.2.1,hb.2.2⟩⟩
instance {α:Type} {r:Rp α} {e:TypeId} {ts:List TypeId} {C:Nat} {l:List α}:d9 fun B=> .to (Rp.frn B r) e ts C B l:=⟨fun hB ⟨A,c,ps,h1,h2,h3,h4,h5⟩=>⟨A,c,ps,h1,h2,fun q hq=>r.more (h3 q hq) fun _ hb=>⟨hb.1,Nat.le_trans hB hb.2.1,hb.2.2⟩,h4.lower hB,h5⟩⟩
instance (priority:=low) {Ts:Nat→List aa} [t:pE Ts]:d9 fun B=> .st (Ts B):=⟨fun hB ⟨cs,e,h,o⟩=>⟨cs,e,t.down hB h,o⟩⟩
structure iL {α:Type} (P:Program) (e:TypeId) (r:Rp α) (bytes:Nat) (a:α):Prop where
 ok:∃ (i:TypeInfo) (z:Value),P.info? e=some i∧i.zero=some z∧i.size=r.k∧i.bytes=bytes∧∀ w S,r.rd w S a z.cells.toList
theorem de.el{α:Type} {r:Rp α} {a:α} (z:de P e r a) (h:(P.info? e).map (fun i=>(i.size,i.bytes))=some (r.k,bytes)):iL P e r bytes a:=by
 obtain ⟨fs,i,zs,hu,hf,hi,hz,hr⟩:=z.ok
 rw [hi] at h
 simp only [Option.map_some,Option.some.injEq,Prod.mk.injEq] at h
 exact ⟨i, .agg zs,hi,hz,h.1,h.2,hr⟩
theorem iL.frm{α:Type} {r:Rp α} {a:α} (z:iL P e r bytes a):iL P e (Rp.frn B r) bytes a:=by
 obtain ⟨i,z,h1,h2,h3,h4,h5⟩:=z.ok
 exact ⟨i,z,h1,h2,h3,h4,fun w S=>h5 w _⟩
def aa.tos {α:Type} (sv:Value) (r:Rp α) (e:TypeId) (ts:List TypeId) (C B:Nat) (l:List α):aa:=⟨fun X w v=>v=sv∧(aa.to r e ts C B l).holds X w sv,fun ⟨e,h⟩ hk hX=>⟨e,(aa.to _ _ _ _ _ _).stable h hk hX⟩⟩
def aa.toe (sv:Value) (o:Nat):aa:=⟨fun _ _ v=>∃ g n c,sv= .slice (some ⟨g,0,none⟩) n c∧v= .pointer (some ⟨g,o,none⟩),fun h _ _=>h⟩
theorem pC (zs:List Value) (n:Nat) (hp:0<zs.length):(madeCells zs.toArray (n*zs.length)).toList=(List.replicate n zs).flatten:=by
 apply List.ext_getElem?
 intro i
 have hl:(List.replicate n zs).flatten.length=n*zs.length:=by simp
 by_cases hi:i<n*zs.length
 ·have h1:i%zs.length<zs.length:=Nat.mod_lt _ hp
  have h2:i / zs.length<n:=Nat.div_lt_of_lt_mul (by rw [Nat.mul_comm];exact hi)
  have e:=eX (ps:=(List.replicate n ((),zs))) (k:=zs.length) (fun q hq=>by rw [(List.mem_replicate.1 hq).2]) (j:=i / zs.length) (i:=i%zs.length) (q:=((),zs)) (u:=zs[i%zs.length]) (by simp [h2]) (by simp [h1])
  rw [show i / zs.length*zs.length+i%zs.length=i by rw [Nat.mul_comm];exact Nat.div_add_mod _ _] at e
  rw [show (List.replicate n zs).flatten=(List.replicate n ((),zs)).flatMap Prod.snd by simp [List.flatMap,List.map_replicate],e]
  simp [madeCells,hi,h1]
 ·rw [List.getElem?_eq_none (by simp [madeCells];omega),List.getElem?_eq_none (by rw [hl];omega)]
section
variable {P:Program} {w00:World} {N:Nat} {L:List Loc} {E:List (Nat×aa)} {d:Nat} {t0:TypeId} {pos:String} {af:Array Edge} {gd:Option (Nat×Bool)}
theorem fy{α:Type} {r:Rp α} {o:Operand} {n:Nat} {a:α} (ts:List TypeId) (hs:P.underlying ty=some (.slice e)) (z:iL P e r bytes a) [ho:cb E o (.is (.int .i64 (n:Int)))] (hn:n≤1000000) (hby:bytes≤1000) (hp:0<r.k):ay P w00 N L E ⟨some d, .makeSlice ty o o,t0,pos,af,gd⟩ (.to (Rp.frn w00.heap.size r) e ts 0 w00.heap.size (List.replicate n a)):=by
 constructor
 intro X ρ w hc _ _ hm hsl
 have e0:ρ o= .int .i64 (n:Int):=ho.get (X:=X) (w:=w) hc fun p hp e=>hsl p hp qS
 obtain ⟨i,z,hi,hz,hsz,hbz,hr⟩:=z.ok
 have hb:i.bytes*n≤281474976710656:=by
  rw [hbz]
  have:=Nat.mul_le_mul hby hn
  omega
 obtain ⟨w',hrun,r1,r2⟩:=run_make_full (P:=P) w w00.heap.size ty e i z r.k hs hi hz hsz .i64 .i64 n hb qR hm.below.size
 unfold Yields execOp
 simp only [e0,Sem.run_bind,hrun,Result.andThen_ok,Sem.run_pure]
 have hlen:=r.len (hr w (fun _=>False))
 have hown:cE r.k e w' w00.heap.size (some ⟨w.heap.size,0,none⟩) n n ((List.replicate n (a,z.cells.toList)).flatMap Prod.snd):=by
  have:(List.replicate n (a,z.cells.toList)).flatMap Prod.snd=(madeCells z.cells (n*r.k)).toList:=by
   rw [←hlen]
   have:=pC z.cells.toList n (by rw [hlen];exact hp)
   rw [show z.cells.toList.toArray=z.cells by simp] at this
   rw [this]
   simp [List.flatMap,List.map_replicate]
  rw [this]
  exact r1
 refine ⟨⟨some ⟨w.heap.size,0,none⟩,n,List.replicate n (a,z.cells.toList),by rw [List.length_replicate],by simp,fun q hq=> ?_,by rw [List.length_replicate];exact hown,fun g hg=> ?_⟩,(Below.refl _ _).grown r2 (Nat.le_refl _) (fun _ h=>by cases h)⟩
 ·rw [(List.mem_replicate.1 hq).2]
  exact hr w' _
 ·obtain rfl:w.heap.size=g:=by injection hg
  exact ⟨(hown.blk_ _ rfl).2,fun h=>Nat.lt_irrefl _ (hm.far _ h)⟩
theorem BC{α:Type} {r:Rp α} {sv:Value} {ts:List TypeId} {j k:Nat} {l:List α} {o oi:Operand} [ho:cb E o (.tos sv r e ts C B l)] [hi:cb E oi (.is (.int .i64 (j:Int)))] [ht:ca P ty k] (hj:j<l.length):ay P w00 N L E ⟨some d, .indexAddr ty o oi,t0,pos,af,gd⟩ (.toe sv (j*k)):=by
 constructor
 intro X ρ w hc _ hN hm hsl
 obtain ⟨e0,A,c,ps,e1,h2,h3,h4,h5⟩:=ho.get (X:=X) (w:=w) hc fun p hp e=>hsl p hp qS
 have e2:ρ oi= .int .i64 (j:Int):=hi.get (X:=X) (w:=w) hc fun p hp e=>hsl p hp qS
 rcases h4.form with ⟨_,hz,_⟩|⟨g,rfl,_⟩
 ·omega
 have e1':ρ o= .slice (some ⟨g,0,none⟩) l.length c:=e0.trans e1
 obtain ⟨el,hu,hs⟩:=ht.ok
 have hz:(sizeOf el).run P w= .ok k w:=by
  cases hq:P.info? el with
  |none=>rw [hq] at hs;cases hs
  |some q=>
   rw [hq] at hs
   have:q.size=k:=by simpa using hs
   simp [sizeOf,typeInfo,hq,this]
 have hrun:(execOp ρ ⟨some d, .indexAddr ty o oi,t0,pos,af,gd⟩).run P w= .ok (.value (.pointer (some ⟨g,j*k,none⟩))) w:=by
  unfold execOp
  have hji:(0:Int)≤(j:Int)∧(j:Int)<(l.length:Int):=⟨by omega,by omega⟩
  simp only [e1',e2,Instr.indexAt,asIntOf,Sem.run_bind,Sem.run_pure,Result.andThen_ok,run_underlying hu w,hji,and_self,if_true,hz,Int.toNat_natCast,Addr.add_mid,Nat.zero_add]
 unfold Yields
 rw [hrun]
 exact ⟨⟨g,l.length,c,e1,rfl⟩,Below.refl _ _⟩
end
theorem pQ {α:Type} {k:Nat} {q:α×List Value} (hk:q.2.length=k):∀ {ps:List (α×List Value)} (_:∀ p∈ps,p.2.length=k) {j:Nat} (_:j<ps.length),(ps.flatMap Prod.snd).take (j*k)++q.2++(ps.flatMap Prod.snd).drop (j*k+k)=(ps.set j q).flatMap Prod.snd
 |[],_,_,h=>by simp at h
 |p::ps,hl,0,_=>by
  have h0:=hl p List.mem_cons_self
  simp [List.flatMap_cons,List.drop_left' h0]
 |p::ps,hl,j+1,hj=>by
  have h0:=hl p List.mem_cons_self
  rw [List.length_cons] at hj
  have:=pQ hk (fun p hp=>hl p (List.mem_cons_of_mem _ hp)) (j:=j) qO
  rw [List.set_cons_succ,List.flatMap_cons,List.flatMap_cons,←this]
  have e1:(j+1)*k=p.2.length+j*k:=by rw [h0,Nat.succ_mul];omega
  rw [e1,List.take_length_add_append,show p.2.length+j*k+k=p.2.length+(j*k+k) by omega,List.drop_length_add_append]
  simp [List.append_assoc]
section
variable {P:Program} {w00:World} {X:List Nat} {L:List Loc} {E E0:List (Nat×aa)} {n:Nat} {ops:Array Oper} {rest:List Oper} {Q:Exit→Act→World→Prop} {cs:List Code} {t0:TypeId} {pos:String} {af:Array Edge}
theorem jm{α:Type} {r:Rp α} {ts:List TypeId} {l:List α} (s:Nat) (ss:List Nat) [hs:bH E s (.to r e ts C B l)] [k:ju E ss E0] (h:∀ sv,GC P w00 X L ((s, .tos sv r e ts C B l)::E0) n cs Q):GC P w00 X L E n cs Q:=⟨fun a w ht=>by
 have hv:=ht.slots _ hs.mem
 refine (h (a.tmps.getD s undef)).run a w ⟨ht.size,ht.df,fun p hp=> ?_,ht.mem⟩
 rcases List.mem_cons.1 hp with rfl|hp
 ·exact ⟨rfl,hv⟩
 ·exact ht.slots p (k.sub p hp)⟩
theorem jc {α:Type} {r:Rp α} {ty e:TypeId} {s j k:Nat} {o:Operand} {ts:List TypeId} {C B:Nat} {l:List α} {sv:Value} {T:aa} {a:α} {ag:Bool} (q:Nat) (ss:List Nat) (hB0:w00.heap.size≤B) (hC:C≤B) [hs:bH E s (.toe sv (j*k))] [hq:bH E q (.tos sv r e ts C B l)] [ho:cb E o T] [ep:mZ ts C T r a] [hn:f9 e ts] [kk:ju E ss E0] [kL:iK e B L] [kE:iK e B E0] [kc:KC r k] [hty:eP P ty k ag] (hj:j<l.length)
 (h:GR P w00 X L ((q, .to r e ts C B (l.set j a))::E0) n ops rest cs Q):GR P w00 X L E n ops (⟨none, .store ty (.tmp s) o,t0,pos,af,none⟩::rest) cs Q:=⟨fun ac w ht=>by
 refine cj rfl ?_
 obtain ⟨g,m,c,e1,e2⟩:=ht.slots _ hs.mem
 obtain ⟨e3,A,c',ps,e4,hps,hrd,hown,hfree⟩:=ht.slots _ hq.mem
 rw [e1] at e4
 injection e4 with e5 e6 e7
 subst e5 e6 e7
 obtain ⟨ds,hd1,hd2⟩:=ep.ok (ho.get (X:=X) (w:=w) (ρ:=ac.eval) (fun _=>rfl) fun p hp _=>ht.slots p hp)
 have e2':ac.eval (.tmp s)= .pointer (some ⟨g,j*k,none⟩):=e2
 have hk:=kc.ok
 have hlp:ps.length=l.length:=by rw [←hps,List.length_map]
 have hld:ds.length=k:=(r.len hd2).trans hk
 have hone:∀ x∈ds,x.oneCell'=true:=r.one hd2
 have hlen:∀ p∈ps,p.2.length=k:=fun p hp=>(r.len (hrd p hp)).trans hk
 obtain ⟨hBg,hlt⟩:=hown.blk_ g rfl
 have hgX:=(hfree g rfl).2
 have hgF:=hfree g rfl
 obtain ⟨hvl,h0|⟨g',cap,cur,h1,h2,h3,h4,h5,h6,h7⟩⟩:=hown
 ·cases h0.1
 injection h1 with h1 h1b h1c
 injection h1 with h1
 injection h1 with h1
 subst h1 h1c
 have hcs:cur=cur.toList.toArray:=by simp
 have hvs:(ps.flatMap Prod.snd).length=l.length*k:=by rw [hvl,hk]
 have hjk:j*k+k≤l.length*k:=by
  have:=Nat.mul_le_mul_right k (show j+1≤l.length by omega)
  rw [Nat.succ_mul] at this
  exact this
 have hcl:l.length*k≤cur.size:=by rw [h6,hk];exact Nat.mul_le_mul_right k h4
 have h3':w.heap[g]? =some (.cells cur.toList.toArray e (0,0)):=by rw [←hcs];exact h3
 have hsv:(storeVar ty ⟨g,j*k,none⟩ (ac.eval o)).run P w= .ok () (w.setRow g (cur.toList.take (j*k)++ds++cur.toList.drop (j*k+ds.length)).toArray):=by
  have:=run_storeVar_mid (P:=P) w g (j*k) ty ds.toArray (fun i hi=>by
   have hi:i<ds.length:=by simpa using hi
   have hb:j*k+i<cur.size:=qO
   refine ⟨?_,by simp [World.frozen?,h3]⟩
   rw [d7 (u:=cur[j*k+i]) h3 (by simp [hb])]
   rfl) (by rw [hty.size];simp [hld]) (all_oneCell_toArray hone)
  rw [←fe ds w g (j*k) cur.toList e h3' (by simp;omega)]
  rw [←this]
  unfold storeVar
  rw [hd1]
  rfl
 have hnew:(w.setRow g (cur.toList.take (j*k)++ds++cur.toList.drop (j*k+ds.length)).toArray).heap[g]? =some (.cells (cur.toList.take (j*k)++ds++cur.toList.drop (j*k+ds.length)).toArray e (0,0)):=setRow_heap w g _ _ e _ h3
 generalize hw':w.setRow g (cur.toList.take (j*k)++ds++cur.toList.drop (j*k+ds.length)).toArray=w' at hsv hnew
 have hch:BH e B X w w':=by
  subst hw'
  exact ⟨rfl,rfl,rfl,by simp [World.setRow],fun b hb=>by
   by_cases hbg:b=g
   ·exact .inr ⟨by rw [hbg];exact hBg,by rw [hbg];exact hgX,_,_,by rw [hbg];exact h3⟩
   ·exact .inl (setRow_other w _ _ _ hbg)⟩
 have hdr:=r.stT hd2 hch hC hn.ok
 have hT:(aa.to r e ts C B (l.set j a)).holds X w' sv:=by
  refine ⟨some ⟨g,0,none⟩,c,ps.set j (a,ds),by rw [List.length_set];exact e1,by rw [List.map_set,hps],fun p hp=> ?_,⟨?_, .inr ⟨g,c,_,by rw [List.length_set],hBg,hnew,?_,h5,?_,?_⟩⟩,fun g' hg'=> ?_⟩
  ·rcases List.mem_or_eq_of_mem_set hp with hp|rfl
   ·exact r.stT (hrd p hp) hch hC hn.ok
   ·exact hdr
  ·rw [←pQ (q:=(a,ds)) hld hlen qO,List.length_append,List.length_append,List.length_take,List.length_drop,hvs,hld,List.length_set,hk]
   omega
  ·rw [List.length_set];exact h4
  ·simp [←h6,hld]
   omega
  ·rw [List.length_set,←pQ (q:=(a,ds)) hld hlen qO,←h7,hk]
   have hA:(cur.toList.take (j*k)).length=j*k:=by simp;omega
   show List.take (l.length*k) (cur.toList.take (j*k)++ds++cur.toList.drop (j*k+ds.length))=_
   rw [List.append_assoc,List.take_append,List.take_append,hA,hld,List.take_of_length_le (by rw [hA];omega),List.take_of_length_le (l:=ds) qO,List.take_take,Nat.min_eq_left qO,List.drop_take,Nat.sub_sub,List.append_assoc]
  ·injection hg' with hg'
   subst hg'
   exact ⟨Nat.lt_of_lt_of_le hlt hch.size,hgX⟩
 unfold Oper.wp execOp
 simp only [e2',Instr.storeAt,Instr.sureAddr,Sem.run_bind,Sem.run_pure,Result.andThen_ok,hsv]
 have h5:=(ht.keep (E':=E0) ss).chT hch hB0
 refine h.run ac _ ⟨h5.size,h5.df,fun p hp=> ?_,h5.mem⟩
 rcases List.mem_cons.1 hp with rfl|hp
 ·have:ac.tmps.getD q undef=sv:=e3
  rw [this]
  exact hT
 ·exact h5.slots p hp⟩
end
def aa.nl {α:Type} (l:List α):aa:=⟨fun _ _ v=>∃ b,v= .bool b∧(b=true→l=[]),fun h _ _=>h⟩
section
variable {P:Program} {w00:World} {N:Nat} {L:List Loc} {E:List (Nat×aa)} {d:Nat} {t0:TypeId} {pos:String} {af:Array Edge} {gd:Option (Nat×Bool)}
theorem BT{α:Type} {r:Rp α} {ts:List TypeId} {k:Nat} {l:List α} {s:Nat} {t1:TypeId} [ho:bH E s (.tc r.row ts C l)] [ht:ca P ty k]:ay P w00 N L E ⟨some d, .binOp .eql ty (.tmp s) (.const (.slice none 0 0)) t1,t0,pos,af,gd⟩ (.nl l):=by
 constructor
 intro X ρ w hc _ hN hm hsl
 obtain ⟨A,n,c,e,h1,h2,h3,h4,h5⟩:=hsl _ ho.mem qI
 have e0:ρ (.tmp s)= .slice A n c:=by simpa using e
 have e1:ρ (.const (.slice none 0 0))= .slice none 0 0:=hc _
 obtain ⟨el,hu,_⟩:=ht.ok
 have hr:(execOp ρ ⟨some d, .binOp .eql ty (.tmp s) (.const (.slice none 0 0)) t1,t0,pos,af,gd⟩).run P w= .ok (.value (.bool A.isNone)) w:=by
  have hg:eqGuard .eql ty (.tmp s) (.const (.slice none 0 0)) (.slice A n c) (.slice none 0 0)=pure ():=rfl
  unfold execOp
  simp only [e0,e1,hg,binOp,Sem.run_bind,Sem.run_pure,Result.andThen_ok,run_equal_slice_nil (w:=w) ty el A n c hu]
 unfold Yields
 rw [hr]
 refine ⟨⟨_,rfl,fun hA=> ?_⟩,Below.refl _ _⟩
 have hA:A=none:=by simpa using hA
 have:=h4 hA
 exact List.eq_nil_of_length_eq_zero qO
end
section
variable {P:Program} {w00:World} {X:List Nat} {L L':List Loc} {E:List (Nat×aa)} {n:Nat} {ops:Array Oper} {rest:List Oper} {Q:Exit→Act→World→Prop} {cs:List Code} {x y:Code} {t0:TypeId} {pos:String} {af:Array Edge}
theorem pZ {α:Type} {l:List α} {c:Nat} [hl:bH E c (.nl l)] (h1:l=[]→GC P w00 X L E n (x::cs) Q) (h2:GC P w00 X L E n (y::cs) Q):GC P w00 X L E n (Code.cond (.tmp c) x y::cs) Q:=⟨fun a w ht=>by
 obtain ⟨b,e,hb⟩:=ht.slots _ hl.mem
 exact wp_cond_split (show a.eval (.tmp c)= .bool b from e) (fun e=>(h1 (hb e)).run a w ht) fun _=>h2.run a w ht⟩
instance {Ts:List aa} {i:Nat} {a b:Bool} {xs ys:List Int} {ts:List TypeId} {C:Nat} [h0:ot Ts i (.is (.bool a))] [h1:ot Ts (i+1) (.tc Rp.limbs ts C xs)] [h2:ot Ts (i+2) (.is (.bool b))] [h3:ot Ts (i+3) (.tc Rp.limbs ts C ys)]:ai (.st Ts) i 4 true (.tr Rp.frac ts C ((a,xs),(b,ys))):=⟨(fun h=>by cases h),fun {X w v} ⟨cs,e,h,o⟩=>by
 obtain ⟨u0,g0,k0⟩:=h.at_ h0.ok
 obtain ⟨u1,g1,k1⟩:=h.at_ h1.ok
 obtain ⟨u2,g2,k2⟩:=h.at_ h2.ok
 obtain ⟨u3,g3,k3⟩:=h.at_ h3.ok
 have k0:u0= .bool a:=k0
 have k2:u2= .bool b:=k2
 refine ⟨[u0,u1,u2,u3],rfl,fun j x hj=> ?_,fun x hx _=>⟨[u0,u1,u2,u3],hx rfl,[u0,u1],[u2,u3],rfl,⟨[u0],[u1],rfl,by rw [k0];rfl,k1⟩,⟨[u2],[u3],rfl,by rw [k2];rfl,k3⟩⟩⟩
 rw [e]
 show (cs.toArray)[i+j]? =some x
 rcases j with _|_|_|_|j
 ·have:u0=x:=by simpa using hj
  rw [←this];simpa using g0
 ·have:u1=x:=by simpa using hj
  rw [←this];simpa using g1
 ·have:u2=x:=by simpa using hj
  rw [←this];simpa using g2
 ·have:u3=x:=by simpa using hj
  rw [←this];simpa using g3
 ·simp at hj⟩
end
theorem ft{α:Type} {l:List α} {x z:α} (h:l[i]? =some x):(l.take i++List.replicate (l.length - i) z).set i x=l.take (i+1)++List.replicate (l.length - (i+1)) z:=by
 obtain ⟨h1,h2⟩:=List.getElem?_eq_some_iff.1 h
 have hl:(l.take i).length=i:=by rw [List.length_take];omega
 rw [List.set_append,hl,if_neg qO,Nat.sub_self,show l.length - i=(l.length - (i+1))+1 by omega,List.replicate_succ,List.set_cons_zero,List.take_succ_eq_append_getElem h1,h2,List.append_assoc]
 rfl
theorem eV{α:Type} {l:List α} {z:α} (h:i≤l.length):(l.take i++List.replicate (l.length - i) z).length=l.length:=by
 rw [List.length_append,List.length_take,List.length_replicate];omega
theorem fz{α:Type} {l:List α} {z:α} (h:i=l.length):l.take i++List.replicate (l.length - i) z=l:=by
 subst h
 simp
instance {f:FuncId} {B:Nat}:kP B (.fv f [] []):=⟨fun ⟨vs,us,e,h1,h2⟩ _=>⟨vs,us,e,by cases vs<;>first|trivial|exact h1,by cases us<;>first|trivial|exact h2⟩⟩
theorem jb{α:Type} {r:Rp α} {a:α} (h:(aa.rc r a).holds X w v):(aa.tc r [] w.heap.size a).holds X w v:=r.more h fun b hb=>⟨hb, .inl hb.1⟩
theorem Hw{α:Type} {r:Rp α} {ts:List TypeId} {l:List α} (h:l=[]):Cv (.is (.slice none 0 0)) (.to r e ts C B l):=⟨fun _ _ _ hv=>by
 subst h
 exact iQ hv⟩
theorem yO:iL Tryz.prog 117 (Rp.int .u32) 4 (0:Int):=⟨by
 obtain ⟨i,h1,h2,h3,h4⟩:∃ i,Tryz.prog.info? 117=some i∧i.zero=some (.int .u32 0)∧i.size=1∧i.bytes=4:=info_parts qK
 exact ⟨i,_,h1,h2,h3,h4,fun _ _=>rfl⟩⟩
theorem zy:iL Tryz.prog 9 Rp.str 16 ([]:List UInt8):=⟨by
 obtain ⟨i,h1,h2,h3,h4⟩:∃ i,Tryz.prog.info? 9=some i∧i.zero=some (Tx [])∧i.size=1∧i.bytes=16:=info_parts qK
 exact ⟨i,_,h1,h2,h3,h4,fun _ _=>⟨_,rfl,bn []⟩⟩⟩
instance JE:eP Tryz.prog 117 1 false:=⟨⟨_,Tryz.underlying117,rfl⟩,by kernel_rfl⟩
theorem qf:iL Tryz.prog 79 aA 128 m9:=dj.el qK
instance:f9 79 [117]:=⟨by decide⟩
theorem tX:iL Tryz.prog 84 aO 88 te:=eH.el qK
instance:f9 84 [117]:=⟨by decide⟩
theorem wN:iL Tryz.prog 119 aZ 96 iG:=fa.el qK
instance:f9 119 [117]:=⟨by decide⟩
theorem we:iL Tryz.prog 121 aY 96 iH:=fd.el qK
instance:f9 121 [117]:=⟨by decide⟩
theorem wn:iL Tryz.prog 123 aI 144 iR:=f7.el qK
instance:f9 123 [117]:=⟨by decide⟩
theorem uW:iL Tryz.prog 125 aR 144 rV:=eG.el qK
instance:f9 125 [117]:=⟨by decide⟩
theorem vl:iL Tryz.prog 127 bg 80 vE:=fX.el qK
instance:f9 127 [117]:=⟨by decide⟩
theorem wG:iL Tryz.prog 65 aq 128 r_:=em.el qK
instance:f9 65 [119,121,123,125,127,117]:=⟨by decide⟩
theorem fS {p:Prop} (h:p:=by first|exact s9|exact rF (by assumption)|exact mC|exact mx|exact lk (by assumption)|exact BT|exact fy (r:=(Rp.int .u32)) [] Tryz.underlying23 yO hlm (by decide) (by decide)|exact fy (r:=Rp.str) [] Tryz.underlying29 zy hlm (by decide) (by decide)|exact fy (r:=aA) [117] Tryz.underlying22 qf hlm (by decide) (by decide)|exact fy (r:=aO) [117] Tryz.underlying28 tX hlm (by decide) (by decide)|exact fy (r:=aZ) [117] Tryz.underlying59 wN hlm (by decide) (by decide)|exact fy (r:=aY) [117] Tryz.underlying60 we hlm (by decide) (by decide)|exact fy (r:=aI) [117] Tryz.underlying61 wn hlm (by decide) (by decide)|exact fy (r:=aR) [117] Tryz.underlying62 uW hlm (by decide) (by decide)|exact fy (r:=bg) [117] Tryz.underlying63 vl hlm (by decide) (by decide)|exact fy (r:=aq) [119,121,123,125,127,117] Tryz.underlying30 wG hlm (by decide) (by decide)|exact BC (by rw [eV (by omega)];exact hlt)|exact cZ|exact cQ|exact c_|exact mO (by first|assumption|rfl)|exact iY (by first|assumption|rfl)|exact iW|exact dB (by assumption)|exact dc|exact Hw (by assumption)|exact Jw hE (kx 0)|exact Jw hE (kx _)|exact Cv.rfl'):p:=h
theorem nC{l:List (Int)} (hlm:l.length≤1000000) (hr:∀ x∈l,bJ Tryz.prog S1 g [0] [.is (.int .u32 x)] (fun B=> .is (.int .u32 x))):bJ Tryz.prog S1 102 [0,0] [.rc (Rp.int .u32).row l, .fv g [] []] (fun B=> .to (Rp.frn B (Rp.int .u32)) 117 [] 0 B l):=by
 refine ia (As':=fun B=>[.tc (Rp.int .u32).row [] B l, .fv g [] []]) Tryz.func102 rfl Tryz.ntmps102 qE (fun _ _=>by kernel_rfl) (fun {X w vs} ha=>by
  obtain ⟨v,us,rfl,h,h2⟩:=ha.tail
  exact ⟨jb h,h2⟩) fun X w0 hE=> ?_
 repeat' first|kernel_rfl|refine pZ ?_ ?_|apply Bt.mk|refine nx ?_|apply ae|refine bc rfl ?_|exact fS|intro _
 refine aK fun a w h=> ?_
 refine aD (fun k a u=>∃ i:Nat,i+k=l.length∧TS w0 X [] [(15, .is (.int .i64 (i:Int))),(14, .is (.int .i64 (l.length:Int))),(13, .tc (Rp.int .u32).row [] w0.heap.size l),(5, .to (Rp.frn w0.heap.size (Rp.int .u32)) 117 [] 0 w0.heap.size (l.take i++List.replicate (l.length - i) (0:Int))),(0, .tc (Rp.int .u32).row [] w0.heap.size l),(1, .fv g [] [])] 28 a u) l.length ⟨0,by omega,h.keep [15,14,13,5,0,1]⟩ ?_
 clear h
 rintro k a u ⟨i,hi,h⟩
 by_cases hlt:i<l.length
 ·obtain ⟨x,hx⟩:∃ x,l[i]? =some x:=⟨_,List.getElem?_eq_getElem hlt⟩
  have hc:decide ((i:Int)<(l.length:Int))=true:=decide_eq_true qO
  have hw:IntKind.i64.wrap ((i:Int)+1)=((i+1:Nat):Int):=ak qO qO
  have kx:=fun C:Nat=>hr x (List.mem_of_getElem? hx)
  refine aB h ?_
  refine jm 5 [15,14,13,0,1] fun sv=> ?_
  clear h
  repeat' first|kernel_rfl|(refine jc 5 [15,14,13,0,1] (Nat.le_refl _) (Nat.zero_le _) (by rw [eV (by omega)];exact hlt) ?_)|exact aQ fun _ _ h=>⟨k - 1,by omega,i+1,by omega,by rw [←ft hx];exact h.keep [15,14,13,5,0,1]⟩|apply Bt.mk|refine nx ?_|apply cp (s:=15)|apply ae|refine bc rfl ?_|exact fS|intro _
 ·have hil:i=l.length:=qO
  have hc:decide ((i:Int)<(l.length:Int))=false:=decide_eq_false qO
  rw [fz hil] at h
  refine aB h ?_
  clear h
  repeat' first|kernel_rfl|apply Bt.mk|refine nx ?_|apply cp (s:=15)|apply ae|refine bc rfl ?_|exact fS|intro _
theorem t7{l:List (List UInt8)} (hlm:l.length≤1000000) (hr:∀ x∈l,bJ Tryz.prog S1 g [0] [.is (Tx x)] (fun B=> .is (Tx x))):bJ Tryz.prog S1 51 [0,0] [.rc Rp.str.row l, .fv g [] []] (fun B=> .to (Rp.frn B Rp.str) 9 [] 0 B l):=by
 refine ia (As':=fun B=>[.tc Rp.str.row [] B l, .fv g [] []]) Tryz.func51 rfl Tryz.ntmps51 qE (fun _ _=>by kernel_rfl) (fun {X w vs} ha=>by
  obtain ⟨v,us,rfl,h,h2⟩:=ha.tail
  exact ⟨jb h,h2⟩) fun X w0 hE=> ?_
 repeat' first|kernel_rfl|refine pZ ?_ ?_|apply Bt.mk|refine nx ?_|apply ae|refine bc rfl ?_|exact fS|intro _
 refine aK fun a w h=> ?_
 refine aD (fun k a u=>∃ i:Nat,i+k=l.length∧TS w0 X [] [(15, .is (.int .i64 (i:Int))),(14, .is (.int .i64 (l.length:Int))),(13, .tc Rp.str.row [] w0.heap.size l),(5, .to (Rp.frn w0.heap.size Rp.str) 9 [] 0 w0.heap.size (l.take i++List.replicate (l.length - i) ([]:List UInt8))),(0, .tc Rp.str.row [] w0.heap.size l),(1, .fv g [] [])] 28 a u) l.length ⟨0,by omega,h.keep [15,14,13,5,0,1]⟩ ?_
 clear h
 rintro k a u ⟨i,hi,h⟩
 by_cases hlt:i<l.length
 ·obtain ⟨x,hx⟩:∃ x,l[i]? =some x:=⟨_,List.getElem?_eq_getElem hlt⟩
  have hc:decide ((i:Int)<(l.length:Int))=true:=decide_eq_true qO
  have hw:IntKind.i64.wrap ((i:Int)+1)=((i+1:Nat):Int):=ak qO qO
  have kx:=fun C:Nat=>hr x (List.mem_of_getElem? hx)
  refine aB h ?_
  refine jm 5 [15,14,13,0,1] fun sv=> ?_
  clear h
  repeat' first|kernel_rfl|(refine jc 5 [15,14,13,0,1] (Nat.le_refl _) (Nat.zero_le _) (by rw [eV (by omega)];exact hlt) ?_)|exact aQ fun _ _ h=>⟨k - 1,by omega,i+1,by omega,by rw [←ft hx];exact h.keep [15,14,13,5,0,1]⟩|apply Bt.mk|refine nx ?_|apply cp (s:=15)|apply ae|refine bc rfl ?_|exact fS|intro _
 ·have hil:i=l.length:=qO
  have hc:decide ((i:Int)<(l.length:Int))=false:=decide_eq_false qO
  rw [fz hil] at h
  refine aB h ?_
  clear h
  repeat' first|kernel_rfl|apply Bt.mk|refine nx ?_|apply cp (s:=15)|apply ae|refine bc rfl ?_|exact fS|intro _
theorem sF{l:List (cP)} (hlm:l.length≤1000000) (hr:∀ x∈l,bJ Tryz.prog S1 g [0] [.ra aA x] (fun B=> .tr (Rp.frn B aA) [117] 0 x)):bJ Tryz.prog S1 46 [0,0] [.rc aA.row l, .fv g [] []] (fun B=> .to (Rp.frn B aA) 79 [117] 0 B l):=by
 refine ia (As':=fun B=>[.tc aA.row [] B l, .fv g [] []]) Tryz.func46 rfl Tryz.ntmps46 qE (fun _ _=>by kernel_rfl) (fun {X w vs} ha=>by
  obtain ⟨v,us,rfl,h,h2⟩:=ha.tail
  exact ⟨jb h,h2⟩) fun X w0 hE=> ?_
 repeat' first|kernel_rfl|refine pZ ?_ ?_|apply Bt.mk|refine nx ?_|apply ae|refine bc rfl ?_|exact fS|intro _
 refine aK fun a w h=> ?_
 refine aD (fun k a u=>∃ i:Nat,i+k=l.length∧TS w0 X [] [(15, .is (.int .i64 (i:Int))),(14, .is (.int .i64 (l.length:Int))),(13, .tc aA.row [] w0.heap.size l),(5, .to (Rp.frn w0.heap.size aA) 79 [117] 0 w0.heap.size (l.take i++List.replicate (l.length - i) m9)),(0, .tc aA.row [] w0.heap.size l),(1, .fv g [] [])] 28 a u) l.length ⟨0,by omega,h.keep [15,14,13,5,0,1]⟩ ?_
 clear h
 rintro k a u ⟨i,hi,h⟩
 by_cases hlt:i<l.length
 ·obtain ⟨x,hx⟩:∃ x,l[i]? =some x:=⟨_,List.getElem?_eq_getElem hlt⟩
  have hc:decide ((i:Int)<(l.length:Int))=true:=decide_eq_true qO
  have hw:IntKind.i64.wrap ((i:Int)+1)=((i+1:Nat):Int):=ak qO qO
  have kx:=fun C:Nat=>(hr x (List.mem_of_getElem? hx)).args (ks':=[0]) (As':=[.tr aA [] C x]) fun h=>by
   obtain ⟨v,us,rfl,h1,h2⟩:=h.tail
   exact ⟨iE h1,h2⟩
  refine aB h ?_
  refine jm 5 [15,14,13,0,1] fun sv=> ?_
  clear h
  repeat' first|kernel_rfl|(refine jc 5 [15,14,13,0,1] (Nat.le_refl _) (Nat.zero_le _) (by rw [eV (by omega)];exact hlt) ?_)|exact aQ fun _ _ h=>⟨k - 1,by omega,i+1,by omega,by rw [←ft hx];exact h.drop.keep [15,14,13,5,0,1]⟩|apply Bt.mk|refine nx ?_|apply cp (s:=15)|apply ae|refine bc rfl ?_|exact fS|intro _
 ·have hil:i=l.length:=qO
  have hc:decide ((i:Int)<(l.length:Int))=false:=decide_eq_false qO
  rw [fz hil] at h
  refine aB h ?_
  clear h
  repeat' first|kernel_rfl|apply Bt.mk|refine nx ?_|apply cp (s:=15)|apply ae|refine bc rfl ?_|exact fS|intro _
theorem wF{l:List (dJ)} (hlm:l.length≤1000000) (hr:∀ x∈l,bJ Tryz.prog S1 g [0] [.ra aO x] (fun B=> .tr (Rp.frn B aO) [117] 0 x)):bJ Tryz.prog S1 49 [0,0] [.rc aO.row l, .fv g [] []] (fun B=> .to (Rp.frn B aO) 84 [117] 0 B l):=by
 refine ia (As':=fun B=>[.tc aO.row [] B l, .fv g [] []]) Tryz.func49 rfl Tryz.ntmps49 qE (fun _ _=>by kernel_rfl) (fun {X w vs} ha=>by
  obtain ⟨v,us,rfl,h,h2⟩:=ha.tail
  exact ⟨jb h,h2⟩) fun X w0 hE=> ?_
 repeat' first|kernel_rfl|refine pZ ?_ ?_|apply Bt.mk|refine nx ?_|apply ae|refine bc rfl ?_|exact fS|intro _
 refine aK fun a w h=> ?_
 refine aD (fun k a u=>∃ i:Nat,i+k=l.length∧TS w0 X [] [(15, .is (.int .i64 (i:Int))),(14, .is (.int .i64 (l.length:Int))),(13, .tc aO.row [] w0.heap.size l),(5, .to (Rp.frn w0.heap.size aO) 84 [117] 0 w0.heap.size (l.take i++List.replicate (l.length - i) te)),(0, .tc aO.row [] w0.heap.size l),(1, .fv g [] [])] 28 a u) l.length ⟨0,by omega,h.keep [15,14,13,5,0,1]⟩ ?_
 clear h
 rintro k a u ⟨i,hi,h⟩
 by_cases hlt:i<l.length
 ·obtain ⟨x,hx⟩:∃ x,l[i]? =some x:=⟨_,List.getElem?_eq_getElem hlt⟩
  have hc:decide ((i:Int)<(l.length:Int))=true:=decide_eq_true qO
  have hw:IntKind.i64.wrap ((i:Int)+1)=((i+1:Nat):Int):=ak qO qO
  have kx:=fun C:Nat=>(hr x (List.mem_of_getElem? hx)).args (ks':=[0]) (As':=[.tr aO [] C x]) fun h=>by
   obtain ⟨v,us,rfl,h1,h2⟩:=h.tail
   exact ⟨iE h1,h2⟩
  refine aB h ?_
  refine jm 5 [15,14,13,0,1] fun sv=> ?_
  clear h
  repeat' first|kernel_rfl|(refine jc 5 [15,14,13,0,1] (Nat.le_refl _) (Nat.zero_le _) (by rw [eV (by omega)];exact hlt) ?_)|exact aQ fun _ _ h=>⟨k - 1,by omega,i+1,by omega,by rw [←ft hx];exact h.drop.keep [15,14,13,5,0,1]⟩|apply Bt.mk|refine nx ?_|apply cp (s:=15)|apply ae|refine bc rfl ?_|exact fS|intro _
 ·have hil:i=l.length:=qO
  have hc:decide ((i:Int)<(l.length:Int))=false:=decide_eq_false qO
  rw [fz hil] at h
  refine aB h ?_
  clear h
  repeat' first|kernel_rfl|apply Bt.mk|refine nx ?_|apply cp (s:=15)|apply ae|refine bc rfl ?_|exact fS|intro _
theorem yy{l:List (fk)} (hlm:l.length≤1000000) (hr:∀ x∈l,bJ Tryz.prog S1 g [0] [.ra aZ x] (fun B=> .tr (Rp.frn B aZ) [117] 0 x)):bJ Tryz.prog S1 104 [0,0] [.rc aZ.row l, .fv g [] []] (fun B=> .to (Rp.frn B aZ) 119 [117] 0 B l):=by
 refine ia (As':=fun B=>[.tc aZ.row [] B l, .fv g [] []]) Tryz.func104 rfl Tryz.ntmps104 qE (fun _ _=>by kernel_rfl) (fun {X w vs} ha=>by
  obtain ⟨v,us,rfl,h,h2⟩:=ha.tail
  exact ⟨jb h,h2⟩) fun X w0 hE=> ?_
 repeat' first|kernel_rfl|refine pZ ?_ ?_|apply Bt.mk|refine nx ?_|apply ae|refine bc rfl ?_|exact fS|intro _
 refine aK fun a w h=> ?_
 refine aD (fun k a u=>∃ i:Nat,i+k=l.length∧TS w0 X [] [(15, .is (.int .i64 (i:Int))),(14, .is (.int .i64 (l.length:Int))),(13, .tc aZ.row [] w0.heap.size l),(5, .to (Rp.frn w0.heap.size aZ) 119 [117] 0 w0.heap.size (l.take i++List.replicate (l.length - i) iG)),(0, .tc aZ.row [] w0.heap.size l),(1, .fv g [] [])] 28 a u) l.length ⟨0,by omega,h.keep [15,14,13,5,0,1]⟩ ?_
 clear h
 rintro k a u ⟨i,hi,h⟩
 by_cases hlt:i<l.length
 ·obtain ⟨x,hx⟩:∃ x,l[i]? =some x:=⟨_,List.getElem?_eq_getElem hlt⟩
  have hc:decide ((i:Int)<(l.length:Int))=true:=decide_eq_true qO
  have hw:IntKind.i64.wrap ((i:Int)+1)=((i+1:Nat):Int):=ak qO qO
  have kx:=fun C:Nat=>(hr x (List.mem_of_getElem? hx)).args (ks':=[0]) (As':=[.tr aZ [] C x]) fun h=>by
   obtain ⟨v,us,rfl,h1,h2⟩:=h.tail
   exact ⟨iE h1,h2⟩
  refine aB h ?_
  refine jm 5 [15,14,13,0,1] fun sv=> ?_
  clear h
  repeat' first|kernel_rfl|(refine jc 5 [15,14,13,0,1] (Nat.le_refl _) (Nat.zero_le _) (by rw [eV (by omega)];exact hlt) ?_)|exact aQ fun _ _ h=>⟨k - 1,by omega,i+1,by omega,by rw [←ft hx];exact h.drop.keep [15,14,13,5,0,1]⟩|apply Bt.mk|refine nx ?_|apply cp (s:=15)|apply ae|refine bc rfl ?_|exact fS|intro _
 ·have hil:i=l.length:=qO
  have hc:decide ((i:Int)<(l.length:Int))=false:=decide_eq_false qO
  rw [fz hil] at h
  refine aB h ?_
  clear h
  repeat' first|kernel_rfl|apply Bt.mk|refine nx ?_|apply cp (s:=15)|apply ae|refine bc rfl ?_|exact fS|intro _
theorem zB{l:List (fl)} (hlm:l.length≤1000000) (hr:∀ x∈l,bJ Tryz.prog S1 g [0] [.ra aY x] (fun B=> .tr (Rp.frn B aY) [117] 0 x)):bJ Tryz.prog S1 106 [0,0] [.rc aY.row l, .fv g [] []] (fun B=> .to (Rp.frn B aY) 121 [117] 0 B l):=by
 refine ia (As':=fun B=>[.tc aY.row [] B l, .fv g [] []]) Tryz.func106 rfl Tryz.ntmps106 qE (fun _ _=>by kernel_rfl) (fun {X w vs} ha=>by
  obtain ⟨v,us,rfl,h,h2⟩:=ha.tail
  exact ⟨jb h,h2⟩) fun X w0 hE=> ?_
 repeat' first|kernel_rfl|refine pZ ?_ ?_|apply Bt.mk|refine nx ?_|apply ae|refine bc rfl ?_|exact fS|intro _
 refine aK fun a w h=> ?_
 refine aD (fun k a u=>∃ i:Nat,i+k=l.length∧TS w0 X [] [(15, .is (.int .i64 (i:Int))),(14, .is (.int .i64 (l.length:Int))),(13, .tc aY.row [] w0.heap.size l),(5, .to (Rp.frn w0.heap.size aY) 121 [117] 0 w0.heap.size (l.take i++List.replicate (l.length - i) iH)),(0, .tc aY.row [] w0.heap.size l),(1, .fv g [] [])] 28 a u) l.length ⟨0,by omega,h.keep [15,14,13,5,0,1]⟩ ?_
 clear h
 rintro k a u ⟨i,hi,h⟩
 by_cases hlt:i<l.length
 ·obtain ⟨x,hx⟩:∃ x,l[i]? =some x:=⟨_,List.getElem?_eq_getElem hlt⟩
  have hc:decide ((i:Int)<(l.length:Int))=true:=decide_eq_true qO
  have hw:IntKind.i64.wrap ((i:Int)+1)=((i+1:Nat):Int):=ak qO qO
  have kx:=fun C:Nat=>(hr x (List.mem_of_getElem? hx)).args (ks':=[0]) (As':=[.tr aY [] C x]) fun h=>by
   obtain ⟨v,us,rfl,h1,h2⟩:=h.tail
   exact ⟨iE h1,h2⟩
  refine aB h ?_
  refine jm 5 [15,14,13,0,1] fun sv=> ?_
  clear h
  repeat' first|kernel_rfl|(refine jc 5 [15,14,13,0,1] (Nat.le_refl _) (Nat.zero_le _) (by rw [eV (by omega)];exact hlt) ?_)|exact aQ fun _ _ h=>⟨k - 1,by omega,i+1,by omega,by rw [←ft hx];exact h.drop.keep [15,14,13,5,0,1]⟩|apply Bt.mk|refine nx ?_|apply cp (s:=15)|apply ae|refine bc rfl ?_|exact fS|intro _
 ·have hil:i=l.length:=qO
  have hc:decide ((i:Int)<(l.length:Int))=false:=decide_eq_false qO
  rw [fz hil] at h
  refine aB h ?_
  clear h
  repeat' first|kernel_rfl|apply Bt.mk|refine nx ?_|apply cp (s:=15)|apply ae|refine bc rfl ?_|exact fS|intro _
theorem yQ{l:List (dM)} (hlm:l.length≤1000000) (hr:∀ x∈l,bJ Tryz.prog S1 g [0] [.ra aI x] (fun B=> .tr (Rp.frn B aI) [117] 0 x)):bJ Tryz.prog S1 108 [0,0] [.rc aI.row l, .fv g [] []] (fun B=> .to (Rp.frn B aI) 123 [117] 0 B l):=by
 refine ia (As':=fun B=>[.tc aI.row [] B l, .fv g [] []]) Tryz.func108 rfl Tryz.ntmps108 qE (fun _ _=>by kernel_rfl) (fun {X w vs} ha=>by
  obtain ⟨v,us,rfl,h,h2⟩:=ha.tail
  exact ⟨jb h,h2⟩) fun X w0 hE=> ?_
 repeat' first|kernel_rfl|refine pZ ?_ ?_|apply Bt.mk|refine nx ?_|apply ae|refine bc rfl ?_|exact fS|intro _
 refine aK fun a w h=> ?_
 refine aD (fun k a u=>∃ i:Nat,i+k=l.length∧TS w0 X [] [(15, .is (.int .i64 (i:Int))),(14, .is (.int .i64 (l.length:Int))),(13, .tc aI.row [] w0.heap.size l),(5, .to (Rp.frn w0.heap.size aI) 123 [117] 0 w0.heap.size (l.take i++List.replicate (l.length - i) iR)),(0, .tc aI.row [] w0.heap.size l),(1, .fv g [] [])] 28 a u) l.length ⟨0,by omega,h.keep [15,14,13,5,0,1]⟩ ?_
 clear h
 rintro k a u ⟨i,hi,h⟩
 by_cases hlt:i<l.length
 ·obtain ⟨x,hx⟩:∃ x,l[i]? =some x:=⟨_,List.getElem?_eq_getElem hlt⟩
  have hc:decide ((i:Int)<(l.length:Int))=true:=decide_eq_true qO
  have hw:IntKind.i64.wrap ((i:Int)+1)=((i+1:Nat):Int):=ak qO qO
  have kx:=fun C:Nat=>(hr x (List.mem_of_getElem? hx)).args (ks':=[0]) (As':=[.tr aI [] C x]) fun h=>by
   obtain ⟨v,us,rfl,h1,h2⟩:=h.tail
   exact ⟨iE h1,h2⟩
  refine aB h ?_
  refine jm 5 [15,14,13,0,1] fun sv=> ?_
  clear h
  repeat' first|kernel_rfl|(refine jc 5 [15,14,13,0,1] (Nat.le_refl _) (Nat.zero_le _) (by rw [eV (by omega)];exact hlt) ?_)|exact aQ fun _ _ h=>⟨k - 1,by omega,i+1,by omega,by rw [←ft hx];exact h.drop.keep [15,14,13,5,0,1]⟩|apply Bt.mk|refine nx ?_|apply cp (s:=15)|apply ae|refine bc rfl ?_|exact fS|intro _
 ·have hil:i=l.length:=qO
  have hc:decide ((i:Int)<(l.length:Int))=false:=decide_eq_false qO
  rw [fz hil] at h
  refine aB h ?_
  clear h
  repeat' first|kernel_rfl|apply Bt.mk|refine nx ?_|apply cp (s:=15)|apply ae|refine bc rfl ?_|exact fS|intro _
theorem wK{l:List (dT)} (hlm:l.length≤1000000) (hr:∀ x∈l,bJ Tryz.prog S1 g [0] [.ra aR x] (fun B=> .tr (Rp.frn B aR) [117] 0 x)):bJ Tryz.prog S1 110 [0,0] [.rc aR.row l, .fv g [] []] (fun B=> .to (Rp.frn B aR) 125 [117] 0 B l):=by
 refine ia (As':=fun B=>[.tc aR.row [] B l, .fv g [] []]) Tryz.func110 rfl Tryz.ntmps110 qE (fun _ _=>by kernel_rfl) (fun {X w vs} ha=>by
  obtain ⟨v,us,rfl,h,h2⟩:=ha.tail
  exact ⟨jb h,h2⟩) fun X w0 hE=> ?_
 repeat' first|kernel_rfl|refine pZ ?_ ?_|apply Bt.mk|refine nx ?_|apply ae|refine bc rfl ?_|exact fS|intro _
 refine aK fun a w h=> ?_
 refine aD (fun k a u=>∃ i:Nat,i+k=l.length∧TS w0 X [] [(15, .is (.int .i64 (i:Int))),(14, .is (.int .i64 (l.length:Int))),(13, .tc aR.row [] w0.heap.size l),(5, .to (Rp.frn w0.heap.size aR) 125 [117] 0 w0.heap.size (l.take i++List.replicate (l.length - i) rV)),(0, .tc aR.row [] w0.heap.size l),(1, .fv g [] [])] 28 a u) l.length ⟨0,by omega,h.keep [15,14,13,5,0,1]⟩ ?_
 clear h
 rintro k a u ⟨i,hi,h⟩
 by_cases hlt:i<l.length
 ·obtain ⟨x,hx⟩:∃ x,l[i]? =some x:=⟨_,List.getElem?_eq_getElem hlt⟩
  have hc:decide ((i:Int)<(l.length:Int))=true:=decide_eq_true qO
  have hw:IntKind.i64.wrap ((i:Int)+1)=((i+1:Nat):Int):=ak qO qO
  have kx:=fun C:Nat=>(hr x (List.mem_of_getElem? hx)).args (ks':=[0]) (As':=[.tr aR [] C x]) fun h=>by
   obtain ⟨v,us,rfl,h1,h2⟩:=h.tail
   exact ⟨iE h1,h2⟩
  refine aB h ?_
  refine jm 5 [15,14,13,0,1] fun sv=> ?_
  clear h
  repeat' first|kernel_rfl|(refine jc 5 [15,14,13,0,1] (Nat.le_refl _) (Nat.zero_le _) (by rw [eV (by omega)];exact hlt) ?_)|exact aQ fun _ _ h=>⟨k - 1,by omega,i+1,by omega,by rw [←ft hx];exact h.drop.keep [15,14,13,5,0,1]⟩|apply Bt.mk|refine nx ?_|apply cp (s:=15)|apply ae|refine bc rfl ?_|exact fS|intro _
 ·have hil:i=l.length:=qO
  have hc:decide ((i:Int)<(l.length:Int))=false:=decide_eq_false qO
  rw [fz hil] at h
  refine aB h ?_
  clear h
  repeat' first|kernel_rfl|apply Bt.mk|refine nx ?_|apply cp (s:=15)|apply ae|refine bc rfl ?_|exact fS|intro _
theorem ya{l:List (fC)} (hlm:l.length≤1000000) (hr:∀ x∈l,bJ Tryz.prog S1 g [0] [.ra bg x] (fun B=> .tr (Rp.frn B bg) [117] 0 x)):bJ Tryz.prog S1 112 [0,0] [.rc bg.row l, .fv g [] []] (fun B=> .to (Rp.frn B bg) 127 [117] 0 B l):=by
 refine ia (As':=fun B=>[.tc bg.row [] B l, .fv g [] []]) Tryz.func112 rfl Tryz.ntmps112 qE (fun _ _=>by kernel_rfl) (fun {X w vs} ha=>by
  obtain ⟨v,us,rfl,h,h2⟩:=ha.tail
  exact ⟨jb h,h2⟩) fun X w0 hE=> ?_
 repeat' first|kernel_rfl|refine pZ ?_ ?_|apply Bt.mk|refine nx ?_|apply ae|refine bc rfl ?_|exact fS|intro _
 refine aK fun a w h=> ?_
 refine aD (fun k a u=>∃ i:Nat,i+k=l.length∧TS w0 X [] [(15, .is (.int .i64 (i:Int))),(14, .is (.int .i64 (l.length:Int))),(13, .tc bg.row [] w0.heap.size l),(5, .to (Rp.frn w0.heap.size bg) 127 [117] 0 w0.heap.size (l.take i++List.replicate (l.length - i) vE)),(0, .tc bg.row [] w0.heap.size l),(1, .fv g [] [])] 28 a u) l.length ⟨0,by omega,h.keep [15,14,13,5,0,1]⟩ ?_
 clear h
 rintro k a u ⟨i,hi,h⟩
 by_cases hlt:i<l.length
 ·obtain ⟨x,hx⟩:∃ x,l[i]? =some x:=⟨_,List.getElem?_eq_getElem hlt⟩
  have hc:decide ((i:Int)<(l.length:Int))=true:=decide_eq_true qO
  have hw:IntKind.i64.wrap ((i:Int)+1)=((i+1:Nat):Int):=ak qO qO
  have kx:=fun C:Nat=>(hr x (List.mem_of_getElem? hx)).args (ks':=[0]) (As':=[.tr bg [] C x]) fun h=>by
   obtain ⟨v,us,rfl,h1,h2⟩:=h.tail
   exact ⟨iE h1,h2⟩
  refine aB h ?_
  refine jm 5 [15,14,13,0,1] fun sv=> ?_
  clear h
  repeat' first|kernel_rfl|(refine jc 5 [15,14,13,0,1] (Nat.le_refl _) (Nat.zero_le _) (by rw [eV (by omega)];exact hlt) ?_)|exact aQ fun _ _ h=>⟨k - 1,by omega,i+1,by omega,by rw [←ft hx];exact h.drop.keep [15,14,13,5,0,1]⟩|apply Bt.mk|refine nx ?_|apply cp (s:=15)|apply ae|refine bc rfl ?_|exact fS|intro _
 ·have hil:i=l.length:=qO
  have hc:decide ((i:Int)<(l.length:Int))=false:=decide_eq_false qO
  rw [fz hil] at h
  refine aB h ?_
  clear h
  repeat' first|kernel_rfl|apply Bt.mk|refine nx ?_|apply cp (s:=15)|apply ae|refine bc rfl ?_|exact fS|intro _
theorem yG{l:List (a_)} (hlm:l.length≤1000000) (hr:∀ x∈l,bJ Tryz.prog S1 g [0] [.ra aq x] (fun B=> .tr (Rp.frn B aq) [119,121,123,125,127,117] 0 x)):bJ Tryz.prog S1 52 [0,0] [.rc aq.row l, .fv g [] []] (fun B=> .to (Rp.frn B aq) 65 [119,121,123,125,127,117] 0 B l):=by
 refine ia (As':=fun B=>[.tc aq.row [] B l, .fv g [] []]) Tryz.func52 rfl Tryz.ntmps52 qE (fun _ _=>by kernel_rfl) (fun {X w vs} ha=>by
  obtain ⟨v,us,rfl,h,h2⟩:=ha.tail
  exact ⟨jb h,h2⟩) fun X w0 hE=> ?_
 repeat' first|kernel_rfl|refine pZ ?_ ?_|apply Bt.mk|refine nx ?_|apply ae|refine bc rfl ?_|exact fS|intro _
 refine aK fun a w h=> ?_
 refine aD (fun k a u=>∃ i:Nat,i+k=l.length∧TS w0 X [] [(15, .is (.int .i64 (i:Int))),(14, .is (.int .i64 (l.length:Int))),(13, .tc aq.row [] w0.heap.size l),(5, .to (Rp.frn w0.heap.size aq) 65 [119,121,123,125,127,117] 0 w0.heap.size (l.take i++List.replicate (l.length - i) r_)),(0, .tc aq.row [] w0.heap.size l),(1, .fv g [] [])] 28 a u) l.length ⟨0,by omega,h.keep [15,14,13,5,0,1]⟩ ?_
 clear h
 rintro k a u ⟨i,hi,h⟩
 by_cases hlt:i<l.length
 ·obtain ⟨x,hx⟩:∃ x,l[i]? =some x:=⟨_,List.getElem?_eq_getElem hlt⟩
  have hc:decide ((i:Int)<(l.length:Int))=true:=decide_eq_true qO
  have hw:IntKind.i64.wrap ((i:Int)+1)=((i+1:Nat):Int):=ak qO qO
  have kx:=fun C:Nat=>(hr x (List.mem_of_getElem? hx)).args (ks':=[0]) (As':=[.tr aq [] C x]) fun h=>by
   obtain ⟨v,us,rfl,h1,h2⟩:=h.tail
   exact ⟨iE h1,h2⟩
  refine aB h ?_
  refine jm 5 [15,14,13,0,1] fun sv=> ?_
  clear h
  repeat' first|kernel_rfl|(refine jc 5 [15,14,13,0,1] (Nat.le_refl _) (Nat.zero_le _) (by rw [eV (by omega)];exact hlt) ?_)|exact aQ fun _ _ h=>⟨k - 1,by omega,i+1,by omega,by rw [←ft hx];exact h.drop.keep [15,14,13,5,0,1]⟩|apply Bt.mk|refine nx ?_|apply cp (s:=15)|apply ae|refine bc rfl ?_|exact fS|intro _
 ·have hil:i=l.length:=qO
  have hc:decide ((i:Int)<(l.length:Int))=false:=decide_eq_false qO
  rw [fz hil] at h
  refine aB h ?_
  clear h
  repeat' first|kernel_rfl|apply Bt.mk|refine nx ?_|apply cp (s:=15)|apply ae|refine bc rfl ?_|exact fS|intro _
theorem rg{S:Nat→Prop} {cs:List Value} (h:Rp.limbs.rd w S xs cs):(Rp.int .u32).row.rd w S xs cs:=by
 obtain ⟨A,n,c,e,⟨⟨g1,g2,g3,g4,g5⟩,hf⟩,_⟩:=h
 refine ⟨A,n,c,e,g1,g2,g3,g4,fun hn=> ?_⟩
 obtain ⟨b,off,rfl,hb,hc⟩:=g5 hn
 refine ⟨b,off,rfl,hf hn b rfl,fun j x hx=>⟨[.int .u32 x],fun i u hu=> ?_,rfl⟩⟩
 cases i with
 |zero=>
  have e:Value.int .u32 x=u:=by simpa using hu
  subst e
  have:=hc j x hx
  simpa [show (Rp.int .u32).k=1 from rfl] using this
 |succ i=>simp at hu
theorem zn{S:Nat→Prop} {cs:List Value} (h:(Rp.int .u32).row.rd w S xs cs) (hd:Dg 4294967296 xs):Rp.limbs.rd w S xs cs:=by
 obtain ⟨A,n,c,e,g1,g2,g3,g4,g5⟩:=h
 refine ⟨A,n,c,e,⟨⟨g1,g2,g3,g4,fun hn=> ?_⟩,fun hn b hb=> ?_⟩,hd⟩
 ·obtain ⟨b,off,rfl,hb,hc⟩:=g5 hn
  have hcell:∀ j x,xs[j]? =some x→w.cell? ⟨b,off+j,none⟩=some (.int .u32 x):=fun j x hx=>by
   obtain ⟨cs',h1,h2⟩:=hc j x hx
   have h2:cs'=[.int .u32 x]:=h2
   have:=h1 0 (.int .u32 x) (by rw [h2];rfl)
   simpa [show (Rp.int .u32).k=1 from rfl] using this
  obtain ⟨x,hx⟩:∃ x,xs[0]? =some x:=⟨_,List.getElem?_eq_getElem qO⟩
  exact ⟨b,off,rfl,World.block_lt_of_cell? _ _ (hcell 0 x hx),hcell⟩
 ·obtain ⟨b',off,rfl,hb',_⟩:=g5 hn
  obtain rfl:b'=b:=by injection hb
  exact hb'
theorem II {α:Type} {a b c d:α}:∀ {i:Nat} {cs:List α},i+4≤cs.length→cs.take i++[a,b,c,d]++cs.drop (i+4)=(((cs.set i a).set (i+1) b).set (i+2) c).set (i+3) d
 |0,cs,h=>by
  match cs,h with
  |x0::x1::x2::x3::r,_=>simp
 |i+1,cs,h=>by
  match cs,h with
  |x::cs,h=>
   rw [List.length_cons] at h
   have:=II (a:=a) (b:=b) (c:=c) (d:=d) (i:=i) (cs:=cs) qO
   rw [show i+1+4=(i+4)+1 by omega,show i+1+1=(i+1)+1 by rfl,show i+1+2=(i+2)+1 by omega,show i+1+3=(i+3)+1 by omega]
   simp only [List.take_succ_cons,List.drop_succ_cons,List.set_cons_succ,List.cons_append]
   rw [←this]
section
variable {P:Program} {w00:World} {X:List Nat} {L L':List Loc} {E:List (Nat×aa)} {n:Nat} {ops:Array Oper} {rest:List Oper} {Q:Exit→Act→World→Prop} {cs:List Code} {t0:TypeId} {pos:String} {af:Array Edge}
theorem Fp {Ts T1 T2 T3 T4:List aa} {ty:TypeId} {s r i:Nat} {o:Operand} {B C:Nat} {ts:List TypeId} {q:aP} {ag:Bool} [hs:bH E s (.is (.pointer (some ⟨r,i,none⟩)))] [hl:mn L r (.st Ts)] [ho:cb E o (.tr (Rp.frn B Rp.frac) ts C q)]
 [s0:mj Ts i (.is (.bool q.1.1)) T1] [s1:mj T1 (i+1) (.tc (Rp.frn B Rp.limbs) ts C q.1.2) T2] [s2:mj T2 (i+2) (.is (.bool q.2.1)) T3] [s3:mj T3 (i+3) (.tc (Rp.frn B Rp.limbs) ts C q.2.2) T4] [hu:iV L r (.st Ts) (.st T4) L'] [hty:eP P ty 4 ag]
 (h:GR P w00 X L' E n ops rest cs Q):GR P w00 X L E n ops (⟨none, .store ty (.tmp s) o,t0,pos,af,none⟩::rest) cs Q:=⟨fun ac w ht=>by
 refine cj rfl ?_
 have e1:ac.eval (.tmp s)= .pointer (some ⟨r,i,none⟩):=ht.slots _ hs.mem
 obtain ⟨ds,hd1,hd2⟩:=ho.get (X:=X) (w:=w) (ρ:=ac.eval) (fun _=>rfl) fun p hp _=>ht.slots p hp
 have hone:∀ x∈ds,x.oneCell'=true:=Rp.frac.one hd2
 obtain ⟨d1,d2,rfl,⟨d3,d4,rfl,k0,k1⟩,⟨d5,d6,rfl,k2,k3⟩⟩:=hd2
 have k0:d3=[.bool q.1.1]:=k0
 have k2:d5=[.bool q.2.1]:=k2
 subst k0 k2
 obtain ⟨v4,rfl⟩:∃ v,d4=[v]:=List.length_eq_one_iff.1 (Rp.limbs.len k1)
 obtain ⟨v6,rfl⟩:∃ v,d6=[v]:=List.length_eq_one_iff.1 (Rp.limbs.len k3)
 obtain ⟨g1,g2,u,ty',⟨c0,rfl,ha,ho1⟩,g4⟩:=ht.mem.loc _ hu.upd.mem
 replace g4:w.heap[r]? =some (.cells c0.toArray ty' (0,0)):=g4
 obtain ⟨a0,l0⟩:=s0.ok
 obtain ⟨a1,l1⟩:=s1.ok
 obtain ⟨a2,l2⟩:=s2.ok
 obtain ⟨a3,l3⟩:=s3.ok
 have hlen:=ha.len
 have hl3:i+4≤c0.length:=by
  have:T3.length=Ts.length:=by rw [←a2,←a1,←a0];simp
  omega
 have hds:([Value.bool q.1.1]++[v4]++([Value.bool q.2.1]++[v6]))=[.bool q.1.1,v4, .bool q.2.1,v6]:=rfl
 rw [hds] at hone hd1
 have hsv:(storeVar ty ⟨r,i,none⟩ (ac.eval o)).run P w= .ok () (w.setRow r (c0.take i++[.bool q.1.1,v4, .bool q.2.1,v6]++c0.drop (i+4)).toArray):=by
  have:=run_storeVar_mid (P:=P) w r i ty #[.bool q.1.1,v4, .bool q.2.1,v6] (fun j hj=>by
   have hj:j<4:=by simpa using hj
   refine ⟨?_,by simp [World.frozen?,g4]⟩
   rw [d7 (u:=c0[i+j]' qO) g4 (by simp [show i+j<c0.length by omega])]
   rfl) (by rw [hty.size];rfl) (all_oneCell_toArray hone)
  have h4:=fe [.bool q.1.1,v4, .bool q.2.1,v6] w r i c0 ty' g4 (by simpa using hl3)
  simp only [List.length_cons,List.length_nil,Nat.zero_add,Nat.reduceAdd] at h4
  rw [←h4,←this]
  unfold storeVar
  rw [hd1]
 unfold Oper.wp execOp
 simp only [e1,Instr.storeAt,Instr.sureAddr,Sem.run_bind,Sem.run_pure,Result.andThen_ok,hsv]
 have hnew:(aa.st T4).holds X w (.agg (c0.take i++[.bool q.1.1,v4, .bool q.2.1,v6]++c0.drop (i+4)).toArray):=⟨_,rfl,by
  rw [II hl3,←a3,←a2,←a1,←a0]
  exact cd.put (show (aa.tc (Rp.frn B Rp.limbs) ts C q.2.2).holds X w v6 from k3) (cd.put (show (aa.is (.bool q.2.1)).holds X w (.bool q.2.1) from rfl) (cd.put (show (aa.tc (Rp.frn B Rp.limbs) ts C q.1.2).holds X w v4 from k1) (cd.put (show (aa.is (.bool q.1.1)).holds X w (.bool q.1.1) from rfl) ha))),fun x hx=>by
  rcases List.mem_append.1 hx with hx|hx
  ·rcases List.mem_append.1 hx with hx|hx
   ·exact ho1 x (List.mem_of_mem_take hx)
   ·exact hone x hx
  ·exact ho1 x (List.mem_of_mem_drop hx)⟩
 exact h.run ac _ (ht.write (k:=0) (k0:=0) (ag:=true) (ag0:=true) (v:= .agg (c0.take i++[.bool q.1.1,v4, .bool q.2.1,v6]++c0.drop (i+4)).toArray) hu.upd hnew)⟩
end
theorem Dc{ts:List TypeId} {q:aP} (h:(aa.tr Rp.frac ts C q).holds X w v):(aa.st [.is (.bool q.1.1), .tc Rp.limbs ts C q.1.2, .is (.bool q.2.1), .tc Rp.limbs ts C q.2.2]).holds X w v:=by
 obtain ⟨cs,e,h⟩:=h
 have hone:∀ x∈cs,x.oneCell'=true:=Rp.frac.one h
 obtain ⟨d1,d2,rfl,⟨d3,d4,rfl,k0,k1⟩,⟨d5,d6,rfl,k2,k3⟩⟩:=h
 have k0:d3=[.bool q.1.1]:=k0
 have k2:d5=[.bool q.2.1]:=k2
 subst k0 k2
 obtain ⟨v4,rfl⟩:∃ v,d4=[v]:=List.length_eq_one_iff.1 (Rp.limbs.len k1)
 obtain ⟨v6,rfl⟩:∃ v,d6=[v]:=List.length_eq_one_iff.1 (Rp.limbs.len k3)
 exact ⟨_,e,⟨rfl,k1,rfl,k3,trivial⟩,hone⟩
theorem xo{u:TypeId} (hd:Dg 4294967296 xs) (h:(aa.to (Rp.frn B (Rp.int .u32)) u [] 0 B xs).holds X w v):(aa.tc (Rp.frn B Rp.limbs) [u] 0 xs).holds X w v:=zn (wj h) hd
theorem DG{u:TypeId} {q:aP} (h1:Dg 4294967296 q.1.2) (h2:Dg 4294967296 q.2.2) (h:(aa.st [.is (.bool q.1.1), .to (Rp.frn B (Rp.int .u32)) u [] 0 B q.1.2, .is (.bool q.2.1), .to (Rp.frn B (Rp.int .u32)) u [] 0 B q.2.2]).holds X w v):(aa.tr (Rp.frn B Rp.frac) [u] 0 q).holds X w v:=by
 obtain ⟨cs,e,h,ho⟩:=h
 match cs,h with
 |[c0,c1,c2,c3],⟨k0,k1,k2,k3,_⟩=>
  have k0:c0= .bool q.1.1:=k0
  have k2:c2= .bool q.2.1:=k2
  exact ⟨_,e,[c0,c1],[c2,c3],rfl,⟨[c0],[c1],rfl,by rw [k0];rfl,xo h1 k1⟩,⟨[c2],[c3],rfl,by rw [k2];rfl,xo h2 k3⟩⟩
theorem de.frm{α:Type} {r:Rp α} {a:α} (z:de P ty r a):de P ty (Rp.frn B r) a:=by
 obtain ⟨fs,i,zs,h1,h2,h3,h4,h5⟩:=z.ok
 exact ⟨fs,i,zs,h1,h2,h3,h4,fun w S=>h5 w _⟩
end Go.Proofs.YtjjkikchncfekaaGreatDoor
