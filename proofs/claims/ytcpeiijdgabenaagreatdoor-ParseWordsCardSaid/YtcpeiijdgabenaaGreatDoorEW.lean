/- Package parse: readRow. -/
import Derived.Test.YtcpeiijdgabenaaGreatDoorEV
set_option maxHeartbeats 40000000
set_option maxRecDepth 20000
set_option synthInstance.maxHeartbeats 400000
set_option synthInstance.maxSize 4000
set_option linter.unusedSimpArgs false
set_option linter.unusedVariables false
namespace Go.Proofs.YtcpeiijdgabenaaGreatDoor
open Go Go.RowKit
variable {B rf C n:Nat} {X:List Nat} {w w00:World} {v:Value} {k a e at_:Int} {P:Program} {L:List Loc} {E:List (Nat×ai)} {ty:TypeId}
instance:dH 122 [80,130,82,132,134,136,128]:=⟨by decide⟩
instance:dH 124 [80,130,82,132,134,136,128]:=⟨by decide⟩
instance:dH 9 [80,130,82,132,134,136,128]:=⟨by decide⟩
theorem Dm{L':List Loc} {Q:Exit→Act→World→Prop} {cs:List Code} (hs:List.Sublist L' L) (h:GC P w00 X L' E n cs Q):GC P w00 X L E n cs Q:=⟨fun a w ht=>h.run a w (ht.lessL hs)⟩
theorem pH{w0:World} {X0:List Nat} {a:Act} [g:kH E 999 (.gc B X0 w0)] (hB:B≤w0.heap.size) (ht:TS w00 X L E n a w):B≤w.heap.size:=Nat.le_trans hB (ht.slots _ g.mem).2.1
theorem Eo{α:Type} {r:Rp α} {e:TypeId} {ts:List TypeId} {C0:Nat} {l:List α} (hBC:B≤C) (h:(ai.to r e ts C0 C l).holds X w v):(ai.to r e ts C0 B l).holds X w v:=by
 obtain ⟨A,c,ps,h1,h2,h3,h4,h5⟩:=h
 exact ⟨A,c,ps,h1,h2,h3,h4.lower hBC,h5⟩
theorem kp{α:Type} {r:Rp α} {e:TypeId} {ts ts':List TypeId} {l:List α} [s:fz (e::ts) ts'] (hBC:B≤C) (h:(ai.to (Rp.frn B r) e ts 0 C l).holds X w v):(Rp.frn B r.row).rd w (cu ts' 0 X w) l [v]:=
 Rp.more _ (AQ (Eo hBC h)) (cu.sub (s:=s))
theorem CG{y:cI} {ys:List Value} (hBC:B≤C) (h:bF X w (GS B C y) ys):(Rp.frn B cU).rd w (cu [130,82,132,134,136,128] 0 X w) y ys:=by
 obtain ⟨v0,r0,rfl,h0,h⟩:=h.unconsP
 obtain ⟨v1,r1,rfl,h1,h⟩:=h.unconsP
 obtain ⟨v2,r2,rfl,h2,h⟩:=h.unconsP
 obtain ⟨v3,r3,rfl,h3,h⟩:=h.unconsP
 obtain ⟨v4,r4,rfl,h4,h⟩:=h.unconsP
 obtain ⟨v5,r5,rfl,h5,h⟩:=h.unconsP
 obtain rfl:=h.unnilP
 haveI:fz [130,128] [130,82,132,134,136,128]:=⟨by decide⟩
 haveI:fz [82,128] [130,82,132,134,136,128]:=⟨by decide⟩
 haveI:fz [132,128] [130,82,132,134,136,128]:=⟨by decide⟩
 haveI:fz [134,128] [130,82,132,134,136,128]:=⟨by decide⟩
 haveI:fz [136,128] [130,82,132,134,136,128]:=⟨by decide⟩
 exact ⟨[v0],[v1,v2,v3,v4,v5],rfl,(by rw [show v0=_ from h0];rfl),[v1],[v2,v3,v4,v5],rfl,kp hBC h1,[v2],[v3,v4,v5],rfl,kp hBC h2,[v3],[v4,v5],rfl,kp hBC h3,[v4],[v5],rfl,kp hBC h4,kp hBC h5⟩
abbrev mi (x:Int):List ai:=[.is (.int .i64 x), .is (.slice none 0 0), .is (.slice none 0 0), .is (.slice none 0 0), .is (.slice none 0 0), .is (.slice none 0 0)]
theorem vl:fU Tryz.prog 80 fL (0,(),(),(),(),()):=⟨by
 obtain ⟨i,h1,h2,h3,h4⟩:∃ i,Tryz.prog.info? 80=some i∧i.zero=some (.agg #[.int .i64 0, .slice none 0 0, .slice none 0 0, .slice none 0 0, .slice none 0 0, .slice none 0 0])∧i.size=6∧i.bytes=128:=info_parts qK
 refine ⟨_,i,_,Tryz.underlying80,(fun f hf=> ?_),h1,h2,fun w S=> ?_⟩
 ·simp only [List.mem_cons,List.not_mem_nil,or_false] at hf
  rcases hf with rfl|rfl|rfl|rfl|rfl|rfl<;>exact Option.isSome_iff_exists.1 qK
 ·exact ⟨[.int .i64 0],[.slice none 0 0, .slice none 0 0, .slice none 0 0, .slice none 0 0, .slice none 0 0],rfl,rfl,[.slice none 0 0],[.slice none 0 0, .slice none 0 0, .slice none 0 0, .slice none 0 0],rfl,rfl,[.slice none 0 0],[.slice none 0 0, .slice none 0 0, .slice none 0 0],rfl,rfl,[.slice none 0 0],[.slice none 0 0, .slice none 0 0],rfl,rfl,[.slice none 0 0],[.slice none 0 0],rfl,rfl,rfl⟩⟩
instance (priority:=20000):cX Tryz.prog 80 (.tr fL [] 0 (0,(),(),(),(),())):=vl.alT
theorem uj{S:Nat→Prop} {x:tF} {cs:List Value} (h:fL.rd w S x cs):cs=[.int .i64 x.1, .slice none 0 0, .slice none 0 0, .slice none 0 0, .slice none 0 0, .slice none 0 0]:=by
 obtain ⟨c1,c2,e1,h1,c3,c4,e2,h2,c5,c6,e3,h3,c7,c8,e4,h4,c9,c10,e5,h5,h6⟩:=h
 have h1:c1=[.int .i64 x.1]:=h1
 have h2:c3=[.slice none 0 0]:=h2
 have h3:c5=[.slice none 0 0]:=h3
 have h4:c7=[.slice none 0 0]:=h4
 have h5:c9=[.slice none 0 0]:=h5
 have h6:c10=[.slice none 0 0]:=h6
 subst h1 h2 h3 h4 h5 h6 e5 e4 e3 e2 e1
 rfl
theorem HK(h:(ai.tr fL [] 0 (0,(),(),(),(),())).holds X w v):(ai.st (mi 0)).holds X w v:=by
 obtain ⟨cs,e,h⟩:=h
 obtain rfl:=uj h
 exact ⟨_,e,⟨rfl,rfl,rfl,rfl,rfl,rfl,trivial⟩,fL.one h⟩
instance {ts:List TypeId} {C:Nat} {x:Int}:qW ts C (.st (mi x)) fL (x,(),(),(),(),()):=⟨fun {X w v} ⟨cs,e,h,ho⟩=>by
 obtain ⟨v0,r0,rfl,h0,h⟩:=h.unconsP
 obtain ⟨v1,r1,rfl,h1,h⟩:=h.unconsP
 obtain ⟨v2,r2,rfl,h2,h⟩:=h.unconsP
 obtain ⟨v3,r3,rfl,h3,h⟩:=h.unconsP
 obtain ⟨v4,r4,rfl,h4,h⟩:=h.unconsP
 obtain ⟨v5,r5,rfl,h5,h⟩:=h.unconsP
 obtain rfl:=h.unnilP
 obtain rfl:v0=_:=h0
 obtain rfl:v1=_:=h1
 obtain rfl:v2=_:=h2
 obtain rfl:v3=_:=h3
 obtain rfl:v4=_:=h4
 obtain rfl:v5=_:=h5
 exact ⟨_,e,[.int .i64 x],[.slice none 0 0, .slice none 0 0, .slice none 0 0, .slice none 0 0, .slice none 0 0],rfl,rfl,[.slice none 0 0],[.slice none 0 0, .slice none 0 0, .slice none 0 0, .slice none 0 0],rfl,rfl,[.slice none 0 0],[.slice none 0 0, .slice none 0 0, .slice none 0 0],rfl,rfl,[.slice none 0 0],[.slice none 0 0, .slice none 0 0],rfl,rfl,[.slice none 0 0],[.slice none 0 0],rfl,rfl,rfl⟩⟩
theorem GF{x:tF} {w':World} {S:Nat→Prop} {ys:List Value} (h:fL.rd w S x ys):bF X w' (GS B C (x.1,[],[],[],[],[])) ys:=by
 obtain rfl:=uj h
 exact ⟨rfl,ky rfl,ky rfl,ky rfl,ky rfl,ky rfl,trivial⟩
instance {ts:List TypeId} {C B:Nat} {vs:List Value} {l:List (List UInt8)} [t:GV 64 vs l]:tw (.vs vs) (Rp.frn B Rp.str) ts C l:=⟨fun {X w v} hv=>by
 obtain ⟨A,c,ps,h1,h2,h3,h4,h5⟩:=(inferInstance:tw (.vs vs) Rp.str ts C l).ok hv
 exact ⟨A,c,ps,h1,h2,fun q hq=>gi (h3 q hq),h4,h5⟩⟩
def fk:List (cK→List UInt8→Option cK):=[fun s t=>(kM t).map (mF s),fun s t=>(m4 t).map (mV s)]
def f6:List (List UInt8→List UInt8→Option (List UInt8)):=[fun s t=>(gW t).map (fun x=>x)]
def jE:List (Int→List UInt8→Option Int):=[fun s t=>(iZ 1 9999 t).map (fun x=>x)]
def lC (d:ar) (x:List cK):ar:=(d.1,d.2.1,x,d.2.2.2.1,d.2.2.2.2.1,d.2.2.2.2.2.1,d.2.2.2.2.2.2.1,d.2.2.2.2.2.2.2.1,d.2.2.2.2.2.2.2.2.1,d.2.2.2.2.2.2.2.2.2.1,d.2.2.2.2.2.2.2.2.2.2.1,d.2.2.2.2.2.2.2.2.2.2.2.1,d.2.2.2.2.2.2.2.2.2.2.2.2)
def lq (d:ar) (x:List (List UInt8)):ar:=(d.1,d.2.1,d.2.2.1,d.2.2.2.1,d.2.2.2.2.1,d.2.2.2.2.2.1,d.2.2.2.2.2.2.1,d.2.2.2.2.2.2.2.1,d.2.2.2.2.2.2.2.2.1,d.2.2.2.2.2.2.2.2.2.1,d.2.2.2.2.2.2.2.2.2.2.1,x,d.2.2.2.2.2.2.2.2.2.2.2.2)
theorem Bf{r:Nat}:uz Tryz.prog (dk B) 161 [.pt (.is (.pointer (some ⟨r,0,none⟩)))] (fun s:List UInt8=>[(r, .is (Tx s))]) (fun _ t=>(gW t).map (fun x=>x)):=fun s t ht=>by
 have hg:((gW t).map (fun x=>x)).isSome=lW t:=by unfold gW;cases lW t<;>rfl
 have hs:∀ s1,(gW t).map (fun x=>x)=some s1→t=s1:=by
  intro s1
  unfold gW
  cases lW t<;>simp
 show j6 _ _ _ _ _ _ ((gW t).map (fun x=>x)) (.is (.bool ((gW t).map (fun x=>x)).isSome))
 rw [hg]
 refine tQ Tryz.func161 rfl Tryz.ntmps161 qE (fun _ _=>by kernel_rfl) fun w00 X L0 w hE hm=> ?_
 simp only [List.cons_append,List.nil_append,bf,Nat.zero_add,Nat.reduceAdd]
 repeat' first|kernel_rfl|apply aF|apply aG|apply aI|apply aD|apply aH|apply aA|apply aE|apply be|apply aq|apply a_|apply a8|apply aB|refine tM (LT:=(fun s=>[(r, .is (Tx s))])) (s':=t) (L1:=(r, .is (Tx t))::L0) rfl hm hs rfl ?_|apply bc|exact dj|exact bn|exact sc trivial tS|exact aj|exact ab|exact ah|exact ae|exact Cv.rfl'|intro _
def eI (d:ar) (x:List cI):ar:=(d.1,d.2.1,d.2.2.1,d.2.2.2.1,d.2.2.2.2.1,d.2.2.2.2.2.1,d.2.2.2.2.2.2.1,d.2.2.2.2.2.2.2.1,d.2.2.2.2.2.2.2.2.1,d.2.2.2.2.2.2.2.2.2.1,d.2.2.2.2.2.2.2.2.2.2.1,d.2.2.2.2.2.2.2.2.2.2.2.1,x)
def ai.fx (B:Nat) (d:ar) (ph:Bool):ai:=⟨fun X w v=>match ph with
 |false=>(ai.st (FA B d)).holds X w v
 |true=>∃ b c C l y,d.2.2.2.2.2.2.2.2.2.2.2.2=l++[y]∧(ai.st (po B C b c d l y)).holds X w v,
 fun {X X' w w' v} h hk hX=>by
  cases ph with
  |false=>exact (ai.st (FA B d)).stable h hk hX
  |true=>
   obtain ⟨b,c,C,l,y,e,h⟩:=h
   exact ⟨b,c,C,l,y,e,(ai.st (po B C b c d l y)).stable h hk hX⟩⟩
theorem bF.setE {X:List Nat} {w:World} {T:ai}:∀ {Ts:List ai} {vs:List Value} {i:Nat} {v:Value},bF X w Ts vs→vs[i]? =some v→T.holds X w v→bF X w (Ts.set i T) vs
 |[],[],_,_,_,h,_=>by cases h
 |S::Ts,v::vs,0,u,h,hu,ht=>⟨by injection hu with hu;subst hu;exact ht,h.2⟩
 |S::Ts,v::vs,i+1,u,h,hu,ht=>⟨h.1,bF.setE h.2 hu ht⟩
 |[],_::_,_,_,h,_,_=>h.elim
 |_::_,[],_,_,h,_,_=>h.elim
theorem AG{d:ar} {ph:Bool} (h:(ai.fx B d ph).holds X w v):(ai.st (FA B d)).holds X w v:=by
 cases ph with
 |false=>exact h
 |true=>
  obtain ⟨b,c,C,l,y,e,cs,hv,ha,ho⟩:=h
  obtain ⟨u,hu,hla⟩:=ha.at_ (i:=24) (T:= .la (Rp.frn B cU) 80 [130,82,132,134,136,128] C B b c l (GS B C y)) rfl
  have hBC:B≤C:=hla.2.1
  have:=bF.setE (T:= .to (Rp.frn B cU) 80 [130,82,132,134,136,128] 0 B d.2.2.2.2.2.2.2.2.2.2.2.2) ha hu (by rw [e];exact H_ (fun h=>CG hBC h) hla)
  exact ⟨cs,hv,this,ho⟩
theorem Gw{w0:Wd} {ws:List Wd} {d:ar} (hl:ws.length≤100000) (hw:∀ x∈ws,x.1.length≤65536) (hn:(d.2.2.1).length≤100000):lP Tryz.prog (dk B) 74 B (fun d=>[(rf, .st (FA B d))]) [.is (.pointer (some ⟨rf,0,none⟩)), .is (.int .u8 2), .ra Rp.lr (w0::ws,at_)] d ((eS (d.2.2.1).length 16 fk ws w0.2 d9).1.map fun x=>lC d (d.2.2.1++[x])) (.tup [.is (.int .i64 (eS (d.2.2.1).length 16 fk ws w0.2 d9).2.1), .is (.int .i64 (eS (d.2.2.1).length 16 fk ws w0.2 d9).2.2)]):=by
 have co:∀ r,j6 Tryz.prog (dk B) 114 (fun x=>[(r, .st (f7 B x))]) [.ra Rp.lr (w0::ws,at_), .is (.int .i64 (d.2.2.1).length), .is (.int .i64 16), .tf [.fv 164 [] [.pt (.is (.pointer (some ⟨r,0,none⟩)))], .fv 162 [] [.pt (.is (.pointer (some ⟨r,4,none⟩)))]]] d9 (eS (d.2.2.1).length 16 fk ws w0.2 d9).1 (.tup [.is (.int .i64 (eS (d.2.2.1).length 16 fk ws w0.2 d9).2.1), .is (.int .i64 (eS (d.2.2.1).length 16 fk ws w0.2 d9).2.2)]):=fun r=>
  (fO (B:=B) (LT:=fun x=>[(r, .st (f7 B x))]) (are:=(d.2.2.1).length) (most:=16) (gs:=fk) (w0:=w0) (ws:=ws) (at_:=at_) (s:=d9) hl qD hw).args fun {X w vs} h=>by
    obtain ⟨v0,vs,rfl,h1,h⟩:=h.tail
    obtain ⟨v1,v2,v3,rfl,h2,h3,h4⟩:=h.three
    exact ⟨h1,h2,h3,i_ (.cons (dK (iQ (r:=r) (Ts:=f7 B) (LR:=fun _=>[]) (u:=mF) (fun _ _=>rfl) (fun s a=>⟨_,_,_,⟨rfl,(by decide:0<8)⟩,⟨rfl,(by decide:1<8)⟩,⟨rfl,(by decide:2<8)⟩,⟨rfl,(by decide:3<8)⟩⟩))) (.cons (dK (i7 (r:=r) (Ts:=f7 B) (LR:=fun _=>[]) (u:=mV) (fun _ _=>rfl) (fun s a=>⟨_,_,_,⟨rfl,(by decide:4<8)⟩,⟨rfl,(by decide:5<8)⟩,⟨rfl,(by decide:6<8)⟩,⟨rfl,(by decide:7<8)⟩⟩))) .nil)) (jd h4),trivial⟩
 generalize eS (d.2.2.1).length 16 fk ws w0.2 d9=R at*
 haveI:ka 0 B:=⟨Nat.zero_le _⟩
 haveI:ka B B:=⟨Nat.le_refl _⟩
 have hxl:∀ x:cK,(d.2.2.1).length+[x].length≤1000000:=fun x=>by simp only [List.length_cons,List.length_nil];omega
 refine ya Tryz.func74 rfl Tryz.ntmps74 qE (fun _ _=>by kernel_rfl) fun w00 X L0 w hS hE hB hBw hm=> ?_
 haveI:=hS
 simp only [List.cons_append,List.nil_append,bf,Nat.zero_add,Nat.reduceAdd]
 repeat' first|kernel_rfl|(refine fd (.st (f7 B d9)) (fun _ _ _ h=>vn rfl rfl h) ?_)|apply cR (id:=4) [] [] 11 [(14,13),(15,14)]|apply cR (id:=5) [] [] 7 [(7,0)]|apply kV|(refine lR (LT:=fun x=>[(_, .st (f7 B x))]) (st:=d9) (ks:=[0,0,0,0]) [] rfl hE (co _) qK fun s' hs'=> ?_;simp only [List.cons_append,List.nil_append])|(refine gn (L':=(_,_)::(rf,_)::L0) (.cons_cons _ (.cons _ (.refl _))) ?_;refine Cn rf 2 ?_;refine kT [30,6,7,999] hB (Nat.zero_le _) (fun _ _ ht=>pH (X0:=X) hBw ht) pa (hxl _) qD qK ?_)|(refine oN ?_)|apply aF|apply aG|apply aI|apply bQ|apply de|exact bT.nil|exact aZ.nil|exact aY.nil|apply aD|apply aH|apply aM|apply aN|apply aA|apply aE|apply be|apply aq|apply a_|apply a8|apply aB|refine nD (LT:=(fun d=>[(rf, .st (FA B d))])) (s':=lC d (d.2.2.1++[s'])) (L1:=(rf, .st (FA B (d.1,d.2.1,d.2.2.1++[s'],d.2.2.2.1,d.2.2.2.2.1,d.2.2.2.2.2.1,d.2.2.2.2.2.2.1,d.2.2.2.2.2.2.2.1,d.2.2.2.2.2.2.2.2.1,d.2.2.2.2.2.2.2.2.2.1,d.2.2.2.2.2.2.2.2.2.2.1,d.2.2.2.2.2.2.2.2.2.2.2.1,d.2.2.2.2.2.2.2.2.2.2.2.2)))::L0) rfl hm (fun s1 h=>by cases hr:R.1 with|none=>rw [hr] at h;cases h|some x=>rw [hr] at h;rw [hs' x hr];exact Option.some.inj h) rfl ?_|apply bl|apply bO|apply bN|apply eo|apply em|refine eu rfl ?_|apply ep|apply ew|apply bc|exact bn|exact sc trivial fw|exact sc trivial eO|exact sc trivial ee|exact eJ rfl rfl|exact au rfl|exact gz|exact jw (r:=(Rp.frn B cq)) [128] 0 pN rfl (show 0<1*8 from by decide) (show 1*8≤1000000 from by decide) qD|exact aj|exact ab|exact ah|exact aa|exact aJ|exact au qG|exact am|exact ae|exact Cv.rfl'|(intro _;simp only[cP,cQ,cS,List.map,List.cons_append,List.nil_append])|intro _
theorem E4{w0:Wd} {ws:List Wd} {d:ar} (hl:ws.length≤100000) (hw:∀ x∈ws,x.1.length≤65536) (hn:(d.2.2.2.2.2.2.2.2.2.2.2.1).length≤100000):lP Tryz.prog (dk B) 74 B (fun d=>[(rf, .st (FA B d))]) [.is (.pointer (some ⟨rf,0,none⟩)), .is (.int .u8 9), .ra Rp.lr (w0::ws,at_)] d ((eS (d.2.2.2.2.2.2.2.2.2.2.2.1).length 256 f6 ws w0.2 ([]:List UInt8)).1.map fun x=>lq d (d.2.2.2.2.2.2.2.2.2.2.2.1++[x])) (.tup [.is (.int .i64 (eS (d.2.2.2.2.2.2.2.2.2.2.2.1).length 256 f6 ws w0.2 ([]:List UInt8)).2.1), .is (.int .i64 (eS (d.2.2.2.2.2.2.2.2.2.2.2.1).length 256 f6 ws w0.2 ([]:List UInt8)).2.2)]):=by
 have co:∀ r,j6 Tryz.prog (dk B) 114 (fun x=>[(r, .is (Tx x))]) [.ra Rp.lr (w0::ws,at_), .is (.int .i64 (d.2.2.2.2.2.2.2.2.2.2.2.1).length), .is (.int .i64 256), .tf [.fv 161 [] [.pt (.is (.pointer (some ⟨r,0,none⟩)))]]] ([]:List UInt8) (eS (d.2.2.2.2.2.2.2.2.2.2.2.1).length 256 f6 ws w0.2 ([]:List UInt8)).1 (.tup [.is (.int .i64 (eS (d.2.2.2.2.2.2.2.2.2.2.2.1).length 256 f6 ws w0.2 ([]:List UInt8)).2.1), .is (.int .i64 (eS (d.2.2.2.2.2.2.2.2.2.2.2.1).length 256 f6 ws w0.2 ([]:List UInt8)).2.2)]):=fun r=>
  (fO (B:=B) (LT:=fun x=>[(r, .is (Tx x))]) (are:=(d.2.2.2.2.2.2.2.2.2.2.2.1).length) (most:=256) (gs:=f6) (w0:=w0) (ws:=ws) (at_:=at_) (s:=([]:List UInt8)) hl qD hw).args fun {X w vs} h=>by
    obtain ⟨v0,vs,rfl,h1,h⟩:=h.tail
    obtain ⟨v1,v2,v3,rfl,h2,h3,h4⟩:=h.three
    exact ⟨h1,h2,h3,i_ (.cons (dK Bf) .nil) (jd h4),trivial⟩
 generalize eS (d.2.2.2.2.2.2.2.2.2.2.2.1).length 256 f6 ws w0.2 ([]:List UInt8)=R at*
 haveI:ka 0 B:=⟨Nat.zero_le _⟩
 haveI:ka B B:=⟨Nat.le_refl _⟩
 have hxl:∀ x:List UInt8,(d.2.2.2.2.2.2.2.2.2.2.2.1).length+[x].length≤1000000:=fun x=>by simp only [List.length_cons,List.length_nil];omega
 refine ya Tryz.func74 rfl Tryz.ntmps74 qE (fun _ _=>by kernel_rfl) fun w00 X L0 w hS hE hB hBw hm=> ?_
 haveI:=hS
 simp only [List.cons_append,List.nil_append,bf,Nat.zero_add,Nat.reduceAdd]
 repeat' first|kernel_rfl|apply cR (id:=12) [] [] 8 [(11,10),(12,11)]|apply cR (id:=13) [] [] 7 [(7,0)]|apply kV|(refine lR (LT:=fun x=>[(_, .is (Tx x))]) (st:=([]:List UInt8)) (ks:=[0,0,0,0]) [] rfl hE (co _) qK fun s' hs'=> ?_;simp only [List.cons_append,List.nil_append])|(refine gn (L':=(_,_)::(rf,_)::L0) (.cons_cons _ (.cons _ (.refl _))) ?_;refine Cn rf 23 ?_;refine kT [78,6,7,999] hB (Nat.zero_le _) (fun _ _ ht=>pH (X0:=X) hBw ht) Aj (hxl _) qD qK ?_)|(refine oN ?_)|apply aF|apply aG|apply aI|apply bQ|apply de|exact bT.nil|exact aZ.nil|exact aY.nil|apply aD|apply aH|apply aM|apply aN|apply aA|apply aE|apply be|apply aq|apply a_|apply a8|apply aB|refine nD (LT:=(fun d=>[(rf, .st (FA B d))])) (s':=lq d (d.2.2.2.2.2.2.2.2.2.2.2.1++[s'])) (L1:=(rf, .st (FA B (d.1,d.2.1,d.2.2.1,d.2.2.2.1,d.2.2.2.2.1,d.2.2.2.2.2.1,d.2.2.2.2.2.2.1,d.2.2.2.2.2.2.2.1,d.2.2.2.2.2.2.2.2.1,d.2.2.2.2.2.2.2.2.2.1,d.2.2.2.2.2.2.2.2.2.2.1,d.2.2.2.2.2.2.2.2.2.2.2.1++[s'],d.2.2.2.2.2.2.2.2.2.2.2.2)))::L0) rfl hm (fun s1 h=>by cases hr:R.1 with|none=>rw [hr] at h;cases h|some x=>rw [hr] at h;rw [hs' x hr];exact Option.some.inj h) rfl ?_|apply bl|apply bO|apply bN|apply eo|apply em|refine eu rfl ?_|apply ep|apply ew|apply bc|exact bn|exact sc trivial fw|exact sc trivial eO|exact sc trivial ee|exact eJ rfl rfl|exact au rfl|exact gz|exact lu rfl rfl rfl|exact aj|exact ab|exact ah|exact aa|exact aJ|exact au qG|exact am|exact ae|exact Cv.rfl'|(intro _;simp only[cP,cQ,cS,List.map,List.cons_append,List.nil_append])|intro _
theorem Ed{w0:Wd} {ws:List Wd} {d:ar} {ph:Bool} (hl:ws.length≤100000) (hw:∀ x∈ws,x.1.length≤65536) (hn:(d.2.2.2.2.2.2.2.2.2.2.2.2).length≤100000):lP Tryz.prog (dk B) 74 B (fun s:ar×Bool=>[(rf,ai.fx B s.1 s.2)]) [.is (.pointer (some ⟨rf,0,none⟩)), .is (.int .u8 10), .ra Rp.lr (w0::ws,at_)] (d,ph) ((eS (d.2.2.2.2.2.2.2.2.2.2.2.2).length 40 jE ws w0.2 0).1.map fun x=>(eI d (d.2.2.2.2.2.2.2.2.2.2.2.2++[(x,[],[],[],[],[])]),true)) (.tup [.is (.int .i64 (eS (d.2.2.2.2.2.2.2.2.2.2.2.2).length 40 jE ws w0.2 0).2.1), .is (.int .i64 (eS (d.2.2.2.2.2.2.2.2.2.2.2.2).length 40 jE ws w0.2 0).2.2)]):=by
 have co:∀ r,j6 Tryz.prog (dk B) 114 (fun x=>[(r, .st (mi x))]) [.ra Rp.lr (w0::ws,at_), .is (.int .i64 (d.2.2.2.2.2.2.2.2.2.2.2.2).length), .is (.int .i64 40), .tf [.fv 169 [] [.pt (.is (.pointer (some ⟨r,0,none⟩))), .pt (.is (.int .i64 1)), .pt (.is (.int .i64 9999))]]] 0 (eS (d.2.2.2.2.2.2.2.2.2.2.2.2).length 40 jE ws w0.2 0).1 (.tup [.is (.int .i64 (eS (d.2.2.2.2.2.2.2.2.2.2.2.2).length 40 jE ws w0.2 0).2.1), .is (.int .i64 (eS (d.2.2.2.2.2.2.2.2.2.2.2.2).length 40 jE ws w0.2 0).2.2)]):=fun r=>
  (fO (B:=B) (LT:=fun x=>[(r, .st (mi x))]) (are:=(d.2.2.2.2.2.2.2.2.2.2.2.2).length) (most:=40) (gs:=jE) (w0:=w0) (ws:=ws) (at_:=at_) (s:=0) hl qD hw).args fun {X w vs} h=>by
    obtain ⟨v0,vs,rfl,h1,h⟩:=h.tail
    obtain ⟨v1,v2,v3,rfl,h2,h3,h4⟩:=h.three
    exact ⟨h1,h2,h3,i_ (.cons (dK (lz (r:=r) (off:=0) (Ts:=mi) (LR:=fun _=>[]) (u:=fun _ x=>x) (fun _ _=>rfl) (fun s a=>⟨rfl,(by decide:0<6)⟩))) .nil) (jd h4),trivial⟩
 generalize (eS (d.2.2.2.2.2.2.2.2.2.2.2.2).length 40 jE ws w0.2 0)=R at*
 haveI:ka 0 B:=⟨Nat.zero_le _⟩
 haveI:ka B B:=⟨Nat.le_refl _⟩
 have hxl:(d.2.2.2.2.2.2.2.2.2.2.2.2).length+1≤1000000:=qO
 refine ya Tryz.func74 rfl Tryz.ntmps74 qE (fun _ _=>by kernel_rfl) fun w00 X L0 w hS hE hB hBw hm=> ?_
 haveI:=hS
 simp only [List.cons_append,List.nil_append,bf,Nat.zero_add,Nat.reduceAdd]
 refine fd (.st (FA B d)) (fun _ _ _ h=>AG h) ?_
 repeat' first|kernel_rfl|(refine fd (.st (mi 0)) (fun _ _ _ h=>HK h) ?_)|(refine Dm (L':=(rf,_)::L0) (.cons _ (.refl _)) ?_;refine fd (.fx B (d.1,d.2.1,d.2.2.1,d.2.2.2.1,d.2.2.2.2.1,d.2.2.2.2.2.1,d.2.2.2.2.2.2.1,d.2.2.2.2.2.2.2.1,d.2.2.2.2.2.2.2.2.1,d.2.2.2.2.2.2.2.2.2.1,d.2.2.2.2.2.2.2.2.2.2.1,d.2.2.2.2.2.2.2.2.2.2.2.1,d.2.2.2.2.2.2.2.2.2.2.2.2++[(s',[],[],[],[],[])]) true) (fun _ _ _ h=>⟨_,_,_,_,(s',[],[],[],[],[]),rfl,h⟩) ?_)|apply cR (id:=16) [] [] 9 [(12,11),(13,12)]|apply cR (id:=17) [] [] 7 [(7,0)]|apply kV|(refine lR (LT:=fun x=>[(_, .st (mi x))]) (st:=0) (ks:=[0,0,0,0]) [] rfl hE (co _) qK fun s' hs'=> ?_;simp only [List.cons_append,List.nil_append])|(refine gn (L':=(_,_)::(rf,_)::L0) (.cons_cons _ (.cons _ (.refl _))) ?_;refine Cn rf 24 ?_;refine Fj (r:=Rp.frn B cU) (r0:=fL) (ts0:=[]) (C0:=0) (Ys0:=fun C=>GS B C (s',[],[],[],[],[])) [103,6,7,999] hB (fun _ _ ht=>pH (X0:=X) hBw ht) (fun h=>h) rfl (fun h=>GF h) td hxl qD qK fun yb yc yC hBC=> ?_)|(refine oN ?_)|apply aF|apply aG|apply aI|apply bQ|apply de|exact bT.nil|exact aZ.nil|exact aY.nil|apply aD|apply aH|apply aM|apply aN|apply aA|apply aE|apply be|apply aq|apply a_|apply a8|apply aB|refine nD (LT:=(fun s:ar×Bool=>[(rf,ai.fx B s.1 s.2)])) (s':=((d.1,d.2.1,d.2.2.1,d.2.2.2.1,d.2.2.2.2.1,d.2.2.2.2.2.1,d.2.2.2.2.2.2.1,d.2.2.2.2.2.2.2.1,d.2.2.2.2.2.2.2.2.1,d.2.2.2.2.2.2.2.2.2.1,d.2.2.2.2.2.2.2.2.2.2.1,d.2.2.2.2.2.2.2.2.2.2.2.1,d.2.2.2.2.2.2.2.2.2.2.2.2++[(s',[],[],[],[],[])]),true)) (L1:=(rf, .fx B (d.1,d.2.1,d.2.2.1,d.2.2.2.1,d.2.2.2.2.1,d.2.2.2.2.2.1,d.2.2.2.2.2.2.1,d.2.2.2.2.2.2.2.1,d.2.2.2.2.2.2.2.2.1,d.2.2.2.2.2.2.2.2.2.1,d.2.2.2.2.2.2.2.2.2.2.1,d.2.2.2.2.2.2.2.2.2.2.2.1,d.2.2.2.2.2.2.2.2.2.2.2.2++[(s',[],[],[],[],[])]) true)::L0) rfl hm (fun s1 h=>by cases hr:R.1 with|none=>rw [hr] at h;cases h|some x=>rw [hr] at h;rw [hs' x hr];exact Option.some.inj h) rfl ?_|apply bl|apply bO|apply bN|apply eo|apply em|refine eu rfl ?_|apply ep|apply ew|apply bc|exact bn|exact sc trivial g_|exact eJ rfl rfl|exact au rfl|exact gz|exact jw (r:=fL) [] 0 vk rfl (show 0<1*6 from by decide) (show 1*6≤1000000 from by decide) qD|exact aj|exact ab|exact ah|exact aa|exact aJ|exact au qG|exact am|exact ae|exact Cv.rfl'|(intro _;simp only[cP,cQ,cS,List.map,List.cons_append,List.nil_append])|intro _
instance {B:Nat} {X0:List Nat} {w0:World}:sb B (.gc B X0 w0):=⟨fun {X w w' v} ⟨h1,h2⟩ hc=>⟨h1,Nat.le_trans h2.1 hc.1,fun b hb hx=>by
 rcases hc.2 b (Nat.lt_of_lt_of_le hb h2.1) (fun h=>hx (h1 b h hb)) with g|g
 ·rw [g];exact h2.2 b hb hx
 ·rcases h2.2 b hb hx with g3|g3
  ·exact .inr ⟨g.1,g3▸g.2⟩
  ·exact .inr g3⟩⟩
theorem lP.fx0{G:World→Prop} {f:FuncId} {As:List ai} {d:ar} {res:Option ar} {T:ai} (h:lP P G f B (fun d=>[(rf, .st (FA B d))]) As d res T):lP P G f B (fun s:ar×Bool=>[(rf,ai.fx B s.1 s.2)]) As (d,false) (res.map fun x=>(x,false)) T:=
 ⟨h.ent,fun hs hG h1 h2 hm ha=>(h.run hs hG h1 h2 hm ha).mono fun e w' ⟨s',e1,g⟩=>⟨(s',false),fun s1 hs1=>by
  cases res with
  |none=>cases hs1
  |some x=>rw [e1 x rfl];exact Option.some.inj hs1,g⟩⟩
theorem Cw{d:ar} {Q:Exit→Act→World→Prop} {cs:List Code} (h:∀ b c C l y,d.2.2.2.2.2.2.2.2.2.2.2.2=l++[y]→B≤C→GC P w00 X ((rf, .st (po B C b c d l y))::L) E n cs Q):GC P w00 X ((rf, .fx B d true)::L) E n cs Q:=⟨fun a w ht=>by
 obtain ⟨v,hv,f⟩:=ht.openL (r:=rf) List.mem_cons_self
 obtain ⟨b,c,C,l,y,e,hh⟩:=hv
 have hBC:B≤C:=by
  obtain ⟨cs,_,ha,_⟩:=hh
  obtain ⟨u,_,hla⟩:=ha.at_ (i:=24) (T:= .la (Rp.frn B cU) 80 [130,82,132,134,136,128] C B b c l (GS B C y)) rfl
  exact hla.2.1
 exact (h b c C l y e hBC).run a w (f (T':= .st (po B C b c d l y)) hh .here)⟩
theorem iU{ln:Ln} {s:ar×Bool} {res:Option (ar×Bool)} (h1:decide (11≤k)=false) (h2:(k==2)=false) (h3:decide (8≤k)=false) (hc:lP Tryz.prog (dk B) 75 B (fun s:ar×Bool=>[(rf,ai.fx B s.1 s.2)]) [.is (.pointer (some ⟨rf,0,none⟩)), .is (.int .u8 k), .ra Rp.lr ln] s res (.tup [.is (.int .i64 a), .is (.int .i64 e)])):lP Tryz.prog (dk B) 38 B (fun s:ar×Bool=>[(rf,ai.fx B s.1 s.2)]) [.is (.pointer (some ⟨rf,0,none⟩)), .is (.int .u8 k), .ra Rp.lr ln] s res (.tup [.is (.int .i64 a), .is (.int .i64 e)]):=by
 refine ya Tryz.func38 rfl Tryz.ntmps38 qE (fun _ _=>by kernel_rfl) fun w00 X L0 w hS hE hB hBw hm=> ?_
 haveI:=hS
 simp only [List.cons_append,List.nil_append,bf,Nat.zero_add,Nat.reduceAdd]
 repeat' first|kernel_rfl|(refine gn (L':=(rf,_)::L0) (.cons _ (.refl _)) ?_;refine ze (LT:=(fun s:ar×Bool=>[(rf,ai.fx B s.1 s.2)])) (st:=s) (L0:=L0) (ks:=[0,0,0]) [] [999] rfl hB (fun _ _ ht=>pH (X0:=X) hBw ht) hE hc hS qK fun s' hs'=> ?_;simp only [List.cons_append,List.nil_append])|apply aF|apply aG|apply aI|apply bQ|apply de|exact bT.nil|exact aZ.nil|exact aY.nil|apply aD|apply aH|apply aM|apply aN|apply aA|apply aE|apply be|apply aq|apply a_|apply a8|apply aB|refine nD (LT:=(fun s:ar×Bool=>[(rf,ai.fx B s.1 s.2)])) (s':=s') (L1:=(rf, .fx B s'.1 s'.2)::L0) rfl hm hs' rfl ?_|apply bl|apply bO|apply bN|apply eo|apply em|refine eu rfl ?_|apply ep|apply ew|apply bc|exact au qG|exact bP qG|exact aj|exact ab|exact ah|exact aa|exact aJ|exact au qG|exact bP qG|exact am|exact aK qL|exact ae|exact Cv.rfl'|(intro _;simp only[cP,cQ,cS,List.map,List.cons_append,List.nil_append])|intro _
theorem wx{ln:Ln} {s:ar×Bool} {res:Option (ar×Bool)} (h1:decide (11≤k)=false) (h2:(k==2)=true) (h3:decide (8≤k)=false) (hc:lP Tryz.prog (dk B) 74 B (fun s:ar×Bool=>[(rf,ai.fx B s.1 s.2)]) [.is (.pointer (some ⟨rf,0,none⟩)), .is (.int .u8 k), .ra Rp.lr ln] s res (.tup [.is (.int .i64 a), .is (.int .i64 e)])):lP Tryz.prog (dk B) 38 B (fun s:ar×Bool=>[(rf,ai.fx B s.1 s.2)]) [.is (.pointer (some ⟨rf,0,none⟩)), .is (.int .u8 k), .ra Rp.lr ln] s res (.tup [.is (.int .i64 a), .is (.int .i64 e)]):=by
 refine ya Tryz.func38 rfl Tryz.ntmps38 qE (fun _ _=>by kernel_rfl) fun w00 X L0 w hS hE hB hBw hm=> ?_
 haveI:=hS
 simp only [List.cons_append,List.nil_append,bf,Nat.zero_add,Nat.reduceAdd]
 repeat' first|kernel_rfl|(refine gn (L':=(rf,_)::L0) (.cons _ (.refl _)) ?_;refine ze (LT:=(fun s:ar×Bool=>[(rf,ai.fx B s.1 s.2)])) (st:=s) (L0:=L0) (ks:=[0,0,0]) [] [999] rfl hB (fun _ _ ht=>pH (X0:=X) hBw ht) hE hc hS qK fun s' hs'=> ?_;simp only [List.cons_append,List.nil_append])|apply aF|apply aG|apply aI|apply bQ|apply de|exact bT.nil|exact aZ.nil|exact aY.nil|apply aD|apply aH|apply aM|apply aN|apply aA|apply aE|apply be|apply aq|apply a_|apply a8|apply aB|refine nD (LT:=(fun s:ar×Bool=>[(rf,ai.fx B s.1 s.2)])) (s':=s') (L1:=(rf, .fx B s'.1 s'.2)::L0) rfl hm hs' rfl ?_|apply bl|apply bO|apply bN|apply eo|apply em|refine eu rfl ?_|apply ep|apply ew|apply bc|exact au qG|exact bP qG|exact aj|exact ab|exact ah|exact aa|exact aJ|exact au qG|exact bP qG|exact am|exact aK qL|exact ae|exact Cv.rfl'|(intro _;simp only[cP,cQ,cS,List.map,List.cons_append,List.nil_append])|intro _
theorem r_{ln:Ln} {s:ar×Bool} {res:Option (ar×Bool)} (h1:decide (11≤k)=false) (h2:(k==2)=false) (h3:decide (8≤k)=true) (hc:lP Tryz.prog (dk B) 74 B (fun s:ar×Bool=>[(rf,ai.fx B s.1 s.2)]) [.is (.pointer (some ⟨rf,0,none⟩)), .is (.int .u8 k), .ra Rp.lr ln] s res (.tup [.is (.int .i64 a), .is (.int .i64 e)])):lP Tryz.prog (dk B) 38 B (fun s:ar×Bool=>[(rf,ai.fx B s.1 s.2)]) [.is (.pointer (some ⟨rf,0,none⟩)), .is (.int .u8 k), .ra Rp.lr ln] s res (.tup [.is (.int .i64 a), .is (.int .i64 e)]):=by
 refine ya Tryz.func38 rfl Tryz.ntmps38 qE (fun _ _=>by kernel_rfl) fun w00 X L0 w hS hE hB hBw hm=> ?_
 haveI:=hS
 simp only [List.cons_append,List.nil_append,bf,Nat.zero_add,Nat.reduceAdd]
 repeat' first|kernel_rfl|(refine gn (L':=(rf,_)::L0) (.cons _ (.refl _)) ?_;refine ze (LT:=(fun s:ar×Bool=>[(rf,ai.fx B s.1 s.2)])) (st:=s) (L0:=L0) (ks:=[0,0,0]) [] [999] rfl hB (fun _ _ ht=>pH (X0:=X) hBw ht) hE hc hS qK fun s' hs'=> ?_;simp only [List.cons_append,List.nil_append])|apply aF|apply aG|apply aI|apply bQ|apply de|exact bT.nil|exact aZ.nil|exact aY.nil|apply aD|apply aH|apply aM|apply aN|apply aA|apply aE|apply be|apply aq|apply a_|apply a8|apply aB|refine nD (LT:=(fun s:ar×Bool=>[(rf,ai.fx B s.1 s.2)])) (s':=s') (L1:=(rf, .fx B s'.1 s'.2)::L0) rfl hm hs' rfl ?_|apply bl|apply bO|apply bN|apply eo|apply em|refine eu rfl ?_|apply ep|apply ew|apply bc|exact au qG|exact bP qG|exact aj|exact ab|exact ah|exact aa|exact aJ|exact au qG|exact bP qG|exact am|exact aK qL|exact ae|exact Cv.rfl'|(intro _;simp only[cP,cQ,cS,List.map,List.cons_append,List.nil_append])|intro _
theorem gR{ln:Ln} {d:ar} {l:List cI} {y:cI} {res:Option cI} (h1:decide (11≤k)=true) (hd:d.2.2.2.2.2.2.2.2.2.2.2.2=l++[y]) (hl:l.length≤1000000) (hc:∀ b c C,B≤C→lP Tryz.prog (dk B) 73 B (fun y=>[(rf, .st (po B C b c d l y))]) [.is (.pointer (some ⟨b,l.length*6,none⟩)), .is (.int .u8 k), .ra Rp.lr ln] y res (.tup [.is (.int .i64 a), .is (.int .i64 e)])):lP Tryz.prog (dk B) 38 B (fun s:ar×Bool=>[(rf,ai.fx B s.1 s.2)]) [.is (.pointer (some ⟨rf,0,none⟩)), .is (.int .u8 k), .ra Rp.lr ln] (d,true) (res.map fun y=>(eI d (l++[y]),true)) (.tup [.is (.int .i64 a), .is (.int .i64 e)]):=by
 have hsub:((.i64:IntKind).wrap (((l.length+1:Nat):Int) - 1))=(l.length:Int):=by rw [show ((l.length+1:Nat):Int) - 1=(l.length:Int) by omega];exact wG qO
 refine ya Tryz.func38 rfl Tryz.ntmps38 qE (fun _ _=>by kernel_rfl) fun w00 X L0 w hS hE hB hBw hm=> ?_
 haveI:=hS
 simp only [List.cons_append,List.nil_append,bf,Nat.zero_add,Nat.reduceAdd]
 refine Cw fun b c C l2 y2 e hBC=> ?_
 obtain ⟨rfl,e2⟩:=List.append_inj' (e.symm.trans hd) rfl
 obtain rfl:=List.singleton_inj.1 e2
 repeat' first|kernel_rfl|(refine fd (.fx B ((d.1,d.2.1,d.2.2.1,d.2.2.2.1,d.2.2.2.2.1,d.2.2.2.2.2.1,d.2.2.2.2.2.2.1,d.2.2.2.2.2.2.2.1,d.2.2.2.2.2.2.2.2.1,d.2.2.2.2.2.2.2.2.2.1,d.2.2.2.2.2.2.2.2.2.2.1,d.2.2.2.2.2.2.2.2.2.2.2.1,l2++[s'])) true) (fun _ _ _ h=>⟨b,c,C,l2,s',rfl,h⟩) ?_)|apply cR (id:=2) [] [] 13 [(15,14),(16,15)]|apply kV|(refine gn (L':=(rf,_)::L0) (.cons _ (.refl _)) ?_;refine ze (LT:=fun y=>[(rf, .st (po B C b c d l2 y))]) (st:=y2) (L0:=L0) (ks:=[0,0,0]) [] [999] rfl hB (fun _ _ ht=>pH (X0:=X) hBw ht) hE (hc b c C hBC) hS qK fun s' hs'=> ?_;simp only [List.cons_append,List.nil_append])|apply aF|apply aG|apply aI|apply bQ|apply de|exact bT.nil|exact aZ.nil|exact aY.nil|apply aD|apply aH|apply aM|apply aN|apply aA|apply aE|apply be|apply aq|apply a_|apply a8|apply aB|refine nD (LT:=(fun s:ar×Bool=>[(rf,ai.fx B s.1 s.2)])) (s':=(((d.1,d.2.1,d.2.2.1,d.2.2.2.1,d.2.2.2.2.1,d.2.2.2.2.2.1,d.2.2.2.2.2.2.1,d.2.2.2.2.2.2.2.1,d.2.2.2.2.2.2.2.2.1,d.2.2.2.2.2.2.2.2.2.1,d.2.2.2.2.2.2.2.2.2.2.1,d.2.2.2.2.2.2.2.2.2.2.2.1,l2++[s'])),true)) (L1:=(rf, .fx B ((d.1,d.2.1,d.2.2.1,d.2.2.2.1,d.2.2.2.2.1,d.2.2.2.2.2.1,d.2.2.2.2.2.2.1,d.2.2.2.2.2.2.2.1,d.2.2.2.2.2.2.2.2.1,d.2.2.2.2.2.2.2.2.2.1,d.2.2.2.2.2.2.2.2.2.2.1,d.2.2.2.2.2.2.2.2.2.2.2.1,l2++[s'])) true)::L0) rfl hm (fun s1 h=>by cases hr:res with|none=>rw [hr] at h;cases h|some x=>rw [hr] at h;rw [hs' x hr];exact Option.some.inj h) rfl ?_|apply bl|apply bO|apply bN|apply eo|apply em|refine eu rfl ?_|apply ep|apply ew|apply bc|exact bn|exact bP qG|exact BP|exact fQ hsub|exact AN rfl|exact aj|exact ab|exact ah|exact aa|exact aJ|exact au qG|exact bP qG|exact am|exact aK qL|exact ae|exact Cv.rfl'|(intro _;simp only[cP,cQ,cS,List.map,List.cons_append,List.nil_append])|intro _
def nL (a k:Nat):Bool:=(ul.getD a 0 / 2^k)%2==1
section
variable {P:Program} {w00:World} {N:Nat} {X:List Nat} {L:List Loc} {E:List (Nat×ai)} {n d:Nat} {ops:Array Oper} {rest:List Oper} {Q:Exit→Act→World→Prop} {cs:List Code} {t0:TypeId} {pos:String} {af:Array Edge} {gd:Option (Nat×Bool)}
theorem Fd {s g j len:Nat} {ty el:TypeId} {k:IntKind} [hs:ce E s (.is (.int k (j:Int)))] (hty:P.underlying ty=some (.array len el)) (hel:(P.info? el).map (·.size)=some 1) (hj:j<len) (hd:(Nat.blt d n&& !(E.map Prod.fst).elem d)=true)
 (h:GR P w00 X L ((d, .is (.pointer (some ⟨g,j,none⟩)))::E) n ops rest cs Q):GR P w00 X L E n ops (⟨some d, .indexAddr ty (.global g) (.tmp s),t0,pos,af,none⟩::rest) cs Q:=⟨fun a w ht=>by
 refine cA rfl ?_
 simp only [Bool.and_eq_true,Bool.not_eq_true'] at hd
 have e2:a.eval (.tmp s)= .int k j:=ht.slots _ hs.mem
 have e3:a.eval (.global g)= .pointer (some ⟨g,0,none⟩):=rfl
 have hz:(sizeOf el).run P w= .ok 1 w:=by
  cases hq:P.info? el with
  |none=>rw [hq] at hel;cases hel
  |some q=>
   rw [hq] at hel
   have:q.size=1:=by simpa using hel
   simp [sizeOf,typeInfo,hq,this]
 have hr:(execOp a.eval ⟨some d, .indexAddr ty (.global g) (.tmp s),t0,pos,af,none⟩).run P w= .ok (.value (.pointer (some ⟨g,0+j*1,none⟩))) w:=by
  unfold execOp
  have hji:(0:Int)≤(j:Int)∧(j:Int)<(len:Int):=⟨by omega,by omega⟩
  simp only [e2,e3,Instr.indexAt,asIntOf,Instr.sureAddr,Sem.run_bind,Sem.run_pure,Result.andThen_ok,run_underlying hty w,hji,and_self,if_true,hz,Int.toNat_natCast,Addr.add_mid]
 have hy:Yields P ⟨some d, .indexAddr ty (.global g) (.tmp s),t0,pos,af,none⟩ a.eval w fun v w'=>v= .pointer (some ⟨g,j,none⟩)∧w'=w:=by
  unfold Yields
  rw [hr]
  exact ⟨by rw [show 0+j*1=j by omega],rfl⟩
 refine Oper.wp_mono (fun a' w' hh=> ?_) hy.wp
 obtain ⟨v,rfl,rfl,rfl⟩:=hh
 exact h.run _ _ (ht.new hd.2 (by rw [←Nat.blt_eq];exact hd.1) rfl (Below.refl _ _))⟩
theorem E7{s g j:Nat} {u:Value} (hw:w00.cell? ⟨g,j,none⟩=some u) [ho:ce E s (.is (.pointer (some ⟨g,j,none⟩)))] [ht:eV P ty 1 false]:aR P w00 N L E ⟨some d, .load ty (.tmp s),t0,pos,af,gd⟩ (.is u):=by
 constructor
 intro X ρ w hc _ hN hm hsl
 have e1:ρ (.tmp s)= .pointer (some ⟨g,j,none⟩):=hsl _ ho.mem qI
 have hcell:w.cell? ⟨g,j,none⟩=some u:=km hw hm.below
 obtain ⟨dd,hu,hd⟩:=ht.row
 have hag:(isAgg ty).run P w= .ok false w:=by
  unfold isAgg
  rw [Sem.run_bind,run_underlying hu w]
  cases dd<;>first|rfl|cases hd
 have hrun:(execOp ρ ⟨some d, .load ty (.tmp s),t0,pos,af,gd⟩).run P w= .ok (.value u) w:=by
  unfold execOp
  simp only [e1,Instr.loadAt,Instr.sureAddr,loadVar,Sem.run_bind,Sem.run_pure,Result.andThen_ok,hag,run_load,hcell,if_false,Bool.false_eq_true]
 unfold Yields
 rw [hrun]
 exact ⟨rfl,Below.refl _ _⟩
theorem CV{o0 o1:Operand} {x y z:Int} {k:IntKind} {t1:TypeId} [h0:b_ E o0 (.is (.int .u32 x))] [h1:b_ E o1 (.is (.int k y))] (hz:0≤y∧y≤32∧x / 2^y.toNat=z):aR P w00 N L E ⟨some d, .binOp .shr ty o0 o1 t1,t0,pos,af,gd⟩ (.is (.int .u32 z)):=by
 constructor
 intro X ρ w hc _ hN hm hsl
 have e0:ρ o0= .int .u32 x:=h0.get (X:=X) (w:=w) hc fun p hp e=>hsl p hp qS
 have e1:ρ o1= .int k y:=h1.get (X:=X) (w:=w) hc fun p hp e=>hsl p hp qS
 clear hc hsl h0 h1
 obtain ⟨h2,h3,h4⟩:=hz
 unfold Yields
 go_simp
 exact ⟨by rw [←h4];rfl,Below.refl _ _⟩
theorem Ej{o0 o1:Operand} {x y z:Int} {t1:TypeId} [h0:b_ E o0 (.is (.int .u32 x))] [h1:b_ E o1 (.is (.int .u32 y))] (hz:bits .and .u32 x y=z):aR P w00 N L E ⟨some d, .binOp .and ty o0 o1 t1,t0,pos,af,gd⟩ (.is (.int .u32 z)):=by
 constructor
 intro X ρ w hc _ hN hm hsl
 have e0:ρ o0= .int .u32 x:=h0.get (X:=X) (w:=w) hc fun p hp e=>hsl p hp qS
 have e1:ρ o1= .int .u32 y:=h1.get (X:=X) (w:=w) hc fun p hp e=>hsl p hp qS
 clear hc hsl h0 h1
 unfold Yields
 go_simp
 exact ⟨by rw [←hz];rfl,Below.refl _ _⟩
end
theorem wX {a k:Nat} (ha:a<18) (hk:k≤31):dB Tryz.prog fE 37 [0,0] [.is (.int .u8 a), .is (.int .u8 k)] (fun _=> .is (.bool (nL a k))):=by
 have hg:ul.getD a 0=(ul[a]?).getD 0:=rfl
 obtain ⟨z,hz⟩:∃ z,ul[a]? =some z:=⟨ul[a]'ha,List.getElem?_eq_getElem ha⟩
 have hz0:0≤z∧z<4294967296:=(by decide:∀ z∈ul,0≤z∧z<4294967296) z (List.mem_of_getElem? hz)
 have hsh:(0:Int)≤(k:Int)∧(k:Int)≤32∧z / 2^(k:Int).toNat=z / 2^k:=⟨by omega,by omega,by rw [Int.toNat_natCast]⟩
 have hq:0≤z / 2^k∧z / 2^k<4294967296:=by
  have h2:(0:Int)<2^k:=Int.pow_pos qD
  refine ⟨Int.ediv_nonneg hz0.1 (Int.le_of_lt h2),Int.lt_of_le_of_lt (Int.ediv_le_self _ hz0.1) hz0.2⟩
 have han:bits .and .u32 (z / 2^k) 1=(z / 2^k)%2:=by
  rw [u32_and _ _ hq.1 hq.2 qD qD,show (1:Int).toNat=1 from rfl,Nat.and_one_is_mod]
  omega
 have hm:((z / 2^k)%2==1)=nL a k:=by unfold nL;rw [hg,hz];rfl
 refine fA Tryz.func37 rfl Tryz.ntmps37 qE (fun _ _=>by kernel_rfl) fun X w hE=> ?_
 simp only [bf,Nat.zero_add,Nat.reduceAdd]
 repeat' first|kernel_rfl|apply cR (id:=1) [] [] 99 []|(refine Fd (len:=18) (el:=128) qK qK ha qK ?_)|apply aF|apply aG|apply aI|apply aD|apply aH|apply aM|apply aN|apply aA|apply aE|apply be|apply aq|apply a_|apply a8|apply aB|refine fm rfl ?_|apply bl|apply bO|apply bN|apply eo|apply em|refine eu rfl ?_|apply ep|apply ew|apply bc|exact E7 (hE.bh a z hz)|exact CV hsh|exact Ej han|exact au hm|exact aj|exact ab|exact ah|exact au qG|exact aK qL|exact ae|exact Cv.rfl'|intro _
end Go.Proofs.YtcpeiijdgabenaaGreatDoor
