/- Package parse: readItem. -/
import Derived.Test.YtcpeiijdgabenaaGreatDoorEU
set_option maxHeartbeats 40000000
set_option maxRecDepth 20000
set_option synthInstance.maxHeartbeats 400000
set_option synthInstance.maxSize 4000
set_option linter.unusedSimpArgs false
set_option linter.unusedVariables false
namespace Go.Proofs.YtcpeiijdgabenaaGreatDoor
open Go Go.RowKit
variable {C B b c rf:Nat} {at_:Int} {e:TypeId}
instance:dH 130 [122,128]:=⟨by decide⟩
instance:dH 130 [124,128]:=⟨by decide⟩
instance:dH 130 [82,128]:=⟨by decide⟩
instance:dH 130 [132,128]:=⟨by decide⟩
instance:dH 130 [134,128]:=⟨by decide⟩
instance:dH 130 [136,128]:=⟨by decide⟩
instance:dH 130 [9]:=⟨by decide⟩
instance:dH 82 [122,128]:=⟨by decide⟩
instance:dH 82 [124,128]:=⟨by decide⟩
instance:dH 82 [130,128]:=⟨by decide⟩
instance:dH 82 [132,128]:=⟨by decide⟩
instance:dH 82 [134,128]:=⟨by decide⟩
instance:dH 82 [136,128]:=⟨by decide⟩
instance:dH 82 [9]:=⟨by decide⟩
instance:dH 132 [122,128]:=⟨by decide⟩
instance:dH 132 [124,128]:=⟨by decide⟩
instance:dH 132 [130,128]:=⟨by decide⟩
instance:dH 132 [82,128]:=⟨by decide⟩
instance:dH 132 [134,128]:=⟨by decide⟩
instance:dH 132 [136,128]:=⟨by decide⟩
instance:dH 132 [9]:=⟨by decide⟩
instance:dH 134 [122,128]:=⟨by decide⟩
instance:dH 134 [124,128]:=⟨by decide⟩
instance:dH 134 [130,128]:=⟨by decide⟩
instance:dH 134 [82,128]:=⟨by decide⟩
instance:dH 134 [132,128]:=⟨by decide⟩
instance:dH 134 [136,128]:=⟨by decide⟩
instance:dH 134 [9]:=⟨by decide⟩
instance:dH 136 [122,128]:=⟨by decide⟩
instance:dH 136 [124,128]:=⟨by decide⟩
instance:dH 136 [130,128]:=⟨by decide⟩
instance:dH 136 [82,128]:=⟨by decide⟩
instance:dH 136 [132,128]:=⟨by decide⟩
instance:dH 136 [134,128]:=⟨by decide⟩
instance:dH 136 [9]:=⟨by decide⟩
instance:dH 80 [122,128]:=⟨by decide⟩
instance:dH 80 [124,128]:=⟨by decide⟩
instance:dH 80 [130,128]:=⟨by decide⟩
instance:dH 80 [82,128]:=⟨by decide⟩
instance:dH 80 [132,128]:=⟨by decide⟩
instance:dH 80 [134,128]:=⟨by decide⟩
instance:dH 80 [136,128]:=⟨by decide⟩
instance:dH 80 [128]:=⟨by decide⟩
instance:dH 80 [9]:=⟨by decide⟩
instance:dH 122 [124,128]:=⟨by decide⟩
instance:dH 122 [130,128]:=⟨by decide⟩
instance:dH 122 [82,128]:=⟨by decide⟩
instance:dH 122 [132,128]:=⟨by decide⟩
instance:dH 122 [134,128]:=⟨by decide⟩
instance:dH 122 [136,128]:=⟨by decide⟩
instance:dH 122 [9]:=⟨by decide⟩
instance:dH 124 [122,128]:=⟨by decide⟩
instance:dH 124 [130,128]:=⟨by decide⟩
instance:dH 124 [82,128]:=⟨by decide⟩
instance:dH 124 [132,128]:=⟨by decide⟩
instance:dH 124 [134,128]:=⟨by decide⟩
instance:dH 124 [136,128]:=⟨by decide⟩
instance:dH 124 [9]:=⟨by decide⟩
instance:dH 9 [122,128]:=⟨by decide⟩
instance:dH 9 [124,128]:=⟨by decide⟩
instance:dH 9 [130,128]:=⟨by decide⟩
instance:dH 9 [82,128]:=⟨by decide⟩
instance:dH 9 [132,128]:=⟨by decide⟩
instance:dH 9 [134,128]:=⟨by decide⟩
instance:dH 9 [136,128]:=⟨by decide⟩
instance:dH 9 [128]:=⟨by decide⟩
instance:G4 130 80:=⟨by decide⟩
instance:G4 82 80:=⟨by decide⟩
instance:G4 132 80:=⟨by decide⟩
instance:G4 134 80:=⟨by decide⟩
instance:G4 136 80:=⟨by decide⟩
instance {e:TypeId} {B C:Nat} {T:ai} [l:ka B C]:jT e C (.und B T):=⟨fun {X w w' v} ⟨hB,h⟩ hs=>⟨Nat.le_trans hB hs.size,T.stable h ⟨hs.size,fun b hb hx=>by
 rcases hs.block b hb with e|⟨g,_⟩
 ·exact e
 ·exact absurd (List.mem_append_right _ (di.2 ⟨hb,Nat.le_trans l.ok g⟩)) hx⟩ (fun b hb hlt=>by
 rcases List.mem_append.1 hb with hb|hb
 ·exact List.mem_append_left _ hb
 ·exact List.mem_append_right _ (di.2 ⟨hlt,(di.1 hb).2⟩))⟩⟩
abbrev GS (B C:Nat) (y:cI):List ai:=[.is (.int .i64 y.1), .to (Rp.frn B eH) 130 [128] 0 C (y.2.1), .to (Rp.frn B eF) 82 [128] 0 C (y.2.2.1), .to (Rp.frn B cH) 132 [128] 0 C (y.2.2.2.1), .to (Rp.frn B dz) 134 [128] 0 C (y.2.2.2.2.1), .to (Rp.frn B e9) 136 [128] 0 C (y.2.2.2.2.2)]
abbrev po (B C b c:Nat) (d:ar) (l:List cI) (y:cI):List ai:=[.is (Tx (d.1)), .is (Tx (d.2.1)), .to (Rp.frn B cq) 122 [128] 0 B (d.2.2.1), .is (.bool ((d.2.2.2.1)).1.1), .tc (Rp.frn B Rp.limbs) [128] 0 ((d.2.2.2.1)).1.2, .is (.bool ((d.2.2.2.1)).2.1), .tc (Rp.frn B Rp.limbs) [128] 0 ((d.2.2.2.1)).2.2, .is (.bool ((d.2.2.2.2.1)).1.1), .tc (Rp.frn B Rp.limbs) [128] 0 ((d.2.2.2.2.1)).1.2, .is (.bool ((d.2.2.2.2.1)).2.1), .tc (Rp.frn B Rp.limbs) [128] 0 ((d.2.2.2.2.1)).2.2, .is (.int .i64 (d.2.2.2.2.2.1)), .is (.int .i64 (d.2.2.2.2.2.2.1)), .is (.bool ((d.2.2.2.2.2.2.2.1)).1.1), .tc (Rp.frn B Rp.limbs) [128] 0 ((d.2.2.2.2.2.2.2.1)).1.2, .is (.bool ((d.2.2.2.2.2.2.2.1)).2.1), .tc (Rp.frn B Rp.limbs) [128] 0 ((d.2.2.2.2.2.2.2.1)).2.2, .is (.bool ((d.2.2.2.2.2.2.2.2.1)).1.1), .tc (Rp.frn B Rp.limbs) [128] 0 ((d.2.2.2.2.2.2.2.2.1)).1.2, .is (.bool ((d.2.2.2.2.2.2.2.2.1)).2.1), .tc (Rp.frn B Rp.limbs) [128] 0 ((d.2.2.2.2.2.2.2.2.1)).2.2, .is (.int .i64 (d.2.2.2.2.2.2.2.2.2.1)), .to (Rp.frn B d7) 124 [128] 0 B (d.2.2.2.2.2.2.2.2.2.2.1), .to (Rp.frn B Rp.str) 9 [] 0 B (d.2.2.2.2.2.2.2.2.2.2.2.1), .la (Rp.frn B cU) 80 [130,82,132,134,136,128] C B b c l (GS B C y)]
section
variable {P:Program} {w00:World} {N:Nat} {X:List Nat} {L L':List Loc} {E E0:List (Nat×ai)} {n d:Nat} {ops:Array Oper} {rest:List Oper} {Q:Exit→Act→World→Prop} {cs:List Code} {t0:TypeId} {pos:String} {af:Array Edge} {gd:Option (Nat×Bool)}
theorem gz{α:Type} {r:Rp α} {ts:List TypeId} {l:List α} {s k:Nat} {ty:TypeId} [ho:ce E s (.to r e ts C B l)] [ht:cO P ty k]:aR P w00 N L E ⟨some d, .call { callee:= .builtin .len,args:= #[.tmp s],argTypes:= #[ty] },t0,pos,af,gd⟩ (.is (.int .i64 l.length)):=by
 constructor
 intro X ρ w hc _ hN hm hsl
 obtain ⟨A,c,ps,e,_⟩:=hsl _ ho.mem qJ
 have e1:ρ (.tmp s)= .slice A l.length c:=e
 obtain ⟨el,hu,_⟩:=ht.ok
 clear hc hsl ho ht e hm
 unfold Yields
 go_simp
 exact ⟨rfl,Below.refl _ _⟩
theorem fd {r:Nat} {T:ai} (T':ai) (hT:∀ X w v,T.holds X w v→T'.holds X w v) (h:GC P w00 X ((r,T')::L) E n cs Q):GC P w00 X ((r,T)::L) E n cs Q:=⟨fun a w ht=>by
 obtain ⟨v,hv,f⟩:=ht.openL (r:=r) List.mem_cons_self
 exact h.run a w (f (hT _ _ _ hv) .here)⟩
theorem TS.lessL {a:Act} {w:World} (h:TS w00 X L E n a w) (hs:List.Sublist L' L):TS w00 X L' E n a w:=⟨h.size,h.df,h.slots,⟨fun p hp=>h.mem.loc p (hs.subset hp),h.mem.far,(hs.map Prod.fst).nodup h.mem.nodup,h.mem.below⟩⟩
theorem gn (hs:List.Sublist L' L) (h:GR P w00 X L' E n ops rest cs Q):GR P w00 X L E n ops rest cs Q:=⟨fun a w ht=>h.run a w (ht.lessL hs)⟩
theorem sq{α:Type} {r:Rp α} {ts:List TypeId} {l:List α} {Ys Ts:List ai} {a:Act} {w:World} (q j:Nat) [hl:ke L q (.st Ts)] [hj:mu Ts j (.la r e ts C B b c l Ys)] (h:TS w00 X L E n a w):B≤C∧C≤w.heap.size:=by
 obtain ⟨_,_,v,ty',⟨cs,_,ha,_⟩,_⟩:=h.mem.loc _ hl.mem
 obtain ⟨u,hu1,h1,hBC,hCw,_⟩:=ha.at_ hj.ok
 exact ⟨hBC,hCw⟩
theorem ob{α:Type} {r:Rp α} {ts:List TypeId} {l:List α} {Ys Ys' Ts Ts':List ai} (q j i:Nat) [hl:ke L q (.st Ts)] [hj:mu Ts j (.la r e ts C B b c l Ys)] [hi:gQ Ys i .any Ys'] [hs:gQ Ts j (.la r e ts C B b c l Ys') Ts'] [hu:ko L q (.st Ts) (.st Ts') L'] (h:GR P w00 X L' E n ops rest cs Q):GR P w00 X L E n ops rest cs Q:=⟨fun a w ht=>by
 obtain ⟨v,⟨c0,e0,ha,ho⟩,f⟩:=ht.openL hu.upd.mem
 obtain ⟨u,hu1,h1,hBC,hCw,ps,ys,h2,h3,h4,h5,h6,h7,h8⟩:=ha.at_ hj.ok
 have hla:(ai.la r e ts C B b c l Ys').holds X w u:=⟨h1,hBC,hCw,ps,ys,h2,h3,by rw [←hi.ok.1];exact h4.any_,h5,h6,h7,h8⟩
 have hset:c0.set j u=c0:=by
  apply List.ext_getElem?
  intro k
  rw [List.getElem?_set]
  by_cases hk:j=k
  ·subst hk
   rw [if_pos rfl,hu1]
   simp [(List.getElem?_eq_some_iff.1 hu1).1]
  ·rw [if_neg hk]
 have:=bF.put (i:=j) hla ha
 rw [hs.ok.1,hset] at this
 exact h.run a w (f (T':= .st Ts') ⟨c0,e0,this,ho⟩ hu.upd)⟩
end
theorem Al{w0:Wd} {ws:List Wd} {d:ar} {l:List cI} {y:cI} (hl:ws.length≤100000) (hw:∀ x∈ws,x.1.length≤65536) (hBC:B≤C) (hn:(y.2.1).length≤100000):lP Tryz.prog (dk B) 73 B (fun y=>[(rf, .st (po B C b c d l y))]) [.is (.pointer (some ⟨b,l.length*6,none⟩)), .is (.int .u8 11), .ra Rp.lr (w0::ws,at_)] y ((eS (y.2.1).length 4096 jI ws w0.2 gB).1.map fun x=>(y.1,y.2.1++[x],y.2.2.1,y.2.2.2.1,y.2.2.2.2.1,y.2.2.2.2.2)) (.tup [.is (.int .i64 (eS (y.2.1).length 4096 jI ws w0.2 gB).2.1), .is (.int .i64 (eS (y.2.1).length 4096 jI ws w0.2 gB).2.2)]):=by
 have co:∀ r,j6 Tryz.prog (dk B) 114 (fun x=>[(r, .st (kS B x))]) [.ra Rp.lr (w0::ws,at_), .is (.int .i64 (y.2.1).length), .is (.int .i64 4096), .tf [.fv 161 [] [.pt (.is (.pointer (some ⟨r,0,none⟩)))], .fv 161 [] [.pt (.is (.pointer (some ⟨r,1,none⟩)))], .fv 162 [] [.pt (.is (.pointer (some ⟨r,2,none⟩)))]]] gB (eS (y.2.1).length 4096 jI ws w0.2 gB).1 (.tup [.is (.int .i64 (eS (y.2.1).length 4096 jI ws w0.2 gB).2.1), .is (.int .i64 (eS (y.2.1).length 4096 jI ws w0.2 gB).2.2)]):=fun r=>
  (fO (B:=B) (LT:=fun x=>[(r, .st (kS B x))]) (are:=(y.2.1).length) (most:=4096) (gs:=jI) (w0:=w0) (ws:=ws) (at_:=at_) (s:=gB) hl qD hw).args fun {X w vs} h=>by
    obtain ⟨v0,vs,rfl,h1,h⟩:=h.tail
    obtain ⟨v1,v2,v3,rfl,h2,h3,h4⟩:=h.three
    exact ⟨h1,h2,h3,i_ (.cons (dK (eY (r:=r) (Ts:=kS B) (LR:=fun _=>[]) (u:=pM) (fun _ _=>rfl) (fun s a=>⟨rfl,(by decide:0<6)⟩))) (.cons (dK (eY (r:=r) (Ts:=kS B) (LR:=fun _=>[]) (u:=qj) (fun _ _=>rfl) (fun s a=>⟨rfl,(by decide:1<6)⟩))) (.cons (dK (i7 (r:=r) (Ts:=kS B) (LR:=fun _=>[]) (u:=pG) (fun _ _=>rfl) (fun s a=>⟨_,_,_,⟨rfl,(by decide:2<6)⟩,⟨rfl,(by decide:3<6)⟩,⟨rfl,(by decide:4<6)⟩,⟨rfl,(by decide:5<6)⟩⟩))) .nil))) (jd h4),trivial⟩
 generalize eS (y.2.1).length 4096 jI ws w0.2 gB=R at*
 haveI:ka B C:=⟨hBC⟩
 haveI:ka 0 B:=⟨Nat.zero_le _⟩
 haveI:ka 0 C:=⟨Nat.zero_le _⟩
 haveI:ka B B:=⟨Nat.le_refl _⟩
 have hxl:∀ x:eL,(y.2.1).length+[x].length≤1000000:=fun x=>by simp only [List.length_cons,List.length_nil];omega
 refine ya Tryz.func73 rfl Tryz.ntmps73 qE (fun _ _=>by kernel_rfl) fun w00 X L0 w hS hE hB hBw hm=> ?_
 haveI:=hS
 haveI:e_ C L0:=hS.up hBC
 simp only [List.cons_append,List.nil_append,bf,Nat.zero_add,Nat.reduceAdd]
 repeat' first|kernel_rfl|(refine fd (.st (kS B gB)) (fun _ _ _ h=>Cf rfl h) ?_)|apply cR (id:=4) [] [] 13 [(16,15),(17,16)]|apply cR (id:=5) [] [] 7 [(7,0)]|apply kV|(refine lR (LT:=fun x=>[(_, .st (kS B x))]) (st:=gB) (ks:=[0,0,0,0]) [] rfl hE (co _) qK fun s' hs'=> ?_;simp only [List.cons_append,List.nil_append])|(refine gn (L':=(_,_)::(rf,_)::L0) (.cons_cons _ (.cons _ (.refl _))) ?_;refine ob rf 24 1 ?_;refine kT [33,6,7,999] (Nat.le_trans hB hBC) (Nat.zero_le _) (fun _ _ ht=>(sq rf 24 ht).2) tj (hxl _) qD qK ?_)|(refine sw rf 24 1 [6,7,999] hB rfl ?_)|apply aF|apply aG|apply aI|apply bQ|apply de|exact bT.nil|exact aZ.nil|exact aY.nil|apply aD|apply aH|apply aM|apply aN|apply aA|apply aE|apply be|apply aq|apply a_|apply a8|apply aB|refine nD (LT:=(fun y=>[(rf, .st (po B C b c d l y))])) (s':=(y.1,y.2.1++[s'],y.2.2.1,y.2.2.2.1,y.2.2.2.2.1,y.2.2.2.2.2)) (L1:=(rf, .st (po B C b c d l (y.1,y.2.1++[s'],y.2.2.1,y.2.2.2.1,y.2.2.2.2.1,y.2.2.2.2.2)))::L0) rfl hm (fun s1 h=>by cases hr:R.1 with|none=>rw [hr] at h;cases h|some x=>rw [hr] at h;rw [hs' x hr];exact Option.some.inj h) rfl ?_|apply bl|apply bO|apply bN|apply eo|apply em|refine eu rfl ?_|apply ep|apply ew|apply bc|exact bn|exact sc trivial fw|exact sc trivial eO|exact sc trivial ee|exact sc trivial lM|exact eJ rfl rfl|exact au rfl|exact gz|exact lK (q:=rf) (j:=24) (i:=1) rfl|exact jw (r:=Rp.frn B eH) [128] 0 vC rfl (show 0<1*6 from by decide) (show 1*6≤1000000 from by decide) qD|exact eC [128] 0 fe|exact aj|exact ab|exact ah|exact aa|exact aJ|exact au qG|exact am|exact ae|exact Cv.rfl'|(intro _;simp only[cP,cQ,cS,List.map,List.cons_append,List.nil_append])|intro _
theorem zv{w0:Wd} {ws:List Wd} {d:ar} {l:List cI} {y:cI} (hl:ws.length≤100000) (hw:∀ x∈ws,x.1.length≤65536) (hBC:B≤C) (hn:(y.2.2.1).length≤100000):lP Tryz.prog (dk B) 73 B (fun y=>[(rf, .st (po B C b c d l y))]) [.is (.pointer (some ⟨b,l.length*6,none⟩)), .is (.int .u8 12), .ra Rp.lr (w0::ws,at_)] y ((eS (y.2.2.1).length 4096 jF ws w0.2 gD).1.map fun x=>(y.1,y.2.1,y.2.2.1++[x],y.2.2.2.1,y.2.2.2.2.1,y.2.2.2.2.2)) (.tup [.is (.int .i64 (eS (y.2.2.1).length 4096 jF ws w0.2 gD).2.1), .is (.int .i64 (eS (y.2.2.1).length 4096 jF ws w0.2 gD).2.2)]):=by
 have co:∀ r,j6 Tryz.prog (dk B) 114 (fun x=>[(r, .st (kQ B x))]) [.ra Rp.lr (w0::ws,at_), .is (.int .i64 (y.2.2.1).length), .is (.int .i64 4096), .tf [.fv 161 [] [.pt (.is (.pointer (some ⟨r,0,none⟩)))], .fv 161 [] [.pt (.is (.pointer (some ⟨r,1,none⟩)))], .fv 164 [] [.pt (.is (.pointer (some ⟨r,2,none⟩)))]]] gD (eS (y.2.2.1).length 4096 jF ws w0.2 gD).1 (.tup [.is (.int .i64 (eS (y.2.2.1).length 4096 jF ws w0.2 gD).2.1), .is (.int .i64 (eS (y.2.2.1).length 4096 jF ws w0.2 gD).2.2)]):=fun r=>
  (fO (B:=B) (LT:=fun x=>[(r, .st (kQ B x))]) (are:=(y.2.2.1).length) (most:=4096) (gs:=jF) (w0:=w0) (ws:=ws) (at_:=at_) (s:=gD) hl qD hw).args fun {X w vs} h=>by
    obtain ⟨v0,vs,rfl,h1,h⟩:=h.tail
    obtain ⟨v1,v2,v3,rfl,h2,h3,h4⟩:=h.three
    exact ⟨h1,h2,h3,i_ (.cons (dK (eY (r:=r) (Ts:=kQ B) (LR:=fun _=>[]) (u:=ox) (fun _ _=>rfl) (fun s a=>⟨rfl,(by decide:0<6)⟩))) (.cons (dK (eY (r:=r) (Ts:=kQ B) (LR:=fun _=>[]) (u:=pD) (fun _ _=>rfl) (fun s a=>⟨rfl,(by decide:1<6)⟩))) (.cons (dK (iQ (r:=r) (Ts:=kQ B) (LR:=fun _=>[]) (u:=oz) (fun _ _=>rfl) (fun s a=>⟨_,_,_,⟨rfl,(by decide:2<6)⟩,⟨rfl,(by decide:3<6)⟩,⟨rfl,(by decide:4<6)⟩,⟨rfl,(by decide:5<6)⟩⟩))) .nil))) (jd h4),trivial⟩
 generalize eS (y.2.2.1).length 4096 jF ws w0.2 gD=R at*
 haveI:ka B C:=⟨hBC⟩
 haveI:ka 0 B:=⟨Nat.zero_le _⟩
 haveI:ka 0 C:=⟨Nat.zero_le _⟩
 haveI:ka B B:=⟨Nat.le_refl _⟩
 have hxl:∀ x:eT,(y.2.2.1).length+[x].length≤1000000:=fun x=>by simp only [List.length_cons,List.length_nil];omega
 refine ya Tryz.func73 rfl Tryz.ntmps73 qE (fun _ _=>by kernel_rfl) fun w00 X L0 w hS hE hB hBw hm=> ?_
 haveI:=hS
 haveI:e_ C L0:=hS.up hBC
 simp only [List.cons_append,List.nil_append,bf,Nat.zero_add,Nat.reduceAdd]
 repeat' first|kernel_rfl|(refine fd (.st (kQ B gD)) (fun _ _ _ h=>BN rfl h) ?_)|apply cR (id:=8) [] [] 13 [(16,15),(17,16)]|apply cR (id:=9) [] [] 7 [(7,0)]|apply kV|(refine lR (LT:=fun x=>[(_, .st (kQ B x))]) (st:=gD) (ks:=[0,0,0,0]) [] rfl hE (co _) qK fun s' hs'=> ?_;simp only [List.cons_append,List.nil_append])|(refine gn (L':=(_,_)::(rf,_)::L0) (.cons_cons _ (.cons _ (.refl _))) ?_;refine ob rf 24 2 ?_;refine kT [62,6,7,999] (Nat.le_trans hB hBC) (Nat.zero_le _) (fun _ _ ht=>(sq rf 24 ht).2) th (hxl _) qD qK ?_)|(refine sw rf 24 2 [6,7,999] hB rfl ?_)|apply aF|apply aG|apply aI|apply bQ|apply de|exact bT.nil|exact aZ.nil|exact aY.nil|apply aD|apply aH|apply aM|apply aN|apply aA|apply aE|apply be|apply aq|apply a_|apply a8|apply aB|refine nD (LT:=(fun y=>[(rf, .st (po B C b c d l y))])) (s':=(y.1,y.2.1,y.2.2.1++[s'],y.2.2.2.1,y.2.2.2.2.1,y.2.2.2.2.2)) (L1:=(rf, .st (po B C b c d l (y.1,y.2.1,y.2.2.1++[s'],y.2.2.2.1,y.2.2.2.2.1,y.2.2.2.2.2)))::L0) rfl hm (fun s1 h=>by cases hr:R.1 with|none=>rw [hr] at h;cases h|some x=>rw [hr] at h;rw [hs' x hr];exact Option.some.inj h) rfl ?_|apply bl|apply bO|apply bN|apply eo|apply em|refine eu rfl ?_|apply ep|apply ew|apply bc|exact bn|exact sc trivial fw|exact sc trivial eO|exact sc trivial ee|exact sc trivial lM|exact eJ rfl rfl|exact au rfl|exact gz|exact lK (q:=rf) (j:=24) (i:=2) rfl|exact jw (r:=Rp.frn B eF) [128] 0 t_ rfl (show 0<1*6 from by decide) (show 1*6≤1000000 from by decide) qD|exact eC [128] 0 fe|exact aj|exact ab|exact ah|exact aa|exact aJ|exact au qG|exact am|exact ae|exact Cv.rfl'|(intro _;simp only[cP,cQ,cS,List.map,List.cons_append,List.nil_append])|intro _
theorem Bp{w0:Wd} {ws:List Wd} {d:ar} {l:List cI} {y:cI} (hl:ws.length≤100000) (hw:∀ x∈ws,x.1.length≤65536) (hBC:B≤C) (hn:(y.2.2.2.1).length≤100000):lP Tryz.prog (dk B) 73 B (fun y=>[(rf, .st (po B C b c d l y))]) [.is (.pointer (some ⟨b,l.length*6,none⟩)), .is (.int .u8 13), .ra Rp.lr (w0::ws,at_)] y ((eS (y.2.2.2.1).length 4096 fb ws w0.2 (true,[],0,[],[],[],zz)).1.map fun x=>(y.1,y.2.1,y.2.2.1,y.2.2.2.1++[x],y.2.2.2.2.1,y.2.2.2.2.2)) (.tup [.is (.int .i64 (eS (y.2.2.2.1).length 4096 fb ws w0.2 (true,[],0,[],[],[],zz)).2.1), .is (.int .i64 (eS (y.2.2.2.1).length 4096 fb ws w0.2 (true,[],0,[],[],[],zz)).2.2)]):=by
 have co:∀ r,j6 Tryz.prog (dk B) 114 (fun x=>[(r, .st (fD B x))]) [.ra Rp.lr (w0::ws,at_), .is (.int .i64 (y.2.2.2.1).length), .is (.int .i64 4096), .tf [.fv 161 [] [.pt (.is (.pointer (some ⟨r,1,none⟩)))], .fv 166 [] [.pt (.fv 16 [] []), .pt (.is (.pointer (some ⟨r,2,none⟩)))], .fv 161 [] [.pt (.is (.pointer (some ⟨r,3,none⟩)))], .fv 161 [] [.pt (.is (.pointer (some ⟨r,4,none⟩)))], .fv 161 [] [.pt (.is (.pointer (some ⟨r,5,none⟩)))], .fv 164 [] [.pt (.is (.pointer (some ⟨r,6,none⟩)))]]] (true,[],0,[],[],[],zz) (eS (y.2.2.2.1).length 4096 fb ws w0.2 (true,[],0,[],[],[],zz)).1 (.tup [.is (.int .i64 (eS (y.2.2.2.1).length 4096 fb ws w0.2 (true,[],0,[],[],[],zz)).2.1), .is (.int .i64 (eS (y.2.2.2.1).length 4096 fb ws w0.2 (true,[],0,[],[],[],zz)).2.2)]):=fun r=>
  (fO (B:=B) (LT:=fun x=>[(r, .st (fD B x))]) (are:=(y.2.2.2.1).length) (most:=4096) (gs:=fb) (w0:=w0) (ws:=ws) (at_:=at_) (s:=(true,[],0,[],[],[],zz)) hl qD hw).args fun {X w vs} h=>by
    obtain ⟨v0,vs,rfl,h1,h⟩:=h.tail
    obtain ⟨v1,v2,v3,rfl,h2,h3,h4⟩:=h.three
    exact ⟨h1,h2,h3,i_ (.cons (dK (eY (r:=r) (Ts:=fD B) (LR:=fun _=>[]) (u:=sL) (fun _ _=>rfl) (fun s a=>⟨rfl,(by decide:1<10)⟩))) (.cons (dK (wU (g:=16) (ws:=sF) (r:=r) (Ts:=fD B) (LR:=fun _=>[]) (u:=nI) (fun _ _=>rfl) (fun t=>l_) (fun s a=>⟨rfl,(by decide:2<10)⟩))) (.cons (dK (eY (r:=r) (Ts:=fD B) (LR:=fun _=>[]) (u:=ms) (fun _ _=>rfl) (fun s a=>⟨rfl,(by decide:3<10)⟩))) (.cons (dK (eY (r:=r) (Ts:=fD B) (LR:=fun _=>[]) (u:=mc) (fun _ _=>rfl) (fun s a=>⟨rfl,(by decide:4<10)⟩))) (.cons (dK (eY (r:=r) (Ts:=fD B) (LR:=fun _=>[]) (u:=mf) (fun _ _=>rfl) (fun s a=>⟨rfl,(by decide:5<10)⟩))) (.cons (dK (iQ (r:=r) (Ts:=fD B) (LR:=fun _=>[]) (u:=kW) (fun _ _=>rfl) (fun s a=>⟨_,_,_,⟨rfl,(by decide:6<10)⟩,⟨rfl,(by decide:7<10)⟩,⟨rfl,(by decide:8<10)⟩,⟨rfl,(by decide:9<10)⟩⟩))) .nil)))))) (jd h4),trivial⟩
 generalize eS (y.2.2.2.1).length 4096 fb ws w0.2 (true,[],0,[],[],[],zz)=R at*
 haveI:ka B C:=⟨hBC⟩
 haveI:ka 0 B:=⟨Nat.zero_le _⟩
 haveI:ka 0 C:=⟨Nat.zero_le _⟩
 haveI:ka B B:=⟨Nat.le_refl _⟩
 have hxl:∀ x:c_,(y.2.2.2.1).length+[x].length≤1000000:=fun x=>by simp only [List.length_cons,List.length_nil];omega
 refine ya Tryz.func73 rfl Tryz.ntmps73 qE (fun _ _=>by kernel_rfl) fun w00 X L0 w hS hE hB hBw hm=> ?_
 haveI:=hS
 haveI:e_ C L0:=hS.up hBC
 simp only [List.cons_append,List.nil_append,bf,Nat.zero_add,Nat.reduceAdd]
 repeat' first|kernel_rfl|(refine fd (.st (fD B (true,[],0,[],[],[],zz))) (fun _ _ _ ⟨cs,e,h⟩=>⟨cs,e,uV rfl h,cH.one h⟩) ?_)|apply cR (id:=13) [] [] 19 [(22,21),(23,22)]|apply cR (id:=14) [] [] 7 [(7,0)]|apply kV|(refine lR (LT:=fun x=>[(_, .st (fD B x))]) (st:=(true,[],0,[],[],[],zz)) (ks:=[0,0,0,0]) [] rfl hE (co _) qK fun s' hs'=> ?_;simp only [List.cons_append,List.nil_append])|(refine gn (L':=(_,_)::(rf,_)::L0) (.cons_cons _ (.cons _ (.refl _))) ?_;refine ob rf 24 3 ?_;refine kT [101,6,7,999] (Nat.le_trans hB hBC) (Nat.zero_le _) (fun _ _ ht=>(sq rf 24 ht).2) nf (hxl _) qD qK ?_)|(refine sw rf 24 3 [6,7,999] hB rfl ?_)|apply aF|apply aG|apply aI|apply bQ|apply de|exact bT.nil|exact aZ.nil|exact aY.nil|apply aD|apply aH|apply aM|apply aN|apply aA|apply aE|apply be|apply aq|apply a_|apply a8|apply aB|refine nD (LT:=(fun y=>[(rf, .st (po B C b c d l y))])) (s':=(y.1,y.2.1,y.2.2.1,y.2.2.2.1++[s'],y.2.2.2.2.1,y.2.2.2.2.2)) (L1:=(rf, .st (po B C b c d l (y.1,y.2.1,y.2.2.1,y.2.2.2.1++[s'],y.2.2.2.2.1,y.2.2.2.2.2)))::L0) rfl hm (fun s1 h=>by cases hr:R.1 with|none=>rw [hr] at h;cases h|some x=>rw [hr] at h;rw [hs' x hr];exact Option.some.inj h) rfl ?_|apply bl|apply bO|apply bN|apply eo|apply em|refine eu rfl ?_|apply ep|apply ew|apply bc|exact bn|exact sc trivial fw|exact sc trivial eO|exact sc trivial ee|exact sc trivial lM|exact eJ rfl rfl|exact au rfl|exact gz|exact lK (q:=rf) (j:=24) (i:=3) rfl|exact jw (r:=Rp.frn B cH) [128] 0 ot rfl (show 0<1*10 from by decide) (show 1*10≤1000000 from by decide) qD|exact eC [128] 0 fe|exact aj|exact ab|exact ah|exact aa|exact aJ|exact au qG|exact am|exact ae|exact Cv.rfl'|(intro _;simp only[cP,cQ,cS,List.map,List.cons_append,List.nil_append])|intro _
theorem zr{w0:Wd} {ws:List Wd} {d:ar} {l:List cI} {y:cI} (hl:ws.length≤100000) (hw:∀ x∈ws,x.1.length≤65536) (hBC:B≤C) (hn:(y.2.2.2.1).length≤100000):lP Tryz.prog (dk B) 73 B (fun y=>[(rf, .st (po B C b c d l y))]) [.is (.pointer (some ⟨b,l.length*6,none⟩)), .is (.int .u8 14), .ra Rp.lr (w0::ws,at_)] y ((eS (y.2.2.2.1).length 4096 fb ws w0.2 (false,[],0,[],[],[],zz)).1.map fun x=>(y.1,y.2.1,y.2.2.1,y.2.2.2.1++[x],y.2.2.2.2.1,y.2.2.2.2.2)) (.tup [.is (.int .i64 (eS (y.2.2.2.1).length 4096 fb ws w0.2 (false,[],0,[],[],[],zz)).2.1), .is (.int .i64 (eS (y.2.2.2.1).length 4096 fb ws w0.2 (false,[],0,[],[],[],zz)).2.2)]):=by
 have co:∀ r,j6 Tryz.prog (dk B) 114 (fun x=>[(r, .st (fD B x))]) [.ra Rp.lr (w0::ws,at_), .is (.int .i64 (y.2.2.2.1).length), .is (.int .i64 4096), .tf [.fv 161 [] [.pt (.is (.pointer (some ⟨r,1,none⟩)))], .fv 166 [] [.pt (.fv 16 [] []), .pt (.is (.pointer (some ⟨r,2,none⟩)))], .fv 161 [] [.pt (.is (.pointer (some ⟨r,3,none⟩)))], .fv 161 [] [.pt (.is (.pointer (some ⟨r,4,none⟩)))], .fv 161 [] [.pt (.is (.pointer (some ⟨r,5,none⟩)))], .fv 164 [] [.pt (.is (.pointer (some ⟨r,6,none⟩)))]]] (false,[],0,[],[],[],zz) (eS (y.2.2.2.1).length 4096 fb ws w0.2 (false,[],0,[],[],[],zz)).1 (.tup [.is (.int .i64 (eS (y.2.2.2.1).length 4096 fb ws w0.2 (false,[],0,[],[],[],zz)).2.1), .is (.int .i64 (eS (y.2.2.2.1).length 4096 fb ws w0.2 (false,[],0,[],[],[],zz)).2.2)]):=fun r=>
  (fO (B:=B) (LT:=fun x=>[(r, .st (fD B x))]) (are:=(y.2.2.2.1).length) (most:=4096) (gs:=fb) (w0:=w0) (ws:=ws) (at_:=at_) (s:=(false,[],0,[],[],[],zz)) hl qD hw).args fun {X w vs} h=>by
    obtain ⟨v0,vs,rfl,h1,h⟩:=h.tail
    obtain ⟨v1,v2,v3,rfl,h2,h3,h4⟩:=h.three
    exact ⟨h1,h2,h3,i_ (.cons (dK (eY (r:=r) (Ts:=fD B) (LR:=fun _=>[]) (u:=sL) (fun _ _=>rfl) (fun s a=>⟨rfl,(by decide:1<10)⟩))) (.cons (dK (wU (g:=16) (ws:=sF) (r:=r) (Ts:=fD B) (LR:=fun _=>[]) (u:=nI) (fun _ _=>rfl) (fun t=>l_) (fun s a=>⟨rfl,(by decide:2<10)⟩))) (.cons (dK (eY (r:=r) (Ts:=fD B) (LR:=fun _=>[]) (u:=ms) (fun _ _=>rfl) (fun s a=>⟨rfl,(by decide:3<10)⟩))) (.cons (dK (eY (r:=r) (Ts:=fD B) (LR:=fun _=>[]) (u:=mc) (fun _ _=>rfl) (fun s a=>⟨rfl,(by decide:4<10)⟩))) (.cons (dK (eY (r:=r) (Ts:=fD B) (LR:=fun _=>[]) (u:=mf) (fun _ _=>rfl) (fun s a=>⟨rfl,(by decide:5<10)⟩))) (.cons (dK (iQ (r:=r) (Ts:=fD B) (LR:=fun _=>[]) (u:=kW) (fun _ _=>rfl) (fun s a=>⟨_,_,_,⟨rfl,(by decide:6<10)⟩,⟨rfl,(by decide:7<10)⟩,⟨rfl,(by decide:8<10)⟩,⟨rfl,(by decide:9<10)⟩⟩))) .nil)))))) (jd h4),trivial⟩
 generalize eS (y.2.2.2.1).length 4096 fb ws w0.2 (false,[],0,[],[],[],zz)=R at*
 haveI:ka B C:=⟨hBC⟩
 haveI:ka 0 B:=⟨Nat.zero_le _⟩
 haveI:ka 0 C:=⟨Nat.zero_le _⟩
 haveI:ka B B:=⟨Nat.le_refl _⟩
 have hxl:∀ x:c_,(y.2.2.2.1).length+[x].length≤1000000:=fun x=>by simp only [List.length_cons,List.length_nil];omega
 refine ya Tryz.func73 rfl Tryz.ntmps73 qE (fun _ _=>by kernel_rfl) fun w00 X L0 w hS hE hB hBw hm=> ?_
 haveI:=hS
 haveI:e_ C L0:=hS.up hBC
 simp only [List.cons_append,List.nil_append,bf,Nat.zero_add,Nat.reduceAdd]
 repeat' first|kernel_rfl|(refine fd (.st (fD B (false,[],0,[],[],[],zz))) (fun _ _ _ ⟨cs,e,h⟩=>⟨cs,e,uV rfl h,cH.one h⟩) ?_)|apply cR (id:=13) [] [] 19 [(22,21),(23,22)]|apply cR (id:=14) [] [] 7 [(7,0)]|apply kV|(refine lR (LT:=fun x=>[(_, .st (fD B x))]) (st:=(false,[],0,[],[],[],zz)) (ks:=[0,0,0,0]) [] rfl hE (co _) qK fun s' hs'=> ?_;simp only [List.cons_append,List.nil_append])|(refine gn (L':=(_,_)::(rf,_)::L0) (.cons_cons _ (.cons _ (.refl _))) ?_;refine ob rf 24 3 ?_;refine kT [101,6,7,999] (Nat.le_trans hB hBC) (Nat.zero_le _) (fun _ _ ht=>(sq rf 24 ht).2) nf (hxl _) qD qK ?_)|(refine sw rf 24 3 [6,7,999] hB rfl ?_)|apply aF|apply aG|apply aI|apply bQ|apply de|exact bT.nil|exact aZ.nil|exact aY.nil|apply aD|apply aH|apply aM|apply aN|apply aA|apply aE|apply be|apply aq|apply a_|apply a8|apply aB|refine nD (LT:=(fun y=>[(rf, .st (po B C b c d l y))])) (s':=(y.1,y.2.1,y.2.2.1,y.2.2.2.1++[s'],y.2.2.2.2.1,y.2.2.2.2.2)) (L1:=(rf, .st (po B C b c d l (y.1,y.2.1,y.2.2.1,y.2.2.2.1++[s'],y.2.2.2.2.1,y.2.2.2.2.2)))::L0) rfl hm (fun s1 h=>by cases hr:R.1 with|none=>rw [hr] at h;cases h|some x=>rw [hr] at h;rw [hs' x hr];exact Option.some.inj h) rfl ?_|apply bl|apply bO|apply bN|apply eo|apply em|refine eu rfl ?_|apply ep|apply ew|apply bc|exact bn|exact sc trivial fw|exact sc trivial eO|exact sc trivial ee|exact sc trivial lM|exact eJ rfl rfl|exact au rfl|exact gz|exact lK (q:=rf) (j:=24) (i:=3) rfl|exact jw (r:=Rp.frn B cH) [128] 0 ot rfl (show 0<1*10 from by decide) (show 1*10≤1000000 from by decide) qD|exact eC [128] 0 fe|exact aj|exact ab|exact ah|exact aa|exact aJ|exact au qG|exact am|exact ae|exact Cv.rfl'|(intro _;simp only[cP,cQ,cS,List.map,List.cons_append,List.nil_append])|intro _
theorem zO{w0:Wd} {ws:List Wd} {d:ar} {l:List cI} {y:cI} (hl:ws.length≤100000) (hw:∀ x∈ws,x.1.length≤65536) (hBC:B≤C) (hn:(y.2.2.2.2.1).length≤100000):lP Tryz.prog (dk B) 73 B (fun y=>[(rf, .st (po B C b c d l y))]) [.is (.pointer (some ⟨b,l.length*6,none⟩)), .is (.int .u8 15), .ra Rp.lr (w0::ws,at_)] y ((eS (y.2.2.2.2.1).length 4096 ia ws w0.2 fu).1.map fun x=>(y.1,y.2.1,y.2.2.1,y.2.2.2.1,y.2.2.2.2.1++[x],y.2.2.2.2.2)) (.tup [.is (.int .i64 (eS (y.2.2.2.2.1).length 4096 ia ws w0.2 fu).2.1), .is (.int .i64 (eS (y.2.2.2.2.1).length 4096 ia ws w0.2 fu).2.2)]):=by
 have co:∀ r,j6 Tryz.prog (dk B) 114 (fun x=>[(r, .st (i5 B x))]) [.ra Rp.lr (w0::ws,at_), .is (.int .i64 (y.2.2.2.2.1).length), .is (.int .i64 4096), .tf [.fv 161 [] [.pt (.is (.pointer (some ⟨r,0,none⟩)))], .fv 164 [] [.pt (.is (.pointer (some ⟨r,1,none⟩)))], .fv 162 [] [.pt (.is (.pointer (some ⟨r,5,none⟩)))]]] fu (eS (y.2.2.2.2.1).length 4096 ia ws w0.2 fu).1 (.tup [.is (.int .i64 (eS (y.2.2.2.2.1).length 4096 ia ws w0.2 fu).2.1), .is (.int .i64 (eS (y.2.2.2.2.1).length 4096 ia ws w0.2 fu).2.2)]):=fun r=>
  (fO (B:=B) (LT:=fun x=>[(r, .st (i5 B x))]) (are:=(y.2.2.2.2.1).length) (most:=4096) (gs:=ia) (w0:=w0) (ws:=ws) (at_:=at_) (s:=fu) hl qD hw).args fun {X w vs} h=>by
    obtain ⟨v0,vs,rfl,h1,h⟩:=h.tail
    obtain ⟨v1,v2,v3,rfl,h2,h3,h4⟩:=h.three
    exact ⟨h1,h2,h3,i_ (.cons (dK (eY (r:=r) (Ts:=i5 B) (LR:=fun _=>[]) (u:=vr) (fun _ _=>rfl) (fun s a=>⟨rfl,(by decide:0<9)⟩))) (.cons (dK (iQ (r:=r) (Ts:=i5 B) (LR:=fun _=>[]) (u:=mG) (fun _ _=>rfl) (fun s a=>⟨_,_,_,⟨rfl,(by decide:1<9)⟩,⟨rfl,(by decide:2<9)⟩,⟨rfl,(by decide:3<9)⟩,⟨rfl,(by decide:4<9)⟩⟩))) (.cons (dK (i7 (r:=r) (Ts:=i5 B) (LR:=fun _=>[]) (u:=mE) (fun _ _=>rfl) (fun s a=>⟨_,_,_,⟨rfl,(by decide:5<9)⟩,⟨rfl,(by decide:6<9)⟩,⟨rfl,(by decide:7<9)⟩,⟨rfl,(by decide:8<9)⟩⟩))) .nil))) (jd h4),trivial⟩
 generalize eS (y.2.2.2.2.1).length 4096 ia ws w0.2 fu=R at*
 haveI:ka B C:=⟨hBC⟩
 haveI:ka 0 B:=⟨Nat.zero_le _⟩
 haveI:ka 0 C:=⟨Nat.zero_le _⟩
 haveI:ka B B:=⟨Nat.le_refl _⟩
 have hxl:∀ x:dG,(y.2.2.2.2.1).length+[x].length≤1000000:=fun x=>by simp only [List.length_cons,List.length_nil];omega
 refine ya Tryz.func73 rfl Tryz.ntmps73 qE (fun _ _=>by kernel_rfl) fun w00 X L0 w hS hE hB hBw hm=> ?_
 haveI:=hS
 haveI:e_ C L0:=hS.up hBC
 simp only [List.cons_append,List.nil_append,bf,Nat.zero_add,Nat.reduceAdd]
 repeat' first|kernel_rfl|(refine fd (.st (i5 B fu)) (fun _ _ _ h=>ym rfl rfl h) ?_)|apply cR (id:=17) [] [] 13 [(16,15),(17,16)]|apply cR (id:=18) [] [] 7 [(7,0)]|apply kV|(refine lR (LT:=fun x=>[(_, .st (i5 B x))]) (st:=fu) (ks:=[0,0,0,0]) [] rfl hE (co _) qK fun s' hs'=> ?_;simp only [List.cons_append,List.nil_append])|(refine gn (L':=(_,_)::(rf,_)::L0) (.cons_cons _ (.cons _ (.refl _))) ?_;refine ob rf 24 4 ?_;refine kT [130,6,7,999] (Nat.le_trans hB hBC) (Nat.zero_le _) (fun _ _ ht=>(sq rf 24 ht).2) ri (hxl _) qD qK ?_)|(refine sw rf 24 4 [6,7,999] hB rfl ?_)|apply aF|apply aG|apply aI|apply bQ|apply de|exact bT.nil|exact aZ.nil|exact aY.nil|apply aD|apply aH|apply aM|apply aN|apply aA|apply aE|apply be|apply aq|apply a_|apply a8|apply aB|refine nD (LT:=(fun y=>[(rf, .st (po B C b c d l y))])) (s':=(y.1,y.2.1,y.2.2.1,y.2.2.2.1,y.2.2.2.2.1++[s'],y.2.2.2.2.2)) (L1:=(rf, .st (po B C b c d l (y.1,y.2.1,y.2.2.1,y.2.2.2.1,y.2.2.2.2.1++[s'],y.2.2.2.2.2)))::L0) rfl hm (fun s1 h=>by cases hr:R.1 with|none=>rw [hr] at h;cases h|some x=>rw [hr] at h;rw [hs' x hr];exact Option.some.inj h) rfl ?_|apply bl|apply bO|apply bN|apply eo|apply em|refine eu rfl ?_|apply ep|apply ew|apply bc|exact bn|exact sc trivial fw|exact sc trivial eO|exact sc trivial ee|exact sc trivial lM|exact eJ rfl rfl|exact au rfl|exact gz|exact lK (q:=rf) (j:=24) (i:=4) rfl|exact jw (r:=Rp.frn B dz) [128] 0 tp rfl (show 0<1*9 from by decide) (show 1*9≤1000000 from by decide) qD|exact eC [128] 0 fe|exact aj|exact ab|exact ah|exact aa|exact aJ|exact au qG|exact am|exact ae|exact Cv.rfl'|(intro _;simp only[cP,cQ,cS,List.map,List.cons_append,List.nil_append])|intro _
theorem Ba{w0:Wd} {ws:List Wd} {d:ar} {l:List cI} {y:cI} (hl:ws.length≤100000) (hw:∀ x∈ws,x.1.length≤65536) (hBC:B≤C) (hn:(y.2.2.2.2.2).length≤100000):lP Tryz.prog (dk B) 73 B (fun y=>[(rf, .st (po B C b c d l y))]) [.is (.pointer (some ⟨b,l.length*6,none⟩)), .is (.int .u8 16), .ra Rp.lr (w0::ws,at_)] y ((eS (y.2.2.2.2.2).length 4096 jC ws w0.2 gF).1.map fun x=>(y.1,y.2.1,y.2.2.1,y.2.2.2.1,y.2.2.2.2.1,y.2.2.2.2.2++[x])) (.tup [.is (.int .i64 (eS (y.2.2.2.2.2).length 4096 jC ws w0.2 gF).2.1), .is (.int .i64 (eS (y.2.2.2.2.2).length 4096 jC ws w0.2 gF).2.2)]):=by
 have co:∀ r,j6 Tryz.prog (dk B) 114 (fun x=>[(r, .st (lX B x))]) [.ra Rp.lr (w0::ws,at_), .is (.int .i64 (y.2.2.2.2.2).length), .is (.int .i64 4096), .tf [.fv 161 [] [.pt (.is (.pointer (some ⟨r,0,none⟩)))], .fv 162 [] [.pt (.is (.pointer (some ⟨r,1,none⟩)))]]] gF (eS (y.2.2.2.2.2).length 4096 jC ws w0.2 gF).1 (.tup [.is (.int .i64 (eS (y.2.2.2.2.2).length 4096 jC ws w0.2 gF).2.1), .is (.int .i64 (eS (y.2.2.2.2.2).length 4096 jC ws w0.2 gF).2.2)]):=fun r=>
  (fO (B:=B) (LT:=fun x=>[(r, .st (lX B x))]) (are:=(y.2.2.2.2.2).length) (most:=4096) (gs:=jC) (w0:=w0) (ws:=ws) (at_:=at_) (s:=gF) hl qD hw).args fun {X w vs} h=>by
    obtain ⟨v0,vs,rfl,h1,h⟩:=h.tail
    obtain ⟨v1,v2,v3,rfl,h2,h3,h4⟩:=h.three
    exact ⟨h1,h2,h3,i_ (.cons (dK (eY (r:=r) (Ts:=lX B) (LR:=fun _=>[]) (u:=xQ) (fun _ _=>rfl) (fun s a=>⟨rfl,(by decide:0<5)⟩))) (.cons (dK (i7 (r:=r) (Ts:=lX B) (LR:=fun _=>[]) (u:=qB) (fun _ _=>rfl) (fun s a=>⟨_,_,_,⟨rfl,(by decide:1<5)⟩,⟨rfl,(by decide:2<5)⟩,⟨rfl,(by decide:3<5)⟩,⟨rfl,(by decide:4<5)⟩⟩))) .nil)) (jd h4),trivial⟩
 generalize eS (y.2.2.2.2.2).length 4096 jC ws w0.2 gF=R at*
 haveI:ka B C:=⟨hBC⟩
 haveI:ka 0 B:=⟨Nat.zero_le _⟩
 haveI:ka 0 C:=⟨Nat.zero_le _⟩
 haveI:ka B B:=⟨Nat.le_refl _⟩
 have hxl:∀ x:fq,(y.2.2.2.2.2).length+[x].length≤1000000:=fun x=>by simp only [List.length_cons,List.length_nil];omega
 refine ya Tryz.func73 rfl Tryz.ntmps73 qE (fun _ _=>by kernel_rfl) fun w00 X L0 w hS hE hB hBw hm=> ?_
 haveI:=hS
 haveI:e_ C L0:=hS.up hBC
 simp only [List.cons_append,List.nil_append,bf,Nat.zero_add,Nat.reduceAdd]
 repeat' first|kernel_rfl|(refine fd (.st (lX B gF)) (fun _ _ _ h=>AV rfl h) ?_)|apply cR (id:=21) [] [] 11 [(14,13),(15,14)]|apply cR (id:=22) [] [] 7 [(7,0)]|apply kV|(refine lR (LT:=fun x=>[(_, .st (lX B x))]) (st:=gF) (ks:=[0,0,0,0]) [] rfl hE (co _) qK fun s' hs'=> ?_;simp only [List.cons_append,List.nil_append])|(refine gn (L':=(_,_)::(rf,_)::L0) (.cons_cons _ (.cons _ (.refl _))) ?_;refine ob rf 24 5 ?_;refine kT [157,6,7,999] (Nat.le_trans hB hBC) (Nat.zero_le _) (fun _ _ ht=>(sq rf 24 ht).2) tn (hxl _) qD qK ?_)|(refine sw rf 24 5 [6,7,999] hB rfl ?_)|apply aF|apply aG|apply aI|apply bQ|apply de|exact bT.nil|exact aZ.nil|exact aY.nil|apply aD|apply aH|apply aM|apply aN|apply aA|apply aE|apply be|apply aq|apply a_|apply a8|apply aB|refine nD (LT:=(fun y=>[(rf, .st (po B C b c d l y))])) (s':=(y.1,y.2.1,y.2.2.1,y.2.2.2.1,y.2.2.2.2.1,y.2.2.2.2.2++[s'])) (L1:=(rf, .st (po B C b c d l (y.1,y.2.1,y.2.2.1,y.2.2.2.1,y.2.2.2.2.1,y.2.2.2.2.2++[s'])))::L0) rfl hm (fun s1 h=>by cases hr:R.1 with|none=>rw [hr] at h;cases h|some x=>rw [hr] at h;rw [hs' x hr];exact Option.some.inj h) rfl ?_|apply bl|apply bO|apply bN|apply eo|apply em|refine eu rfl ?_|apply ep|apply ew|apply bc|exact bn|exact sc trivial fw|exact sc trivial eO|exact sc trivial ee|exact sc trivial lM|exact eJ rfl rfl|exact au rfl|exact gz|exact lK (q:=rf) (j:=24) (i:=5) rfl|exact jw (r:=Rp.frn B e9) [128] 0 vm rfl (show 0<1*5 from by decide) (show 1*5≤1000000 from by decide) qD|exact eC [128] 0 fe|exact aj|exact ab|exact ah|exact aa|exact aJ|exact au qG|exact am|exact ae|exact Cv.rfl'|(intro _;simp only[cP,cQ,cS,List.map,List.cons_append,List.nil_append])|intro _
end Go.Proofs.YtcpeiijdgabenaaGreatDoor
