/- tallagelaw08: AstCopies. -/
import Derived.Test.YtjjkikchncfekaaGreatDoorDB
import Derived.Test.YtjjkikchncfekaaGreatDoorCT
import Derived.Test.YtjjkikchncfekaaGreatDoorCU
set_option maxHeartbeats 40000000
set_option maxRecDepth 20000
set_option synthInstance.maxHeartbeats 400000
set_option synthInstance.maxSize 4000
set_option linter.unusedSimpArgs false
set_option linter.unusedVariables false
namespace Go.Proofs.YtjjkikchncfekaaGreatDoor
open Go Go.RowKit
variable {B:Nat} {X:List Nat} {w:World} {A:aa} {v:Value}
theorem Jh{d:am} (hf:sK d) (hn:ox d) (hA:∀ {X w v},A.holds X w v→(aa.ra ab d).holds X w v):bJ Tryz.prog S1 10 [0] [A] (fun _=> .tr ab [9,93,95,103,171,173,175,177,179,117] 0 d):=(IL hf hn).args fun h=>by
 obtain ⟨v,us,rfl,h1,h2⟩:=h.tail
 exact ⟨hA h1,h2⟩
theorem Hy{d:am} (ho:AW d) (hA:∀ {X w v},A.holds X w v→(aa.ra ab d).holds X w v):bJ Tryz.prog S1 11 [0] [A] (lR d):=(Gy ho).args fun h=>by
 obtain ⟨v,us,rfl,h1,h2⟩:=h.tail
 exact ⟨hA h1,h2⟩
theorem JH{d:am} (hf:sK d) (hn:ox d) (hA:∀ {X w v},A.holds X w v→(aa.ra ab d).holds X w v):bJ Tryz.prog S1 9 [0,0] [.tr ab [9,93,95,103,171,173,175,177,179,117] 0 d,A] (fun _=> .is (.bool true)):=(DE hf hn).args fun h=>by
 obtain ⟨v,us,rfl,h1,h2⟩:=h.tail
 obtain ⟨u,us,rfl,h3,h4⟩:=h2.tail
 exact ⟨iE h1,hA h3,h4⟩
theorem CE{d:am} (h:(lR d B).holds X w v):(aa.ra ab d).holds X w v:=wD (fun _ h _ _=>h) h
theorem xd{d:am} {B1:Nat} (h:(aa.cu d B B1).holds X w v):(aa.ra ab d).holds X w v:=CE (bA h)
theorem fU {x:aP} (h:cD 6 x):tj x:=⟨Nat.le_trans h.1 qD,Nat.le_trans h.2.1 qD⟩
theorem G8 {t:List UInt8} (h:p9 t=true):t.length≤1000000:=by
 unfold p9 at h
 simp only [Bool.not_eq_true',decide_eq_false_iff_not] at h
 omega
theorem G9 {d:am} (h:gf d=true):AW d:=by
 obtain ⟨hc,hf⟩:=rK h
 unfold gf at h
 simp only [Bool.and_eq_true] at h
 have ht:=fun x hx=>G8 (List.all_eq_true.1 h.2.2.2 x hx)
 unfold mJ at ht
 simp only [List.mem_append,List.mem_flatMap] at ht
 have g1:=hc.br
 have g2:=hc.cl
 have g3:=hc.en
 have g4:=hc.ys
 refine ⟨ht _ (.inl (.inl (.inl qE))),ht _ (.inl (.inl (.inl qE))),fU hf.thr,fU hf.cap,fU hf.int,fU hf.flo,fun b hb=>⟨fU (hf.brk b hb).1,fU (hf.brk b hb).2⟩,fun c hc=>⟨fU (hf.cls c hc),ht _ (.inl (.inr ⟨c,hc,by simp [Dl]⟩))⟩,fun e he=>ht _ (.inl (.inl (.inr he))),fun y hy=> ?_,by omega,by omega,by omega,by omega⟩
 have hy':=fun x hx=>ht x (.inr ⟨y,hy,hx⟩)
 unfold Ay at hy'
 simp only [List.mem_append,List.mem_flatMap] at hy'
 obtain ⟨f1,f2,f3,f4,f5⟩:=hf.yrs y hy
 obtain ⟨n1,n2,n3,n4,n5⟩:=hc.yr y hy
 exact ⟨fun x hx=>⟨fU (f1 x hx),hy' _ (.inl (.inl (.inl (.inl ⟨x,hx,by simp [Cw]⟩)))),hy' _ (.inl (.inl (.inl (.inl ⟨x,hx,by simp [Cw]⟩))))⟩,
  fun x hx=>⟨fU (f2 x hx),hy' _ (.inl (.inl (.inl (.inr ⟨x,hx,by simp [Am]⟩)))),hy' _ (.inl (.inl (.inl (.inr ⟨x,hx,by simp [Am]⟩))))⟩,
  fun x hx=>⟨fU (f3 x hx),hy' _ (.inl (.inl (.inr ⟨x,hx,by simp [yT]⟩))),hy' _ (.inl (.inl (.inr ⟨x,hx,by simp [yT]⟩))),hy' _ (.inl (.inl (.inr ⟨x,hx,by simp [yT]⟩))),hy' _ (.inl (.inl (.inr ⟨x,hx,by simp [yT]⟩)))⟩,
  fun x hx=>⟨fU (f4 x hx).1,fU (f4 x hx).2,hy' _ (.inl (.inr ⟨x,hx,by simp [CM]⟩))⟩,fun x hx=>⟨fU (f5 x hx),hy' _ (.inr ⟨x,hx,by simp [CO]⟩)⟩,by omega,by omega,by omega,by omega,by omega⟩
theorem De {d:am} (h:gf d=true):(fK d).length≤1000000∧∀ q∈fK d,tj q:=by
 obtain ⟨hc,_⟩:=rK h
 unfold gf at h
 simp only [Bool.and_eq_true] at h
 refine ⟨?_,fun q hq=>fU (xa (List.all_eq_true.1 h.2.2.1 q hq))⟩
 have g1:=cI (l:=d.2.2.1) (g:=Aw) (c:=2) fun _ _=>Nat.le_refl _
 have g2:=cI (l:=d.2.2.2.2.2.2.2.2.2.2.1) (g:=CK) (c:=1) fun _ _=>Nat.le_refl _
 have g3:=cI (l:=d.2.2.2.2.2.2.2.2.2.2.2.2) (g:=zU) (c:=240) fun y hy=>xJ (hc.yr y hy)
 have k1:=hc.br
 have k2:=hc.cl
 have k3:=hc.ys
 unfold fK
 simp only [List.length_append,List.length_cons,List.length_nil]
 omega
theorem TS.undLe{w00:World} {L:List Loc} {E:List (Nat×aa)} {n:Nat} {a:Act} {r:Nat} {T:aa} (h:TS w00 X L E n a w) [hl:mn L r (.und B T)]:B≤w.heap.size:=by
 obtain ⟨_,_,v,ty,g,_⟩:=h.mem.loc _ hl.mem
 exact g.1
theorem Fm{α:Type} {r:Rp α} {a:α} {C:Nat} {ts:List TypeId} (h:(aa.und B (.tr r ts C a)).holds X w v):(aa.ra r a).holds X w v:=iE (bA h)
theorem od {p:Prop} (h:p:=by first|exact cZ|exact cQ|exact c_|exact gB|exact gw|exact pG|exact pF|exact dK (b:=true) (u:=false) rfl|exact dK (b:=false) (u:=true) rfl|exact dK rfl|exact dc|exact dW.nil|exact eM.nil|exact eI.nil|exact sc trivial (Jh hfew hcnt bA)|exact sc trivial (Jh hfew hcnt xd)|exact sc trivial (Jh hfew hcnt CE)|exact sc hE AK|exact Cv.rfl'):p:=h
theorem yu {d:am}:bJ Tryz.prog dk 4 [0] [.ra ab d] (fun _=> .is (.bool true)):=by
 have kF:=IQ (d:=d)
 have kFu:=fun (B:Nat)=>kF.args (ks':=[0]) (As':=[.und B (.ra ab d)]) fun h=>by
  obtain ⟨v,us,rfl,h1,h2⟩:=h.tail
  exact ⟨bA h1,h2⟩
 cases hF:gf d
 ·rw [hF] at kFu
  refine ia (As':=fun B=>[.und B (.ra ab d)]) Tryz.func4 rfl Tryz.ntmps4 qE (fun _ _=>by kernel_rfl) (fun {X w vs} ha=>by
   obtain ⟨v,rfl,h⟩:=ha.one
   exact ⟨tg h,trivial⟩) fun X w0 hE=> ?_
  repeat' first|kernel_rfl|apply Bt.mk|refine nx ?_|apply aG|apply be|infer_instance|refine bl rfl od ?_|refine bj rfl ?_|refine bm rfl ?_|apply ae|refine bc rfl ?_|exact sc trivial (kFu _)|exact od|intro _
 rw [hF] at kFu
 obtain ⟨hcnt,hfew⟩:=rK hF
 have hok:=G9 hF
 obtain ⟨hrl,hrq⟩:=De hF
 refine ia (As':=fun B=>[.und B (.ra ab d)]) Tryz.func4 rfl Tryz.ntmps4 qE (fun _ _=>by kernel_rfl) (fun {X w vs} ha=>by
  obtain ⟨v,rfl,h⟩:=ha.one
  exact ⟨tg h,trivial⟩) fun X w0 hE=> ?_
 repeat' first|kernel_rfl|apply sO (id:=4)|apply Bt.mk|refine nx ?_|apply aG|apply be|infer_instance|refine bl rfl od ?_|refine bj rfl ?_|refine bm rfl ?_|apply ae|refine bc rfl ?_|exact sc trivial (kFu _)|exact od|intro _
 refine ⟨?_⟩
 refine aK fun a w h=> ?_
 rename_i r1 r3
 have h:=h.keep [1,2,3]
 have hb0:w0.heap.size≤w.heap.size:=h.mem.below.size
 have h:=h.age
 simp only [List.map_cons,List.map_nil] at h
 generalize w.heap.size=B0 at h hb0
 have h:=h.locs (L':=[(r3, .und B0 (.tr ab [9,93,95,103,171,173,175,177,179,117] 0 d)),(r1, .und B0 (.ra ab d))]) (.same (.cons (fun _ _ _ h=>⟨h.1,bA h.2⟩) .nil))
 refine aB h ?_
 clear h
 repeat' first|kernel_rfl|apply sO (id:=5)|apply Bt.mk|refine nx ?_|apply aG|apply be|infer_instance|refine bl rfl od ?_|refine bj rfl ?_|refine bm rfl ?_|apply ae|refine bc rfl ?_|exact Hx r3 trivial (Hy hok bA)|exact Hx r3 trivial (Hy hok xd)|exact od|intro _
 refine ⟨?_⟩
 refine aK fun a w h=> ?_
 rename_i r4
 have h:=h.keep [1,2,3,4]
 have hb1:B0≤w.heap.size:=h.undLe (r:=r3)
 have h:=h.age
 simp only [List.map_cons,List.map_nil] at h
 generalize w.heap.size=B1 at h hb1
 have h:=h.locs (L':=[(r4, .cu d B0 B1),(r3, .und B0 (.tr ab [9,93,95,103,171,173,175,177,179,117] 0 d)),(r1, .und B0 (.ra ab d))]) (.same (.cons (fun _ _ _ h=>bA h) (.cons (fun _ _ _ h=>bA h) .nil)))
 refine aB h ?_
 clear h
 repeat' first|kernel_rfl|apply sO (id:=6)|apply Bt.mk|refine nx ?_|apply aG|apply be|infer_instance|refine bl rfl od ?_|refine bj rfl ?_|refine bm rfl ?_|apply ae|refine bc rfl ?_|exact Hx r4 trivial (Hy hok bA)|exact Hx r4 trivial (Hy hok xd)|exact od|intro _
 refine ⟨?_⟩
 refine aK fun a w h=> ?_
 rename_i r5
 have h:=h.keep [1,2,3,4,5]
 have hb2:B1≤w.heap.size:=h.undLe (r:=r4)
 have h:=h.age
 simp only [List.map_cons,List.map_nil] at h
 generalize w.heap.size=B2 at h hb2
 have h:=h.locs (L':=[(r5, .cu d B1 B2),(r4, .cu d B0 B1),(r3, .und B0 (.tr ab [9,93,95,103,171,173,175,177,179,117] 0 d)),(r1, .und B0 (.ra ab d))]) (.same (.cons (fun _ _ _ h=>bA h) (.cons (fun _ _ _ h=>bA h) (.cons (fun _ _ _ h=>bA h) .nil))))
 haveI i01:Aj B0 B1:=⟨hb1⟩
 refine aB h ?_
 clear h
 repeat' first|kernel_rfl|apply sO (id:=12)|(refine AB (L':=[(r5, .cu d B1 B2),(r4, .any),(r3, .und B0 (.tr ab [9,93,95,103,171,173,175,177,179,117] 0 d)),(r1, .und B0 (.ra ab d))]) (.same (.cons (fun _ _ _ _=>trivial) (.same (.same .nil)))) (va (B0:=B0) (B1:=B1) [1,2,3,4,5] hcnt hrl hrq hb0 (fun e=>inferInstance) qK ?_))|apply Bt.mk|refine nx ?_|apply aw (id:=6) [(22,false)] [] 11|apply aw (id:=9) [(36,false)] [] 11|apply aG|apply be|infer_instance|refine bl rfl od ?_|refine bj rfl ?_|refine bm rfl ?_|apply ae|refine bc rfl ?_|exact sc trivial (JH hfew hcnt Fm)|exact Hx r5 trivial (Hy hok bA)|exact Hx r5 trivial (Hy hok xd)|exact od|intro _
 refine ⟨?_⟩
 refine aK fun a w h=> ?_
 rename_i r6
 have h:=h.keep [1,2,3,4,5,6]
 refine aB h ?_
 clear h
 repeat' first|kernel_rfl|(refine AB (L':=[(r6,lR d B2),(r5, .any),(r4, .any),(r3, .und B0 (.tr ab [9,93,95,103,171,173,175,177,179,117] 0 d)),(r1, .und B0 (.ra ab d))]) (.same (.cons (fun _ _ _ _=>trivial) (.same (.same (.same .nil))))) (va (B0:=B1) (B1:=B2) [1,2,3,4,5,6] hcnt hrl hrq (Nat.le_trans hb0 hb1) (fun e=>inferInstance) qK ?_))|apply Bt.mk|refine nx ?_|apply aw (id:=13) [(51,true)] [] 7|apply aG|apply be|infer_instance|refine bl rfl od ?_|refine bj rfl ?_|refine bm rfl ?_|apply ae|refine bc rfl ?_|exact sc trivial (JH hfew hcnt Fm)|exact od|intro _
theorem wz {P1:am→Prop}:bJ Tryz.prog dk 4 [0] [.ex ab P1] (fun _=> .is (.bool true)):=⟨fun _ _=>by kernel_rfl,d9.const.down,fun hG hX h=>by
 obtain ⟨u,us,rfl,⟨y,_,h1⟩,h2⟩:=h.tail
 exact yu.run hG hX ⟨h1,h2⟩⟩
end Go.Proofs.YtjjkikchncfekaaGreatDoor
