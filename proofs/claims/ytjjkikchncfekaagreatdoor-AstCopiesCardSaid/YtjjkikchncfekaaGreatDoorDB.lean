/- tallagefilings: Spoil. -/
import Derived.Test.YtjjkikchncfekaaGreatDoorDA
set_option maxHeartbeats 40000000
set_option maxRecDepth 20000
set_option synthInstance.maxHeartbeats 400000
set_option synthInstance.maxSize 4000
set_option linter.unusedSimpArgs false
set_option linter.unusedVariables false
namespace Go.Proofs.YtjjkikchncfekaaGreatDoor
open Go Go.RowKit
variable {X:List Nat} {w:World} {B1 B0 B b:Nat} {v:Value}
theorem sN(h:bt (X++above B1 w) w b):bt X w b∧b<B1:=by
 obtain ⟨g1,g2⟩:=h
 rw [List.mem_append,not_or] at g2
 refine ⟨⟨g1,g2.1⟩,?_⟩
 by_cases hb:b<B1
 ·exact hb
 ·exact absurd (ck.2 ⟨g1,by omega⟩) g2.2
theorem CA{α:Type} {r:Rp α} {e:TypeId} {ts:List TypeId} {l:List α} (h:(aa.to (Rp.frn B0 r) e ts 0 B0 l).holds (X++above B1 w) w v):vi [e] r.k B0 B1 l.length X w v:=by
 obtain ⟨A,c,ps,e1,e2,e3,⟨hvl,hown⟩,hfree⟩:=h
 refine ⟨A,c,e1,fun hn=> ?_⟩
 rcases hown with ⟨h0,h1⟩|⟨g,cap,cur,h1,h2,h3,h4,h5,h6,h7⟩
 ·omega
 injection h1 with h1 _ _
 subst h1
 obtain ⟨g1,g2⟩:=sN (hfree g rfl)
 refine ⟨g,0,cur.toList,e,rfl,g1,h2,g2,by rw [h3],List.mem_cons_self,?_⟩
 have:l.length*r.k≤cap*r.k:=Nat.mul_le_mul_right _ h4
 have h6:cur.size=cap*r.k:=h6
 have h8:cur.toList.length=cur.size:=Array.length_toList
 omega
theorem pN{α:Type} {r:Rp α} {e:List TypeId} {l:List α} {s:Value} {S:Nat→Prop} (hk:0<r.k) (hS:∀ b,S b→bt X w b∧B0≤b∧b<B1∧∃ (c:Array Value) (t:TypeId),w.heap[b]? =some (.cells c t (0,0))∧t∈e) (h:r.row.rd w S l [s]):vi e r.k B0 B1 l.length X w s:=by
 obtain ⟨A,n,c,e1,g1,g2,g3,g4,g5⟩:=h
 obtain rfl:s= .slice A n c:=by simpa using e1
 refine ⟨A,c,by rw [g1],fun hn=> ?_⟩
 obtain ⟨b,off,rfl,hb,hc⟩:=g5 qO
 obtain ⟨k1,k2,k3,cc,t,k4,k5⟩:=hS b hb
 refine ⟨b,off,cc.toList,t,rfl,k1,k2,k3,by rw [k4],k5,?_⟩
 obtain ⟨x,hx⟩:∃ x,l[l.length - 1]? =some x:=⟨_,List.getElem?_eq_getElem qO⟩
 obtain ⟨cs,h1,h2⟩:=hc _ x hx
 have hl:=r.len h2
 obtain ⟨u,hu⟩:∃ u,cs[r.k - 1]? =some u:=⟨_,List.getElem?_eq_getElem qO⟩
 have h3:=h1 _ u hu
 unfold World.cell? at h3
 simp only [k4] at h3
 have hlt:off+(l.length - 1)*r.k+(r.k - 1)<cc.size:=by
  rcases Nat.lt_or_ge (off+(l.length - 1)*r.k+(r.k - 1)) cc.size with h|h
  ·exact h
  ·simp [Array.getElem?_eq_none h] at h3
 have:l.length*r.k=(l.length - 1)*r.k+r.k:=by
  rw [←Nat.succ_mul]
  congr 1
  omega
 have h8:cc.toList.length=cc.size:=Array.length_toList
 omega
theorem I5{ys:List a_} (h:(aa.to (Rp.frn B0 aq) 65 [119,121,123,125,127,117] 0 B0 ys).holds (X++above B1 w) w v):CI B0 B1 ys 0 X w v:=by
 obtain ⟨A,c,ps,e1,e2,e3,⟨hvl,hown⟩,hfree⟩:=h
 refine ⟨A,c,e1,fun hn=> ?_⟩
 rcases hown with ⟨h0,h1⟩|⟨g,cap,cur,h1,h2,h3,h4,h5,h6,h7⟩
 ·omega
 injection h1 with h1 _ _
 subst h1
 obtain ⟨g1,g2⟩:=sN (hfree g rfl)
 have hk:(Rp.frn B0 aq).k=6:=rfl
 rw [hk] at h6 h7
 have hle:ys.length*6≤cap*6:=Nat.mul_le_mul_right _ h4
 refine ⟨g,cur.toList,rfl,g1,h2,g2,by rw [h3],by have h8:cur.toList.length=cur.size:=Array.length_toList;omega,fun j y _ hy=> ?_⟩
 rw [←e2,List.getElem?_map] at hy
 cases hq:ps[j]? with
 |none=>rw [hq] at hy;cases hy
 |some q=>
  rw [hq] at hy
  obtain rfl:q.1=y:=by simpa using hy
  have hr:=e3 q (List.mem_of_getElem? hq)
  have hS:∀ b,bE [119,121,123,125,127,117] 0 (X++above B1 w) w b∧B0≤b∧(∃ (c:Array Value) (t:TypeId),w.heap[b]? =some (.cells c t (0,0)))→bt X w b∧B0≤b∧b<B1∧∃ (c:Array Value) (t:TypeId),w.heap[b]? =some (.cells c t (0,0))∧t∈[119,121,123,125,127,117]:=fun b ⟨⟨f1,f2⟩,f3,c,t,f4⟩=>by
   obtain ⟨k1,k2⟩:=sN f1
   refine ⟨k1,f3,k2,c,t,f4,?_⟩
   rcases f2 with f2|⟨c',t',f',f2,f5⟩
   ·omega
   ·rw [f4] at f2
    injection f2 with f2
    injection f2 with _ f2 _
    exact f2▸f5
  refine ⟨q.2,?_,fun i u hu=> ?_⟩
  ·obtain ⟨c0,q0,f0,m0,c1,q1,f1,m1,c2,q2,f2,m2,c3,q3,f3,m3,c4,q4,f4,m4,m5⟩:=hr
   have m0:c0=[.int .i64 q.1.1]:=m0
   obtain ⟨s1,rfl⟩:=fu rfl m1
   obtain ⟨s2,rfl⟩:=fu rfl m2
   obtain ⟨s3,rfl⟩:=fu rfl m3
   obtain ⟨s4,rfl⟩:=fu rfl m4
   obtain ⟨s5,rfl⟩:=fu rfl m5
   exact ⟨s1,s2,s3,s4,s5,by rw [f0,f1,f2,f3,f4,m0];rfl,pN (r:=aZ) qD hS m1,pN (r:=aY) qD hS m2,pN (r:=aI) qD hS m3,pN (r:=aR) qD hS m4,pN (r:=bg) qD hS m5⟩
  ·have hf:=eX (fun q hq=>((Rp.frn B0 aq).len (e3 q hq)).trans hk) hq hu
   rw [←h7] at hf
   have hlt:=(List.getElem?_eq_some_iff.1 hf).1
   rw [List.getElem?_take_of_lt (by rw [List.length_take] at hlt;omega)] at hf
   exact hf
theorem IG{d:am} (h:(aa.cu d B0 B1).holds X w v):(aa.st [.any, .any, .wr [79] 8 B0 B1 (d.2.2.1).length, .any, .any, .any, .any, .any, .any, .any, .any, .any, .any, .any, .any, .any, .any, .any, .any, .any, .any, .any, .wr [84] 6 B0 B1 (d.2.2.2.2.2.2.2.2.2.2.1).length, .wr [9] 1 B0 B1 (d.2.2.2.2.2.2.2.2.2.2.2.1).length, .wy B0 B1 (d.2.2.2.2.2.2.2.2.2.2.2.2) 0]).holds X w v:=by
 obtain ⟨hB,cs,e,h,ho⟩:=h
 obtain ⟨a0,q0,rfl,u0,h⟩:=h.uncons
 obtain ⟨a1,q1,rfl,u1,h⟩:=h.uncons
 obtain ⟨a2,q2,rfl,u2,h⟩:=h.uncons
 obtain ⟨a3a,q3a,rfl,u3a,h⟩:=h.uncons
 obtain ⟨a3b,q3b,rfl,u3b,h⟩:=h.uncons
 obtain ⟨a3c,q3c,rfl,u3c,h⟩:=h.uncons
 obtain ⟨a3d,q3d,rfl,u3d,h⟩:=h.uncons
 obtain ⟨a4a,q4a,rfl,u4a,h⟩:=h.uncons
 obtain ⟨a4b,q4b,rfl,u4b,h⟩:=h.uncons
 obtain ⟨a4c,q4c,rfl,u4c,h⟩:=h.uncons
 obtain ⟨a4d,q4d,rfl,u4d,h⟩:=h.uncons
 obtain ⟨a5,q5,rfl,u5,h⟩:=h.uncons
 obtain ⟨a6,q6,rfl,u6,h⟩:=h.uncons
 obtain ⟨a7a,q7a,rfl,u7a,h⟩:=h.uncons
 obtain ⟨a7b,q7b,rfl,u7b,h⟩:=h.uncons
 obtain ⟨a7c,q7c,rfl,u7c,h⟩:=h.uncons
 obtain ⟨a7d,q7d,rfl,u7d,h⟩:=h.uncons
 obtain ⟨a8a,q8a,rfl,u8a,h⟩:=h.uncons
 obtain ⟨a8b,q8b,rfl,u8b,h⟩:=h.uncons
 obtain ⟨a8c,q8c,rfl,u8c,h⟩:=h.uncons
 obtain ⟨a8d,q8d,rfl,u8d,h⟩:=h.uncons
 obtain ⟨a9,q9,rfl,u9,h⟩:=h.uncons
 obtain ⟨a10,q10,rfl,u10,h⟩:=h.uncons
 obtain ⟨a11,q11,rfl,u11,h⟩:=h.uncons
 obtain ⟨a12,q12,rfl,u12,h⟩:=h.uncons
 obtain rfl:=h.unnil
 exact ⟨_,e,⟨trivial,trivial,CA u2,trivial,trivial,trivial,trivial,trivial,trivial,trivial,trivial,trivial,trivial,trivial,trivial,trivial,trivial,trivial,trivial,trivial,trivial,trivial,CA u10,CA u11,I5 u12,trivial⟩,ho⟩
instance {d:am} {B0 B1:Nat}:ai (.cu d B0 B1) 0 25 true (.cu d B0 B1):= .whole inferInstance
instance:Hc [79] 65:=⟨by decide⟩
instance:Hc [84] 65:=⟨by decide⟩
instance:Hc [9] 65:=⟨by decide⟩
instance:Hc [119,121,123,125,127,117] 65:=⟨by decide⟩
def Jg (B0 B1:Nat) (X:List Nat) (w w':World):Prop:=w.heap.size≤w'.heap.size∧∀ b,b<w.heap.size→b ∉ X→w'.heap[b]? =w.heap[b]? ∨(B0≤b∧b<B1)
theorem rt{w00 w1:World} {L0:List Loc} {r n:Nat} {T:aa} {E:List (Nat×aa)} {a:Act} (hM:pV w00 X L0 w1) [hg:bH E 999 (.gq X B0 B1 w1)] (h:TS w00 (r::X) ((r,T)::L0) E n a w):pV w00 X L0 w∧Jg B0 B1 X w1 w:=by
 obtain ⟨_,g2,g3⟩:=h.slots _ hg.mem
 refine ⟨⟨fun p hp=> ?_,fun b hb=>h.mem.far b (List.mem_cons_of_mem _ hb),(List.nodup_cons.1 h.mem.nodup).2,h.mem.below⟩,g2,g3⟩
 obtain ⟨k1,k2,v,ty,k3,k4⟩:=h.mem.loc p (List.mem_cons_of_mem _ hp)
 exact ⟨(hM.loc p hp).1,k2,v,ty,p.2.stable k3 ⟨Nat.le_refl _,fun _ _ _=>rfl⟩ (fun b hb _=>List.mem_cons_of_mem _ hb),k4⟩
theorem hZ {p:Prop} (h:p:=by first|exact Bc hc|exact C_|exact DD hp|exact xb 1 rfl|exact xb 0 rfl|exact Ho|exact D_ (by assumption)|exact Fd (by assumption)|exact EH (by assumption)|exact FK (Nat.le_refl _) (by assumption)|exact lk (by assumption)|exact cZ|exact cQ|exact c_|exact bC|exact iY (by first|assumption|rfl)|exact iW|exact dB (by assumption)|exact dc|exact Cv.rfl'):p:=h
theorem DT{d:am} (hc:ox d) (hr:(fK d).length≤1000000) (hq:∀ q∈fK d,tj q) {w00 w1:World} {L0:List Loc} (h00:w00.heap.size≤B0) (hM:pV w00 X L0 w1) [hL:∀ e,fG e B0 B1 L0] (hv:(aa.cu d B0 B1).holds X w1 v):Calls Tryz.prog 12 #[v] w1 fun e w'=>e= .returned (.tuple #[])∧pV w00 X L0 w'∧Jg B0 B1 X w1 w':=by
 refine jB (X:=X) (Ts:=[.cu d B0 B1]) (vs:=[v]) Tryz.func12 rfl Tryz.ntmps12 qE hM.far ⟨hv,trivial⟩ fun a ht=> ?_
 have h:TS w00 X L0 [(0, .cu d B0 B1),(999, .gq X B0 B1 w1)] 174 a w1:=⟨ht.size,ht.df,fun p hp=>by
  rcases List.mem_cons.1 hp with rfl|hp
  ·exact ht.slots _ List.mem_cons_self
  ·rw [List.mem_singleton.1 hp]
   exact ⟨fun b hb _=>hb,Nat.le_refl _,fun b _ _=> .inl rfl⟩,hM⟩
 clear ht hv
 refine aB h ?_
 clear h
 repeat' first|kernel_rfl|apply bZ|apply b6|apply b_|apply bU|apply b9|apply bO|apply b7|apply bP|apply bW|apply ae|apply bk|apply dt|apply dp|apply bT|refine nL rfl ?_|apply bQ|apply dq|apply dm|apply ii|apply ig|refine ik rfl ?_|apply ij|apply il|apply du|exact hZ|intro _
 refine aK fun a w h=> ?_
 rename_i r1
 have hnl:((fK d).map H0).length≤1000000:=by rw [List.length_map];exact hr
 have hnp:∀ p∈(fK d).map H0,p.1≤1000000∧p.2≤1000000:=fun p hp=>by
  obtain ⟨q,hq1,rfl⟩:=List.mem_map.1 hp
  exact hq q hq1
 generalize (fK d).map H0=ns at h hnl hnp
 obtain ⟨v1,hv1,fv⟩:=h.openL (r:=r1) List.mem_cons_self
 have h:=fv (IG hv1) .here
 clear hv1 fv
 have hbr:=hc.br
 have hcl:=hc.cl
 have hen:=hc.en
 have hys:=hc.ys
 refine aD (fun k a u=>∃ i:Nat,i+k=ns.length∧TS w00 (r1::X) ((r1, .st [.any, .any, .wr [79] 8 B0 B1 (d.2.2.1).length, .any, .any, .any, .any, .any, .any, .any, .any, .any, .any, .any, .any, .any, .any, .any, .any, .any, .any, .any, .wr [84] 6 B0 B1 (d.2.2.2.2.2.2.2.2.2.2.1).length, .wr [9] 1 B0 B1 (d.2.2.2.2.2.2.2.2.2.2.2.1).length, .wy B0 B1 (d.2.2.2.2.2.2.2.2.2.2.2.2) 0])::L0) [(3, .is (.int .i64 (i:Int))),(2, .lx B0 B1 ns),(1, .is (.pointer (some ⟨r1,0,none⟩))),(999, .gq X B0 B1 w1)] 174 a u) (ns.length) ⟨0,by omega,h.keep [3,2,1,999]⟩ ?_
 clear h
 rintro k a u ⟨i,hii,h⟩
 by_cases hlti:i<ns.length
 ·have hci:decide ((i:Int)<((ns.length:Nat):Int))=true:=decide_eq_true qO
  have hwi:IntKind.i64.wrap ((i:Int)+1)=((i+1:Nat):Int):=ak qO qO
  obtain ⟨p,hp⟩:∃ p,ns[i]? =some p:=⟨_,List.getElem?_eq_getElem hlti⟩
  obtain ⟨hp1,hp2⟩:=hnp p (List.mem_of_getElem? hp)
  refine aB h ?_
  clear h
  repeat' first|kernel_rfl|apply bZ|apply b6|apply b_|apply bU|apply b9|apply bO|apply b7|apply bP|apply bW|apply ae|apply bk|apply dt|apply dp|apply bT|refine nL rfl ?_|apply bQ|apply dq|apply dm|apply ii|apply ig|refine ik rfl ?_|apply ij|apply il|apply du|exact hZ|intro _
  refine aK fun a w h=> ?_
  refine aD (fun kj a u=>∃ j:Nat,j+kj=p.1∧TS w00 (r1::X) ((r1, .st [.any, .any, .wr [79] 8 B0 B1 (d.2.2.1).length, .any, .any, .any, .any, .any, .any, .any, .any, .any, .any, .any, .any, .any, .any, .any, .any, .any, .any, .any, .wr [84] 6 B0 B1 (d.2.2.2.2.2.2.2.2.2.2.1).length, .wr [9] 1 B0 B1 (d.2.2.2.2.2.2.2.2.2.2.2.1).length, .wy B0 B1 (d.2.2.2.2.2.2.2.2.2.2.2.2) 0])::L0) [(4, .is (.int .i64 (j:Int))),(3, .is (.int .i64 (i:Int))),(2, .lx B0 B1 ns),(1, .is (.pointer (some ⟨r1,0,none⟩))),(999, .gq X B0 B1 w1)] 174 a u) (p.1) ⟨0,by omega,h.keep [4,3,2,1,999]⟩ ?_
  clear h
  rintro kj a u ⟨j,hij,h⟩
  by_cases hltj:j<p.1
  ·have hcj:decide ((j:Int)<((p.1:Nat):Int))=true:=decide_eq_true qO
   have hwj:IntKind.i64.wrap ((j:Int)+1)=((j+1:Nat):Int):=ak qO qO
   refine aB h ?_
   clear h
   repeat' first|kernel_rfl|(refine FE [4,3,2,1,999] h00 qD qK ?_)|exact aQ fun _ _ h=>⟨kj - 1,by omega,j+1,by omega,h.keep [4,3,2,1,999]⟩|apply bZ|apply b6|apply b_|apply bU|apply b9|apply bO|apply b7|apply bP|apply bW|apply ae|apply bk|apply dt|apply dp|apply bT|refine nL rfl ?_|apply bQ|apply dq|apply dm|apply ii|apply ig|refine ik rfl ?_|apply ij|apply il|apply du|exact hZ|intro _
  ·have hcj:decide ((j:Int)<((p.1:Nat):Int))=false:=decide_eq_false qO
   refine aB h ?_
   clear h
   repeat' first|kernel_rfl|apply bZ|apply b6|apply b_|apply bU|apply b9|apply bO|apply b7|apply bP|apply bW|apply ae|apply bk|apply dt|apply dp|apply bT|refine nL rfl ?_|apply bQ|apply dq|apply dm|apply ii|apply ig|refine ik rfl ?_|apply ij|apply il|apply du|exact hZ|intro _
   refine aK fun a w h=> ?_
   refine aD (fun kj a u=>∃ j:Nat,j+kj=p.2∧TS w00 (r1::X) ((r1, .st [.any, .any, .wr [79] 8 B0 B1 (d.2.2.1).length, .any, .any, .any, .any, .any, .any, .any, .any, .any, .any, .any, .any, .any, .any, .any, .any, .any, .any, .any, .wr [84] 6 B0 B1 (d.2.2.2.2.2.2.2.2.2.2.1).length, .wr [9] 1 B0 B1 (d.2.2.2.2.2.2.2.2.2.2.2.1).length, .wy B0 B1 (d.2.2.2.2.2.2.2.2.2.2.2.2) 0])::L0) [(5, .is (.int .i64 (j:Int))),(3, .is (.int .i64 (i:Int))),(2, .lx B0 B1 ns),(1, .is (.pointer (some ⟨r1,0,none⟩))),(999, .gq X B0 B1 w1)] 174 a u) (p.2) ⟨0,by omega,h.keep [5,3,2,1,999]⟩ ?_
   clear h
   rintro kj a u ⟨j,hij,h⟩
   by_cases hltj:j<p.2
   ·have hcj:decide ((j:Int)<((p.2:Nat):Int))=true:=decide_eq_true qO
    have hwj:IntKind.i64.wrap ((j:Int)+1)=((j+1:Nat):Int):=ak qO qO
    refine aB h ?_
    clear h
    repeat' first|kernel_rfl|(refine FE [5,3,2,1,999] h00 qD qK ?_)|exact aQ fun _ _ h=>⟨kj - 1,by omega,j+1,by omega,h.keep [5,3,2,1,999]⟩|apply bZ|apply b6|apply b_|apply bU|apply b9|apply bO|apply b7|apply bP|apply bW|apply ae|apply bk|apply dt|apply dp|apply bT|refine nL rfl ?_|apply bQ|apply dq|apply dm|apply ii|apply ig|refine ik rfl ?_|apply ij|apply il|apply du|exact xF hp|exact hZ|intro _
   ·have hcj:decide ((j:Int)<((p.2:Nat):Int))=false:=decide_eq_false qO
    refine aB h ?_
    clear h
    repeat' first|kernel_rfl|exact aQ fun _ _ h=>⟨k - 1,by omega,i+1,by omega,h.keep [3,2,1,999]⟩|apply bZ|apply b6|apply b_|apply bU|apply b9|apply bO|apply b7|apply bP|apply bW|apply ae|apply bk|apply dt|apply dp|apply bT|refine nL rfl ?_|apply bQ|apply dq|apply dm|apply ii|apply ig|refine ik rfl ?_|apply ij|apply il|apply du|exact xF hp|exact hZ|intro _
 ·have hci:decide ((i:Int)<((ns.length:Nat):Int))=false:=decide_eq_false qO
  refine aB h ?_
  clear h
  repeat' first|kernel_rfl|apply bZ|apply b6|apply b_|apply bU|apply b9|apply bO|apply b7|apply bP|apply bW|apply ae|apply bk|apply dt|apply dp|apply bT|refine nL rfl ?_|apply bQ|apply dq|apply dm|apply ii|apply ig|refine ik rfl ?_|apply ij|apply il|apply du|exact hZ|intro _
  refine aK fun a w h=> ?_
  refine aD (fun k a u=>∃ i:Nat,i+k=(d.2.2.1).length∧TS w00 (r1::X) ((r1, .st [.any, .any, .wr [79] 8 B0 B1 (d.2.2.1).length, .any, .any, .any, .any, .any, .any, .any, .any, .any, .any, .any, .any, .any, .any, .any, .any, .any, .any, .any, .wr [84] 6 B0 B1 (d.2.2.2.2.2.2.2.2.2.2.1).length, .wr [9] 1 B0 B1 (d.2.2.2.2.2.2.2.2.2.2.2.1).length, .wy B0 B1 (d.2.2.2.2.2.2.2.2.2.2.2.2) 0])::L0) [(6, .is (.int .i64 (i:Int))),(1, .is (.pointer (some ⟨r1,0,none⟩))),(999, .gq X B0 B1 w1)] 174 a u) ((d.2.2.1).length) ⟨0,by omega,h.keep [6,1,999]⟩ ?_
  clear h
  rintro k a u ⟨i,hii,h⟩
  by_cases hlti:i<(d.2.2.1).length
  ·have hci:decide ((i:Int)<(((d.2.2.1).length:Nat):Int))=true:=decide_eq_true qO
   have hwi:IntKind.i64.wrap ((i:Int)+1)=((i+1:Nat):Int):=ak qO qO
   refine aB h ?_
   clear h
   repeat' first|kernel_rfl|(refine nT [6,1,999] h00 qK ?_)|exact aQ fun _ _ h=>⟨k - 1,by omega,i+1,by omega,h.keep [6,1,999]⟩|apply bZ|apply b6|apply b_|apply bU|apply b9|apply bO|apply b7|apply bP|apply bW|apply ae|apply bk|apply dt|apply dp|apply bT|refine nL rfl ?_|apply bQ|apply dq|apply dm|apply ii|apply ig|refine ik rfl ?_|apply ij|apply il|apply du|exact aF [] 0 dj|exact hZ|intro _
  ·have hci:decide ((i:Int)<(((d.2.2.1).length:Nat):Int))=false:=decide_eq_false qO
   refine aB h ?_
   clear h
   repeat' first|kernel_rfl|apply bZ|apply b6|apply b_|apply bU|apply b9|apply bO|apply b7|apply bP|apply bW|apply ae|apply bk|apply dt|apply dp|apply bT|refine nL rfl ?_|apply bQ|apply dq|apply dm|apply ii|apply ig|refine ik rfl ?_|apply ij|apply il|apply du|exact aF [] 0 dj|exact hZ|intro _
   refine aK fun a w h=> ?_
   refine aD (fun k a u=>∃ i:Nat,i+k=(d.2.2.2.2.2.2.2.2.2.2.1).length∧TS w00 (r1::X) ((r1, .st [.any, .any, .wr [79] 8 B0 B1 (d.2.2.1).length, .any, .any, .any, .any, .any, .any, .any, .any, .any, .any, .any, .any, .any, .any, .any, .any, .any, .any, .any, .wr [84] 6 B0 B1 (d.2.2.2.2.2.2.2.2.2.2.1).length, .wr [9] 1 B0 B1 (d.2.2.2.2.2.2.2.2.2.2.2.1).length, .wy B0 B1 (d.2.2.2.2.2.2.2.2.2.2.2.2) 0])::L0) [(7, .is (.int .i64 (i:Int))),(1, .is (.pointer (some ⟨r1,0,none⟩))),(999, .gq X B0 B1 w1)] 174 a u) ((d.2.2.2.2.2.2.2.2.2.2.1).length) ⟨0,by omega,h.keep [7,1,999]⟩ ?_
   clear h
   rintro k a u ⟨i,hii,h⟩
   by_cases hlti:i<(d.2.2.2.2.2.2.2.2.2.2.1).length
   ·have hci:decide ((i:Int)<(((d.2.2.2.2.2.2.2.2.2.2.1).length:Nat):Int))=true:=decide_eq_true qO
    have hwi:IntKind.i64.wrap ((i:Int)+1)=((i+1:Nat):Int):=ak qO qO
    refine aB h ?_
    clear h
    repeat' first|kernel_rfl|(refine nT [7,1,999] h00 qK ?_)|exact aQ fun _ _ h=>⟨k - 1,by omega,i+1,by omega,h.keep [7,1,999]⟩|apply bZ|apply b6|apply b_|apply bU|apply b9|apply bO|apply b7|apply bP|apply bW|apply ae|apply bk|apply dt|apply dp|apply bT|refine nL rfl ?_|apply bQ|apply dq|apply dm|apply ii|apply ig|refine ik rfl ?_|apply ij|apply il|apply du|exact aF [] 0 eH|exact hZ|intro _
   ·have hci:decide ((i:Int)<(((d.2.2.2.2.2.2.2.2.2.2.1).length:Nat):Int))=false:=decide_eq_false qO
    refine aB h ?_
    clear h
    repeat' first|kernel_rfl|apply bZ|apply b6|apply b_|apply bU|apply b9|apply bO|apply b7|apply bP|apply bW|apply ae|apply bk|apply dt|apply dp|apply bT|refine nL rfl ?_|apply bQ|apply dq|apply dm|apply ii|apply ig|refine ik rfl ?_|apply ij|apply il|apply du|exact aF [] 0 eH|exact hZ|intro _
    refine aK fun a w h=> ?_
    refine aD (fun k a u=>∃ i:Nat,i+k=(d.2.2.2.2.2.2.2.2.2.2.2.1).length∧TS w00 (r1::X) ((r1, .st [.any, .any, .wr [79] 8 B0 B1 (d.2.2.1).length, .any, .any, .any, .any, .any, .any, .any, .any, .any, .any, .any, .any, .any, .any, .any, .any, .any, .any, .any, .wr [84] 6 B0 B1 (d.2.2.2.2.2.2.2.2.2.2.1).length, .wr [9] 1 B0 B1 (d.2.2.2.2.2.2.2.2.2.2.2.1).length, .wy B0 B1 (d.2.2.2.2.2.2.2.2.2.2.2.2) 0])::L0) [(8, .is (.int .i64 (i:Int))),(1, .is (.pointer (some ⟨r1,0,none⟩))),(999, .gq X B0 B1 w1)] 174 a u) ((d.2.2.2.2.2.2.2.2.2.2.2.1).length) ⟨0,by omega,h.keep [8,1,999]⟩ ?_
    clear h
    rintro k a u ⟨i,hii,h⟩
    by_cases hlti:i<(d.2.2.2.2.2.2.2.2.2.2.2.1).length
    ·have hci:decide ((i:Int)<(((d.2.2.2.2.2.2.2.2.2.2.2.1).length:Nat):Int))=true:=decide_eq_true qO
     have hwi:IntKind.i64.wrap ((i:Int)+1)=((i+1:Nat):Int):=ak qO qO
     refine aB h ?_
     clear h
     repeat' first|kernel_rfl|(refine nT [8,1,999] h00 qK ?_)|exact aQ fun _ _ h=>⟨k - 1,by omega,i+1,by omega,h.keep [8,1,999]⟩|apply bZ|apply b6|apply b_|apply bU|apply b9|apply bO|apply b7|apply bP|apply bW|apply ae|apply bk|apply dt|apply dp|apply bT|refine nL rfl ?_|apply bQ|apply dq|apply dm|apply ii|apply ig|refine ik rfl ?_|apply ij|apply il|apply du|exact hZ|intro _
    ·have hci:decide ((i:Int)<(((d.2.2.2.2.2.2.2.2.2.2.2.1).length:Nat):Int))=false:=decide_eq_false qO
     refine aB h ?_
     clear h
     repeat' first|kernel_rfl|apply bZ|apply b6|apply b_|apply bU|apply b9|apply bO|apply b7|apply bP|apply bW|apply ae|apply bk|apply dt|apply dp|apply bT|refine nL rfl ?_|apply bQ|apply dq|apply dm|apply ii|apply ig|refine ik rfl ?_|apply ij|apply il|apply du|exact hZ|intro _
     refine aK fun a w h=> ?_
     refine aD (fun k a u=>∃ i:Nat,i+k=(d.2.2.2.2.2.2.2.2.2.2.2.2).length∧TS w00 (r1::X) ((r1, .st [.any, .any, .wr [79] 8 B0 B1 (d.2.2.1).length, .any, .any, .any, .any, .any, .any, .any, .any, .any, .any, .any, .any, .any, .any, .any, .any, .any, .any, .any, .wr [84] 6 B0 B1 (d.2.2.2.2.2.2.2.2.2.2.1).length, .wr [9] 1 B0 B1 (d.2.2.2.2.2.2.2.2.2.2.2.1).length, .wy B0 B1 (d.2.2.2.2.2.2.2.2.2.2.2.2) i])::L0) [(9, .is (.int .i64 (i:Int))),(1, .is (.pointer (some ⟨r1,0,none⟩))),(999, .gq X B0 B1 w1)] 174 a u) ((d.2.2.2.2.2.2.2.2.2.2.2.2).length) ⟨0,by omega,h.keep [9,1,999]⟩ ?_
     clear h
     rintro k a u ⟨i,hii,h⟩
     by_cases hlti:i<(d.2.2.2.2.2.2.2.2.2.2.2.2).length
     ·have hci:decide ((i:Int)<(((d.2.2.2.2.2.2.2.2.2.2.2.2).length:Nat):Int))=true:=decide_eq_true qO
      have hwi:IntKind.i64.wrap ((i:Int)+1)=((i+1:Nat):Int):=ak qO qO
      obtain ⟨y,hy⟩:∃ y,(d.2.2.2.2.2.2.2.2.2.2.2.2)[i]? =some y:=⟨_,List.getElem?_eq_getElem hlti⟩
      obtain ⟨hy1,hy2,hy3,hy4,hy5⟩:=hc.yr y (List.mem_of_getElem? hy)
      refine aB h ?_
      clear h
      refine GG (i:=24) (fun sv=>[.any, .any, .wr [79] 8 B0 B1 (d.2.2.1).length, .any, .any, .any, .any, .any, .any, .any, .any, .any, .any, .any, .any, .any, .any, .any, .any, .any, .any, .any, .wr [84] 6 B0 B1 (d.2.2.2.2.2.2.2.2.2.2.1).length, .wr [9] 1 B0 B1 (d.2.2.2.2.2.2.2.2.2.2.2.1).length, .wys sv B0 B1 (d.2.2.2.2.2.2.2.2.2.2.2.2) i]) (fun _=>rfl) fun sv=> ?_
      repeat' first|kernel_rfl|apply bZ|apply b6|apply b_|apply bU|apply b9|apply bO|apply b7|apply bP|apply bW|apply ae|apply bk|apply dt|apply dp|apply bT|refine nL rfl ?_|apply bQ|apply dq|apply dm|apply ii|apply ig|refine ik rfl ?_|apply ij|apply il|apply du|exact hZ|intro _
      refine aK fun a w h=> ?_
      rename_i r7
      refine aD (fun kj a u=>∃ j:Nat,j+kj=(y.2.1).length∧TS w00 (r7::r1::X) ((r7, .st [.any, .wr [119,121,123,125,127,117] 6 B0 B1 y.2.1.length, .wr [119,121,123,125,127,117] 6 B0 B1 y.2.2.1.length, .wr [119,121,123,125,127,117] 10 B0 B1 y.2.2.2.1.length, .wr [119,121,123,125,127,117] 9 B0 B1 y.2.2.2.2.1.length, .wr [119,121,123,125,127,117] 5 B0 B1 y.2.2.2.2.2.length])::(r1, .st [.any, .any, .wr [79] 8 B0 B1 (d.2.2.1).length, .any, .any, .any, .any, .any, .any, .any, .any, .any, .any, .any, .any, .any, .any, .any, .any, .any, .any, .any, .wr [84] 6 B0 B1 (d.2.2.2.2.2.2.2.2.2.2.1).length, .wr [9] 1 B0 B1 (d.2.2.2.2.2.2.2.2.2.2.2.1).length, .wys sv B0 B1 (d.2.2.2.2.2.2.2.2.2.2.2.2) i])::L0) [(11, .is (.int .i64 (j:Int))),(9, .is (.int .i64 (i:Int))),(10, .is (.pointer (some ⟨r7,0,none⟩))),(1, .is (.pointer (some ⟨r1,0,none⟩))),(999, .gq X B0 B1 w1)] 174 a u) ((y.2.1).length) ⟨0,by omega,h.keep [11,9,10,1,999]⟩ ?_
      clear h
      rintro kj a u ⟨j,hij,h⟩
      by_cases hltj:j<(y.2.1).length
      ·have hcj:decide ((j:Int)<(((y.2.1).length:Nat):Int))=true:=decide_eq_true qO
       have hwj:IntKind.i64.wrap ((j:Int)+1)=((j+1:Nat):Int):=ak qO qO
       refine aB h ?_
       clear h
       repeat' first|kernel_rfl|(refine nT [11,9,10,1,999] h00 qK ?_)|exact aQ fun _ _ h=>⟨kj - 1,by omega,j+1,by omega,h.keep [11,9,10,1,999]⟩|apply bZ|apply b6|apply b_|apply bU|apply b9|apply bO|apply b7|apply bP|apply bW|apply ae|apply bk|apply dt|apply dp|apply bT|refine nL rfl ?_|apply bQ|apply dq|apply dm|apply ii|apply ig|refine ik rfl ?_|apply ij|apply il|apply du|exact aF [] 0 fa|exact hZ|intro _
      ·have hcj:decide ((j:Int)<(((y.2.1).length:Nat):Int))=false:=decide_eq_false qO
       refine aB h ?_
       clear h
       repeat' first|kernel_rfl|apply bZ|apply b6|apply b_|apply bU|apply b9|apply bO|apply b7|apply bP|apply bW|apply ae|apply bk|apply dt|apply dp|apply bT|refine nL rfl ?_|apply bQ|apply dq|apply dm|apply ii|apply ig|refine ik rfl ?_|apply ij|apply il|apply du|exact aF [] 0 fa|exact hZ|intro _
       refine aK fun a w h=> ?_
       refine aD (fun kj a u=>∃ j:Nat,j+kj=(y.2.2.1).length∧TS w00 (r7::r1::X) ((r7, .st [.any, .wr [119,121,123,125,127,117] 6 B0 B1 y.2.1.length, .wr [119,121,123,125,127,117] 6 B0 B1 y.2.2.1.length, .wr [119,121,123,125,127,117] 10 B0 B1 y.2.2.2.1.length, .wr [119,121,123,125,127,117] 9 B0 B1 y.2.2.2.2.1.length, .wr [119,121,123,125,127,117] 5 B0 B1 y.2.2.2.2.2.length])::(r1, .st [.any, .any, .wr [79] 8 B0 B1 (d.2.2.1).length, .any, .any, .any, .any, .any, .any, .any, .any, .any, .any, .any, .any, .any, .any, .any, .any, .any, .any, .any, .wr [84] 6 B0 B1 (d.2.2.2.2.2.2.2.2.2.2.1).length, .wr [9] 1 B0 B1 (d.2.2.2.2.2.2.2.2.2.2.2.1).length, .wys sv B0 B1 (d.2.2.2.2.2.2.2.2.2.2.2.2) i])::L0) [(12, .is (.int .i64 (j:Int))),(9, .is (.int .i64 (i:Int))),(10, .is (.pointer (some ⟨r7,0,none⟩))),(1, .is (.pointer (some ⟨r1,0,none⟩))),(999, .gq X B0 B1 w1)] 174 a u) ((y.2.2.1).length) ⟨0,by omega,h.keep [12,9,10,1,999]⟩ ?_
       clear h
       rintro kj a u ⟨j,hij,h⟩
       by_cases hltj:j<(y.2.2.1).length
       ·have hcj:decide ((j:Int)<(((y.2.2.1).length:Nat):Int))=true:=decide_eq_true qO
        have hwj:IntKind.i64.wrap ((j:Int)+1)=((j+1:Nat):Int):=ak qO qO
        refine aB h ?_
        clear h
        repeat' first|kernel_rfl|(refine nT [12,9,10,1,999] h00 qK ?_)|exact aQ fun _ _ h=>⟨kj - 1,by omega,j+1,by omega,h.keep [12,9,10,1,999]⟩|apply bZ|apply b6|apply b_|apply bU|apply b9|apply bO|apply b7|apply bP|apply bW|apply ae|apply bk|apply dt|apply dp|apply bT|refine nL rfl ?_|apply bQ|apply dq|apply dm|apply ii|apply ig|refine ik rfl ?_|apply ij|apply il|apply du|exact aF [] 0 fd|exact hZ|intro _
       ·have hcj:decide ((j:Int)<(((y.2.2.1).length:Nat):Int))=false:=decide_eq_false qO
        refine aB h ?_
        clear h
        repeat' first|kernel_rfl|apply bZ|apply b6|apply b_|apply bU|apply b9|apply bO|apply b7|apply bP|apply bW|apply ae|apply bk|apply dt|apply dp|apply bT|refine nL rfl ?_|apply bQ|apply dq|apply dm|apply ii|apply ig|refine ik rfl ?_|apply ij|apply il|apply du|exact aF [] 0 fd|exact hZ|intro _
        refine aK fun a w h=> ?_
        refine aD (fun kj a u=>∃ j:Nat,j+kj=(y.2.2.2.1).length∧TS w00 (r7::r1::X) ((r7, .st [.any, .wr [119,121,123,125,127,117] 6 B0 B1 y.2.1.length, .wr [119,121,123,125,127,117] 6 B0 B1 y.2.2.1.length, .wr [119,121,123,125,127,117] 10 B0 B1 y.2.2.2.1.length, .wr [119,121,123,125,127,117] 9 B0 B1 y.2.2.2.2.1.length, .wr [119,121,123,125,127,117] 5 B0 B1 y.2.2.2.2.2.length])::(r1, .st [.any, .any, .wr [79] 8 B0 B1 (d.2.2.1).length, .any, .any, .any, .any, .any, .any, .any, .any, .any, .any, .any, .any, .any, .any, .any, .any, .any, .any, .any, .wr [84] 6 B0 B1 (d.2.2.2.2.2.2.2.2.2.2.1).length, .wr [9] 1 B0 B1 (d.2.2.2.2.2.2.2.2.2.2.2.1).length, .wys sv B0 B1 (d.2.2.2.2.2.2.2.2.2.2.2.2) i])::L0) [(13, .is (.int .i64 (j:Int))),(9, .is (.int .i64 (i:Int))),(10, .is (.pointer (some ⟨r7,0,none⟩))),(1, .is (.pointer (some ⟨r1,0,none⟩))),(999, .gq X B0 B1 w1)] 174 a u) ((y.2.2.2.1).length) ⟨0,by omega,h.keep [13,9,10,1,999]⟩ ?_
        clear h
        rintro kj a u ⟨j,hij,h⟩
        by_cases hltj:j<(y.2.2.2.1).length
        ·have hcj:decide ((j:Int)<(((y.2.2.2.1).length:Nat):Int))=true:=decide_eq_true qO
         have hwj:IntKind.i64.wrap ((j:Int)+1)=((j+1:Nat):Int):=ak qO qO
         refine aB h ?_
         clear h
         repeat' first|kernel_rfl|(refine nT [13,9,10,1,999] h00 qK ?_)|exact aQ fun _ _ h=>⟨kj - 1,by omega,j+1,by omega,h.keep [13,9,10,1,999]⟩|apply bZ|apply b6|apply b_|apply bU|apply b9|apply bO|apply b7|apply bP|apply bW|apply ae|apply bk|apply dt|apply dp|apply bT|refine nL rfl ?_|apply bQ|apply dq|apply dm|apply ii|apply ig|refine ik rfl ?_|apply ij|apply il|apply du|exact aF [] 0 f7|exact hZ|intro _
        ·have hcj:decide ((j:Int)<(((y.2.2.2.1).length:Nat):Int))=false:=decide_eq_false qO
         refine aB h ?_
         clear h
         repeat' first|kernel_rfl|apply bZ|apply b6|apply b_|apply bU|apply b9|apply bO|apply b7|apply bP|apply bW|apply ae|apply bk|apply dt|apply dp|apply bT|refine nL rfl ?_|apply bQ|apply dq|apply dm|apply ii|apply ig|refine ik rfl ?_|apply ij|apply il|apply du|exact aF [] 0 f7|exact hZ|intro _
         refine aK fun a w h=> ?_
         refine aD (fun kj a u=>∃ j:Nat,j+kj=(y.2.2.2.2.1).length∧TS w00 (r7::r1::X) ((r7, .st [.any, .wr [119,121,123,125,127,117] 6 B0 B1 y.2.1.length, .wr [119,121,123,125,127,117] 6 B0 B1 y.2.2.1.length, .wr [119,121,123,125,127,117] 10 B0 B1 y.2.2.2.1.length, .wr [119,121,123,125,127,117] 9 B0 B1 y.2.2.2.2.1.length, .wr [119,121,123,125,127,117] 5 B0 B1 y.2.2.2.2.2.length])::(r1, .st [.any, .any, .wr [79] 8 B0 B1 (d.2.2.1).length, .any, .any, .any, .any, .any, .any, .any, .any, .any, .any, .any, .any, .any, .any, .any, .any, .any, .any, .any, .wr [84] 6 B0 B1 (d.2.2.2.2.2.2.2.2.2.2.1).length, .wr [9] 1 B0 B1 (d.2.2.2.2.2.2.2.2.2.2.2.1).length, .wys sv B0 B1 (d.2.2.2.2.2.2.2.2.2.2.2.2) i])::L0) [(14, .is (.int .i64 (j:Int))),(9, .is (.int .i64 (i:Int))),(10, .is (.pointer (some ⟨r7,0,none⟩))),(1, .is (.pointer (some ⟨r1,0,none⟩))),(999, .gq X B0 B1 w1)] 174 a u) ((y.2.2.2.2.1).length) ⟨0,by omega,h.keep [14,9,10,1,999]⟩ ?_
         clear h
         rintro kj a u ⟨j,hij,h⟩
         by_cases hltj:j<(y.2.2.2.2.1).length
         ·have hcj:decide ((j:Int)<(((y.2.2.2.2.1).length:Nat):Int))=true:=decide_eq_true qO
          have hwj:IntKind.i64.wrap ((j:Int)+1)=((j+1:Nat):Int):=ak qO qO
          refine aB h ?_
          clear h
          repeat' first|kernel_rfl|(refine nT [14,9,10,1,999] h00 qK ?_)|exact aQ fun _ _ h=>⟨kj - 1,by omega,j+1,by omega,h.keep [14,9,10,1,999]⟩|apply bZ|apply b6|apply b_|apply bU|apply b9|apply bO|apply b7|apply bP|apply bW|apply ae|apply bk|apply dt|apply dp|apply bT|refine nL rfl ?_|apply bQ|apply dq|apply dm|apply ii|apply ig|refine ik rfl ?_|apply ij|apply il|apply du|exact aF [] 0 eG|exact hZ|intro _
         ·have hcj:decide ((j:Int)<(((y.2.2.2.2.1).length:Nat):Int))=false:=decide_eq_false qO
          refine aB h ?_
          clear h
          repeat' first|kernel_rfl|apply bZ|apply b6|apply b_|apply bU|apply b9|apply bO|apply b7|apply bP|apply bW|apply ae|apply bk|apply dt|apply dp|apply bT|refine nL rfl ?_|apply bQ|apply dq|apply dm|apply ii|apply ig|refine ik rfl ?_|apply ij|apply il|apply du|exact aF [] 0 eG|exact hZ|intro _
          refine aK fun a w h=> ?_
          refine aD (fun kj a u=>∃ j:Nat,j+kj=(y.2.2.2.2.2).length∧TS w00 (r7::r1::X) ((r7, .st [.any, .wr [119,121,123,125,127,117] 6 B0 B1 y.2.1.length, .wr [119,121,123,125,127,117] 6 B0 B1 y.2.2.1.length, .wr [119,121,123,125,127,117] 10 B0 B1 y.2.2.2.1.length, .wr [119,121,123,125,127,117] 9 B0 B1 y.2.2.2.2.1.length, .wr [119,121,123,125,127,117] 5 B0 B1 y.2.2.2.2.2.length])::(r1, .st [.any, .any, .wr [79] 8 B0 B1 (d.2.2.1).length, .any, .any, .any, .any, .any, .any, .any, .any, .any, .any, .any, .any, .any, .any, .any, .any, .any, .any, .any, .wr [84] 6 B0 B1 (d.2.2.2.2.2.2.2.2.2.2.1).length, .wr [9] 1 B0 B1 (d.2.2.2.2.2.2.2.2.2.2.2.1).length, .wys sv B0 B1 (d.2.2.2.2.2.2.2.2.2.2.2.2) i])::L0) [(15, .is (.int .i64 (j:Int))),(9, .is (.int .i64 (i:Int))),(10, .is (.pointer (some ⟨r7,0,none⟩))),(1, .is (.pointer (some ⟨r1,0,none⟩))),(999, .gq X B0 B1 w1)] 174 a u) ((y.2.2.2.2.2).length) ⟨0,by omega,h.keep [15,9,10,1,999]⟩ ?_
          clear h
          rintro kj a u ⟨j,hij,h⟩
          by_cases hltj:j<(y.2.2.2.2.2).length
          ·have hcj:decide ((j:Int)<(((y.2.2.2.2.2).length:Nat):Int))=true:=decide_eq_true qO
           have hwj:IntKind.i64.wrap ((j:Int)+1)=((j+1:Nat):Int):=ak qO qO
           refine aB h ?_
           clear h
           repeat' first|kernel_rfl|(refine nT [15,9,10,1,999] h00 qK ?_)|exact aQ fun _ _ h=>⟨kj - 1,by omega,j+1,by omega,h.keep [15,9,10,1,999]⟩|apply bZ|apply b6|apply b_|apply bU|apply b9|apply bO|apply b7|apply bP|apply bW|apply ae|apply bk|apply dt|apply dp|apply bT|refine nL rfl ?_|apply bQ|apply dq|apply dm|apply ii|apply ig|refine ik rfl ?_|apply ij|apply il|apply du|exact aF [] 0 fX|exact hZ|intro _
          ·have hcj:decide ((j:Int)<(((y.2.2.2.2.2).length:Nat):Int))=false:=decide_eq_false qO
           refine aB h ?_
           clear h
           repeat' first|kernel_rfl|(refine IW (r:=r1) (i:=24) [9,1,999] h00 (List.mem_cons_of_mem _ List.mem_cons_self) hlti qK ?_)|exact aQ fun _ _ h=>⟨k - 1,by omega,i+1,by omega,h.drop.keep [9,1,999]⟩|apply bZ|apply b6|apply b_|apply bU|apply b9|apply bO|apply b7|apply bP|apply bW|apply ae|apply bk|apply dt|apply dp|apply bT|refine nL rfl ?_|apply bQ|apply dq|apply dm|apply ii|apply ig|refine ik rfl ?_|apply ij|apply il|apply du|exact aF [] 0 em|exact hZ|intro _
     ·have hci:decide ((i:Int)<(((d.2.2.2.2.2.2.2.2.2.2.2.2).length:Nat):Int))=false:=decide_eq_false qO
      refine aB h ?_
      clear h
      repeat' first|kernel_rfl|exact Gu rfl fun _ _ h=>⟨rfl,rt hM h⟩|exact nL rfl fun _ _ h=>⟨rfl,rt hM h⟩|apply bZ|apply b6|apply b_|apply bU|apply b9|apply bO|apply b7|apply bP|apply bW|apply ae|apply bk|apply dt|apply dp|apply bT|refine nL rfl ?_|apply bQ|apply dq|apply dm|apply ii|apply ig|refine ik rfl ?_|apply ij|apply il|apply du|exact hZ|intro _
class rS (B:Nat) (T:aa):Prop where
 ok:∀ {X Y:List Nat} {w:World} {v:Value},(∀ b∈Y,b<B)→T.holds X w v→T.holds (X++Y) w v
class y6 (B:Nat) (Ts:List aa):Prop where
 ok:∀ {X Y:List Nat} {w:World} {vs:List Value},(∀ b∈Y,b<B)→cd X w Ts vs→cd (X++Y) w Ts vs
instance y6.nil {B:Nat}:y6 B []:=⟨fun {X Y w vs} _ h=>by cases vs with
 |nil=>trivial
 |cons v vs=>exact h.elim⟩
instance y6.cons {B:Nat} {T:aa} {Ts:List aa} [a:rS B T] [k:y6 B Ts]:y6 B (T::Ts):=⟨fun {X Y w vs} hY h=>by cases vs with
 |nil=>exact h.elim
 |cons v vs=>exact ⟨a.ok hY h.1,k.ok hY h.2⟩⟩
instance {B:Nat} {c:Value}:rS B (.is c):=⟨fun _ h=>h⟩
instance {B:Nat} {Ts:List aa} [k:y6 B Ts]:rS B (.st Ts):=⟨fun hY ⟨cs,e,h,o⟩=>⟨cs,e,k.ok hY h,o⟩⟩
theorem uf{Y:List Nat} (hY:∀ b∈Y,b<B) (hB:B≤b) (h:bt X w b):bt (X++Y) w b:=⟨h.1,fun hx=>by
 rcases List.mem_append.1 hx with hx|hx
 ·exact h.2 hx
 ·have:=hY b hx;omega⟩
theorem CH{α:Type} {r:Rp α} {ts:List TypeId} {Y:List Nat} {a:α} {cs:List Value} (hY:∀ b∈Y,b<B) (h:(Rp.frn B r).rd w (bE ts 0 X w) a cs):(Rp.frn B r).rd w (bE ts 0 (X++Y) w) a cs:=
 r.more h fun b hb=>⟨⟨uf hY hb.2.1 hb.1.1,hb.1.2⟩,hb.2⟩
instance {α:Type} {r:Rp α} {ts:List TypeId} {B:Nat} {a:α}:rS B (.tc (Rp.frn B r) ts 0 a):=⟨fun hY h=>CH hY h⟩
instance {α:Type} {r:Rp α} {e:TypeId} {ts:List TypeId} {B:Nat} {l:List α}:rS B (.to (Rp.frn B r) e ts 0 B l):=⟨fun hY ⟨A,c,ps,h1,h2,h3,h4,h5⟩=>⟨A,c,ps,h1,h2,fun q hq=>CH hY (h3 q hq),h4,fun g hg=>uf hY (h4.blk_ g hg).1 (h5 g hg)⟩⟩
theorem mh:b∈(List.range B1).filter (fun b=>decide (B0≤b))↔B0≤b∧b<B1:=by
 simp [List.mem_filter,and_comm]
theorem DJ{e:List TypeId} {T:aa} [o:rS B T] (hB:B1≤B) {w':World} (h:T.holds X w v) (hc:vj e B0 B1 X w w'):T.holds X w' v:=
 T.stable (o.ok (Y:=(List.range B1).filter (fun b=>decide (B0≤b))) (fun b hb=>Nat.lt_of_lt_of_le (mh.1 hb).2 hB) h) ⟨hc.size,fun b hb hx=>by
  rcases hc.block b hb with g|⟨g1,g2,_⟩
  ·exact g
  ·exact absurd (List.mem_append_right _ (mh.2 ⟨g1,g2⟩)) hx⟩ fun b hb _=>List.mem_append_left _ hb
instance {d:am} {B:Nat}:rS B (lR d B):=inferInstanceAs (rS B (.st [.is (Tx (d.1)), .is (Tx (d.2.1)), .to (Rp.frn B aA) 79 [117] 0 B (d.2.2.1), .is (.bool (d.2.2.2.1).1.1), .tc (Rp.frn B Rp.limbs) [117] 0 (d.2.2.2.1).1.2, .is (.bool (d.2.2.2.1).2.1), .tc (Rp.frn B Rp.limbs) [117] 0 (d.2.2.2.1).2.2, .is (.bool (d.2.2.2.2.1).1.1), .tc (Rp.frn B Rp.limbs) [117] 0 (d.2.2.2.2.1).1.2, .is (.bool (d.2.2.2.2.1).2.1), .tc (Rp.frn B Rp.limbs) [117] 0 (d.2.2.2.2.1).2.2, .is (.int .i64 (d.2.2.2.2.2.1)), .is (.int .i64 (d.2.2.2.2.2.2.1)), .is (.bool (d.2.2.2.2.2.2.2.1).1.1), .tc (Rp.frn B Rp.limbs) [117] 0 (d.2.2.2.2.2.2.2.1).1.2, .is (.bool (d.2.2.2.2.2.2.2.1).2.1), .tc (Rp.frn B Rp.limbs) [117] 0 (d.2.2.2.2.2.2.2.1).2.2, .is (.bool (d.2.2.2.2.2.2.2.2.1).1.1), .tc (Rp.frn B Rp.limbs) [117] 0 (d.2.2.2.2.2.2.2.2.1).1.2, .is (.bool (d.2.2.2.2.2.2.2.2.1).2.1), .tc (Rp.frn B Rp.limbs) [117] 0 (d.2.2.2.2.2.2.2.2.1).2.2, .is (.int .i64 (d.2.2.2.2.2.2.2.2.2.1)), .to (Rp.frn B aO) 84 [117] 0 B (d.2.2.2.2.2.2.2.2.2.2.1), .to (Rp.frn B Rp.str) 9 [] 0 B (d.2.2.2.2.2.2.2.2.2.2.2.1), .to (Rp.frn B aq) 65 [119,121,123,125,127,117] 0 B (d.2.2.2.2.2.2.2.2.2.2.2.2)]))
instance {d:am} {e:List TypeId} {B0 B1 B:Nat} [l:Aj B1 B]:jq e B0 B1 (lR d B):=⟨fun h hc=>DJ l.ok h hc⟩
instance {d:am} {e:List TypeId} {B0 B1 B B2:Nat} [l:Aj B1 B]:jq e B0 B1 (.cu d B B2):=⟨fun {X w w' v} ⟨h1,h2⟩ hc=>⟨Nat.le_trans h1 hc.size,
 aa.stable _ ((inferInstance:rS B (lR d B)).ok (Y:=(List.range B1).filter (fun b=>decide (B0≤b))) (fun b hb=>Nat.lt_of_lt_of_le (mh.1 hb).2 l.ok) h2) ⟨hc.size,fun b hb hx=>by
  rcases hc.block b hb with g|⟨g1,g2,_⟩
  ·exact g
  ·exact absurd (List.mem_append_right _ (mh.2 ⟨g1,g2⟩)) hx⟩ fun b hb hlt=>by
   rcases List.mem_append.1 hb with hb|hb
   ·exact List.mem_append_left _ (List.mem_append_left _ hb)
   ·exact List.mem_append_left _ (List.mem_append_right _ (ck.2 ⟨hlt,(ck.1 hb).2⟩))⟩⟩
instance {e:List TypeId} {B0 B1 B:Nat} {T:aa} [l:Aj B B0]:jq e B0 B1 (.und B T):=⟨fun {X w w' v} ⟨hB,h⟩ hs=>⟨Nat.le_trans hB hs.size,T.stable h ⟨hs.size,fun b hb hx=>by
 rcases hs.block b hb with e|⟨g,_⟩
 ·exact e
 ·exact absurd (List.mem_append_right _ (ck.2 ⟨hb,Nat.le_trans l.ok g⟩)) hx⟩ (fun b hb hlt=>by
 rcases List.mem_append.1 hb with hb|hb
 ·exact List.mem_append_left _ hb
 ·exact List.mem_append_right _ (ck.2 ⟨hlt,(ck.1 hb).2⟩))⟩⟩
instance {B:Nat} {T:aa} {k:Nat} [z:aJ T k true]:ai (.und B T) 0 k true (.und B T):= .whole ⟨fun h=>z.ok h.2⟩
instance {d:am} {B:Nat}:ai (lR d B) 0 25 true (lR d B):= .whole inferInstance
structure GH (p:Prop):Prop where
 run:p
section
variable {P:Program} {G:World→Prop} {w00:World} {X:List Nat} {L:List Loc} {E E0:List (Nat×aa)} {n:Nat} {ops:Array Oper} {rest:List Oper} {Q:Exit→Act→World→Prop} {cs:List Code} {t0:TypeId} {pos:String} {af:Array Edge} {ats:Array TypeId}
theorem sO {id:Nat} {b:Bool} (h:GH (GC P w00 X L E n (Code.region id ops b::cs) Q)):GC P w00 X L E n (Code.region id ops b::cs) Q:=h.run
theorem Hx{N d:Nat} {gd:Option (Nat×Bool)} {f:FuncId} {os:List Operand} {ks:List Nat} {As:List aa} {T:Nat→aa} (r:Nat) {T0:aa} [hl:mn L r (.und B T0)] [k:pd E os ks As] [sg:tF G] (hG:G w00) (h:bJ P G f ks As T):
 ay P w00 N L E ⟨some d, .call { callee:= .value (.func f),args:=os.toArray,argTypes:=ats },t0,pos,af,gd⟩ (T B):=by
 constructor
 intro X ρ w hc hf hN hm hsl
 have e:=k.get (X:=X) (w:=w) hc hf fun p hp he=>hsl p hp (by simpa [Op.operands,Call.operands] using he)
 have hr:(execOp ρ ⟨some d, .call { callee:= .value (.func f),args:=os.toArray,argTypes:=ats },t0,pos,af,gd⟩).run P w= .ok (.enter f (os.map ρ).toArray) w:=by
  have hff:=hf f
  have hen:=h.ent
  clear hsl h hm hN hc e k
  go_simp
  exact hen _ _
 have hB:B≤w.heap.size:=by
  obtain ⟨_,_,v,ty,g3,_⟩:=hm.loc _ hl.mem
  exact g3.1
 unfold Yields
 rw [hr]
 refine (h.run (sg.stab hG hm.below) hm.far e).mono ?_
 rintro e w' ⟨v,rfl,hT,hB'⟩
 exact ⟨v,rfl,h.down hB hT,hB'⟩
class xg (E:List (Nat×aa)):Prop where
 ok:∀ p∈E,∃ c,p.2= .is c
instance:xg []:=⟨fun _ h=>by cases h⟩
instance {s:Nat} {c:Value} {E:List (Nat×aa)} [h:xg E]:xg ((s, .is c)::E):=⟨fun p hp=>by
 rcases List.mem_cons.1 hp with rfl|hp
 ·exact ⟨c,rfl⟩
 ·exact h.ok p hp⟩
theorem sL:a7 Tryz.prog 12:=fun _ _=>by kernel_rfl
theorem va {x:am} {B0 B1 s d:Nat} (ss:List Nat) (hc:ox x) (hr:(fK x).length≤1000000) (hq:∀ q∈fK x,tj q) (h00:w00.heap.size≤B0) [hs:bH E s (.cu x B0 B1)] [kk:ju E ss E0] [ka:xg E0] (hL:∀ e,fG e B0 B1 L) (hd:(Nat.blt d n&& !(E0.map Prod.fst).elem d)=true)
 (h:GR Tryz.prog w00 X L E0 n ops rest cs Q):GR Tryz.prog w00 X L E n ops (⟨some d, .call { callee:= .value (.func 12),args:= #[.tmp s],argTypes:=ats },t0,pos,af,none⟩::rest) cs Q:=⟨fun a w ht=>by
 refine cj rfl ?_
 simp only [Bool.and_eq_true,Bool.not_eq_true'] at hd
 have hv:=ht.slots _ hs.mem
 have hy:Yields Tryz.prog ⟨some d, .call { callee:= .value (.func 12),args:= #[.tmp s],argTypes:=ats },t0,pos,af,none⟩ a.eval w fun v w'=>pV w00 X L w'∧Jg B0 B1 X w w':=by
  have hr2:(execOp a.eval ⟨some d, .call { callee:= .value (.func 12),args:= #[.tmp s],argTypes:=ats },t0,pos,af,none⟩).run Tryz.prog w= .ok (.enter 12 #[a.tmps.getD s undef]) w:=by
   have hff:a.eval (.func 12)= .func (.func 12) #[] #[]:=rfl
   have hfs:a.eval (.tmp s)=a.tmps.getD s undef:=rfl
   have hen:=sL
   clear hv hs kk ka h hd ht hL hq hr hc h00
   go_simp
   try exact hen _ _
  unfold Yields
  rw [hr2]
  haveI:=hL
  refine (DT hc hr hq h00 ht.mem hv).mono ?_
  rintro e w' ⟨rfl,h1,h2⟩
  exact ⟨_,rfl,h1,h2⟩
 refine Oper.wp_mono (fun a' w' hh=> ?_) hy.wp
 obtain ⟨v,rfl,hM,hch⟩:=hh
 have hk:=ht.keep (E':=E0) ss
 have t2:TS w00 X L E0 n a w':=⟨hk.size,hk.df,fun p hp=>by
  obtain ⟨c,hc⟩:=ka.ok p hp
  have:=hk.slots p hp
  rw [hc] at this ⊢
  exact this,hM⟩
 have h3:=t2.new (s:=d) (T:= .any) (v:=v) hd.2 (by rw [←Nat.blt_eq];exact hd.1) trivial (Below.refl _ _)
 exact (h.run _ _ (h3.sub fun p hp=>List.mem_cons_of_mem _ hp))⟩
end
end Go.Proofs.YtjjkikchncfekaaGreatDoor
