/- Package ast: copies of fractions, of parts. -/
import Derived.Test.YtjjkikchncfekaaGreatDoorCY
import Derived.Test.YtjjkikchncfekaaGreatDoorCM
import Derived.Test.YtjjkikchncfekaaGreatDoorCX
set_option maxHeartbeats 40000000
set_option maxRecDepth 20000
set_option synthInstance.maxHeartbeats 400000
set_option synthInstance.maxSize 4000
set_option linter.unusedSimpArgs false
set_option linter.unusedVariables false
namespace Go.Proofs.YtjjkikchncfekaaGreatDoor
open Go Go.RowKit
variable {X:List Nat} {w:World} {v:Value}
theorem mu {p:Prop} (h:p:=by first|exact cZ|exact cQ|exact rO|exact mC|exact mx|exact c_|exact bC|exact dc|exact dW.nil|exact eM.nil|exact eI.nil|exact sc trivial (Iv (by assumption) _ _)|exact sc trivial (xt (by assumption))|exact sc trivial (k0 _)|exact sc trivial (k1 _)|exact sc trivial (k2 _)|exact sc trivial (k3 _)|exact Cv.rfl'):p:=h
theorem Ca {x:Int}:bJ Tryz.prog S1 103 [0] [.is (.int .u32 x)] (fun _=> .is (.int .u32 x)):=by
 refine cr Tryz.func103 Tryz.ntmps103 fun X w hE=> ?_
 repeat' first|kernel_rfl|apply Bt.mk|refine nx ?_|apply ae|refine bc rfl ?_|exact mu|intro _
theorem Jt {q:aP} (hl:q.1.2.length≤1000000∧q.2.2.length≤1000000):bJ Tryz.prog S1 48 [0] [.ra Rp.frac q] (fun B=> .tr (Rp.frn B Rp.frac) [117] 0 q):=by
 obtain ⟨hl1,hl2⟩:=hl
 have k1:=fun C:Nat=>(nC (l:=q.1.2) (g:=103) qO fun x _=>Ca).args (ks':=[0,0]) (As':=[.tc Rp.limbs [] C q.1.2, .fv 103 [] []]) fun {X w vs} ha=>by
  obtain ⟨v,us,rfl,h1,h2⟩:=ha.tail
  exact ⟨(Rp.int .u32).row.more (rg h1) fun _ hb=>hb.1,h2⟩
 have k2:=fun C:Nat=>(nC (l:=q.2.2) (g:=103) qO fun x _=>Ca).args (ks':=[0,0]) (As':=[.tc Rp.limbs [] C q.2.2, .fv 103 [] []]) fun {X w vs} ha=>by
  obtain ⟨v,us,rfl,h1,h2⟩:=ha.tail
  exact ⟨(Rp.int .u32).row.more (rg h1) fun _ hb=>hb.1,h2⟩
 refine kV (F:=Dg 4294967296 q.1.2∧Dg 4294967296 q.2.2) (fun ha=> ?_) (fun _ _=>by kernel_rfl) fun ⟨hd1,hd2⟩=> ?_
 ·obtain ⟨v,us,rfl,⟨cs,e,d1,d2,e2,⟨d3,d4,e3,k0,⟨_,_,_,_,_,g1⟩⟩,⟨d5,d6,e4,k2,⟨_,_,_,_,_,g2⟩⟩⟩,_⟩:=ha.tail
  exact ⟨g1,g2⟩
 refine ia (As':=fun B=>[.tr Rp.frac [] B q]) Tryz.func48 rfl Tryz.ntmps48 qE (fun _ _=>by kernel_rfl) (fun {X w vs} ha=>by
  obtain ⟨v,us,rfl,h,h2⟩:=ha.tail
  exact ⟨fZ h,h2⟩) fun X w0 hE=> ?_
 repeat' first|kernel_rfl|apply Bt.mk|refine nx ?_|apply aG|apply be|apply ae|refine bc rfl ?_|exact mu|intro _
 refine aK fun a w h=> ?_
 rename_i r1 r2
 obtain ⟨v,hv,fv⟩:=h.openL (r:=r1) (List.mem_cons_of_mem _ List.mem_cons_self)
 have h:=fv (Dc hv) (.there .here)
 clear hv fv
 refine aB h ?_
 clear h
 repeat' first|kernel_rfl|(refine j6 ?_)|apply Bt.mk|refine nx ?_|apply aw (id:=1) [] [] 10|apply aG|apply be|apply ae|refine bc rfl ?_|exact ⟨fun _ _=>fun _ h=>DG hd1 hd2 h⟩|exact mu|intro _
def tj (q:aP):Prop:=q.1.2.length≤1000000∧q.2.2.length≤1000000
theorem Iv {q:aP} (hl:tj q) (ts:List TypeId) (C:Nat):bJ Tryz.prog S1 48 [0] [.tr Rp.frac ts C q] (fun B=> .tr (Rp.frn B Rp.frac) [117] 0 q):=(Jt hl).args fun h=>by
 obtain ⟨v,us,rfl,h1,h2⟩:=h.tail
 exact ⟨iE h1,h2⟩
def qr (x:cP):Prop:=tj x.1∧tj x.2
def xc (x:dJ):Prop:=tj x.2.2∧x.1.length≤1000000
def BO (x:fk):Prop:=tj x.2.2∧x.1.length≤1000000∧x.2.1.length≤1000000
def AJ (x:fl):Prop:=tj x.2.2∧x.1.length≤1000000∧x.2.1.length≤1000000
def zZ (x:dM):Prop:=tj x.2.2.2.2.2.2∧x.2.1.length≤1000000∧x.2.2.2.1.length≤1000000∧x.2.2.2.2.1.length≤1000000∧x.2.2.2.2.2.1.length≤1000000
def xG (x:dT):Prop:=tj x.2.1∧tj x.2.2∧x.1.length≤1000000
def BP (x:fC):Prop:=tj x.2∧x.1.length≤1000000
theorem se {x:cP} (hx:qr x):bJ Tryz.prog S1 47 [0] [.ra aA x] (fun B=> .tr (Rp.frn B aA) [117] 0 x):=by
 obtain ⟨h0,h1⟩:=hx
 refine ia (As':=fun B=>[.tr aA [] B x]) Tryz.func47 rfl Tryz.ntmps47 qE (fun _ _=>by kernel_rfl) (fun {X w vs} ha=>by
  obtain ⟨v,us,rfl,h,h2⟩:=ha.tail
  exact ⟨fZ h,h2⟩) fun X w0 hE=> ?_
 repeat' first|kernel_rfl|apply Bt.mk|refine nx ?_|apply aw (id:=1) [] [] 7|apply aG|apply be|apply ae|refine bc rfl ?_|exact aF [117] 0 (dj.frm (B:=w0.heap.size))|exact mu|intro _
theorem vJ {x:dJ} (hx:xc x):bJ Tryz.prog S1 50 [0] [.ra aO x] (fun B=> .tr (Rp.frn B aO) [117] 0 x):=by
 obtain ⟨h0,h1⟩:=hx
 refine ia (As':=fun B=>[.tr aO [] B x]) Tryz.func50 rfl Tryz.ntmps50 qE (fun _ _=>by kernel_rfl) (fun {X w vs} ha=>by
  obtain ⟨v,us,rfl,h,h2⟩:=ha.tail
  exact ⟨fZ h,h2⟩) fun X w0 hE=> ?_
 repeat' first|kernel_rfl|apply Bt.mk|refine nx ?_|apply aw (id:=1) [] [] 9|apply aG|apply be|apply ae|refine bc rfl ?_|exact aF [117] 0 (eH.frm (B:=w0.heap.size))|exact mu|intro _
theorem y8 {x:fk} (hx:BO x):bJ Tryz.prog S1 105 [0] [.ra aZ x] (fun B=> .tr (Rp.frn B aZ) [117] 0 x):=by
 obtain ⟨h0,h1,h2⟩:=hx
 refine ia (As':=fun B=>[.tr aZ [] B x]) Tryz.func105 rfl Tryz.ntmps105 qE (fun _ _=>by kernel_rfl) (fun {X w vs} ha=>by
  obtain ⟨v,us,rfl,h,h2⟩:=ha.tail
  exact ⟨fZ h,h2⟩) fun X w0 hE=> ?_
 repeat' first|kernel_rfl|apply Bt.mk|refine nx ?_|apply aw (id:=1) [] [] 10|apply aG|apply be|apply ae|refine bc rfl ?_|exact aF [117] 0 (fa.frm (B:=w0.heap.size))|exact mu|intro _
theorem zi {x:fl} (hx:AJ x):bJ Tryz.prog S1 107 [0] [.ra aY x] (fun B=> .tr (Rp.frn B aY) [117] 0 x):=by
 obtain ⟨h0,h1,h2⟩:=hx
 refine ia (As':=fun B=>[.tr aY [] B x]) Tryz.func107 rfl Tryz.ntmps107 qE (fun _ _=>by kernel_rfl) (fun {X w vs} ha=>by
  obtain ⟨v,us,rfl,h,h2⟩:=ha.tail
  exact ⟨fZ h,h2⟩) fun X w0 hE=> ?_
 repeat' first|kernel_rfl|apply Bt.mk|refine nx ?_|apply aw (id:=1) [] [] 10|apply aG|apply be|apply ae|refine bc rfl ?_|exact aF [117] 0 (fd.frm (B:=w0.heap.size))|exact mu|intro _
theorem vr {x:dT} (hx:xG x):bJ Tryz.prog S1 111 [0] [.ra aR x] (fun B=> .tr (Rp.frn B aR) [117] 0 x):=by
 obtain ⟨h0,h1,h2⟩:=hx
 refine ia (As':=fun B=>[.tr aR [] B x]) Tryz.func111 rfl Tryz.ntmps111 qE (fun _ _=>by kernel_rfl) (fun {X w vs} ha=>by
  obtain ⟨v,us,rfl,h,h2⟩:=ha.tail
  exact ⟨fZ h,h2⟩) fun X w0 hE=> ?_
 repeat' first|kernel_rfl|apply Bt.mk|refine nx ?_|apply aw (id:=1) [] [] 10|apply aG|apply be|apply ae|refine bc rfl ?_|exact aF [117] 0 (eG.frm (B:=w0.heap.size))|exact mu|intro _
theorem zM {x:fC} (hx:BP x):bJ Tryz.prog S1 113 [0] [.ra bg x] (fun B=> .tr (Rp.frn B bg) [117] 0 x):=by
 obtain ⟨h0,h1⟩:=hx
 refine ia (As':=fun B=>[.tr bg [] B x]) Tryz.func113 rfl Tryz.ntmps113 qE (fun _ _=>by kernel_rfl) (fun {X w vs} ha=>by
  obtain ⟨v,us,rfl,h,h2⟩:=ha.tail
  exact ⟨fZ h,h2⟩) fun X w0 hE=> ?_
 repeat' first|kernel_rfl|apply Bt.mk|refine nx ?_|apply aw (id:=1) [] [] 7|apply aG|apply be|apply ae|refine bc rfl ?_|exact aF [117] 0 (fX.frm (B:=w0.heap.size))|exact mu|intro _
theorem Df{ts:List TypeId} {C:Nat} {x:dM} (h:(aa.tr aI ts C x).holds X w v):(aa.st [.is (.bool (x.1)), .is (Tx (x.2.1)), .is (.int .u8 (x.2.2.1)), .is (Tx (x.2.2.2.1)), .is (Tx (x.2.2.2.2.1)), .is (Tx (x.2.2.2.2.2.1)), .is (.bool (x.2.2.2.2.2.2).1.1), .tc Rp.limbs ts C (x.2.2.2.2.2.2).1.2, .is (.bool (x.2.2.2.2.2.2).2.1), .tc Rp.limbs ts C (x.2.2.2.2.2.2).2.2]).holds X w v:=by
 obtain ⟨cs,e,h⟩:=h
 have hone:=aI.one h
 obtain ⟨c0,q0,e0,h0,c1,q1,e1,h1,c2,q2,e2,h2,c3,q3,e3,h3,c4,q4,e4,h4,c5,q5,e5,h5,h6⟩:=h
 have h0:c0=[.bool _]:=h0
 subst h0
 obtain ⟨v1,g1⟩:=fu rfl h1
 subst g1
 have h2:c2=[.int .u8 _]:=h2
 subst h2
 obtain ⟨v3,g3⟩:=fu rfl h3
 subst g3
 obtain ⟨v4,g4⟩:=fu rfl h4
 subst g4
 obtain ⟨v5,g5⟩:=fu rfl h5
 subst g5
 obtain ⟨f6a,f6b,f6c,f6d,g6,m6a,m6b,m6c,m6d⟩:=eu h6
 subst g6
 subst e5 e4 e3 e2 e1 e0
 exact ⟨_,e,⟨rfl,gS.ok (r:=Rp.str) (Rp.str.more h1 fun _ hb=>hb.1),rfl,gS.ok (r:=Rp.str) (Rp.str.more h3 fun _ hb=>hb.1),gS.ok (r:=Rp.str) (Rp.str.more h4 fun _ hb=>hb.1),gS.ok (r:=Rp.str) (Rp.str.more h5 fun _ hb=>hb.1),m6a,m6b,m6c,m6d,trivial⟩,hone⟩
theorem Gd{ts:List TypeId} {C:Nat} {x:am} (h:(aa.tr ab ts C x).holds X w v):(aa.st [.is (Tx (x.1)), .is (Tx (x.2.1)), .tc (aA).row ts C (x.2.2.1), .is (.bool (x.2.2.2.1).1.1), .tc Rp.limbs ts C (x.2.2.2.1).1.2, .is (.bool (x.2.2.2.1).2.1), .tc Rp.limbs ts C (x.2.2.2.1).2.2, .is (.bool (x.2.2.2.2.1).1.1), .tc Rp.limbs ts C (x.2.2.2.2.1).1.2, .is (.bool (x.2.2.2.2.1).2.1), .tc Rp.limbs ts C (x.2.2.2.2.1).2.2, .is (.int .i64 (x.2.2.2.2.2.1)), .is (.int .i64 (x.2.2.2.2.2.2.1)), .is (.bool (x.2.2.2.2.2.2.2.1).1.1), .tc Rp.limbs ts C (x.2.2.2.2.2.2.2.1).1.2, .is (.bool (x.2.2.2.2.2.2.2.1).2.1), .tc Rp.limbs ts C (x.2.2.2.2.2.2.2.1).2.2, .is (.bool (x.2.2.2.2.2.2.2.2.1).1.1), .tc Rp.limbs ts C (x.2.2.2.2.2.2.2.2.1).1.2, .is (.bool (x.2.2.2.2.2.2.2.2.1).2.1), .tc Rp.limbs ts C (x.2.2.2.2.2.2.2.2.1).2.2, .is (.int .i64 (x.2.2.2.2.2.2.2.2.2.1)), .tc (aO).row ts C (x.2.2.2.2.2.2.2.2.2.2.1), .tc (Rp.str).row ts C (x.2.2.2.2.2.2.2.2.2.2.2.1), .tc (aq).row ts C (x.2.2.2.2.2.2.2.2.2.2.2.2)]).holds X w v:=by
 obtain ⟨cs,e,h⟩:=h
 have hone:=ab.one h
 obtain ⟨c0,q0,e0,h0,c1,q1,e1,h1,c2,q2,e2,h2,c3,q3,e3,h3,c4,q4,e4,h4,c5,q5,e5,h5,c6,q6,e6,h6,c7,q7,e7,h7,c8,q8,e8,h8,c9,q9,e9,h9,c10,q10,e10,h10,c11,q11,e11,h11,h12⟩:=h
 obtain ⟨v0,g0⟩:=fu rfl h0
 subst g0
 obtain ⟨v1,g1⟩:=fu rfl h1
 subst g1
 obtain ⟨v2,g2⟩:=fu rfl h2
 subst g2
 obtain ⟨f3a,f3b,f3c,f3d,g3,m3a,m3b,m3c,m3d⟩:=eu h3
 subst g3
 obtain ⟨f4a,f4b,f4c,f4d,g4,m4a,m4b,m4c,m4d⟩:=eu h4
 subst g4
 have h5:c5=[.int .i64 _]:=h5
 subst h5
 have h6:c6=[.int .i64 _]:=h6
 subst h6
 obtain ⟨f7a,f7b,f7c,f7d,g7,m7a,m7b,m7c,m7d⟩:=eu h7
 subst g7
 obtain ⟨f8a,f8b,f8c,f8d,g8,m8a,m8b,m8c,m8d⟩:=eu h8
 subst g8
 have h9:c9=[.int .i64 _]:=h9
 subst h9
 obtain ⟨v10,g10⟩:=fu rfl h10
 subst g10
 obtain ⟨v11,g11⟩:=fu rfl h11
 subst g11
 obtain ⟨v12,g12⟩:=fu rfl h12
 subst g12
 subst e11 e10 e9 e8 e7 e6 e5 e4 e3 e2 e1 e0
 exact ⟨_,e,⟨gS.ok (r:=Rp.str) (Rp.str.more h0 fun _ hb=>hb.1),gS.ok (r:=Rp.str) (Rp.str.more h1 fun _ hb=>hb.1),h2,m3a,m3b,m3c,m3d,m4a,m4b,m4c,m4d,rfl,rfl,m7a,m7b,m7c,m7d,m8a,m8b,m8c,m8d,rfl,h10,h11,h12,trivial⟩,hone⟩
theorem BK{ts:List TypeId} {B:Nat} {x:aP} {a b c d:Value} (h1:a= .bool x.1.1) (h2:(aa.tc (Rp.frn B Rp.limbs) ts 0 x.1.2).holds X w b) (h3:c= .bool x.2.1) (h4:(aa.tc (Rp.frn B Rp.limbs) ts 0 x.2.2).holds X w d):(Rp.frn B Rp.frac).rd w (bE ts 0 X w) x [a,b,c,d]:=
 ⟨[a,b],[c,d],rfl,⟨[a],[b],rfl,by rw [h1];rfl,h2⟩,⟨[c],[d],rfl,by rw [h3];rfl,h4⟩⟩
theorem Di{x:dM} {B:Nat} (h:(aa.st [.is (.bool (x.1)), .is (Tx (x.2.1)), .is (.int .u8 (x.2.2.1)), .is (Tx (x.2.2.2.1)), .is (Tx (x.2.2.2.2.1)), .is (Tx (x.2.2.2.2.2.1)), .is (.bool (x.2.2.2.2.2.2).1.1), .tc (Rp.frn B Rp.limbs) [117] 0 (x.2.2.2.2.2.2).1.2, .is (.bool (x.2.2.2.2.2.2).2.1), .tc (Rp.frn B Rp.limbs) [117] 0 (x.2.2.2.2.2.2).2.2]).holds X w v):(aa.tr (Rp.frn B aI) [117] 0 x).holds X w v:=by
 obtain ⟨cs,e,h,ho⟩:=h
 match cs,h with
 |[c0,c1,c2,c3,c4,c5,c6,c7,c8,c9],⟨h0,h1,h2,h3,h4,h5,h6,h7,h8,h9,_⟩=>
  have h0:c0= .bool x.1:=h0
  have h2:c2= .int .u8 x.2.2.1:=h2
  exact ⟨_,e,[c0],_,rfl,by rw [h0];rfl,[c1],_,rfl,kI h1,[c2],_,rfl,by rw [h2];rfl,[c3],_,rfl,kI h3,[c4],_,rfl,kI h4,[c5],[c6,c7,c8,c9],rfl,kI h5,BK h6 h7 h8 h9⟩
theorem zF {x:dM} (hx:zZ x):bJ Tryz.prog S1 109 [0] [.ra aI x] (fun B=> .tr (Rp.frn B aI) [117] 0 x):=by
 obtain ⟨h0,h1,h2,h3,h4⟩:=hx
 refine ia (As':=fun B=>[.tr aI [] B x]) Tryz.func109 rfl Tryz.ntmps109 qE (fun _ _=>by kernel_rfl) (fun {X w vs} ha=>by
  obtain ⟨v,us,rfl,h,h2⟩:=ha.tail
  exact ⟨fZ h,h2⟩) fun X w0 hE=> ?_
 repeat' first|kernel_rfl|apply Bt.mk|refine nx ?_|apply aG|apply be|apply ae|refine bc rfl ?_|exact mu|intro _
 refine aK fun a w h=> ?_
 rename_i r1 r2
 obtain ⟨v,hv,fv⟩:=h.openL (r:=r1) (List.mem_cons_of_mem _ List.mem_cons_self)
 have h:=fv (Df hv) (.there .here)
 clear hv fv
 refine aB h ?_
 clear h
 repeat' first|kernel_rfl|(refine j6 ?_)|(refine Fp ?_)|apply Bt.mk|refine nx ?_|apply aw (id:=1) [] [] 7|apply aw (id:=2) [] [] 7|apply aG|apply be|apply ae|refine bc rfl ?_|exact ⟨fun _ _=>fun _ h=>Di h⟩|exact mu|intro _
instance:eK [119,117] [119,121,123,125,127,117]:=⟨by decide⟩
instance:eK [121,117] [119,121,123,125,127,117]:=⟨by decide⟩
instance:eK [123,117] [119,121,123,125,127,117]:=⟨by decide⟩
instance:eK [125,117] [119,121,123,125,127,117]:=⟨by decide⟩
instance:eK [127,117] [119,121,123,125,127,117]:=⟨by decide⟩
def AM (y:a_):Prop:=(∀ x∈y.2.1,BO x)∧(∀ x∈y.2.2.1,AJ x)∧(∀ x∈y.2.2.2.1,zZ x)∧(∀ x∈y.2.2.2.2.1,xG x)∧(∀ x∈y.2.2.2.2.2,BP x)∧y.2.1.length≤1000000∧y.2.2.1.length≤1000000∧y.2.2.2.1.length≤1000000∧y.2.2.2.2.1.length≤1000000∧y.2.2.2.2.2.length≤1000000
theorem yz {y:a_} (hy:AM y):bJ Tryz.prog S1 53 [0] [.ra aq y] (fun B=> .tr (Rp.frn B aq) [119,121,123,125,127,117] 0 y):=by
 obtain ⟨h0,h1,h2,h3,h4,l0,l1,l2,l3,l4⟩:=hy
 have k0:=fun C:Nat=>(yy (l:=y.2.1) (g:=105) l0 fun x hx=>y8 (h0 x hx)).args (ks':=[0,0]) (As':=[.tc aZ.row [] C y.2.1, .fv 105 [] []]) fun {X w vs} ha=>by
  obtain ⟨v,us,rfl,h1,h2⟩:=ha.tail
  exact ⟨aZ.row.more h1 fun _ hb=>hb.1,h2⟩
 have k1:=fun C:Nat=>(zB (l:=y.2.2.1) (g:=107) l1 fun x hx=>zi (h1 x hx)).args (ks':=[0,0]) (As':=[.tc aY.row [] C y.2.2.1, .fv 107 [] []]) fun {X w vs} ha=>by
  obtain ⟨v,us,rfl,h1,h2⟩:=ha.tail
  exact ⟨aY.row.more h1 fun _ hb=>hb.1,h2⟩
 have k2:=fun C:Nat=>(yQ (l:=y.2.2.2.1) (g:=109) l2 fun x hx=>zF (h2 x hx)).args (ks':=[0,0]) (As':=[.tc aI.row [] C y.2.2.2.1, .fv 109 [] []]) fun {X w vs} ha=>by
  obtain ⟨v,us,rfl,h1,h2⟩:=ha.tail
  exact ⟨aI.row.more h1 fun _ hb=>hb.1,h2⟩
 have k3:=fun C:Nat=>(wK (l:=y.2.2.2.2.1) (g:=111) l3 fun x hx=>vr (h3 x hx)).args (ks':=[0,0]) (As':=[.tc aR.row [] C y.2.2.2.2.1, .fv 111 [] []]) fun {X w vs} ha=>by
  obtain ⟨v,us,rfl,h1,h2⟩:=ha.tail
  exact ⟨aR.row.more h1 fun _ hb=>hb.1,h2⟩
 have k4:=fun C:Nat=>(ya (l:=y.2.2.2.2.2) (g:=113) l4 fun x hx=>zM (h4 x hx)).args (ks':=[0,0]) (As':=[.tc bg.row [] C y.2.2.2.2.2, .fv 113 [] []]) fun {X w vs} ha=>by
  obtain ⟨v,us,rfl,h1,h2⟩:=ha.tail
  exact ⟨bg.row.more h1 fun _ hb=>hb.1,h2⟩
 refine ia (As':=fun B=>[.tr aq [] B y]) Tryz.func53 rfl Tryz.ntmps53 qE (fun _ _=>by kernel_rfl) (fun {X w vs} ha=>by
  obtain ⟨v,us,rfl,h,h2⟩:=ha.tail
  exact ⟨fZ h,h2⟩) fun X w0 hE=> ?_
 repeat' first|kernel_rfl|apply Bt.mk|refine nx ?_|apply aw (id:=1) [] [] 18|apply aG|apply be|apply ae|refine bc rfl ?_|exact sc trivial (k4 _)|exact aF [119,121,123,125,127,117] 0 (em.frm (B:=w0.heap.size))|exact mu|intro _
structure AW (d:am):Prop where
 n1:d.1.length≤1000000
 n2:d.2.1.length≤1000000
 q1:tj d.2.2.2.1
 q2:tj d.2.2.2.2.1
 q3:tj d.2.2.2.2.2.2.2.1
 q4:tj d.2.2.2.2.2.2.2.2.1
 br:∀ x∈d.2.2.1,qr x
 cl:∀ x∈d.2.2.2.2.2.2.2.2.2.2.1,xc x
 en:∀ x∈d.2.2.2.2.2.2.2.2.2.2.2.1,x.length≤1000000
 ys:∀ x∈d.2.2.2.2.2.2.2.2.2.2.2.2,AM x
 lb:d.2.2.1.length≤1000000
 lc:d.2.2.2.2.2.2.2.2.2.2.1.length≤1000000
 le:d.2.2.2.2.2.2.2.2.2.2.2.1.length≤1000000
 ly:d.2.2.2.2.2.2.2.2.2.2.2.2.length≤1000000
def lR (d:am) (B:Nat):aa:= .st [.is (Tx (d.1)), .is (Tx (d.2.1)), .to (Rp.frn B aA) 79 [117] 0 B (d.2.2.1), .is (.bool (d.2.2.2.1).1.1), .tc (Rp.frn B Rp.limbs) [117] 0 (d.2.2.2.1).1.2, .is (.bool (d.2.2.2.1).2.1), .tc (Rp.frn B Rp.limbs) [117] 0 (d.2.2.2.1).2.2, .is (.bool (d.2.2.2.2.1).1.1), .tc (Rp.frn B Rp.limbs) [117] 0 (d.2.2.2.2.1).1.2, .is (.bool (d.2.2.2.2.1).2.1), .tc (Rp.frn B Rp.limbs) [117] 0 (d.2.2.2.2.1).2.2, .is (.int .i64 (d.2.2.2.2.2.1)), .is (.int .i64 (d.2.2.2.2.2.2.1)), .is (.bool (d.2.2.2.2.2.2.2.1).1.1), .tc (Rp.frn B Rp.limbs) [117] 0 (d.2.2.2.2.2.2.2.1).1.2, .is (.bool (d.2.2.2.2.2.2.2.1).2.1), .tc (Rp.frn B Rp.limbs) [117] 0 (d.2.2.2.2.2.2.2.1).2.2, .is (.bool (d.2.2.2.2.2.2.2.2.1).1.1), .tc (Rp.frn B Rp.limbs) [117] 0 (d.2.2.2.2.2.2.2.2.1).1.2, .is (.bool (d.2.2.2.2.2.2.2.2.1).2.1), .tc (Rp.frn B Rp.limbs) [117] 0 (d.2.2.2.2.2.2.2.2.1).2.2, .is (.int .i64 (d.2.2.2.2.2.2.2.2.2.1)), .to (Rp.frn B aO) 84 [117] 0 B (d.2.2.2.2.2.2.2.2.2.2.1), .to (Rp.frn B Rp.str) 9 [] 0 B (d.2.2.2.2.2.2.2.2.2.2.2.1), .to (Rp.frn B aq) 65 [119,121,123,125,127,117] 0 B (d.2.2.2.2.2.2.2.2.2.2.2.2)]
instance {d:am}:d9 (lR d):=inferInstanceAs (d9 fun B=> .st [.is (Tx (d.1)), .is (Tx (d.2.1)), .to (Rp.frn B aA) 79 [117] 0 B (d.2.2.1), .is (.bool (d.2.2.2.1).1.1), .tc (Rp.frn B Rp.limbs) [117] 0 (d.2.2.2.1).1.2, .is (.bool (d.2.2.2.1).2.1), .tc (Rp.frn B Rp.limbs) [117] 0 (d.2.2.2.1).2.2, .is (.bool (d.2.2.2.2.1).1.1), .tc (Rp.frn B Rp.limbs) [117] 0 (d.2.2.2.2.1).1.2, .is (.bool (d.2.2.2.2.1).2.1), .tc (Rp.frn B Rp.limbs) [117] 0 (d.2.2.2.2.1).2.2, .is (.int .i64 (d.2.2.2.2.2.1)), .is (.int .i64 (d.2.2.2.2.2.2.1)), .is (.bool (d.2.2.2.2.2.2.2.1).1.1), .tc (Rp.frn B Rp.limbs) [117] 0 (d.2.2.2.2.2.2.2.1).1.2, .is (.bool (d.2.2.2.2.2.2.2.1).2.1), .tc (Rp.frn B Rp.limbs) [117] 0 (d.2.2.2.2.2.2.2.1).2.2, .is (.bool (d.2.2.2.2.2.2.2.2.1).1.1), .tc (Rp.frn B Rp.limbs) [117] 0 (d.2.2.2.2.2.2.2.2.1).1.2, .is (.bool (d.2.2.2.2.2.2.2.2.1).2.1), .tc (Rp.frn B Rp.limbs) [117] 0 (d.2.2.2.2.2.2.2.2.1).2.2, .is (.int .i64 (d.2.2.2.2.2.2.2.2.2.1)), .to (Rp.frn B aO) 84 [117] 0 B (d.2.2.2.2.2.2.2.2.2.2.1), .to (Rp.frn B Rp.str) 9 [] 0 B (d.2.2.2.2.2.2.2.2.2.2.2.1), .to (Rp.frn B aq) 65 [119,121,123,125,127,117] 0 B (d.2.2.2.2.2.2.2.2.2.2.2.2)])
theorem Gy {d:am} (hd:AW d):bJ Tryz.prog S1 11 [0] [.ra ab d] (lR d):=by
 obtain ⟨n1,n2,q1,q2,q3,q4,br,cl,en,ys,lb,lc,le,ly⟩:=hd
 have k0:=fun C:Nat=>(sF (l:=d.2.2.1) (g:=47) lb fun x hx=>se (br x hx)).args (ks':=[0,0]) (As':=[.tc aA.row [] C d.2.2.1, .fv 47 [] []]) fun {X w vs} ha=>by
  obtain ⟨v,us,rfl,h1,h2⟩:=ha.tail
  exact ⟨aA.row.more h1 fun _ hb=>hb.1,h2⟩
 have k1:=fun C:Nat=>(wF (l:=d.2.2.2.2.2.2.2.2.2.2.1) (g:=50) lc fun x hx=>vJ (cl x hx)).args (ks':=[0,0]) (As':=[.tc aO.row [] C d.2.2.2.2.2.2.2.2.2.2.1, .fv 50 [] []]) fun {X w vs} ha=>by
  obtain ⟨v,us,rfl,h1,h2⟩:=ha.tail
  exact ⟨aO.row.more h1 fun _ hb=>hb.1,h2⟩
 have k2:=fun C:Nat=>(t7 (l:=d.2.2.2.2.2.2.2.2.2.2.2.1) (g:=45) le fun x hx=>xt (en x hx)).args (ks':=[0,0]) (As':=[.tc Rp.str.row [] C d.2.2.2.2.2.2.2.2.2.2.2.1, .fv 45 [] []]) fun {X w vs} ha=>by
  obtain ⟨v,us,rfl,h1,h2⟩:=ha.tail
  exact ⟨Rp.str.row.more h1 fun _ hb=>hb.1,h2⟩
 have k3:=fun C:Nat=>(yG (l:=d.2.2.2.2.2.2.2.2.2.2.2.2) (g:=53) ly fun x hx=>yz (ys x hx)).args (ks':=[0,0]) (As':=[.tc aq.row [] C d.2.2.2.2.2.2.2.2.2.2.2.2, .fv 53 [] []]) fun {X w vs} ha=>by
  obtain ⟨v,us,rfl,h1,h2⟩:=ha.tail
  exact ⟨aq.row.more h1 fun _ hb=>hb.1,h2⟩
 refine ia (As':=fun B=>[.tr ab [] B d]) Tryz.func11 rfl Tryz.ntmps11 qE (fun _ _=>by kernel_rfl) (fun {X w vs} ha=>by
  obtain ⟨v,us,rfl,h,h2⟩:=ha.tail
  exact ⟨fZ h,h2⟩) fun X w0 hE=> ?_
 simp only [iq,Nat.zero_add,Nat.reduceAdd]
 repeat' first|kernel_rfl|apply bZ|apply b6|apply b_|apply aG|apply be|apply bU|apply b9|apply bO|apply b7|apply bP|apply bW|apply ae|apply bk|apply dt|apply dp|apply bT|refine bc rfl ?_|apply bQ|apply dq|apply dm|apply ii|apply ig|refine ik rfl ?_|apply ij|apply il|apply du|exact mu|(intro _;simp only[fR,f6,gg,List.map,List.cons_append,List.nil_append])|intro _
 refine aK fun a w h=> ?_
 rename_i r1 r2
 obtain ⟨v,hv,fv⟩:=h.openL (r:=r1) (List.mem_cons_of_mem _ List.mem_cons_self)
 have h:=fv (Gd hv) (.there .here)
 clear hv fv
 refine aB h ?_
 clear h
 repeat' first|kernel_rfl|(refine j6 ?_)|(refine Fp ?_)|apply bZ|apply b6|apply b_|apply aw (id:=1) [] [] 7|apply aw (id:=3) [] [] 7|apply aw (id:=4) [] [] 7|apply aG|apply be|apply bU|apply b9|apply bO|apply b7|apply bP|apply bW|apply ae|apply bk|apply dt|apply dp|apply bT|refine bc rfl ?_|apply bQ|apply dq|apply dm|apply ii|apply ig|refine ik rfl ?_|apply ij|apply il|apply du|exact ⟨fun _ _=>fun _ h=>h⟩|exact mu|(intro _;simp only[fR,f6,gg,List.map,List.cons_append,List.nil_append])|intro _
end Go.Proofs.YtjjkikchncfekaaGreatDoor
