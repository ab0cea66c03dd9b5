/- Whole numbers and fractions in a typed walk: what slots hold; the structs of this program. -/
import Derived.Test.YtcpeiijdgabenaaGreatDoorEG
import Derived.Test.YtcpeiijdgabenaaGreatDoorEF
set_option linter.unusedSimpArgs false
set_option linter.unusedVariables false
namespace Go.Proofs.YtcpeiijdgabenaaGreatDoor
open Go Go.RowKit
variable {w:World} {X:List Nat} {N M:Int} {L n B:Nat} {v:Value} {T:ai}
def Rp.num:Rp gp:=Rp.pair Rp.bool Rp.limbs
def Rp.frac:Rp bA:=Rp.pair Rp.num Rp.num
theorem dc{S:Nat→Prop} {x:gp} {cs:List Value}:Rp.num.rd w S x cs↔∃ A n c,cs=[.bool x.1, .slice A n c]∧Av .u32 w S A n c x.2∧Dg 4294967296 x.2:=by
 constructor
 ·rintro ⟨c1,c2,rfl,rfl,A,n,c,rfl,h,d⟩
  exact ⟨A,n,c,rfl,h,d⟩
 ·rintro ⟨A,n,c,rfl,h,d⟩
  exact ⟨[.bool x.1],[.slice A n c],rfl,rfl,A,n,c,rfl,h,d⟩
def ai.na (N:Int) (L:Nat):ai:=ai.ex Rp.num fun x=>iv x=N∧x.2.length≤L
def ai.nc (N:Int) (L:Nat):ai:=ai.ex Rp.num fun x=>Whole N x.1 x.2∧(N.natAbs:Int)<4294967296^L
def ai.nx (x:gp) (L:Nat):ai:=ai.ex Rp.num fun y=>y=x∧x.2.length≤L
def ai.qa (q:Rat) (L:Nat):ai:=ai.ex Rp.frac fun x=>qv x=q∧x.1.2.length≤L∧x.2.2.length≤L∧0<L
def ai.qc (q:Rat) (L:Nat):ai:=ai.ex Rp.frac fun x=>jG q x∧Lq q L
def ai.qx (x:bA) (L:Nat):ai:=ai.ex Rp.frac fun y=>y=x∧x.1.2.length≤L∧x.2.2.length≤L∧0<L
def ai.nd (N D:Int) (L:Nat):ai:=ai.ex Rp.frac fun x=>Whole N x.1.1 x.1.2∧Whole D x.2.1 x.2.2∧(N.natAbs:Int)<4294967296^L∧(D.natAbs:Int)<4294967296^L
instance {N:Int} {L:Nat}:bi (.na N L) 2 true:=inferInstanceAs (bi (.ex Rp.num _) Rp.num.k true)
instance {N:Int} {L:Nat}:bi (.nc N L) 2 true:=inferInstanceAs (bi (.ex Rp.num _) Rp.num.k true)
instance {x:gp} {L:Nat}:bi (.nx x L) 2 true:=inferInstanceAs (bi (.ex Rp.num _) Rp.num.k true)
instance {q:Rat} {L:Nat}:bi (.qa q L) 4 true:=inferInstanceAs (bi (.ex Rp.frac _) Rp.frac.k true)
instance {q:Rat} {L:Nat}:bi (.qc q L) 4 true:=inferInstanceAs (bi (.ex Rp.frac _) Rp.frac.k true)
instance {x:bA} {L:Nat}:bi (.qx x L) 4 true:=inferInstanceAs (bi (.ex Rp.frac _) Rp.frac.k true)
instance {N D:Int} {L:Nat}:bi (.nd N D L) 4 true:=inferInstanceAs (bi (.ex Rp.frac _) Rp.frac.k true)
theorem az.whole{k:Nat} (z:bi T k true):az T 0 k true T:=⟨(fun h=>by cases h),fun {X w v} h=>by
 obtain ⟨h1,_,h3,_⟩:=z.ok h
 refine ⟨v.cells.toList,by simpa using h1,fun j u hj=>by simpa using hj,fun u hu _=> ?_⟩
 rw [hu rfl]
 have:=h3 rfl
 rw [show (Value.agg v.cells.toList.toArray)=v by simpa using this.symm]
 exact h⟩
theorem az.single(z:bi T 1 false):az T 0 1 false T:=⟨fun _=>rfl,fun {X w v} h=>by
 obtain ⟨h1,_,_,h4⟩:=z.ok h
 have e:=h4 rfl
 refine ⟨[v],rfl,fun j u hj=>by rw [e];simpa using hj,fun u _ hu=> ?_⟩
 have:=hu rfl
 simp at this
 rw [←this]
 exact h⟩
instance {N:Int} {L:Nat}:az (.na N L) 0 2 true (.na N L):= .whole inferInstance
instance {N:Int} {L:Nat}:az (.nc N L) 0 2 true (.nc N L):= .whole inferInstance
instance {x:gp} {L:Nat}:az (.nx x L) 0 2 true (.nx x L):= .whole inferInstance
instance {q:Rat} {L:Nat}:az (.qa q L) 0 4 true (.qa q L):= .whole inferInstance
instance {q:Rat} {L:Nat}:az (.qc q L) 0 4 true (.qc q L):= .whole inferInstance
instance {x:bA} {L:Nat}:az (.qx x L) 0 4 true (.qx x L):= .whole inferInstance
instance {N D:Int} {L:Nat}:az (.nd N D L) 0 4 true (.nd N D L):= .whole inferInstance
theorem az.fst {p:bA→Prop} {p':gp→Prop} (h:∀ x,p x→p' x.1):az (.ex Rp.frac p) 0 2 true (.ex Rp.num p'):=⟨(fun h=>by cases h),fun {X w v} hv=>by
 obtain ⟨x,hp,cs,rfl,c1,c2,rfl,h1,h2⟩:=hv
 have hl:c1.length=2:=Rp.num.len h1
 refine ⟨c1,hl,fun j u hj=> ?_,fun u hu _=>⟨x.1,h x hp,c1,hu rfl,h1⟩⟩
 have hjl:=(List.getElem?_eq_some_iff.1 hj).1
 simp [Value.cells,List.getElem?_append_left hjl,hj]⟩
theorem az.snd {p:bA→Prop} {p':gp→Prop} (h:∀ x,p x→p' x.2):az (.ex Rp.frac p) 2 2 true (.ex Rp.num p'):=⟨(fun h=>by cases h),fun {X w v} hv=>by
 obtain ⟨x,hp,cs,rfl,c1,c2,rfl,h1,h2⟩:=hv
 have hl:c1.length=2:=Rp.num.len h1
 refine ⟨c2,Rp.num.len h2,fun j u hj=> ?_,fun u hu _=>⟨x.2,h x hp,c2,hu rfl,h2⟩⟩
 simp [Value.cells,List.getElem?_append_right (show c1.length≤2+j by omega),hl,hj]⟩
instance {q:Rat} {L:Nat}:az (.qc q L) 0 2 true (.nc q.num L):= .fst fun _ h=>⟨h.1.num,h.2.1⟩
instance {q:Rat} {L:Nat}:az (.qc q L) 2 2 true (.nc (q.den:Int) L):= .snd fun _ h=>⟨h.1.den,mn h.2⟩
instance {x:bA} {L:Nat}:az (.qx x L) 0 2 true (.nx x.1 L):= .fst fun y h=>⟨by rw [h.1],h.2.1⟩
instance {x:bA} {L:Nat}:az (.qx x L) 2 2 true (.nx x.2 L):= .snd fun y h=>⟨by rw [h.1],h.2.2.1⟩
class my (T:ai) (N:outParam Int) (L:outParam Nat):Prop where
 ok:∀ {X w v},T.holds X w v→(ai.na N L).holds X w v
instance {N:Int} {L:Nat}:my (.na N L) N L:=⟨fun h=>h⟩
instance {N:Int} {L:Nat}:my (.nc N L) N L:=⟨fun ⟨x,h,g⟩=>⟨x,⟨h.1.val,h.1.len h.2⟩,g⟩⟩
instance {x:gp} {L:Nat}:my (.nx x L) (iv x) L:=⟨fun ⟨y,h,g⟩=>⟨y,⟨by rw [h.1],by rw [h.1];exact h.2⟩,g⟩⟩
class qV (T:ai) (q:outParam Rat) (L:outParam Nat):Prop where
 ok:∀ {X w v},T.holds X w v→(ai.qa q L).holds X w v
instance {q:Rat} {L:Nat}:qV (.qa q L) q L:=⟨fun h=>h⟩
instance {q:Rat} {L:Nat}:qV (.qc q L) q L:=⟨fun ⟨x,h,g⟩=>⟨x,⟨h.1.val,(h.1.len h.2).1,(h.1.len h.2).2,h.2.pos⟩,g⟩⟩
instance {x:bA} {L:Nat}:qV (.qx x L) (qv x) L:=⟨fun ⟨y,h,g⟩=>⟨y,by rw [h.1];exact ⟨rfl,h.2⟩,g⟩⟩
theorem fS(h:(ai.na N L).holds X w v):∃ s A n c xs,v= .agg #[.bool s, .slice A n c]∧Sl .u32 w w.heap.size A n c xs∧Dg 4294967296 xs∧dp s xs=N∧n≤L:=by
 obtain ⟨x,⟨h1,h2⟩,cs,rfl,hr⟩:=h
 obtain ⟨A,n,c,rfl,hs,hd⟩:=dc.1 hr
 exact ⟨x.1,A,n,c,x.2,rfl,hs.1,hd,h1,by rw [←hs.1.len];exact h2⟩
theorem Gs{w':World} {s:Bool} {A:Option Addr} {c:Nat} {ys:List Int} (hX:∀ b∈X,b<B) (h:Whole N s ys) (ho:cG .u32 128 w' B A n c ys) (hl:(N.natAbs:Int)<4294967296^L):(ai.nc N L).holds X w' (.agg #[.bool s, .slice A n c]):=by
 refine ⟨(s,ys),⟨h,hl⟩,[.bool s, .slice A n c],rfl,dc.2 ⟨A,n,c,rfl,⟨ho.sl,fun hn b hb=> ?_⟩,h.row.dg⟩⟩
 obtain ⟨g1,g2⟩:=ho.blk_ b hb
 exact ⟨g2,fun hx=>by have:=hX b hx;omega⟩
theorem jj.gives{w':World} {e:Ending} (h:jj w N e w') (hX:∀ b∈X,b<w.heap.size) (hl:(N.natAbs:Int)<4294967296^L):cE X w (.nc N L) e w':=by
 obtain ⟨s,ys,A,n,c,hW,rfl,ho,hb⟩:=h
 exact ⟨_,rfl,Gs hX hW ho hl,hb⟩
instance:eV Tryz.prog 26 2 true:=⟨⟨_,Tryz.underlying26,rfl⟩,by kernel_rfl⟩
instance:eV Tryz.prog 28 4 true:=⟨⟨_,Tryz.underlying28,rfl⟩,by kernel_rfl⟩
instance:aP Tryz.prog 28 0 0 2 true:=⟨⟨_,_,Tryz.underlying28,rfl,rfl,by kernel_rfl,by decide,_,Tryz.underlying26,rfl⟩⟩
instance:aP Tryz.prog 28 1 2 2 true:=⟨⟨_,_,Tryz.underlying28,rfl,rfl,by kernel_rfl,by decide,_,Tryz.underlying26,rfl⟩⟩
instance:cX Tryz.prog 26 (.na 0 0):=⟨⟨.agg #[.bool false, .slice none 0 0],fun X w=>⟨(false,[]),⟨rfl,Nat.le_refl _⟩,[.bool false, .slice none 0 0],rfl,dc.2 ⟨none,0,0,rfl,⟨Sl.nil,fun h=>by omega⟩,Dg.nil⟩⟩,fun o ρ w ho=>by
 unfold execOp
 rw [ho]
 go_simp⟩⟩
def ai.q0:ai:=ai.ex Rp.frac fun x=>x=((false,[]),(false,[]))
instance:bi .q0 4 true:=inferInstanceAs (bi (.ex Rp.frac _) Rp.frac.k true)
instance:cX Tryz.prog 28 .q0:=⟨⟨.agg #[.bool false, .slice none 0 0, .bool false, .slice none 0 0],fun X w=>⟨_,rfl,[.bool false, .slice none 0 0]++[.bool false, .slice none 0 0],rfl,_,_,rfl,dc.2 ⟨none,0,0,rfl,⟨Sl.nil,fun h=>by omega⟩,Dg.nil⟩,dc.2 ⟨none,0,0,rfl,⟨Sl.nil,fun h=>by omega⟩,Dg.nil⟩⟩,fun o ρ w ho=>by
 unfold execOp
 rw [ho]
 go_simp⟩⟩
theorem j9(h:(ai.na N L).holds X w v):(N.natAbs:Int)<4294967296^L:=by
 obtain ⟨s,A,n,c,xs,_,hs,hd,e,hn⟩:=fS h
 have h1:((dp s xs).natAbs:Int)≤val 4294967296 xs:=by
  have h0:=bg (β:=4294967296) qD hd
  unfold dp fy
  cases mz s xs<;>cases s<;>simp<;>omega
 have h2:=dS (β:=4294967296) qD hd
 have h3:=bz (β:=4294967296) qD (show xs.length≤L by rw [hs.len];exact hn)
 rw [e] at h1
 omega
theorem Au {k:Int} (hk: -9223372036854775808≤k∧k≤9223372036854775807):(k.natAbs:Int)<4294967296^2:=by
 have e:(4294967296:Int)^2=18446744073709551616:=by decide
 omega
theorem Da{m:Nat} (h1:(N.natAbs:Int)<4294967296^n) (h2:(M.natAbs:Int)<4294967296^m):((ej (N.natAbs:Int) (M.natAbs:Int)).natAbs:Int)<4294967296^(max n m):=by
 have h3:(4294967296:Int)^n≤4294967296^(max n m):=bz qD qO
 have h4:(4294967296:Int)^m≤4294967296^(max n m):=bz qD qO
 have e:(ej (N.natAbs:Int) (M.natAbs:Int)).natAbs=Nat.gcd N.natAbs M.natAbs:=by unfold ej;simp
 rw [e]
 rcases Nat.eq_zero_or_pos N.natAbs with h0|h0
 ·rw [h0,Nat.gcd_zero_left];omega
 ·have:=Nat.gcd_le_left M.natAbs h0;omega
theorem EB (N:Int):fy (decide (N<0)) (N.natAbs:Int)=N:=by
 by_cases h:N<0
 ·rw [decide_eq_true h,ek];omega
 ·rw [decide_eq_false h,eD];omega
theorem xN (s:Bool) (a:Int):(fy s a).natAbs=a.natAbs:=by cases s<;>simp [fy]
theorem vc(N:Int) (hM:M≠0):(N.fdiv M).natAbs≤N.natAbs+1∧(N.fmod M).natAbs<M.natAbs:=by
 have hU:0<(M.natAbs:Int):=qO
 obtain ⟨k1,k2⟩:=oT (s:=decide (N<0)) (t:=decide (M<0)) (V:=(N.natAbs:Int)) hU
 rw [EB,EB] at k1 k2
 have h1:=Int.emod_nonneg (N.natAbs:Int) (show (M.natAbs:Int)≠0 by omega)
 have h2:=Int.emod_lt_of_pos (N.natAbs:Int) hU
 have h3:=Int.ediv_nonneg (show (0:Int)≤(N.natAbs:Int) by omega) (Int.le_of_lt hU)
 have h4:=Int.ediv_le_self (a:=(N.natAbs:Int)) (M.natAbs:Int) qO
 generalize (N.natAbs:Int)%(M.natAbs:Int)=r at*
 generalize (N.natAbs:Int) / (M.natAbs:Int)=q at*
 by_cases hd:((decide (N<0)) != (decide (M<0)))=true∧r≠0
 ·obtain ⟨e1,e2⟩:=k2 hd
  rw [e1,e2,xN,xN]
  have:=hd.2
  omega
 ·have hor:((decide (N<0)) != (decide (M<0)))=false∨r=0:=by
   by_cases h0:r=0
   ·exact .inr h0
   ·refine .inl ?_
    cases hb:((decide (N<0)) != (decide (M<0))) with
    |false=>rfl
    |true=>exact absurd ⟨hb,h0⟩ hd
  obtain ⟨e1,e2⟩:=k1 hor
  rw [e1,e2,xN,xN]
  omega
theorem zt(h1:(N.natAbs:Int)<4294967296^n) (hM:M≠0):((N.fdiv M).natAbs:Int)<4294967296^(n+1):=by
 have h2:=(vc N hM).1
 have p:=bp (show (0:Int)<4294967296 by decide) n
 rw [Int.pow_succ]
 omega
theorem zX(h1:(M.natAbs:Int)<4294967296^n) (hM:M≠0):((N.fmod M).natAbs:Int)<4294967296^n:=by
 have h2:=(vc N hM).2
 omega
section
variable {w00:World} {N:Nat} {L:List Loc} {E:List (Nat×ai)} {d:Nat} {t0:TypeId} {pos:String} {af:Array Edge} {gd:Option (Nat×Bool)} {ats:Array TypeId}
end
def GA (B:Nat) (X:List Nat) (w:World) (b:Nat):Prop:=cZ X w b∧B≤b∧∃ cs,w.heap[b]? =some (.cells cs 128 (0,0))
def ai.nw (p:bA→Prop) (B:Nat):ai:=⟨fun X w v=>∃ x,p x∧∃ cs:List Value,v= .agg cs.toArray∧Rp.frac.rd w (GA B X w) x cs,fun ⟨x,hp,cs,e,h⟩ hk hX=>⟨x,hp,cs,e,Rp.frac.more (Rp.frac.keep h (fun b hb=>hk.block b hb.1.1 hb.1.2)) (fun b hb=>by
 obtain ⟨h1,h2,c,h3⟩:=hb
 exact ⟨cZ.mono hk hX b h1,h2,c,(hk.block b h1.1 h1.2).trans h3⟩)⟩⟩
def ai.qn (q:Rat) (L B:Nat):ai:=ai.nw (fun x=>jG q x∧Lq q L) B
def ai.qg (q:Rat) (L B:Nat):ai:=ai.nw (fun x=>qv x=q∧x.1.2.length≤L∧x.2.2.length≤L∧0<L) B
theorem mC{p:bA→Prop} (h:(ai.nw p B).holds X w v):(ai.ex Rp.frac p).holds X w v:=by
 obtain ⟨x,hp,cs,e,h⟩:=h
 exact ⟨x,hp,cs,e,Rp.frac.more h (fun b hb=>hb.1)⟩
theorem mP{p:bA→Prop} {B':Nat} (h:(ai.nw p B).holds X w v) (hB:B'≤B):(ai.nw p B').holds X w v:=by
 obtain ⟨x,hp,cs,e,h⟩:=h
 exact ⟨x,hp,cs,e,Rp.frac.more h (fun b hb=>⟨hb.1,Nat.le_trans hB hb.2.1,hb.2.2⟩)⟩
instance {p:bA→Prop} {B:Nat}:bi (.nw p B) 4 true:=⟨fun h=>(inferInstance:bi (.ex Rp.frac p) Rp.frac.k true).ok (mC h)⟩
instance {q:Rat} {L B:Nat}:bi (.qn q L B) 4 true:=inferInstanceAs (bi (.nw _ _) 4 true)
instance {q:Rat} {L B:Nat}:bi (.qg q L B) 4 true:=inferInstanceAs (bi (.nw _ _) 4 true)
instance {q:Rat} {L B:Nat}:az (.qn q L B) 0 4 true (.qn q L B):= .whole inferInstance
instance {q:Rat} {L B:Nat}:az (.qg q L B) 0 4 true (.qg q L B):= .whole inferInstance
instance {q:Rat} {L B:Nat}:qV (.qn q L B) q L:=⟨fun h=>(inferInstance:qV (.qc q L) q L).ok (mC h)⟩
instance {q:Rat} {L B:Nat}:qV (.qg q L B) q L:=⟨fun h=>mC h⟩
theorem Hz{x:bA} (hq:pO x=true) (h:(ai.qx x L).holds X w v):(ai.qc (qv x) L).holds X w v:=by
 obtain ⟨y,⟨rfl,h1,h2,h3⟩,cs,e,c1,c2,e2,g1,g2⟩:=h
 obtain ⟨_,_,_,_,_,d1⟩:=dc.1 g1
 obtain ⟨_,_,_,_,_,d2⟩:=dc.1 g2
 have hf:=(jG.of d1 d2 hq).1
 exact ⟨y,⟨hf,Lq.of hf h1 h2⟩,cs,e,c1,c2,e2,g1,g2⟩
theorem Bi{q:Rat} {D:Int} {M:Nat} (hN:q.num=N) (hD:(q.den:Int)=D) (hL:Lq q M) (v:Value) (h:(ai.nd N D L).holds X w v):(ai.qc q M).holds X w v:=by
 obtain ⟨x,⟨h1,h2,_,_⟩,g⟩:=h
 exact ⟨x,⟨⟨by rw [hN];exact h1,by rw [hD];exact h2⟩,hL⟩,g⟩
theorem Hg{p q:Rat} {M:Nat} (hq:p=q) (hL:Lq q M) (v:Value) (h:(ai.qc p L).holds X w v):(ai.qc q M).holds X w v:=by
 obtain ⟨x,⟨h1,_⟩,g⟩:=h
 exact ⟨x,⟨by rw [←hq];exact h1,hL⟩,g⟩
theorem qd{a b:Value} (h:a=b) (v:Value) (hv:(ai.is a).holds X w v):(ai.is b).holds X w v:=by
 rw [←h];exact hv
theorem cM{T' U U':ai} (h1:∀ v,T.holds X w v→T'.holds X w v) (h2:∀ v,U.holds X w v→U'.holds X w v) (v:Value) (h:(ai.tup [T,U]).holds X w v):(ai.tup [T',U']).holds X w v:=by
 obtain ⟨vs,e,h⟩:=h
 match vs,h with
 |[a,b],⟨g1,g2,_⟩=>exact ⟨[a,b],e,h1 _ g1,h2 _ g2,trivial⟩
section
variable {w00:World} {N:Nat} {L:List Loc} {E:List (Nat×ai)} {d:Nat} {t0:TypeId} {pos:String} {af:Array Edge} {gd:Option (Nat×Bool)} {ats:Array TypeId}
end
section
variable {w00:World} {N:Nat} {L:List Loc} {E:List (Nat×ai)} {d:Nat} {t0:TypeId} {pos:String} {af:Array Edge} {gd:Option (Nat×Bool)} {ats:Array TypeId}
end
section
variable {w00:World} {N:Nat} {L:List Loc} {E:List (Nat×ai)} {d:Nat} {t0:TypeId} {pos:String} {af:Array Edge} {gd:Option (Nat×Bool)} {ats:Array TypeId}
end
section
variable {w00:World} {N:Nat} {L:List Loc} {E:List (Nat×ai)} {d:Nat} {t0:TypeId} {pos:String} {af:Array Edge} {gd:Option (Nat×Bool)} {ats:Array TypeId}
end
section
variable {w00:World} {N:Nat} {L:List Loc} {E:List (Nat×ai)} {d:Nat} {t0:TypeId} {pos:String} {af:Array Edge} {gd:Option (Nat×Bool)} {ats:Array TypeId}
end
section
variable {w00:World} {N:Nat} {L:List Loc} {E:List (Nat×ai)} {d:Nat} {t0:TypeId} {pos:String} {af:Array Edge} {gd:Option (Nat×Bool)} {ats:Array TypeId}
end
theorem yZ{D:Int} (hD:0<D):0<ej (N.natAbs:Int) (D.natAbs:Int)∧(Rat.divInt N D).num=N.fdiv (ej (N.natAbs:Int) (D.natAbs:Int))∧((Rat.divInt N D).den:Int)=D.fdiv (ej (N.natAbs:Int) (D.natAbs:Int)):=by
 rw [j5]
 have h1:(Int.gcd N D:Int)∣N:=Int.gcd_dvd_left ..
 have h2:(Int.gcd N D:Int)∣D:=Int.gcd_dvd_right ..
 have hg:0<Int.gcd N D:=Int.gcd_pos_of_ne_zero_right _ qO
 have h3:Int.gcd (N / Int.gcd N D) (D / Int.gcd N D)=1:=Int.gcd_ediv_gcd_ediv_gcd hg
 have hg0:(0:Int)<(Int.gcd N D:Int):=qO
 rw [Int.fdiv_eq_ediv_of_nonneg _ (Int.le_of_lt hg0),Int.fdiv_eq_ediv_of_nonneg _ (Int.le_of_lt hg0)]
 obtain ⟨e1,e2⟩:=mH (n:=N) (d:=D) (Int.ediv_mul_cancel h1).symm (Int.ediv_mul_cancel h2).symm qO (Int.ediv_pos_of_pos_of_dvd hD qO h2) h3
 exact ⟨hg0,e1,e2⟩
theorem C3 (N D:Int):Rat.divInt (-N) (-D)=Rat.divInt N D:=Rat.neg_divInt_neg ..
section
variable {w00:World} {N:Nat} {L:List Loc} {E:List (Nat×ai)} {d:Nat} {t0:TypeId} {pos:String} {af:Array Edge} {gd:Option (Nat×Bool)} {ats:Array TypeId}
end
section
variable {w00:World} {N:Nat} {L:List Loc} {E:List (Nat×ai)} {d:Nat} {t0:TypeId} {pos:String} {af:Array Edge} {gd:Option (Nat×Bool)} {ats:Array TypeId}
end
section
variable {w00:World} {N:Nat} {L:List Loc} {E:List (Nat×ai)} {d:Nat} {t0:TypeId} {pos:String} {af:Array Edge} {gd:Option (Nat×Bool)} {ats:Array TypeId}
end
section
variable {w00:World} {N:Nat} {L:List Loc} {E:List (Nat×ai)} {d:Nat} {t0:TypeId} {pos:String} {af:Array Edge} {gd:Option (Nat×Bool)} {ats:Array TypeId}
end
section
variable {w00:World} {N:Nat} {L:List Loc} {E:List (Nat×ai)} {d:Nat} {t0:TypeId} {pos:String} {af:Array Edge} {gd:Option (Nat×Bool)} {ats:Array TypeId}
end
section
variable {w00:World} {N:Nat} {L:List Loc} {E:List (Nat×ai)} {d:Nat} {t0:TypeId} {pos:String} {af:Array Edge} {gd:Option (Nat×Bool)} {ats:Array TypeId}
end
section
variable {w00:World} {N:Nat} {L:List Loc} {E:List (Nat×ai)} {d:Nat} {t0:TypeId} {pos:String} {af:Array Edge} {gd:Option (Nat×Bool)} {ats:Array TypeId}
end
section
variable {w00:World} {N:Nat} {L:List Loc} {E:List (Nat×ai)} {d:Nat} {t0:TypeId} {pos:String} {af:Array Edge} {gd:Option (Nat×Bool)} {ats:Array TypeId}
end
section
variable {w00:World} {N:Nat} {L:List Loc} {E:List (Nat×ai)} {d:Nat} {t0:TypeId} {pos:String} {af:Array Edge} {gd:Option (Nat×Bool)} {ats:Array TypeId}
end
section
variable {w00:World} {N:Nat} {L:List Loc} {E:List (Nat×ai)} {d:Nat} {t0:TypeId} {pos:String} {af:Array Edge} {gd:Option (Nat×Bool)} {ats:Array TypeId}
end
section
variable {w00:World} {N:Nat} {L:List Loc} {E:List (Nat×ai)} {d:Nat} {t0:TypeId} {pos:String} {af:Array Edge} {gd:Option (Nat×Bool)} {ats:Array TypeId}
end
theorem Lq.whole {k:Int} (hk: -9223372036854775808≤k∧k≤9223372036854775807):Lq (k:Rat) 2:=⟨Au hk,by rw [show ((k:Rat).den:Int)=1 from rfl];decide⟩
section
variable {w00:World} {N:Nat} {L:List Loc} {E:List (Nat×ai)} {d:Nat} {t0:TypeId} {pos:String} {af:Array Edge} {gd:Option (Nat×Bool)} {ats:Array TypeId}
end
section
variable {w00:World} {N:Nat} {L:List Loc} {E:List (Nat×ai)} {d:Nat} {t0:TypeId} {pos:String} {af:Array Edge} {gd:Option (Nat×Bool)} {ats:Array TypeId}
end
def lN (L:Nat) (x:bA):Prop:=x.1.2.length≤L∧x.2.2.length≤L∧0<L
def ai.rq (L:Nat) (l:List bA):ai:=ai.rw Rp.frac (lN L) l
instance {L:Nat} {x:bA}:qV (.el Rp.frac (lN L) x) (qv x) L:=⟨fun ⟨y,h,g⟩=>⟨y,by rw [h.1];exact ⟨rfl,by rw [←h.1];exact h.2⟩,g⟩⟩
instance:cO Tryz.prog 94 4:=⟨⟨_,Tryz.underlying94,by kernel_rfl⟩⟩
end Go.Proofs.YtcpeiijdgabenaaGreatDoor
