/- Rows of the call's own, of whatever cells (numbers, slices, structs), and rows as they are read. No program stands in it. -/
import Derived.Test.YtpmhjieibebclaaGreatDoorCA
import Derived.Test.YtpmhjieibebclaaGreatDoorCD
import Derived.Test.YtpmhjieibebclaaGreatDoorCB
import Derived.Test.YtpmhjieibebclaaGreatDoorCC
set_option maxHeartbeats 8000000
set_option maxRecDepth 20000
set_option linter.unusedSimpArgs false
set_option linter.unusedVariables false
namespace Go.Proofs.YtpmhjieibebclaaGreatDoor
open Go Go.RowKit
variable {w:World} {n c B m c2 r L:Nat} {s t:Bool} {A A2:Option Addr} {xs ys:List Int} {u0 u1:Value} {vs:List Value} {xss:List (List Int)}
def qZ (sz:Nat) (w:World) (B:Nat) (A:Option Addr) (n c:Nat) (vs:List Value):Prop:=
 vs.length=n*sz∧n≤c∧c≤maxLen∧(A=none→c=0)∧
  (0<n→∃ b off,A=some ⟨b,off,none⟩∧b<B∧∀ j u,vs[j]? =some u→w.cell? ⟨b,off+j,none⟩=some u)
section
variable {sz:Nat} {w w':World} {B B':Nat} {A:Option Addr} {n c:Nat} {vs:List Value}
theorem qZ.keep (h:qZ sz w B A n c vs) (hk:∀ p:Addr,p.block<B→w'.cell? p=w.cell? p):qZ sz w' B A n c vs:=by
 refine ⟨h.1,h.2.1,h.2.2.1,h.2.2.2.1,fun hn=> ?_⟩
 obtain ⟨b,off,hA,hb,hc⟩:=h.2.2.2.2 hn
 exact ⟨b,off,hA,hb,fun j x hx=>(hk _ hb).trans (hc j x hx)⟩
theorem qZ.more (h:qZ sz w B A n c vs) (hB:B≤B'):qZ sz w B' A n c vs:=by
 refine ⟨h.1,h.2.1,h.2.2.1,h.2.2.2.1,fun hn=> ?_⟩
 obtain ⟨b,off,hA,hb,hc⟩:=h.2.2.2.2 hn
 exact ⟨b,off,hA,by omega,hc⟩
theorem qZ.below (h:qZ sz w B A n c vs) (hb:Below B' w w') (hB:B≤B'):qZ sz w' B A n c vs:=h.keep fun _ hp=>hb.cell qO
theorem qZ.nil:qZ sz w B none 0 0 []:=⟨by simp,Nat.le_refl _,Nat.zero_le _,fun _=>rfl,fun h=>absurd h qO⟩
end
def cS (sz:Nat) (e:TypeId) (w:World) (B:Nat) (A:Option Addr) (n c:Nat) (vs:List Value):Prop:=w.ownsRow B e sz (.slice A n c) n vs
section
variable {sz:Nat} {e:TypeId} {w w':World} {B B':Nat} {A:Option Addr} {n c:Nat} {vs:List Value}
theorem cS.nil:cS sz e w B none 0 0 []:=World.ownsRow_nil _ _ _ _
theorem cS.len (h:cS sz e w B A n c vs):vs.length=n*sz:=h.1
theorem cS.form (h:cS sz e w B A n c vs):(A=none∧n=0∧c=0)∨∃ g,A=some ⟨g,0,none⟩∧B≤g∧g<w.heap.size:=by
 rcases h.2 with ⟨hv,h0⟩|⟨g,cap,cur,hv,hb,hg,_⟩
 ·injection hv with h1 h2 h3
  exact .inl ⟨h1,h0,h3⟩
 ·injection hv with h1 h2 h3
  refine .inr ⟨g,h1,hb,?_⟩
  rcases Nat.lt_or_ge g w.heap.size with hlt|hge
  ·exact hlt
  ·rw [Array.getElem?_eq_none hge] at hg;cases hg
theorem cS.blk_ (h:cS sz e w B A n c vs):∀ g,fh A=some g→B≤g∧g<w.heap.size:=by
 intro g hg
 rcases h.form with ⟨rfl,_⟩|⟨g',rfl,h1,h2⟩
 ·cases hg
 ·have:g'=g:=by simpa [fh] using hg
  subst this
  exact ⟨h1,h2⟩
theorem cS.cap (h:cS sz e w B A n c vs):n≤c∧c≤maxLen:=by
 rcases h.2 with ⟨hv,h0⟩|⟨g,cap,cur,hv,hb,hg,h1,h2,_⟩
 ·injection hv with h1 h2 h3
  subst h3;subst h0
  exact ⟨Nat.le_refl _,Nat.zero_le _⟩
 ·injection hv with h3 h4 h5
  subst h5
  exact ⟨h1,h2⟩
theorem cS.sl (h:cS sz e w B A n c vs):qZ sz w w.heap.size A n c vs:=by
 refine ⟨h.len,h.cap.1,h.cap.2,fun hA=> ?_,fun hn=> ?_⟩
 ·rcases h.form with ⟨_,_,h0⟩|⟨g,rfl,_⟩
  ·exact h0
  ·cases hA
 ·rcases h.form with ⟨_,h0,_⟩|⟨g,rfl,h1,h2⟩
  ·omega
  ·refine ⟨g,0,rfl,h2,fun j x hx=> ?_⟩
   have:=World.ownsRow.cells h (g:=g) rfl j x hx
   rwa [Addr.add_lit] at this
theorem cS.keep (h:cS sz e w B A n c vs) {row:Option Nat} (hg:w.grownBy w' row) (hne:fh A=none∨fh A≠row):cS sz e w' B A n c vs:=
 World.ownsRow.kept h hg (by rw [eG];exact hne)
theorem cS.below (h:cS sz e w B A n c vs) (hb:Below w.heap.size w w'):cS sz e w' B A n c vs:=
 h.keep (row:=none) ⟨hb.os,hb.tape,hb.output,hb.size,fun i hi _=>hb.block i hi⟩ (by cases hA:fh A<;>simp)
theorem cS.alloc (h:cS sz e w B A n c vs) (o:Obj):cS sz e (w.alloc o) B A n c vs:=World.ownsRow.alloc h o
theorem cS.far(h:cS sz e w B A n c vs) (hr:r<B):fh A=none∨fh A≠some r:=by
 rcases h.form with ⟨h,_⟩|⟨g,h,hg,_⟩
 ·exact .inl (by rw [h];rfl)
 ·exact .inr (by rw [h];intro h;simp [fh] at h;omega)
theorem cS.lower (h:cS sz e w B A n c vs) (hB:B'≤B):cS sz e w B' A n c vs:=by
 refine ⟨h.1,?_⟩
 rcases h.2 with h1|⟨g,cap,cur,h1,h2,h3⟩
 ·exact .inl h1
 ·exact .inr ⟨g,cap,cur,h1,Nat.le_trans hB h2,h3⟩
theorem cS.lit (sz:Nat) (e:TypeId) (w:World) {B:Nat} (hB:B≤w.heap.size) (vs:List Value) (n:Nat) (hn:vs.length=n*sz) (hm:n≤1000):cS sz e (w.alloc (.cells vs.toArray e)) B (some ⟨w.heap.size,0,none⟩) n n vs:=by
 have:=World.ownsRow_lit (base:=B) (e:=e) (size:=sz) w vs.toArray n hB qR (by simp [hn])
 simpa [cS] using this
end
structure iz (P:Program) (t e:TypeId) (sz bytes:Nat):Prop where
 slice:P.underlying t=some (.slice e)
 pos:0<sz
 info:∃ i z,P.info? e=some i∧i.zero=some z∧i.size=sz∧i.bytes=bytes∧z.cells.size=sz
theorem qZ.news{sz:Nat} {ad:Addr} (h:qZ sz w B (some ad) n c vs):∀ j u,vs[j]? =some u→w.cell? (ad.add j)=some u:=by
 intro j u hu
 have hj:j<n*sz:=by have:=(List.getElem?_eq_some_iff.1 hu).1;have:=h.1;omega
 have hn:0<n:=Nat.pos_of_ne_zero fun h0=>by subst h0;omega
 obtain ⟨b,off,hA,_,hc⟩:=h.2.2.2.2 hn
 injection hA with hA
 subst hA
 rw [Addr.add_lit]
 exact hc j u hu
def EA (w:World) (A A':Option Addr):Prop:=∀ g,fh A'=some g→fh A=some g∨w.heap.size≤g
theorem vc {P:Program} {t e:TypeId} {sz bytes:Nat} (T:iz P t e sz bytes) (ty:TypeId) {w:World} {B:Nat} {A:Option Addr} {n c:Nat} {vs:List Value} (h:cS sz e w B A n c vs)
 {B2:Nat} {A2:Option Addr} {m c2:Nat} {us:List Value} (hs:qZ sz w B2 A2 m c2 us) (h1:∀ u∈us,u.oneCell'=true) (hn:(n+m)*bytes≤140737488355328) (hm:n+m≤maxLen) (hB:B≤w.heap.size):
 ∃ A' c' w',(Builtin.append_ #[t,t] ty #[.slice A n c, .slice A2 m c2]).run P w= .ok (.slice A' (n+m) c') w'∧cS sz e w' B A' (n+m) c' (vs++us)∧w.grownBy w' (fh A)∧EA w A A':=by
 obtain ⟨i,z,hi,hz,hsz,hby,hzc⟩:=T.info
 cases A2 with
 |none=>
  have h0:=hs.2.2.2.1 rfl
  subst h0
  obtain rfl:m=0:=by have:=hs.2.1;omega
  have hy:us=[]:=List.eq_nil_of_length_eq_zero (by have:=hs.1;simpa using this)
  subst hy
  exact ⟨A,c,w,run_append_owned_none (P:=P) w B t ty e i sz T.slice hi _ n _ h,by simpa using h,World.grownBy.refl _ _,fun g hg=> .inl hg⟩
 |some ad=>
  obtain ⟨v',w',hr,h2,h3,_,h5⟩:=run_append_own_at (P:=P) w B t ty e i z sz bytes T.slice hi hz hsz hby hzc T.pos _ n _ h ad m c2 us hs.1 hs.news h1 hm hn hB
  have hf:∃ A' c',v'= .slice A' (n+m) c':=by
   rcases h2.2 with ⟨hv,h0⟩|⟨g,cap,cur,hv,_⟩
   ·exact ⟨none,0,by rw [hv,h0]⟩
   ·exact ⟨_,_,hv⟩
  obtain ⟨A',c',rfl⟩:=hf
  refine ⟨A',c',w',hr,h2,by rw [←eG];exact h3,fun g hg=> ?_⟩
  rw [eG,eG] at h5
  rcases h5 with h5|h5
  ·exact .inl (h5.symm.trans hg)
  ·rw [hg] at h5
   injection h5 with h5
   exact .inr (Nat.le_of_eq h5.symm)
theorem pd {P:Program} {t e:TypeId} {sz bytes:Nat} (T:iz P t e sz bytes) {w:World} {ops:Array Oper} {rest:List Oper} {o:Oper} {a:Act} {Q:Exit→Act→World→Prop} (hgd:o.guard=none) (s x:Operand)
 (ho:o.op= .call { callee:= .builtin .append,args:= #[s,x],argTypes:= #[t,t] }) {B:Nat} {A:Option Addr} {n c:Nat} {vs:List Value} (h:cS sz e w B A n c vs) (es:a.eval s= .slice A n c)
 {B2:Nat} {A2:Option Addr} {m c2:Nat} {us:List Value} (hs:qZ sz w B2 A2 m c2 us) (ex:a.eval x= .slice A2 m c2) (h1:∀ u∈us,u.oneCell'=true) (hn:(n+m)*bytes≤140737488355328) (hm:n+m≤maxLen) (hB:B≤w.heap.size)
 (hK:∀ A' c' w',cS sz e w' B A' (n+m) c' (vs++us)→w.grownBy w' (fh A)→EA w A A'→wpList P ops Q rest (a.put o.dst (.slice A' (n+m) c')) w'):wpList P ops Q (o::rest) a w:=by
 refine wpList_plain hgd fun K hK'=> ?_
 obtain ⟨A',c',w',hr,h2,h3,h4⟩:=vc T o.type h hs h1 hn hm hB
 unfold Oper.wp execOp
 simp only [ho,resolve,invoke,builtin,Sem.run_bind,Sem.run_pure,Result.andThen_ok,List.map_toArray,List.map_cons,List.map_nil,es,ex,hr]
 exact hK' _ _ (hK A' c' w' h2 h3 h4)
theorem qZ.lit (sz:Nat) (w:World) (s:Nat) (hs:w.heap.size=s) (vs:List Value) (n:Nat) (hn:vs.length=n*sz) (hm:n≤1000) (t:TypeId):qZ sz (w.alloc (.cells vs.toArray t)) (s+1) (some ⟨s,0,none⟩) n n vs:=by
 subst hs
 refine ⟨hn,Nat.le_refl _,by unfold maxLen;omega,fun h=>(by cases h),fun _=>⟨w.heap.size,0,rfl,by omega,fun j u hu=> ?_⟩⟩
 have hj:=(List.getElem?_eq_some_iff.1 hu)
 obtain ⟨h1,h2⟩:=hj
 rw [World.cell?_alloc_new]
 simp [h1,h2]
theorem mu(hs:Sl .u32 w B A n c xs) (hB:B≤w.heap.size):
 Calls Tryz.prog 116 #[.agg #[.bool s, .slice A n c]] w fun e w'=>e= .returned (.bool (jN s xs))∧Below w.heap.size w w':=by
 have hl:=hs.len
 have hm:=hs.lenMax
 by_cases h0:n=0
 ·subst h0
  have hx:=List.eq_nil_of_length_eq_zero hl
  subst hx
  rw [pH]
  go_enter Tryz.func116,Tryz.ntmps116
  go_wp2_with fail
  go_ret
  exact ⟨rfl,(Below.refl _ _).alloc (Nat.le_refl _) _⟩
 ·obtain ⟨j,rfl⟩:∃ j,n=j+1:=⟨n - 1,by omega⟩
  obtain ⟨b,off,z,rfl,hbB,ez,hcell⟩:=hs.at_ (j:=j) qO
  rw [lK hl ez]
  have hb:(((j+1:Nat):Int)==0)=false:=beq_eq_false_iff_ne.2 qO
  have hlt:b<w.heap.size:=qO
  clear h0 ez
  go_enter Tryz.func116,Tryz.ntmps116
  go_wp2_with fail
  go_ret
  exact ⟨rfl,(Below.refl _ _).alloc (Nat.le_refl _) _⟩
@[reducible] def jM (s:Bool) (A:Option Addr) (n c:Nat):Value:= .agg #[.bool s, .slice A n c]
theorem rG(hr:jN s xs=false) (hs:Sl .u32 w B A n c xs) (hB:B≤w.heap.size):
 Calls Tryz.prog 141 #[.agg #[.bool s, .slice A n c]] w fun e w'=>e= .returned (jM false none 0 0)∧Below w.heap.size w w':=by
 have HC:=fun W (h:Sl .u32 W B A n c xs) (hB:B≤W.heap.size)=>mu (s:=s) h hB
 rw [hr] at HC
 clear hr
 go_enter Tryz.func141,Tryz.ntmps141
 go_wp2_with fail
 refine (HC _ ((hs.alloc hB _).alloc qA _) qM).mono ?_
 rintro e w1 ⟨rfl,hb⟩
 obtain ⟨⟨p0,p1,p2,p3⟩,⟨r0,r1,r2,r3⟩,hlt,hb1⟩:=fP hb
 have HB:=Lib.hid hb1
 clear hb hb1 HC hs
 go_wp2_with fail
 refine bodyPost_ret (v:= .agg #[.bool false, .slice none 0 0]) ?_ rfl ⟨rfl,(HB.out.setCell (p:=⟨w.heap.size+1,0,none⟩) (Nat.le_succ _) _).setCell (p:=⟨w.heap.size+1,1,none⟩) (Nat.le_succ _) _⟩
 simp only [results,Tryz.results141]
 go_simp
theorem rk(hr:jN s xs=true) (hs:Sl .u32 w B A n c xs) (hB:B≤w.heap.size):
 Calls Tryz.prog 141 #[.agg #[.bool s, .slice A n c]] w fun e w'=>e= .returned (jM s A n c)∧Below w.heap.size w w':=by
 have HC:=fun W (h:Sl .u32 W B A n c xs) (hB:B≤W.heap.size)=>mu (s:=s) h hB
 rw [hr] at HC
 clear hr
 go_enter Tryz.func141,Tryz.ntmps141
 go_wp2_with fail
 refine (HC _ ((hs.alloc hB _).alloc qA _) qM).mono ?_
 rintro e w1 ⟨rfl,hb⟩
 obtain ⟨⟨p0,p1,p2,p3⟩,⟨r0,r1,r2,r3⟩,hlt,hb1⟩:=fP hb
 have HB:=Lib.hid hb1
 clear hb hb1 HC hs
 go_wp2_with fail
 refine bodyPost_ret (v:= .agg #[.bool s, .slice A n c]) ?_ rfl ⟨rfl,(HB.out.setCell (p:=⟨w.heap.size+1,0,none⟩) (Nat.le_succ _) _).setCell (p:=⟨w.heap.size+1,1,none⟩) (Nat.le_succ _) _⟩
 simp only [results,Tryz.results141]
 go_simp
theorem dH{s':Bool} {A':Option Addr} {n' c':Nat} {xs':List Int} (h:f9 s A n c xs s' A' n' c' xs') (hs:Sl .u32 w B A n c xs) (hB:B≤w.heap.size):
 Calls Tryz.prog 141 #[.agg #[.bool s, .slice A n c]] w fun e w'=>e= .returned (jM s' A' n' c')∧Below w.heap.size w w':=by
 rcases h with ⟨hr,rfl,rfl,rfl,rfl,rfl⟩|⟨hr,rfl,rfl,rfl,rfl,rfl⟩
 ·exact rk hr hs hB
 ·exact rG hr hs hB
def cD (s:Bool) (n:Nat):Bool:=s&&decide (0<n)
theorem dc:Calls Tryz.prog 121 #[.bool s, .slice A n c] w fun e w'=>e= .returned (.agg #[.bool (cD s n), .slice A n c])∧Below w.heap.size w w':=by
 cases s
 ·have h0:cD false n=false:=rfl
  rw [h0]
  go_enter Tryz.func121,Tryz.ntmps121
  go_wp2_with fail
  refine bodyPost_ret (v:= .agg #[.bool false, .slice A n c]) ?_ rfl ⟨rfl,(Below.refl _ _).alloc (Nat.le_refl _) _⟩
  simp only [results,Tryz.results121]
  go_simp
 ·have h0:cD true n=decide (0<n):=rfl
  rw [h0]
  go_enter Tryz.func121,Tryz.ntmps121
  go_wp2_with fail
  refine bodyPost_ret (v:= .agg #[.bool (decide (0<n)), .slice A n c]) ?_ rfl ⟨rfl,(Below.refl _ _).alloc (Nat.le_refl _) _⟩
  simp only [results,Tryz.results121]
  go_simp
theorem xa:Calls Tryz.prog 168 #[jM s A n c] w fun e w'=>e= .returned (.agg #[.bool (cD (!s) n), .slice A n c])∧Below w.heap.size w w':=by
 go_enter Tryz.func168,Tryz.ntmps168
 go_wp2_with fail
 refine (dc (s:= !s)).mono ?_
 rintro e w1 ⟨rfl,hb⟩
 obtain ⟨⟨p0,p1,p2,p3⟩,⟨r0,r1,r2,r3⟩,hlt,hb1⟩:=fP hb
 have HB:=Lib.hid hb1
 clear hb hb1
 go_wp2_with fail
 refine bodyPost_ret (v:= .agg #[.bool (cD (!s) n), .slice A n c]) ?_ rfl ⟨rfl,(HB.out.setCell (p:=⟨w.heap.size+1,0,none⟩) (Nat.le_succ _) _).setCell (p:=⟨w.heap.size+1,1,none⟩) (Nat.le_succ _) _⟩
 simp only [results,Tryz.results168]
 go_simp
theorem dF:Calls Tryz.prog 142 #[jM s A n c,jM t A2 m c2] w fun e w'=>e= .returned (.bool (s != t))∧Below w.heap.size w w':=by
 go_enter Tryz.func142,Tryz.ntmps142
 go_wp2_with fail
 go_ret
 exact ⟨rfl,((Below.refl _ _).alloc (Nat.le_refl _) _).alloc qA _⟩
theorem sm(h:0<n):cD s n=s:=by unfold cD;rw [decide_eq_true h,Bool.and_true]
theorem Whole.num{M:Int} (h:fZ 4294967296 M xs) (h0:0≤M) (hn:xs.length=n):Whole (dz s M) (cD s n) xs:=by
 by_cases hz:n=0
 ·subst hz
  have:=List.eq_nil_of_length_eq_zero hn
  subst this
  have hM:M=0:=h.val.symm
  subst hM
  have e:cD s 0=false:=by cases s<;>rfl
  have e2:dz s 0=0:=by cases s<;>rfl
  rw [e,e2]
  exact Whole.zero
 ·rw [sm qO]
  refine Whole.mk' h h0 fun _ hM=>hz ?_
  have:=Tr.zero qD h.dg h.tr (h.val.trans hM)
  rw [this] at hn
  exact hn.symm
theorem gU{M:Int} (h:fZ 4294967296 M xs):0≤M:=by rw [←h.val];exact am qD h.dg
theorem qQ(hs:Sl .u32 w B A n c xs) (ht:Sl .u32 w B A2 m c2 ys) (hB:B≤w.heap.size) (hx:Dg 4294967296 xs) (hy:Dg 4294967296 ys) (hn:n≤1000000000) (hm:m≤1000000000):
 Calls Tryz.prog 145 #[.slice A n c, .slice A2 m c2] w (d7 w (val 4294967296 xs - val 4294967296 ys)):=by
 obtain ⟨b0,b1,b2,b3,hlt,hb0⟩:=dZ (w:=w) (v0:= .bool false) (v1:= .slice none 0 0) (t:=25) (Below.refl _ _)
 have bX:ay (w.alloc (.cells #[.bool false, .slice none 0 0] 25)) w.heap.size (.bool false) (.slice none 0 0):=⟨b0,b1,b2,b3⟩
 have hs1:=Lib.hid (hs.alloc hB (.cells #[.bool false, .slice none 0 0] 25))
 have ht1:=Lib.hid (ht.alloc hB (.cells #[.bool false, .slice none 0 0] 25))
 have B0:=Lib.hid hb0
 have BX:=Lib.hid bX
 have HL:=Lib.hid hlt
 clear hs ht hb0 bX b0 b1 b2 b3 hlt
 by_cases hlt:val 4294967296 xs<val 4294967296 ys
 ·have hc:=eO hlt
  go_enter Tryz.func145,Tryz.ntmps145
  go_wp2_with fail
  generalize w.alloc (.cells #[.bool false, .slice none 0 0] 25)=W0 at hs1 ht1 B0 BX HL ⊢
  refine (iI hs1.out ht1.out hx hy).mono ?_
  rintro e w1 ⟨hce,k,rfl⟩
  unfold jq at hce
  rw [hc] at hce
  subst hce
  go_wp2_with fail
  refine (nC (ht1.out.drew k) (hs1.out.drew k) (Nat.le_trans hB B0.out.size) hy hx qO hm).mono ?_
  rintro e w2 ⟨zs,A3,n3,c3,hr,rfl,ho,hb⟩
  have hl:=ho.len
  have hbk:=Lib.hid (B0.out.trans ((Below.of_drewN hb).mono B0.out.size))
  have BX2:=Lib.hid (BX.out.below (Below.of_drewN hb) HL.out)
  have HL2:=Lib.hid (Nat.lt_of_lt_of_le HL.out hb.size)
  have HW:=Lib.hid (show Whole (val 4294967296 xs - val 4294967296 ys) (cD true n3) zs by
   have:=Whole.num (s:=true) hr (gU hr) hl
   rw [cX] at this
   rwa [show val 4294967296 xs - val 4294967296 ys= -(val 4294967296 ys - val 4294967296 xs) by omega])
  have HO:=Lib.hid (ho.below (Below.refl _ _))
  clear hb ho hl hr
  go_wp2_with fail
  refine dc.mono ?_
  rintro e w3 ⟨rfl,hb⟩
  have HB3:=Lib.hid (hbk.out.trans (hb.mono hbk.out.size))
  have HO3:=Lib.hid (HO.out.below hb)
  obtain ⟨q0,q1,q2,q3⟩:=BX2.out.below hb HL2.out
  clear hb
  go_wp2_with fail
  refine bodyPost_ret (v:= .agg #[.bool (cD true n3), .slice A3 n3 c3]) ?_ rfl (d7.put HW.out (Nat.le_refl _) HO3.out HL.out HB3.out)
  simp only [results,Tryz.results145]
  go_simp
 ·have hc:(b_ (val 4294967296 xs) (val 4294967296 ys)<0)=False:=by rw [eq_iff_iff,uS];simp;omega
  have hle:val 4294967296 ys≤val 4294967296 xs:=qO
  have HLE:=Lib.hid hle
  clear hle hlt
  go_enter Tryz.func145,Tryz.ntmps145
  go_wp2_with fail
  generalize w.alloc (.cells #[.bool false, .slice none 0 0] 25)=W0 at hs1 ht1 B0 BX HL ⊢
  refine (iI hs1.out ht1.out hx hy).mono ?_
  rintro e w1 ⟨hce,k,rfl⟩
  unfold jq at hce
  subst hce
  go_wp2_with fail
  refine (nC (hs1.out.drew k) (ht1.out.drew k) (Nat.le_trans hB B0.out.size) hx hy HLE.out hn).mono ?_
  rintro e w2 ⟨zs,A3,n3,c3,hr,rfl,ho,hb⟩
  have hl:=ho.len
  have hbk:=Lib.hid (B0.out.trans ((Below.of_drewN hb).mono B0.out.size))
  have BX2:=Lib.hid (BX.out.below (Below.of_drewN hb) HL.out)
  have HL2:=Lib.hid (Nat.lt_of_lt_of_le HL.out hb.size)
  have HW:=Lib.hid (show Whole (val 4294967296 xs - val 4294967296 ys) (cD false n3) zs by
   have:=Whole.num (s:=false) hr (gU hr) hl
   rwa [cZ] at this)
  have HO:=Lib.hid (ho.below (Below.refl _ _))
  clear hb ho hl hr hc
  go_wp2_with fail
  refine dc.mono ?_
  rintro e w3 ⟨rfl,hb⟩
  have HB3:=Lib.hid (hbk.out.trans (hb.mono hbk.out.size))
  have HO3:=Lib.hid (HO.out.below hb)
  obtain ⟨q0,q1,q2,q3⟩:=BX2.out.below hb HL2.out
  clear hb
  go_wp2_with fail
  refine bodyPost_ret (v:= .agg #[.bool (cD false n3), .slice A3 n3 c3]) ?_ rfl (d7.put HW.out (Nat.le_refl _) HO3.out HL.out HB3.out)
  simp only [results,Tryz.results145]
  go_simp
theorem uf{W0:World} {j:Int} (hj:0≤j∧j<18446744073709551616) (B0:Below w.heap.size w W0) (BX:ay W0 w.heap.size (.bool false) (.slice none 0 0)) (HL:w.heap.size<W0.heap.size) (hz:W0.heap.size=w.heap.size+1):
 Calls Tryz.prog 122 #[.slice (some ⟨w.heap.size+1,0,none⟩) 2 2] (W0.alloc (.cells #[.int .u32 (j%4294967296), .int .u32 (j / 4294967296)] 115)) fun e w1=>∃ A n c zs,e= .returned (.slice A n c)∧Whole (dz s j) (cD s n) zs∧bH .u32 115 w1 (w.heap.size+1) A n c zs∧Below w.heap.size w w1∧ay w1 w.heap.size (.bool false) (.slice none 0 0)∧w.heap.size<w1.heap.size:=by
 have hd:Dg 4294967296 [j%4294967296,j / 4294967296]:=Jx qO qO
 have hv:val 4294967296 [j%4294967296,j / 4294967296]=j:=by simp only [val];omega
 have hr:fZ 4294967296 j (tl [j%4294967296,j / 4294967296]):=⟨cH hd,cd _,by rw [bw,hv]⟩
 refine (eW (rF W0 (w.heap.size+1) hz (j%4294967296) (j / 4294967296) 115) qO).mono ?_
 rintro e w1 ⟨A1,n1,c1,rfl,ho,hb⟩
 have hb':=cW hb
 exact ⟨_,_,_,_,rfl,Whole.num hr (gU hr) ho.len,ho.lower (by rw [ak];have:=B0.size;omega),B0.trans (hb'.mono B0.size),BX.below hb' HL,Nat.lt_of_lt_of_le HL hb'.size⟩
theorem DB{k:Int} (hk: -9223372036854775808≤k∧k≤9223372036854775807):
 Calls Tryz.prog 80 #[.int .i64 k] w (d7 w k):=by
 obtain ⟨b0,b1,b2,b3,hlt,hb0⟩:=dZ (w:=w) (v0:= .bool false) (v1:= .slice none 0 0) (t:=25) (Below.refl _ _)
 have BX:=Lib.hid (show ay (w.alloc (.cells #[.bool false, .slice none 0 0] 25)) w.heap.size (.bool false) (.slice none 0 0) from ⟨b0,b1,b2,b3⟩)
 have B0:=Lib.hid hb0
 have HL:=Lib.hid hlt
 have hz:=ak w (.cells #[.bool false, .slice none 0 0] 25)
 clear hb0 b0 b1 b2 b3 hlt
 rcases Int.lt_or_le k 0 with hn|hn
 ·obtain ⟨j,rfl⟩:∃ j,k= -j:=⟨-k,by omega⟩
  have hj:0≤j∧j<18446744073709551616:=qO
  have e1:IntKind.u64.wrap (-j)=18446744073709551616 - j:=by rw [IntKind.wrap_u64];omega
  have e2:IntKind.u64.wrap (-(18446744073709551616 - j))=j:=by rw [IntKind.wrap_u64];omega
  have e3:j / 4294967296%4294967296=j / 4294967296:=qO
  have HS:dz true j= -j:=rfl
  clear hk
  go_enter Tryz.func80,Tryz.ntmps80
  go_wp2_with fail
  generalize w.alloc (.cells #[.bool false, .slice none 0 0] 25)=W0 at B0 BX HL hz ⊢
  refine (uf (s:=true) hj B0.out BX.out HL.out hz).mono ?_
  rintro e w1 ⟨A1,n1,c1,zs,rfl,hW,ho,hb,bx,hl⟩
  rw [HS] at hW
  have HW:=Lib.hid hW
  have HO:=Lib.hid ho
  have HB:=Lib.hid hb
  have BX1:=Lib.hid bx
  have HL1:=Lib.hid hl
  clear hW ho hb bx hl e1 e2 e3 HS
  go_wp2_with fail
  refine dc.mono ?_
  rintro e w3 ⟨rfl,hb⟩
  have HB3:=Lib.hid (HB.out.trans (hb.mono HB.out.size))
  have HO3:=Lib.hid (HO.out.below hb)
  obtain ⟨q0,q1,q2,q3⟩:=BX1.out.below hb HL1.out
  clear hb
  go_wp2_with fail
  refine bodyPost_ret (v:= .agg #[.bool (cD true n1), .slice A1 n1 c1]) ?_ rfl (d7.put HW.out (Nat.le_refl _) HO3.out (Nat.lt_succ_self _) HB3.out)
  simp only [results,Tryz.results80]
  go_simp
 ·have hj:0≤k∧k<18446744073709551616:=qO
  have e0:¬ k<0:=qO
  have e1:IntKind.u64.wrap k=k:=by rw [IntKind.wrap_u64];omega
  have e3:k / 4294967296%4294967296=k / 4294967296:=qO
  have HS:dz false k=k:=rfl
  clear hk
  go_enter Tryz.func80,Tryz.ntmps80
  go_wp2_with fail
  generalize w.alloc (.cells #[.bool false, .slice none 0 0] 25)=W0 at B0 BX HL hz ⊢
  refine (uf (s:=false) hj B0.out BX.out HL.out hz).mono ?_
  rintro e w1 ⟨A1,n1,c1,zs,rfl,hW,ho,hb,bx,hl⟩
  rw [HS] at hW
  have HW:=Lib.hid hW
  have HO:=Lib.hid ho
  have HB:=Lib.hid hb
  have BX1:=Lib.hid bx
  have HL1:=Lib.hid hl
  clear hW ho hb bx hl e1 e3 HS
  go_wp2_with fail
  refine dc.mono ?_
  rintro e w3 ⟨rfl,hb⟩
  have HB3:=Lib.hid (HB.out.trans (hb.mono HB.out.size))
  have HO3:=Lib.hid (HO.out.below hb)
  obtain ⟨q0,q1,q2,q3⟩:=BX1.out.below hb HL1.out
  clear hb
  go_wp2_with fail
  refine bodyPost_ret (v:= .agg #[.bool (cD false n1), .slice A1 n1 c1]) ?_ rfl (d7.put HW.out (Nat.le_refl _) HO3.out (Nat.lt_succ_self _) HB3.out)
  simp only [results,Tryz.results80]
  go_simp
theorem Bg:iz Tryz.prog 213 23 1 24:=⟨Tryz.underlying213,by decide,by
 obtain ⟨i,h1,h2,h3,h4⟩:∃ i,Tryz.prog.info? 23=some i∧i.zero=some (.slice none 0 0)∧i.size=1∧i.bytes=24:=info_parts qK
 exact ⟨i,_,h1,h2,h3,h4,rfl⟩⟩
def m5 (w:World) (B:Nat) (vs:List Value) (xss:List (List Int)):Prop:=vs.length=xss.length∧∀ (j:Nat) xs,xss[j]? =some xs→∃ A n c,vs[j]? =some (.slice A n c)∧Sl .u32 w B A n c xs
theorem m5.nil:m5 w B [] []:=⟨rfl,fun j xs h=>by simp at h⟩
theorem m5.snoc(h:m5 w B vs xss) (hs:Sl .u32 w B A n c xs):m5 w B (vs++[.slice A n c]) (xss++[xs]):=by
 refine ⟨by simp [h.1],fun j ys hj=> ?_⟩
 rcases Nat.lt_trichotomy j xss.length with hl|rfl|hl
 ·rw [List.getElem?_append_left hl] at hj
  obtain ⟨A',n',c',h1,h2⟩:=h.2 j ys hj
  exact ⟨A',n',c',by rw [List.getElem?_append_left (by rw [h.1];exact hl)];exact h1,h2⟩
 ·simp at hj
  subst hj
  exact ⟨A,n,c,by rw [←h.1];simp,hs⟩
 ·rw [List.getElem?_eq_none (by simp;omega)] at hj;cases hj
theorem m5.sls{w':World} {B':Nat} (h:m5 w B vs xss) (hv:qZ 1 w' B' A n c vs) (hb:Below B w w') (hB:B≤B'):nR w' B' A n c xss:=by
 refine ⟨by rw [←h.1,hv.1];simp,hv.2.1,hv.2.2.1,hv.2.2.2.1,fun hn=> ?_⟩
 obtain ⟨b,off,hA,hb',hc⟩:=hv.2.2.2.2 hn
 refine ⟨b,off,hA,hb',fun j xs hx=> ?_⟩
 obtain ⟨A',n',c',h1,h2⟩:=h.2 j xs hx
 exact ⟨A',n',c',hc j _ h1,(h2.below hb (Nat.le_refl _)).more hB⟩
theorem xN(hx:∀ xs∈xss,Dg 4294967296 xs∧xs.length≤L) (hn:xss.length≤4294967295):0≤jJ xss∧jJ xss<4294967296^(L+1):=by
 have key:∀ l:List (List Int),(∀ xs∈l,Dg 4294967296 xs∧xs.length≤L)→0≤jJ l∧jJ l≤(l.length:Int)*4294967296^L:=by
  intro l
  induction l with
  |nil=>intro _;simp [jJ]
  |cons xs l ih=>
   intro h
   obtain ⟨h1,h2⟩:=ih fun ys hy=>h ys (List.mem_cons_of_mem _ hy)
   have e:jJ (xs::l)=val 4294967296 xs+jJ l:=by simp [jJ]
   obtain ⟨d,hl⟩:=h xs qE
   have v0:=am qD d
   have v1:=Int.lt_of_lt_of_le (bQ qD d) (aP qD hl)
   have e2:((xs::l).length:Int)*4294967296^L=(l.length:Int)*4294967296^L+4294967296^L:=by rw [List.length_cons,Int.natCast_add,Int.add_mul];simp
   rw [e]
   omega
 obtain ⟨h1,h2⟩:=key xss hx
 refine ⟨h1,Int.lt_of_le_of_lt h2 ?_⟩
 have p:=aI (show (0:Int)<4294967296 by decide) L
 have:(xss.length:Int)*4294967296^L≤4294967295*4294967296^L:=Int.mul_le_mul_of_nonneg_right qO qO
 rw [Int.pow_succ]
 omega
structure mg (w:World) (B L:Nat) (l:List (Bool×List Int)) (i:Nat) (vs us:List Value) (xss yss:List (List Int)):Prop where
 above:m5 w B vs xss
 under:m5 w B us yss
 dx:∀ xs∈xss,Dg 4294967296 xs∧xs.length≤L
 dy:∀ xs∈yss,Dg 4294967296 xs∧xs.length≤L
 many:xss.length+yss.length=i
 num:jJ xss - jJ yss=jo (l.take i)
theorem mg.start{l:List (Bool×List Int)}:mg w B L l 0 [] [] [] []:=⟨.nil, .nil,fun _ h=>(by cases h),fun _ h=>(by cases h),rfl,by simp [jJ,jo]⟩
theorem mg.step {w:World} {B L:Nat} {l:List (Bool×List Int)} {i:Nat} {vs us:List Value} {xss yss:List (List Int)} {s s':Bool} {A':Option Addr} {n' c':Nat} {xs xs':List Int} (h:mg w B L l i vs us xss yss) (ex:l[i]? =some (s,xs))
 (hs:Sl .u32 w B A' n' c' xs') (hd:Dg 4294967296 xs') (hl:xs'.length≤L) (hv:dz s' (val 4294967296 xs')=bp s xs):
 (s'=true→mg w B L l (i+1) vs (us++[.slice A' n' c']) xss (yss++[xs']))∧(s'=false→mg w B L l (i+1) (vs++[.slice A' n' c']) us (xss++[xs']) yss):=by
 have hm:=h.many
 have hn:=h.num
 refine ⟨fun e=> ?_,fun e=> ?_⟩
 ·subst e
  rw [cX] at hv
  refine ⟨h.above,h.under.snoc hs,h.dx,fun ys hy=> ?_,by rw [List.length_append,List.length_singleton];omega,by rw [sk ex,nQ];omega⟩
  rcases List.mem_append.1 hy with hy|hy
  ·exact h.dy ys hy
  ·rw [List.mem_singleton.1 hy];exact ⟨hd,hl⟩
 ·subst e
  rw [cZ] at hv
  refine ⟨h.above.snoc hs,h.under,fun ys hy=> ?_,h.dy,by rw [List.length_append,List.length_singleton];omega,by rw [sk ex,nQ];omega⟩
  rcases List.mem_append.1 hy with hy|hy
  ·exact h.dx ys hy
  ·rw [List.mem_singleton.1 hy];exact ⟨hd,hl⟩
def oJ (w:World) (B L:Nat) (l:List (Bool×List Int)) (i:Nat) (A1 A2:Option Addr) (n1 c1 n2 c2:Nat) (wr:World):Prop:=
 ∃ vs us xss yss,mg w B L l i vs us xss yss∧cS 1 23 wr (w.heap.size+1) A1 n1 c1 vs∧cS 1 23 wr (w.heap.size+1) A2 n2 c2 us∧(fh A2=none∨fh A2≠fh A1)∧n1+n2=i∧Below w.heap.size w wr∧ay wr w.heap.size (.bool false) (.slice none 0 0)∧w.heap.size<wr.heap.size
theorem cS.raise{sz:Nat} {e:TypeId} {w':World} {B':Nat} {xs ys:List Value} (h:cS sz e w B A n c xs) (h':cS sz e w' B' A n c ys):cS sz e w B' A n c xs:=by
 refine ⟨h.1,?_⟩
 rcases h.2 with h1|⟨g,cap,cur,e1,e2,e3⟩
 ·exact .inl h1
 ·injection e1 with e4 e5 e6
  subst e4
  exact .inr ⟨g,cap,cur,by rw [e6],(h'.blk_ g rfl).1,e3⟩
theorem oJ.down {w wr w4:World} {B L:Nat} {l:List (Bool×List Int)} {i:Nat} {A1 A2 A3:Option Addr} {n1 c1 n2 c2 c3:Nat} {vs us:List Value} {xss yss:List (List Int)} {v:Value} {ys:List Int}
 (hI:mg w B L l (i+1) vs (us++[v]) xss (yss++[ys])) (h1:cS 1 23 wr (w.heap.size+1) A1 n1 c1 vs) (h2:cS 1 23 wr (w.heap.size+1) A2 n2 c2 us) (hne:fh A2=none∨fh A2≠fh A1) (hm:n1+n2=i)
 (hb:Below w.heap.size w wr) (bx:ay wr w.heap.size (.bool false) (.slice none 0 0)) (hlt:w.heap.size<wr.heap.size) (h3:cS 1 23 w4 (w.heap.size+1) A3 (n2+1) c3 (us++[v])) (hg:wr.grownBy w4 (fh A2))
 (hf:EA wr A2 A3):oJ w B L l (i+1) A1 A3 n1 c1 (n2+1) c3 w4:=by
 have hb2:Below (w.heap.size+1) wr w4:=(Below.refl _ _).grown hg hlt fun g hg=>(h2.blk_ g hg).1
 refine ⟨vs,us++[v],xss,yss++[ys],hI,h1.keep hg ?_,h3,?_,by omega,hb.trans (hb2.mono (Nat.le_succ _)),bx.below hb2 (Nat.lt_succ_self _),Nat.lt_of_lt_of_le hlt hb2.size⟩
 ·rcases h1.form with ⟨rfl,_⟩|⟨g,rfl,_⟩
  ·exact .inl rfl
  ·refine .inr fun h=> ?_
   rcases hne with h0|h0
   ·rw [h0] at h;cases h
   ·exact h0 h.symm
 ·cases h:fh A3 with
  |none=>exact .inl rfl
  |some g=>
   refine .inr fun e=> ?_
   rcases hf g h with h0|h0
   ·rcases hne with h5|h5
    ·rw [h0] at h5;cases h5
    ·exact h5 (h0.trans e)
   ·have:=(h1.blk_ g e.symm).2
    omega
theorem oJ.up {w wr w4:World} {B L:Nat} {l:List (Bool×List Int)} {i:Nat} {A1 A2 A3:Option Addr} {n1 c1 n2 c2 c3:Nat} {vs us:List Value} {xss yss:List (List Int)} {v:Value} {ys:List Int}
 (hI:mg w B L l (i+1) (vs++[v]) us (xss++[ys]) yss) (h1:cS 1 23 wr (w.heap.size+1) A1 n1 c1 vs) (h2:cS 1 23 wr (w.heap.size+1) A2 n2 c2 us) (hne:fh A2=none∨fh A2≠fh A1) (hm:n1+n2=i)
 (hb:Below w.heap.size w wr) (bx:ay wr w.heap.size (.bool false) (.slice none 0 0)) (hlt:w.heap.size<wr.heap.size) (h3:cS 1 23 w4 (w.heap.size+1) A3 (n1+1) c3 (vs++[v])) (hg:wr.grownBy w4 (fh A1))
 (hf:EA wr A1 A3):oJ w B L l (i+1) A3 A2 (n1+1) c3 n2 c2 w4:=by
 have hb2:Below (w.heap.size+1) wr w4:=(Below.refl _ _).grown hg hlt fun g hg=>(h1.blk_ g hg).1
 refine ⟨vs++[v],us,xss++[ys],yss,hI,h3,h2.keep hg hne,?_,by omega,hb.trans (hb2.mono (Nat.le_succ _)),bx.below hb2 (Nat.lt_succ_self _),Nat.lt_of_lt_of_le hlt hb2.size⟩
 cases h:fh A2 with
 |none=>exact .inl rfl
 |some g=>
  refine .inr fun e=> ?_
  rcases hf g e.symm with h0|h0
  ·rcases hne with h5|h5
   ·rw [h] at h5;cases h5
   ·exact h5 (h.trans h0.symm)
  ·have:=(h2.blk_ g h).2
   omega
theorem un{l:List (Bool×List Int)} (hs:mA w B A n c l) (hB:B≤w.heap.size) (hx:∀ p∈l,Dg 4294967296 p.2) (hL:∀ p∈l,p.2.length≤L) (hL2:L≤1000000) (hn:n≤1000000):
 Calls Tryz.prog 119 #[.slice A n c] w (d7 w (jo l)):=by
 have hl:=hs.len
 have hcc:=hs.le
 obtain ⟨b0,b1,b2,b3,hlt,hb0⟩:=dZ (w:=w) (v0:= .bool false) (v1:= .slice none 0 0) (t:=25) (Below.refl _ _)
 have hM:oJ w B L l 0 none none 0 0 0 0 (w.alloc (.cells #[.bool false, .slice none 0 0] 25)):=⟨[],[],[],[], .start,cS.nil,cS.nil, .inl rfl,rfl,hb0,⟨b0,b1,b2,b3⟩,hlt⟩
 clear b0 b1 b2 b3 hlt hb0
 go_enter Tryz.func119,Tryz.ntmps119
 go_wp2_with fail
 generalize w.alloc (.cells #[.bool false, .slice none 0 0] 25)=W0 at hM ⊢
 go_loopw [3,4,10] (fun av bv iv wr=>∃ (i n1 c1 n2 c2:Nat) (A1 A2:Option Addr),iv= .int .i64 i∧i≤n∧av= .slice A1 n1 c1∧bv= .slice A2 n2 c2∧oJ w B L l i A1 A2 n1 c1 n2 c2 wr) (fun _ _ iv _=>n - (intOf iv).toNat)
 case atStart=>exact ⟨0,0,0,0,0,none,none,rfl,Nat.zero_le _,rfl,rfl,hM⟩
 case round=>
  obtain ⟨i,n1,c1,n2,c2,A1,A2,rfl,hi,rfl,rfl,vs,us,xss,yss,hI,h1,h2,hne,hm,hb,bx,hlt⟩:=hrel
  clear hM
  by_cases hin:i<n
  ·obtain ⟨b,off,s,xs,A3,n3,c3,rfl,hbB,ex,hc0,hc1,hsl⟩:=(hs.below hb hB).at_ hin
   have hii:(i:Int)<(n:Int):=qO
   obtain ⟨s',A',n',c',xs',hp⟩:=f9.ex s A3 n3 c3 xs
   have hmem:=List.mem_of_getElem? ex
   have hxd:=hx _ hmem
   have hxl:=hL _ hmem
   obtain ⟨B0,ex0,hsl0⟩:∃ B0,B0=B∧Sl .u32 w B A3 n3 c3 xs:=by
    obtain ⟨b',off',s2,xs2,A4,n4,c4,hA,_,ex2,hd0,hd1,hsl2⟩:=hs.at_ hin
    injection hA with hA
    injection hA with hA1 hA2
    subst hA1;subst hA2
    rw [ex] at ex2
    injection ex2 with ex2
    injection ex2 with ex3 ex4
    subst ex3;subst ex4
    have e1:=(hb.cell (p:=⟨b,off+i*2+1,none⟩) (show b<_ by omega)).symm.trans hc1
    rw [hd1] at e1
    injection e1 with e1
    injection e1 with e1 e2 e3
    subst e1;subst e2;subst e3
    exact ⟨B,rfl,hsl2⟩
   obtain ⟨f1,f2,f3,f4,f5⟩:=hp.facts hsl0 hxd
   have hst:=mg.step hI ex (hs:=f1) f2 (by have:=f1.len;have:=hsl0.len;simp at hxl;omega) f4
   have hn1:=hI.many
   have hv1:n1≤1000000:=qO
   have HP:=Lib.hid hp
   have HS:=Lib.hid (hsl.alloc (Nat.le_trans hB hb.size) (.cells #[.bool s, .slice A3 n3 c3] 25))
   clear hp hsl hsl0 ex0 f1 f2 f3 f4 f5 hxd hxl hmem ex hI
   go_wp2_with fail
   refine (dH HP.out HS.out (by rw [ak];have:=hb.size;omega)).mono ?_
   rintro e w1 ⟨rfl,hbc⟩
   have hbw:=cW hbc
   have h1':=h1.below hbw
   have h2':=h2.below hbw
   have hb':=hb.trans (hbw.mono hb.size)
   have bx':=bx.below hbw hlt
   have hlt':=Nat.lt_of_lt_of_le hlt hbw.size
   have hz':=hb'.size
   clear h1 h2 hb bx hlt hbw hbc HS HP hc0 hc1
   rcases s' with _|_
   ·have HST:=Lib.hid (hst.2 rfl)
    obtain ⟨q0,q1,q2,q3,hq,hbq⟩:=dZ (w:=w1) (v0:= .bool false) (v1:= .slice A' n' c') (t:=207) (Below.refl _ _)
    have H1:=Lib.hid ((h1'.alloc (.cells #[.bool false, .slice A' n' c'] 207)))
    have H2:=Lib.hid ((h2'.alloc (.cells #[.bool false, .slice A' n' c'] 207)))
    have HB:=Lib.hid ((hb'.trans (hbq.mono hz')).alloc qA (.cells #[.slice A' n' c'] 23))
    have HX:=Lib.hid (((bx'.below hbq hlt').below ((Below.refl _ _).alloc (Nat.le_refl _) (.cells #[.slice A' n' c'] 23)) qA))
    have HZ:=Lib.hid hlt'
    clear hst h1' h2' hb' bx' hlt' hbq q0 q1 q2 q3 hq
    go_wp2_with (at_builtin;(refine pd Bg rfl _ _ rfl (H1.out.alloc (.cells #[.slice A' n' c'] 23)) rfl (qZ.lit 1 (w1.alloc (.cells #[.bool false, .slice A' n' c'] 207)) (w1.heap.size+1) (ak _ _) [.slice A' n' c'] 1 rfl qO 23) rfl (by intro u hu;rw [List.mem_singleton.1 hu];rfl) qO qR (by rw [ak,ak];have:=HZ.out;omega) ?_);intro A5 c5 w5 h5 hg hf)
    have HPM:=Lib.hid (oJ.up HST.out (H1.out.alloc _) (H2.out.alloc _) hne hm HB.out HX.out (by rw [ak,ak];have:=HZ.out;omega) h5 hg hf)
    clear h5 hg hf
    go_roundw
    case rel=>exact ⟨i+1,n1+1,c5,n2,c2,A5,A2,by go_num,by omega,rfl,rfl,HPM.out⟩
    case measure=>simp [intOf]<;>omega
   ·have HST:=Lib.hid (hst.1 rfl)
    obtain ⟨q0,q1,q2,q3,hq,hbq⟩:=dZ (w:=w1) (v0:= .bool true) (v1:= .slice A' n' c') (t:=207) (Below.refl _ _)
    have H1:=Lib.hid ((h1'.alloc (.cells #[.bool true, .slice A' n' c'] 207)))
    have H2:=Lib.hid ((h2'.alloc (.cells #[.bool true, .slice A' n' c'] 207)))
    have HB:=Lib.hid ((hb'.trans (hbq.mono hz')).alloc qA (.cells #[.slice A' n' c'] 23))
    have HX:=Lib.hid (((bx'.below hbq hlt').below ((Below.refl _ _).alloc (Nat.le_refl _) (.cells #[.slice A' n' c'] 23)) qA))
    have HZ:=Lib.hid hlt'
    clear hst h1' h2' hb' bx' hlt' hbq q0 q1 q2 q3 hq
    go_wp2_with (at_builtin;(refine pd Bg rfl _ _ rfl (H2.out.alloc (.cells #[.slice A' n' c'] 23)) rfl (qZ.lit 1 (w1.alloc (.cells #[.bool true, .slice A' n' c'] 207)) (w1.heap.size+1) (ak _ _) [.slice A' n' c'] 1 rfl qO 23) rfl (by intro u hu;rw [List.mem_singleton.1 hu];rfl) qO qR (by rw [ak,ak];have:=HZ.out;omega) ?_);intro A5 c5 w5 h5 hg hf)
    have HPM:=Lib.hid (oJ.down HST.out (H1.out.alloc _) (H2.out.alloc _) hne hm HB.out HX.out (by rw [ak,ak];have:=HZ.out;omega) h5 hg hf)
    clear h5 hg hf
    go_roundw
    case rel=>exact ⟨i+1,n1,c1,n2+1,c5,A1,A5,by go_num,by omega,rfl,rfl,HPM.out⟩
    case measure=>simp [intOf]<;>omega
  ·obtain rfl:i=n:=qO
   have HN:=Lib.hid (show jJ xss - jJ yss=jo l by rw [hI.num,List.take_of_length_le qO])
   have hmany:=hI.many
   have b1:=xN hI.dx qO
   have b2:=xN hI.dy qO
   have HS1:=Lib.hid (hI.above.sls h1.sl (Below.mono hb hB) (by have:=hb.size;omega))
   have HS2:=Lib.hid (hI.under.sls h2.sl (Below.mono hb hB) (by have:=hb.size;omega))
   have HDX:=Lib.hid hI.dx
   have HDY:=Lib.hid hI.dy
   have HB:=Lib.hid hb
   have HX:=Lib.hid bx
   have HL:=Lib.hid hlt
   clear hI h1 h2 hb bx hlt hne hx hL hs
   go_wp2_with fail
   refine (sW HS1.out (Nat.le_refl _) (fun xs h=>(HDX.out xs h).1) (fun xs h=>by have:=(HDX.out xs h).2;omega)).mono ?_
   rintro e w1 ⟨ys1,r1,A5,n5,c5,rfl,o1,hb1⟩
   have l1:=r1.len_le (k:=L+1) qD b1.2
   have e1:=o1.len
   have HO1:=Lib.hid o1
   have HS3:=Lib.hid ((HS2.out.below hb1 (Nat.le_refl _)).more hb1.size)
   have HB1:=Lib.hid (HB.out.trans (hb1.mono HB.out.size))
   have HX1:=Lib.hid (HX.out.below hb1 HL.out)
   have HL1:=Lib.hid (Nat.lt_of_lt_of_le HL.out hb1.size)
   have R1:=Lib.hid r1
   clear o1 hb1 HS1 HS2 HB HX HL r1
   go_wp2_with fail
   refine (sW HS3.out (Nat.le_refl _) (fun xs h=>(HDY.out xs h).1) (fun xs h=>by have:=(HDY.out xs h).2;omega)).mono ?_
   rintro e w2 ⟨ys2,r2,A6,n6,c6,rfl,o2,hb2⟩
   have l2:=r2.len_le (k:=L+1) qD b2.2
   have e2:=o2.len
   have HO2:=Lib.hid o2
   have HO1':=Lib.hid (HO1.out.below hb2)
   have HB2:=Lib.hid (HB1.out.trans (hb2.mono HB1.out.size))
   have HX2:=Lib.hid (HX1.out.below hb2 HL1.out)
   have HL2:=Lib.hid (Nat.lt_of_lt_of_le HL1.out hb2.size)
   have R2:=Lib.hid r2
   clear o2 hb2 HO1 HB1 HX1 HL1 r2
   go_wp2_with fail
   refine (qQ HO1'.out.sl HO2.out.sl (Nat.le_refl _) R1.out.dg R2.out.dg qO qO).mono ?_
   rintro e w3 ⟨sc,Z,A7,n7,c7,hW,rfl,ho,hb3⟩
   rw [R1.out.val,R2.out.val,HN.out] at hW
   have HW:=Lib.hid hW
   have HO:=Lib.hid ho
   have HB3:=Lib.hid (HB2.out.trans (hb3.mono HB2.out.size))
   obtain ⟨p0,p1,p2,p3⟩:=HX2.out.below hb3 HL2.out
   clear hW ho hb3
   go_wp2_with fail
   refine bodyPost_ret (v:= .agg #[.bool sc, .slice A7 n7 c7]) ?_ rfl (d7.put HW.out (Nat.le_refl _) HO.out HL2.out HB3.out)
   simp only [results,Tryz.results119]
   go_simp
theorem vb(hl:xs.length=n) (h:jN s xs=true):bp (cD (!s) n) xs= -dz s (val 4294967296 xs):=by
 by_cases h0:n=0
 ·subst h0
  have:=List.eq_nil_of_length_eq_zero hl
  subst this
  rw [mY]
  cases s<;>simp [dz,val]
 ·obtain ⟨j,rfl⟩:∃ j,n=j+1:=⟨n - 1,by omega⟩
  obtain ⟨z,hz⟩:=c_ (xs:=xs) (i:=j) qO
  rw [lK hl hz] at h
  rw [sm qO,fU (by rw [lK hl hz];exact h)]
  cases s<;>simp [dz]
theorem mA.two(w:World) (hB:B≤w.heap.size) (hs:Sl .u32 w B A n c xs) (ht:Sl .u32 w B A2 m c2 ys) (T:TypeId) (k:Nat) (hk:w.heap.size=k):
 mA (w.alloc (.cells #[.bool s, .slice A n c, .bool t, .slice A2 m c2] T)) (k+1) (some ⟨k,0,none⟩) 2 2 [(s,xs),(t,ys)]:=by
 subst hk
 refine ⟨rfl,Nat.le_refl _,by unfold maxLen;omega,fun h=>(by cases h),fun _=>⟨w.heap.size,0,rfl,by omega,fun j u zs hz=> ?_⟩⟩
 have hj:j<2:=(List.getElem?_eq_some_iff.1 hz).1
 rcases j with _|_|j
 ·simp at hz
  obtain ⟨rfl,rfl⟩:=hz
  exact ⟨A,n,c,by simp [World.cell?_alloc_new],by simp [World.cell?_alloc_new],(hs.alloc hB _).more qO⟩
 ·simp at hz
  obtain ⟨rfl,rfl⟩:=hz
  exact ⟨A2,m,c2,by simp [World.cell?_alloc_new],by simp [World.cell?_alloc_new],(ht.alloc hB _).more qO⟩
 ·omega
def aM.nums (l:List (Bool×List Int)):aM:=⟨fun w v=>∃ A n c,v= .slice A n c∧mA w w.heap.size A n c l,fun ⟨A,n,c,e,h⟩ hb=>⟨A,n,c,e,(h.below hb (Nat.le_refl _)).more hb.size⟩⟩
def aM.nbox (B:Nat) (T:TypeId):aM:=⟨fun w v=>∃ r,v= .pointer (some ⟨r,0,none⟩)∧B≤r∧r<w.heap.size∧w.heap[r]? =some (.cells #[.bool false, .slice none 0 0] T (0,0)),fun ⟨r,e,h1,h2,h3⟩ hb=>⟨r,e,h1,Nat.lt_of_lt_of_le h2 hb.size,(hb.block r h2).trans h3⟩⟩
theorem fM{T:TypeId} (h:w.heap[r]? =some (.cells #[u0,u1] T (0,0))):ay w r u0 u1:=by
 refine ⟨?_,?_,?_,?_⟩<;>simp [World.cell?,World.frozen?,h]
section
variable {E:List (Nat×aM)} {w0:World} {d:Nat} {ty:TypeId} {pos:String} {af:Array Edge} {gd:Option (Nat×Bool)}
theorem gQ{s:Nat} (hp:fW E (.tmp s) (.pointer (some ⟨r,0,none⟩))) (h0:∀ W,Below w0.heap.size w0 W→W.cell? ⟨r,0,none⟩=some u0) (h1:∀ W,Below w0.heap.size w0 W→W.cell? ⟨r,1,none⟩=some u1) (hd:∀ w,(aN E d).holds w (.agg #[u0,u1])):
 cC Tryz.prog E w0 ⟨some d, .load 25 (.tmp s),ty,pos,af,gd⟩:=by
 intro ρ w hc hf hb hs
 have e:=hp _ _ hs.1
 have c0:=h0 w hb
 have c1:=h1 w hb
 clear hp hs h0 h1
 unfold Yields
 go_simp
 exact ⟨hd _,Below.refl _ _⟩
theorem i8{s:Nat} (hp:fW E (.tmp s) (.pointer (some ⟨r,0,none⟩))) (h0:∀ W,Below w0.heap.size w0 W→W.cell? ⟨r,0,none⟩=some u0) (h1:∀ W,Below w0.heap.size w0 W→W.cell? ⟨r,1,none⟩=some u1) (hd:∀ w,(aN E d).holds w (.agg #[u0,u1])):
 cC Tryz.prog E w0 ⟨some d, .load 207 (.tmp s),ty,pos,af,gd⟩:=by
 intro ρ w hc hf hb hs
 have e:=hp _ _ hs.1
 have c0:=h0 w hb
 have c1:=h1 w hb
 clear hp hs h0 h1
 unfold Yields
 go_simp
 exact ⟨hd _,Below.refl _ _⟩
theorem wx{s:Nat} (hp:fW E (.tmp s) (.agg #[u0,u1])) (hd:∀ w,(aN E d).holds w u1):cC Tryz.prog E w0 ⟨some d, .field 25 (.tmp s) 1,ty,pos,af,gd⟩:=by
 intro ρ w hc hf hb hs
 have e:=hp _ _ hs.1
 clear hp hs
 unfold Yields
 go_simp
 exact ⟨hd _,Below.refl _ _⟩
theorem zk{s:Nat} (hp:fW E (.tmp s) (.agg #[u0,u1])) (hd:∀ w,(aN E d).holds w (.agg #[u0,u1])):cC Tryz.prog E w0 ⟨some d, .field 207 (.tmp s) 0,ty,pos,af,gd⟩:=by
 intro ρ w hc hf hb hs
 have e:=hp _ _ hs.1
 clear hp hs
 unfold Yields
 go_simp
 exact ⟨hd _,Below.refl _ _⟩
theorem oa{s:Nat} (hp:fW E (.tmp s) (.pointer (some ⟨r,0,none⟩))) (hd:∀ w,(aN E d).holds w (.pointer (some ⟨r,0,none⟩))):cC Tryz.prog E w0 ⟨some d, .fieldAddr 25 (.tmp s) 0,ty,pos,af,gd⟩:=by
 intro ρ w hc hf hb hs
 have e:=hp _ _ hs.1
 clear hp hs
 unfold Yields
 go_simp
 exact ⟨hd _,Below.refl _ _⟩
theorem Aq{s:Nat} (hp:fW E (.tmp s) (.pointer (some ⟨r,0,none⟩))) (hd:∀ w,(aN E d).holds w (.pointer (some ⟨r,1,none⟩))):cC Tryz.prog E w0 ⟨some d, .fieldAddr 25 (.tmp s) 1,ty,pos,af,gd⟩:=by
 intro ρ w hc hf hb hs
 have e:=hp _ _ hs.1
 clear hp hs
 unfold Yields
 go_simp
 exact ⟨hd _,Below.refl _ _⟩
theorem mT{s:Nat} (hp:fW E (.tmp s) (.pointer (some ⟨r,0,none⟩))) (hd:∀ w,(aN E d).holds w (.pointer (some ⟨r,0,none⟩))):cC Tryz.prog E w0 ⟨some d, .fieldAddr 207 (.tmp s) 0,ty,pos,af,gd⟩:=by
 intro ρ w hc hf hb hs
 have e:=hp _ _ hs.1
 clear hp hs
 unfold Yields
 go_simp
 exact ⟨hd _,Below.refl _ _⟩
theorem ox (hd:∀ w v,(aM.nbox w0.heap.size 207).holds w v→(aN E d).holds w v):cC Tryz.prog E w0 ⟨some d, .alloc 207,ty,pos,af,gd⟩:=by
 intro ρ w hc hf hb hs
 have hh:(w.alloc (.cells #[.bool false, .slice none 0 0] 207)).heap[w.heap.size]? =some (.cells #[.bool false, .slice none 0 0] 207 (0,0)):=heap_alloc_new _ _
 have hsz:=hb.size
 clear hs hc hf
 unfold Yields
 go_simp
 exact ⟨hd _ _ ⟨_,rfl,hsz,by rw [ak];exact Nat.lt_succ_self _,hh⟩,(Below.refl _ _).alloc (Nat.le_refl _) _⟩
theorem mE (ρ:Operand→Value) (w:World):∃ w',(execOp ρ ⟨some d, .alloc 207,ty,pos,af,gd⟩).run Tryz.prog w= .ok (.value (.pointer (some ⟨w.heap.size,0,none⟩))) w'∧w.heap.size<w'.heap.size:=by
 refine ⟨w.alloc (.cells #[.bool false, .slice none 0 0] 207),?_,by rw [ak];exact Nat.lt_succ_self _⟩
 go_simp
theorem Bj {o0 o1:Operand} {s t:Bool} {A A2:Option Addr} {n c m c2:Nat} {xs ys:List Int} (h0:fW E o0 (.agg #[.bool s, .slice A n c])) (h1:fW E o1 (.agg #[.bool t, .slice A2 m c2]))
 (hs:Sl .u32 w0 w0.heap.size A n c xs) (ht:Sl .u32 w0 w0.heap.size A2 m c2 ys) (hd:∀ w v,(aM.nums [(s,xs),(t,ys)]).holds w v→(aN E d).holds w v):
 cC Tryz.prog E w0 ⟨some d, .buildSlice 212 2 #[(0,o0),(1,o1)],ty,pos,af,gd⟩:=by
 intro ρ w hc hf hb hsl
 have e0:=fW.at_ hc hsl (o:=o0) qI h0
 have e1:=fW.at_ hc hsl (o:=o1) qI h1
 have h2:=mA.two w (s:=s) (t:=t) (Nat.le_refl _) ((hs.below hb (Nat.le_refl _)).more hb.size) ((ht.below hb (Nat.le_refl _)).more hb.size) 25 _ rfl
 clear h0 h1 hsl hc hf hs ht
 unfold Yields
 go_simp
 exact ⟨hd _ _ ⟨_,_,_,rfl,h2.more (by rw [ak];exact Nat.le_refl _)⟩,(Below.refl _ _).alloc (Nat.le_refl _) _⟩
end
theorem cG:aJ Tryz.prog 141:=fun _ _=>by kernel_rfl
theorem dl:aJ Tryz.prog 121:=fun _ _=>by kernel_rfl
theorem p7:aJ Tryz.prog 168:=fun _ _=>by kernel_rfl
theorem gb:aJ Tryz.prog 142:=fun _ _=>by kernel_rfl
theorem uH:aJ Tryz.prog 119:=fun _ _=>by kernel_rfl
theorem Bn (s t:Bool) (xs ys:List Int):jo [(s,xs),(t,ys)]=bp s xs+bp t ys:=by simp [jo]
theorem De(hs:Sl .u32 w B A n c xs) (ht:Sl .u32 w B A2 m c2 ys) (hB:B≤w.heap.size) (hx:Dg 4294967296 xs) (hy:Dg 4294967296 ys) (hn:n≤1000000) (hm:m≤1000000):
 Calls Tryz.prog 147 #[.agg #[.bool s, .slice A n c], .agg #[.bool t, .slice A2 m c2]] w (d7 w (bp s xs - bp t ys)):=by
 obtain ⟨t',A2',m',c2',ys',hp⟩:=f9.ex t A2 m c2 ys
 obtain ⟨f1,f2,f3,f4,f5⟩:=hp.facts ht hy
 have ht':=vb f1.len f3
 rw [f4] at ht'
 have HV:=Lib.hid (show jo [(s,xs),(cD (!t') m',ys')]=bp s xs - bp t ys by rw [Bn,ht'];omega)
 obtain ⟨bX,bY,bR,hlt,_⟩:=ij (w:=w) (v0:= .bool s) (v1:= .slice A n c) (u0:= .bool t) (u1:= .slice A2 m c2) (x0:= .bool false) (x1:= .slice none 0 0) (t:=25) (t2:=25) (t3:=25) (Below.refl _ _)
 have hb0:Below w.heap.size w (((w.alloc (.cells #[.bool s, .slice A n c] 25)).alloc (.cells #[.bool t, .slice A2 m c2] 25)).alloc (.cells #[.bool false, .slice none 0 0] 25)):=
  (((Below.refl _ _).alloc (Nat.le_refl _) _).alloc qA _).alloc qM _
 have hz:=fl w (.cells #[.bool s, .slice A n c] 25) (.cells #[.bool t, .slice A2 m c2] 25) (.cells #[.bool false, .slice none 0 0] 25)
 have HS:=Lib.hid ((hs.below hb0 hB).more (Nat.le_trans hB hb0.size))
 have HTS:=Lib.hid ((ht.below hb0 hB).more (Nat.le_trans hB hb0.size))
 have HT:=Lib.hid ((f1.below hb0 hB).more (Nat.le_trans hB hb0.size))
 have BX:=Lib.hid bX
 have BY:=Lib.hid bY
 have BR:=Lib.hid bR
 have HB:=Lib.hid hb0
 have HP:=Lib.hid hp
 have hl1:=hs.len
 have hl2:=f1.len
 clear hs ht hb0 bX bY bR hlt f1 f3 f4 ht' hp
 go_enter Tryz.func147,Tryz.ntmps147
 go_wp2_with fail
 generalize ((w.alloc (.cells #[.bool s, .slice A n c] 25)).alloc (.cells #[.bool t, .slice A2 m c2] 25)).alloc (.cells #[.bool false, .slice none 0 0] 25)=W0 at HS HTS HT BX BY BR HB hz ⊢
 refine dq [(2,aM.is (.pointer (some ⟨w.heap.size,0,none⟩))),(3,aM.is (.pointer (some ⟨w.heap.size+1,0,none⟩))),(5,aM.is (.agg #[.bool s, .slice A n c])),(6,aM.is (.agg #[.bool t, .slice A2 m c2])),(7,aM.is (jM t' A2' m' c2')),(8,aM.is (.agg #[.bool (cD (!t') m'), .slice A2' m' c2'])),
  (9,aM.nums [(s,xs),(cD (!t') m',ys')]),(10,aM.newI W0.heap.size (bp s xs - bp t ys))]
  [2,3] [] 11 6 qK rfl qK rfl trivial ⟨rfl,rfl,trivial⟩ ?ok ?fin
 case ok=>
  repeat' first
   |exact bI.nil
   |refine bI.cons ?_ ?_
   |exact gQ (fun _ _ h=>h) (aG BX.out.1 qO) (aG BX.out.2.1 qO) (fun _=>rfl)
   |exact gQ (fun _ _ h=>h) (aG BY.out.1 qO) (aG BY.out.2.1 qO) (fun _=>rfl)
   |exact bA cG (T0:=fun _ v=>v= .agg #[.bool t, .slice A2 m c2]) (fun _ _ h=>h) (fun W v0 hb h0=>by
    subst h0
    refine (dH HP.out (HTS.out.below hb (Nat.le_refl _)) hb.size).mono ?_
    rintro e w' ⟨rfl,hb'⟩
    exact ⟨⟨_,rfl,rfl⟩,hb'⟩)
   |exact bA p7 (T0:=fun _ v=>v=jM t' A2' m' c2') (fun _ _ h=>h) (fun W v0 hb h0=>by
    subst h0
    refine xa.mono ?_
    rintro e w' ⟨rfl,hb'⟩
    exact ⟨⟨_,rfl,rfl⟩,hb'⟩)
   |exact Bj (fun _ _ h=>h) (fun _ _ h=>h) HS.out HT.out (fun _ _ h=>h)
   |exact bA uH (T0:=(aM.nums [(s,xs),(cD (!t') m',ys')]).holds) (fun _ _ h=>h) (fun W v0 hb h0=>by
    obtain ⟨A5,n5,c5,rfl,h5⟩:=h0
    have hn5:=h5.len
    refine (un (L:=1000000) h5 (Nat.le_refl _) (by simp [hx,f2]) (by simp;omega) qO (by simp at hn5;omega)).mono ?_
    rintro e w' ⟨sc,Z,A7,n7,c7,hW,rfl,ho,hb'⟩
    rw [HV.out] at hW
    exact ⟨⟨_,rfl,sc,Z,A7,n7,c7,rfl,hW,ho.lower hb.size⟩,hb'⟩)
 case fin=>
  intro v w' ho hb
  obtain ⟨sc,Z,A7,n7,c7,e10,hW,hO⟩:=ho.slot (d:=10) qF
  clear ho
  simp only [List.take,List.map_cons,List.map_nil,aK,Option.getD_some,bF,Act.put,List.setIfInBounds_toArray,List.set_cons_succ,List.set_cons_zero,e10]
  clear e10
  obtain ⟨q0,q1,q2,q3⟩:=ay.below BR.out hb qO
  have HW:=Lib.hid hW
  have HO:=Lib.hid hO
  have HB1:=Lib.hid (HB.out.trans (hb.mono HB.out.size))
  clear hW hO hb
  go_wp2_with fail
  refine bodyPost_ret (v:= .agg #[.bool sc, .slice A7 n7 c7]) ?_ rfl (d7.put HW.out (show w.heap.size≤w.heap.size+2 by omega) HO.out qO HB1.out)
  simp only [results,Tryz.results147]
  go_simp
theorem AP(hs:Sl .u32 w B A n c xs) (hB:B≤w.heap.size) (hx:Dg 4294967296 xs) (hn:n≤1000000):
 Calls Tryz.prog 120 #[.agg #[.bool s, .slice A n c]] w (d7 w (-bp s xs)):=by
 have HX:=Lib.hid hx
 clear hx
 obtain ⟨bX,bR,hlt,_⟩:=fP (w:=w) (v0:= .bool s) (v1:= .slice A n c) (u0:= .bool false) (u1:= .slice none 0 0) (t:=25) (t2:=25) (Below.refl _ _)
 have hb0:Below w.heap.size w ((w.alloc (.cells #[.bool s, .slice A n c] 25)).alloc (.cells #[.bool false, .slice none 0 0] 25)):=((Below.refl _ _).alloc (Nat.le_refl _) _).alloc qA _
 have hz:=eX w (.cells #[.bool s, .slice A n c] 25) (.cells #[.bool false, .slice none 0 0] 25)
 have HS:=Lib.hid (hs.below hb0 hB)
 have BR:=Lib.hid bR
 have HB:=Lib.hid hb0
 clear hs hb0 bX bR hlt
 go_enter Tryz.func120,Tryz.ntmps120
 go_wp2_with fail
 generalize (w.alloc (.cells #[.bool s, .slice A n c] 25)).alloc (.cells #[.bool false, .slice none 0 0] 25)=W0 at HS BR HB hz ⊢
 refine (De (Sl.nil (B:=B)) HS.out (Nat.le_trans hB HB.out.size) Dg.nil HX.out qO hn).mono ?_
 rintro e w1 ⟨sc,Z,A7,n7,c7,hW,rfl,ho,hb⟩
 rw [mY,Int.zero_sub] at hW
 have HW:=Lib.hid hW
 have HO:=Lib.hid (ho.lower (show w.heap.size+2≤_ by omega))
 have HB1:=Lib.hid (HB.out.trans (hb.mono HB.out.size))
 obtain ⟨p0,p1,p2,p3⟩:=ay.below BR.out hb qO
 clear hW ho hb HS
 go_wp2_with fail
 refine bodyPost_ret (v:= .agg #[.bool sc, .slice A7 n7 c7]) ?_ rfl (d7.put HW.out (Nat.le_succ _) HO.out qO HB1.out)
 simp only [results,Tryz.results120]
 go_simp
theorem lN{r1 r2 k:Nat} {T1 T2:TypeId} (u0 u1 v0 v1:Value) (h1:w.heap[r1]? =some (.cells #[.bool false, .slice none 0 0] T1 (0,0))) (h2:w.heap[r2]? =some (.cells #[.bool false, .slice none 0 0] T2 (0,0))) (hne:r1≠r2) (k1:k≤r1) (k2:k≤r2):
 ay ((((w.setCell ⟨r1,0,none⟩ u0).setCell ⟨r1,1,none⟩ u1).setCell ⟨r2,0,none⟩ v0).setCell ⟨r2,1,none⟩ v1) r1 u0 u1∧ay ((((w.setCell ⟨r1,0,none⟩ u0).setCell ⟨r1,1,none⟩ u1).setCell ⟨r2,0,none⟩ v0).setCell ⟨r2,1,none⟩ v1) r2 v0 v1∧
 Below k w ((((w.setCell ⟨r1,0,none⟩ u0).setCell ⟨r1,1,none⟩ u1).setCell ⟨r2,0,none⟩ v0).setCell ⟨r2,1,none⟩ v1)∧((((w.setCell ⟨r1,0,none⟩ u0).setCell ⟨r1,1,none⟩ u1).setCell ⟨r2,0,none⟩ v0).setCell ⟨r2,1,none⟩ v1).heap.size=w.heap.size:=
 ⟨(((fM h1).put u0 u1).other hne 0 v0).other hne 1 v1,(((fM h2).other hne.symm 0 u0).other hne.symm 1 u1).put v0 v1,
   ((((Below.refl _ _).setCell (p:=⟨r1,0,none⟩) k1 u0).setCell (p:=⟨r1,1,none⟩) k1 u1).setCell (p:=⟨r2,0,none⟩) k2 v0).setCell (p:=⟨r2,1,none⟩) k2 v1,by rw [cL,cL,cL,cL]⟩
def aM.ownN (B:Nat) (N:Int):aM:=⟨fun w v=>∃ A n c xs,v= .slice A n c∧fZ 4294967296 N xs∧bH .u32 115 w B A n c xs,fun ⟨A,n,c,xs,e,h,ho⟩ hb=>⟨A,n,c,xs,e,h,ho.below hb⟩⟩
theorem tF:aJ Tryz.prog 149:=fun _ _=>by kernel_rfl
theorem vW(hs:Sl .u32 w B A n c xs) (ht:Sl .u32 w B A2 m c2 ys) (hB:B≤w.heap.size) (hx:Dg 4294967296 xs) (hy:Dg 4294967296 ys) (hn:n≤1000000) (hm:m≤1000000):
 Calls Tryz.prog 123 #[.agg #[.bool s, .slice A n c], .agg #[.bool t, .slice A2 m c2]] w (d7 w (bp s xs*bp t ys)):=by
 obtain ⟨s',A',n',c',xs',hp⟩:=f9.ex s A n c xs
 obtain ⟨t',A2',m',c2',ys',hq⟩:=f9.ex t A2 m c2 ys
 obtain ⟨f1,f2,f3,f4,f5⟩:=hp.facts hs hx
 obtain ⟨g1,g2,g3,g4,g5⟩:=hq.facts ht hy
 have HV:=Lib.hid (show dz (s' != t') (val 4294967296 xs'*val 4294967296 ys')=bp s xs*bp t ys by rw [←f4,←g4,pB])
 obtain ⟨bX,bY,bR,hlt,_⟩:=ij (w:=w) (v0:= .bool s) (v1:= .slice A n c) (u0:= .bool t) (u1:= .slice A2 m c2) (x0:= .bool false) (x1:= .slice none 0 0) (t:=25) (t2:=25) (t3:=25) (Below.refl _ _)
 have hb0:Below w.heap.size w (((w.alloc (.cells #[.bool s, .slice A n c] 25)).alloc (.cells #[.bool t, .slice A2 m c2] 25)).alloc (.cells #[.bool false, .slice none 0 0] 25)):=
  (((Below.refl _ _).alloc (Nat.le_refl _) _).alloc qA _).alloc qM _
 have hz:=fl w (.cells #[.bool s, .slice A n c] 25) (.cells #[.bool t, .slice A2 m c2] 25) (.cells #[.bool false, .slice none 0 0] 25)
 have HS:=Lib.hid ((hs.below hb0 hB).more (Nat.le_trans hB hb0.size))
 have HT:=Lib.hid ((ht.below hb0 hB).more (Nat.le_trans hB hb0.size))
 have F1:=Lib.hid ((f1.below hb0 hB).more (Nat.le_trans hB hb0.size))
 have G1:=Lib.hid ((g1.below hb0 hB).more (Nat.le_trans hB hb0.size))
 have F2:=Lib.hid f2
 have G2:=Lib.hid g2
 have BX:=Lib.hid bX
 have BY:=Lib.hid bY
 have BR:=Lib.hid bR
 have HB:=Lib.hid hb0
 have HP:=Lib.hid hp
 have HQ:=Lib.hid hq
 clear hs ht hb0 bX bY bR hlt f1 f2 f3 f4 g1 g2 g3 g4 hp hq hx hy
 go_enter Tryz.func123,Tryz.ntmps123
 go_wp2_with fail
 generalize ((w.alloc (.cells #[.bool s, .slice A n c] 25)).alloc (.cells #[.bool t, .slice A2 m c2] 25)).alloc (.cells #[.bool false, .slice none 0 0] 25)=W0 at HS HT F1 G1 BX BY BR HB hz ⊢
 refine cF [(2,aM.is (.pointer (some ⟨w.heap.size,0,none⟩))),(3,aM.is (.pointer (some ⟨w.heap.size+1,0,none⟩))),(7,aM.is (.agg #[.bool s, .slice A n c])),(8,aM.is (jM s' A' n' c')),(9,aM.is (.agg #[.bool t, .slice A2 m c2])),(10,aM.is (jM t' A2' m' c2')),
  (5,aM.nbox W0.heap.size 207),(6,aM.nbox W0.heap.size 207)]
  [2,3] [] 22 6 qK qK rfl trivial ⟨rfl,rfl,trivial⟩ ?ok ?al ?fin
 case ok=>
  repeat' first
   |exact bf.nil
   |refine bf.run ?_ ?_
   |exact gQ (fun _ _ h=>h) (aG BX.out.1 qO) (aG BX.out.2.1 qO) (fun _=>rfl)
   |exact gQ (fun _ _ h=>h) (aG BY.out.1 qO) (aG BY.out.2.1 qO) (fun _=>rfl)
   |exact bA cG (T0:=fun _ v=>v= .agg #[.bool s, .slice A n c]) (fun _ _ h=>h) (fun W v0 hb h0=>by
    subst h0
    refine (dH HP.out (HS.out.below hb (Nat.le_refl _)) hb.size).mono ?_
    rintro e w' ⟨rfl,hb'⟩
    exact ⟨⟨_,rfl,rfl⟩,hb'⟩)
   |exact bA cG (T0:=fun _ v=>v= .agg #[.bool t, .slice A2 m c2]) (fun _ _ h=>h) (fun W v0 hb h0=>by
    subst h0
    refine (dH HQ.out (HT.out.below hb (Nat.le_refl _)) hb.size).mono ?_
    rintro e w' ⟨rfl,hb'⟩
    exact ⟨⟨_,rfl,rfl⟩,hb'⟩)
   |exact ox (fun _ _ h=>h)
 case al=>
  repeat' first
   |exact bt.nil
   |refine bt.cons ?_ ?_
   |exact fun T h ρ w=>mE ρ w
   |exact fun T h=>nomatch h
 case fin=>
  intro v w' ho ha hb
  obtain ⟨r1,e5,h51,h52,h53⟩:=ho.slot (d:=5) qF
  obtain ⟨r2,e6,h61,h62,h63⟩:=ho.slot (d:=6) qF
  have e8:v 8=jM s' A' n' c':=ho.slot (d:=8) qF
  have e10:v 10=jM t' A2' m' c2':=ho.slot (d:=10) qF
  have hne:r1≠r2:=fun h=>ha 4 5 _ _ _ _ qD rfl rfl rfl rfl rfl rfl (by show v 5=v 6;rw [e5,e6,h])
  clear ho ha
  obtain ⟨d1,d2,d3,d4⟩:=lN (k:=W0.heap.size) (.bool s') (.slice A' n' c') (.bool t') (.slice A2' m' c2') h53 h63 hne h51 h61
  have hne':=hne.symm
  obtain ⟨p0,p1,p2,p3⟩:=fM h53
  obtain ⟨q0,q1,q2,q3⟩:=fM h63
  have D1:=Lib.hid d1
  have D2:=Lib.hid d2
  have D3:=Lib.hid (hb.trans (d3.mono (Nat.le_refl _)))
  clear d1 d2 d3 h53 h63 hb
  simp only [List.take,List.drop,List.map_cons,List.map_nil,aK,Option.getD_some,bF,Act.put,List.setIfInBounds_toArray,List.set_cons_succ,List.set_cons_zero,e5,e6,e8,e10]
  go_wp2_with fail
  generalize (((w'.setCell ⟨r1,0,none⟩ (.bool s')).setCell ⟨r1,1,none⟩ (.slice A' n' c')).setCell ⟨r2,0,none⟩ (.bool t')).setCell ⟨r2,1,none⟩ (.slice A2' m' c2')=W1 at D1 D2 D3 d4 ⊢
  clear p0 p1 p2 p3 q0 q1 q2 q3 e5 e6 e8 e10 hne hne'
  have hr1:r1<W1.heap.size:=qO
  have hr2:r2<W1.heap.size:=qO
  have F3:=Lib.hid ((F1.out.below D3.out (Nat.le_refl _)).more D3.out.size)
  have G3:=Lib.hid ((G1.out.below D3.out (Nat.le_refl _)).more D3.out.size)
  have hf:=F1.out.len
  have hg:=G1.out.len
  refine dq [(5,aM.is (.pointer (some ⟨r1,0,none⟩))),(6,aM.is (.pointer (some ⟨r2,0,none⟩))),(11,aM.is (jM s' A' n' c')),(12,aM.is (jM t' A2' m' c2')),(13,aM.is (.bool (s' != t'))),(14,aM.is (.pointer (some ⟨r1,0,none⟩))),(15,aM.is (.pointer (some ⟨r1,1,none⟩))),(16,aM.is (.slice A' n' c')),
   (17,aM.is (.pointer (some ⟨r2,0,none⟩))),(18,aM.is (.pointer (some ⟨r2,1,none⟩))),(19,aM.is (.slice A2' m' c2')),(20,aM.ownN W1.heap.size (val 4294967296 xs'*val 4294967296 ys')),(21,aM.newI W1.heap.size (bp s xs*bp t ys))]
   [5,6] [] 22 11 qK rfl qK rfl trivial ⟨rfl,rfl,trivial⟩ ?ok ?fin
  case ok=>
   repeat' first
    |exact bI.nil
    |refine bI.cons ?_ ?_
    |exact i8 (fun _ _ h=>h) (aG D1.out.1 hr1) (aG D1.out.2.1 hr1) (fun _=>rfl)
    |exact i8 (fun _ _ h=>h) (aG D2.out.1 hr2) (aG D2.out.2.1 hr2) (fun _=>rfl)
    |exact mT (fun _ _ h=>h) (fun _=>rfl)
    |exact Aq (fun _ _ h=>h) (fun _=>rfl)
    |exact g9 (fun _ _ h=>h) (aG D1.out.2.1 hr1) (fun _=>rfl)
    |exact g9 (fun _ _ h=>h) (aG D2.out.2.1 hr2) (fun _=>rfl)
    |exact bZ gb (T0:=fun _ v=>v=jM s' A' n' c') (T1:=fun _ v=>v=jM t' A2' m' c2') (fun _ _ h=>h) (fun _ _ h=>h) (fun W v0 v1 hb h0 h1=>by
     subst h0
     subst h1
     refine dF.mono ?_
     rintro e w' ⟨rfl,hb'⟩
     exact ⟨⟨_,rfl,rfl⟩,hb'⟩)
    |exact bZ tF (T0:=fun _ v=>v= .slice A' n' c') (T1:=fun _ v=>v= .slice A2' m' c2') (fun _ _ h=>h) (fun _ _ h=>h) (fun W v0 v1 hb h0 h1=>by
     subst h0
     subst h1
     refine (Es (F3.out.below hb (Nat.le_refl _)) (G3.out.below hb (Nat.le_refl _)) hb.size F2.out G2.out qO qO).mono ?_
     rintro e w' ⟨zs,hr,A7,n7,c7,rfl,ho,hb'⟩
     exact ⟨⟨_,rfl,A7,n7,c7,zs,rfl,hr,ho.lower hb.size⟩,hb'⟩)
    |exact bZ dl (T0:=fun _ v=>v= .bool (s' != t')) (T1:=(aM.ownN W1.heap.size (val 4294967296 xs'*val 4294967296 ys')).holds) (fun _ _ h=>h) (fun _ _ h=>h) (fun W v0 v1 hb h0 h1=>by
     subst h0
     obtain ⟨A7,n7,c7,zs,rfl,hr,ho⟩:=h1
     refine dc.mono ?_
     rintro e w' ⟨rfl,hb'⟩
     have:=Whole.num (s:=s' != t') hr (gU hr) ho.len
     rw [HV.out] at this
     exact ⟨⟨_,rfl,_,zs,A7,n7,c7,rfl,this,ho.below hb'⟩,hb'⟩)
  case fin=>
   intro v w' ho hb
   obtain ⟨sc,Z,A7,n7,c7,e10,hW,hO⟩:=ho.slot (d:=21) qF
   clear ho
   simp only [List.take,List.map_cons,List.map_nil,aK,Option.getD_some,bF,Act.put,List.setIfInBounds_toArray,List.set_cons_succ,List.set_cons_zero,e10]
   clear e10
   have hz1:=D3.out.size
   obtain ⟨q0,q1,q2,q3⟩:=(ay.below BR.out (D3.out.trans (hb.mono hz1)) qO)
   have HW:=Lib.hid hW
   have HO:=Lib.hid hO
   have HB1:=Lib.hid (HB.out.trans ((D3.out.trans (hb.mono hz1)).mono HB.out.size))
   clear hW hO hb
   go_wp2_with fail
   refine bodyPost_ret (v:= .agg #[.bool sc, .slice A7 n7 c7]) ?_ rfl (d7.put HW.out (show w.heap.size≤w.heap.size+2 by omega) HO.out qO HB1.out)
   simp only [results,Tryz.results123]
   go_simp
theorem v6    (hs:Sl .u32 w B A n c xs) (ht:Sl .u32 w B A2 m c2 ys) (hB:B≤w.heap.size) (hx:Dg 4294967296 xs) (hy:Dg 4294967296 ys) (hn:n≤1000000000) (hm:m≤1000000000):
 Calls Tryz.prog 117 #[.agg #[.bool s, .slice A n c], .agg #[.bool t, .slice A2 m c2]] w (Cw w (bp s xs) (bp t ys)):=by
 obtain ⟨s',A',n',c',xs',hp⟩:=f9.ex s A n c xs
 obtain ⟨t',A2',m',c2',ys',hq⟩:=f9.ex t A2 m c2 ys
 obtain ⟨f1,f2,f3,f4,f5⟩:=hp.facts hs hx
 obtain ⟨g1,g2,g3,g4,g5⟩:=hq.facts ht hy
 obtain ⟨k1,k2,k3,k4⟩:=rO f4 g4 (am qD f2) (am qD g2) (fun h=>mL f2 f3 h) (fun h=>mL g2 g3 h)
 have K1:=Lib.hid k1
 have K2:=Lib.hid k2
 have K3:=Lib.hid k3
 have K4:=Lib.hid k4
 clear k1 k2 k3 k4
 obtain ⟨bX,bY,hlt,_⟩:=fP (w:=w) (v0:= .bool s) (v1:= .slice A n c) (u0:= .bool t) (u1:= .slice A2 m c2) (t:=25) (t2:=25) (Below.refl _ _)
 have hb0:Below w.heap.size w ((w.alloc (.cells #[.bool s, .slice A n c] 25)).alloc (.cells #[.bool t, .slice A2 m c2] 25)):=(((Below.refl _ _).alloc qO _).alloc qA _)
 have hz:=eX w (.cells #[.bool s, .slice A n c] 25) (.cells #[.bool t, .slice A2 m c2] 25)
 have HS:=Lib.hid ((hs.below hb0 hB).more (Nat.le_trans hB hb0.size))
 have HT:=Lib.hid ((ht.below hb0 hB).more (Nat.le_trans hB hb0.size))
 have F1:=Lib.hid ((f1.below hb0 hB).more (Nat.le_trans hB hb0.size))
 have G1:=Lib.hid ((g1.below hb0 hB).more (Nat.le_trans hB hb0.size))
 have F2:=Lib.hid f2
 have G2:=Lib.hid g2
 have BX:=Lib.hid bX
 have BY:=Lib.hid bY
 have HB:=Lib.hid hb0
 have HP:=Lib.hid hp
 have HQ:=Lib.hid hq
 clear hs ht hb0 bX bY hlt f1 f2 f3 f4 g1 g2 g3 g4 hp hq hx hy
 go_enter Tryz.func117,Tryz.ntmps117
 go_wp2_with fail
 generalize ((w.alloc (.cells #[.bool s, .slice A n c] 25)).alloc (.cells #[.bool t, .slice A2 m c2] 25))=W0 at HS HT F1 G1 BX BY HB hz ⊢
 refine cF [(2,aM.is (.pointer (some ⟨w.heap.size,0,none⟩))),(3,aM.is (.pointer (some ⟨w.heap.size+1,0,none⟩))),(7,aM.is (.agg #[.bool s, .slice A n c])),(8,aM.is (jM s' A' n' c')),(9,aM.is (.agg #[.bool t, .slice A2 m c2])),(10,aM.is (jM t' A2' m' c2')),
  (5,aM.nbox W0.heap.size 207),(6,aM.nbox W0.heap.size 207)]
  [2,3] [] 42 6 qK qK rfl trivial ⟨rfl,rfl,trivial⟩ ?ok ?al ?fin
 case ok=>
  repeat' first
   |exact bf.nil
   |refine bf.run ?_ ?_
   |exact gQ (fun _ _ h=>h) (aG BX.out.1 qO) (aG BX.out.2.1 qO) (fun _=>rfl)
   |exact gQ (fun _ _ h=>h) (aG BY.out.1 qO) (aG BY.out.2.1 qO) (fun _=>rfl)
   |exact bA cG (T0:=fun _ v=>v= .agg #[.bool s, .slice A n c]) (fun _ _ h=>h) (fun W v0 hb h0=>by
    subst h0
    refine (dH HP.out (HS.out.below hb (Nat.le_refl _)) hb.size).mono ?_
    rintro e w' ⟨rfl,hb'⟩
    exact ⟨⟨_,rfl,rfl⟩,hb'⟩)
   |exact bA cG (T0:=fun _ v=>v= .agg #[.bool t, .slice A2 m c2]) (fun _ _ h=>h) (fun W v0 hb h0=>by
    subst h0
    refine (dH HQ.out (HT.out.below hb (Nat.le_refl _)) hb.size).mono ?_
    rintro e w' ⟨rfl,hb'⟩
    exact ⟨⟨_,rfl,rfl⟩,hb'⟩)
   |exact ox (fun _ _ h=>h)
 case al=>
  repeat' first
   |exact bt.nil
   |refine bt.cons ?_ ?_
   |exact fun T h ρ w=>mE ρ w
   |exact fun T h=>nomatch h
 case fin=>
  intro v w' ho ha hb
  obtain ⟨r1,e5,h51,h52,h53⟩:=ho.slot (d:=5) qF
  obtain ⟨r2,e6,h61,h62,h63⟩:=ho.slot (d:=6) qF
  have e8:v 8=jM s' A' n' c':=ho.slot (d:=8) qF
  have e10:v 10=jM t' A2' m' c2':=ho.slot (d:=10) qF
  have hne:r1≠r2:=fun h=>ha 4 5 _ _ _ _ qD rfl rfl rfl rfl rfl rfl (by show v 5=v 6;rw [e5,e6,h])
  clear ho ha
  obtain ⟨d1,d2,d3,d4⟩:=lN (k:=W0.heap.size) (.bool s') (.slice A' n' c') (.bool t') (.slice A2' m' c2') h53 h63 hne h51 h61
  have hne':=hne.symm
  obtain ⟨p0,p1,p2,p3⟩:=fM h53
  obtain ⟨q0,q1,q2,q3⟩:=fM h63
  have D1:=Lib.hid d1
  have D2:=Lib.hid d2
  have D3:=Lib.hid (hb.trans (d3.mono (Nat.le_refl _)))
  clear d1 d2 d3 h53 h63 hb
  simp only [List.take,List.drop,List.map_cons,List.map_nil,aK,Option.getD_some,bF,Act.put,List.setIfInBounds_toArray,List.set_cons_succ,List.set_cons_zero,e5,e6,e8,e10]
  rcases s' with _|_<;>rcases t' with _|_
  ·have EK:=Lib.hid (K4.out rfl rfl)
   clear K1 K2 K3 K4
   go_wp2_with fail
   generalize (((w'.setCell ⟨r1,0,none⟩ (.bool false)).setCell ⟨r1,1,none⟩ (.slice A' n' c')).setCell ⟨r2,0,none⟩ (.bool false)).setCell ⟨r2,1,none⟩ (.slice A2' m' c2')=W1 at D1 D2 D3 d4 ⊢
   clear p0 p1 p2 p3 q0 q1 q2 q3 e5 e6 e8 e10
   have hr1:r1<W1.heap.size:=qO
   have hr2:r2<W1.heap.size:=qO
   have hz1:=D3.out.size
   refine dF.mono ?_
   rintro e w3 ⟨rfl,hb⟩
   obtain ⟨p0,p1,p2,p3⟩:=ay.below D1.out hb hr1
   obtain ⟨q0,q1,q2,q3⟩:=ay.below D2.out hb hr2
   have D5:=Lib.hid (D3.out.trans (hb.mono hz1))
   have hr3:r1<w3.heap.size:=Nat.lt_of_lt_of_le hr1 hb.size
   have hr4:r2<w3.heap.size:=Nat.lt_of_lt_of_le hr2 hb.size
   have D6:=Lib.hid (ay.below D1.out hb hr1)
   have D7:=Lib.hid (ay.below D2.out hb hr2)
   clear hb
   go_wp2_with fail
   refine dF.mono ?_
   rintro e w4 ⟨rfl,hb⟩
   have hz3:=D5.out.size
   have D8:=Lib.hid (D5.out.trans (hb.mono hz3))
   clear p0 p1 p2 p3 q0 q1 q2 q3
   obtain ⟨p0,p1,p2,p3⟩:=ay.below D6.out hb hr3
   obtain ⟨q0,q1,q2,q3⟩:=ay.below D7.out hb hr4
   clear hb
   have hz8:=D8.out.size
   go_wp2_with fail
   refine (iI ((F1.out.below D8.out (Nat.le_refl _)).more hz8) ((G1.out.below D8.out (Nat.le_refl _)).more hz8) F2.out G2.out).mono ?_
   rintro e w5 ⟨hce,k,rfl⟩
   unfold jq at hce
   subst hce
   rw [←EK.out]
   go_wp2_with fail
   go_ret
   exact ⟨rfl,Below.drewN' (HB.out.trans (D8.out.mono HB.out.size)) k⟩
  ·have EK:=Lib.hid (K2.out rfl rfl)
   clear K1 K2 K3 K4
   go_wp2_with fail
   generalize (((w'.setCell ⟨r1,0,none⟩ (.bool false)).setCell ⟨r1,1,none⟩ (.slice A' n' c')).setCell ⟨r2,0,none⟩ (.bool true)).setCell ⟨r2,1,none⟩ (.slice A2' m' c2')=W1 at D1 D2 D3 d4 ⊢
   clear p0 p1 p2 p3 q0 q1 q2 q3 e5 e6 e8 e10
   have hr1:r1<W1.heap.size:=qO
   have hr2:r2<W1.heap.size:=qO
   have hz1:=D3.out.size
   refine dF.mono ?_
   rintro e w3 ⟨rfl,hb⟩
   obtain ⟨p0,p1,p2,p3⟩:=ay.below D1.out hb hr1
   obtain ⟨q0,q1,q2,q3⟩:=ay.below D2.out hb hr2
   have D5:=Lib.hid (D3.out.trans (hb.mono hz1))
   have hr3:r1<w3.heap.size:=Nat.lt_of_lt_of_le hr1 hb.size
   have hr4:r2<w3.heap.size:=Nat.lt_of_lt_of_le hr2 hb.size
   have D6:=Lib.hid (ay.below D1.out hb hr1)
   have D7:=Lib.hid (ay.below D2.out hb hr2)
   clear hb
   go_wp2_with fail
   refine dF.mono ?_
   rintro e w4 ⟨rfl,hb⟩
   have hz3:=D5.out.size
   have D8:=Lib.hid (D5.out.trans (hb.mono hz3))
   clear p0 p1 p2 p3 q0 q1 q2 q3
   obtain ⟨p0,p1,p2,p3⟩:=ay.below D6.out hb hr3
   obtain ⟨q0,q1,q2,q3⟩:=ay.below D7.out hb hr4
   clear hb
   go_wp2_with fail
   go_ret
   exact ⟨by rw [EK.out];rfl,HB.out.trans (D8.out.mono HB.out.size)⟩
  ·have EK:=Lib.hid (K1.out rfl rfl)
   clear K1 K2 K3 K4
   go_wp2_with fail
   generalize (((w'.setCell ⟨r1,0,none⟩ (.bool true)).setCell ⟨r1,1,none⟩ (.slice A' n' c')).setCell ⟨r2,0,none⟩ (.bool false)).setCell ⟨r2,1,none⟩ (.slice A2' m' c2')=W1 at D1 D2 D3 d4 ⊢
   clear p0 p1 p2 p3 q0 q1 q2 q3 e5 e6 e8 e10
   have hr1:r1<W1.heap.size:=qO
   have hr2:r2<W1.heap.size:=qO
   have hz1:=D3.out.size
   refine dF.mono ?_
   rintro e w3 ⟨rfl,hb⟩
   obtain ⟨p0,p1,p2,p3⟩:=ay.below D1.out hb hr1
   obtain ⟨q0,q1,q2,q3⟩:=ay.below D2.out hb hr2
   have D5:=Lib.hid (D3.out.trans (hb.mono hz1))
   have hr3:r1<w3.heap.size:=Nat.lt_of_lt_of_le hr1 hb.size
   have hr4:r2<w3.heap.size:=Nat.lt_of_lt_of_le hr2 hb.size
   have D6:=Lib.hid (ay.below D1.out hb hr1)
   have D7:=Lib.hid (ay.below D2.out hb hr2)
   clear hb
   go_wp2_with fail
   go_ret
   exact ⟨by rw [EK.out];rfl,HB.out.trans (D5.out.mono HB.out.size)⟩
  ·have EK:=Lib.hid (K3.out rfl rfl)
   clear K1 K2 K3 K4
   go_wp2_with fail
   generalize (((w'.setCell ⟨r1,0,none⟩ (.bool true)).setCell ⟨r1,1,none⟩ (.slice A' n' c')).setCell ⟨r2,0,none⟩ (.bool true)).setCell ⟨r2,1,none⟩ (.slice A2' m' c2')=W1 at D1 D2 D3 d4 ⊢
   clear p0 p1 p2 p3 q0 q1 q2 q3 e5 e6 e8 e10
   have hr1:r1<W1.heap.size:=qO
   have hr2:r2<W1.heap.size:=qO
   have hz1:=D3.out.size
   refine dF.mono ?_
   rintro e w3 ⟨rfl,hb⟩
   obtain ⟨p0,p1,p2,p3⟩:=ay.below D1.out hb hr1
   obtain ⟨q0,q1,q2,q3⟩:=ay.below D2.out hb hr2
   have D5:=Lib.hid (D3.out.trans (hb.mono hz1))
   have hr3:r1<w3.heap.size:=Nat.lt_of_lt_of_le hr1 hb.size
   have hr4:r2<w3.heap.size:=Nat.lt_of_lt_of_le hr2 hb.size
   have D6:=Lib.hid (ay.below D1.out hb hr1)
   have D7:=Lib.hid (ay.below D2.out hb hr2)
   clear hb
   go_wp2_with fail
   refine dF.mono ?_
   rintro e w4 ⟨rfl,hb⟩
   have hz3:=D5.out.size
   have D8:=Lib.hid (D5.out.trans (hb.mono hz3))
   clear p0 p1 p2 p3 q0 q1 q2 q3
   obtain ⟨p0,p1,p2,p3⟩:=ay.below D6.out hb hr3
   obtain ⟨q0,q1,q2,q3⟩:=ay.below D7.out hb hr4
   clear hb
   have hz8:=D8.out.size
   go_wp2_with fail
   refine (iI ((G1.out.below D8.out (Nat.le_refl _)).more hz8) ((F1.out.below D8.out (Nat.le_refl _)).more hz8) G2.out F2.out).mono ?_
   rintro e w5 ⟨hce,k,rfl⟩
   unfold jq at hce
   subst hce
   rw [←EK.out]
   go_wp2_with fail
   go_ret
   exact ⟨rfl,Below.drewN' (HB.out.trans (D8.out.mono HB.out.size)) k⟩
theorem zG(hs:Sl .u32 w B A n c xs) (hB:B≤w.heap.size) (hx:Dg 4294967296 xs) (hn:n≤1000000000):
 Calls Tryz.prog 76 #[.agg #[.bool s, .slice A n c]] w (Cw w (bp s xs) 0):=by
 have HX:=Lib.hid hx
 clear hx
 go_enter Tryz.func76,Tryz.ntmps76
 go_wp2_with fail
 refine (v6 (hs.alloc hB _) (Sl.nil (B:=B)) qA HX.out Dg.nil hn qO).mono ?_
 rintro e w1 ⟨rfl,hb⟩
 rw [mY]
 have HB:=Lib.hid (cW hb)
 clear hb
 go_wp2_with fail
 go_ret
 exact ⟨rfl,HB.out⟩
def aM.rowsS (l:List (List Int)):aM:=⟨fun w v=>∃ A n c,v= .slice A n c∧nR w w.heap.size A n c l,fun ⟨A,n,c,e,h⟩ hb=>⟨A,n,c,e,(h.below hb (Nat.le_refl _)).more hb.size⟩⟩
theorem y6 {E:List (Nat×aM)} {w0:World} {d:Nat} {ty:TypeId} {pos:String} {af:Array Edge} {gd:Option (Nat×Bool)} {o0 o1:Operand} {A A2:Option Addr} {n c m c2:Nat} {xs ys:List Int} (h0:fW E o0 (.slice A n c)) (h1:fW E o1 (.slice A2 m c2))
 (hs:Sl .u32 w0 w0.heap.size A n c xs) (ht:Sl .u32 w0 w0.heap.size A2 m c2 ys) (hd:∀ w v,(aM.rowsS [xs,ys]).holds w v→(aN E d).holds w v):
 cC Tryz.prog E w0 ⟨some d, .buildSlice 213 2 #[(0,o0),(1,o1)],ty,pos,af,gd⟩:=by
 intro ρ w hc hf hb hsl
 have e0:=fW.at_ hc hsl (o:=o0) qI h0
 have e1:=fW.at_ hc hsl (o:=o1) qI h1
 have h2:=nR.two w (Nat.le_refl _) ((hs.below hb (Nat.le_refl _)).more hb.size) ((ht.below hb (Nat.le_refl _)).more hb.size) 23
 clear h0 h1 hsl hc hf hs ht
 unfold Yields
 go_simp
 exact ⟨hd _ _ ⟨_,_,_,rfl,h2.more (by rw [ak];exact Nat.le_refl _)⟩,(Below.refl _ _).alloc (Nat.le_refl _) _⟩
theorem tR:aJ Tryz.prog 144:=fun _ _=>by kernel_rfl
theorem Bu    (hs:Sl .u32 w B A n c xs) (ht:Sl .u32 w B A2 m c2 ys) (hB:B≤w.heap.size) (hE:f_ w) (hE0:3<w.heap.size) (hx:Dg 4294967296 xs) (hy:Dg 4294967296 ys) (hn:n≤2000) (hm:m≤2000):
 Calls Tryz.prog 118 #[.agg #[.bool s, .slice A n c], .agg #[.bool t, .slice A2 m c2]] w (d7 w (cJ ((bp s xs).natAbs:Int) ((bp t ys).natAbs:Int))):=by
 obtain ⟨s',A',n',c',xs',hp⟩:=f9.ex s A n c xs
 obtain ⟨t',A2',m',c2',ys',hq⟩:=f9.ex t A2 m c2 ys
 obtain ⟨f1,f2,f3,f4,f5⟩:=hp.facts hs hx
 obtain ⟨g1,g2,g3,g4,g5⟩:=hq.facts ht hy
 have e1:((bp s xs).natAbs:Int)=val 4294967296 xs':=by rw [←f4];exact ko (am qD f2)
 have e2:((bp t ys).natAbs:Int)=val 4294967296 ys':=by rw [←g4];exact ko (am qD g2)
 have HV:=Lib.hid (show m6 0 [xs',ys']=cJ ((bp s xs).natAbs:Int) ((bp t ys).natAbs:Int) by
  rw [e1,e2]
  simp only [m6]
  rw [jD 0,iP (am qD f2)])
 have HE:=Lib.hid hE
 clear e1 e2 hE
 obtain ⟨bX,bY,bR,hlt,_⟩:=ij (w:=w) (v0:= .bool s) (v1:= .slice A n c) (u0:= .bool t) (u1:= .slice A2 m c2) (x0:= .bool false) (x1:= .slice none 0 0) (t:=25) (t2:=25) (t3:=25) (Below.refl _ _)
 have hb0:Below w.heap.size w (((w.alloc (.cells #[.bool s, .slice A n c] 25)).alloc (.cells #[.bool t, .slice A2 m c2] 25)).alloc (.cells #[.bool false, .slice none 0 0] 25)):=((((Below.refl _ _).alloc qO _).alloc qA _).alloc qM _)
 have hz:=fl w (.cells #[.bool s, .slice A n c] 25) (.cells #[.bool t, .slice A2 m c2] 25) (.cells #[.bool false, .slice none 0 0] 25)
 have HS:=Lib.hid ((hs.below hb0 hB).more (Nat.le_trans hB hb0.size))
 have HT:=Lib.hid ((ht.below hb0 hB).more (Nat.le_trans hB hb0.size))
 have F1:=Lib.hid ((f1.below hb0 hB).more (Nat.le_trans hB hb0.size))
 have G1:=Lib.hid ((g1.below hb0 hB).more (Nat.le_trans hB hb0.size))
 have F2:=Lib.hid f2
 have G2:=Lib.hid g2
 have BX:=Lib.hid bX
 have BY:=Lib.hid bY
 have BR:=Lib.hid bR
 have HB:=Lib.hid hb0
 have HP:=Lib.hid hp
 have HQ:=Lib.hid hq
 clear hs ht hb0 bX bY bR hlt f1 f2 f3 f4 g1 g2 g3 g4 hp hq hx hy
 go_enter Tryz.func118,Tryz.ntmps118
 go_wp2_with fail
 generalize (((w.alloc (.cells #[.bool s, .slice A n c] 25)).alloc (.cells #[.bool t, .slice A2 m c2] 25)).alloc (.cells #[.bool false, .slice none 0 0] 25))=W0 at HS HT F1 G1 BX BY BR HB hz ⊢
 have hlx:=F1.out.len
 have hly:=G1.out.len
 refine dq [(2,aM.is (.pointer (some ⟨w.heap.size,0,none⟩))),(3,aM.is (.pointer (some ⟨w.heap.size+1,0,none⟩))),(5,aM.is (.agg #[.bool s, .slice A n c])),(6,aM.is (jM s' A' n' c')),(7,aM.is (jM s' A' n' c')),(8,aM.is (.slice A' n' c')),
  (9,aM.is (.agg #[.bool t, .slice A2 m c2])),(10,aM.is (jM t' A2' m' c2')),(11,aM.is (jM t' A2' m' c2')),(12,aM.is (.slice A2' m' c2')),(13,aM.rowsS [xs',ys']),(14,aM.ownN W0.heap.size (cJ ((bp s xs).natAbs:Int) ((bp t ys).natAbs:Int))),(15,aM.newI W0.heap.size (cJ ((bp s xs).natAbs:Int) ((bp t ys).natAbs:Int)))]
  [2,3] [] 16 11 qK rfl qK rfl trivial ⟨rfl,rfl,trivial⟩ ?ok ?fin
 case ok=>
  repeat' first
   |exact bI.nil
   |refine bI.cons ?_ ?_
   |exact gQ (fun _ _ h=>h) (aG BX.out.1 qO) (aG BX.out.2.1 qO) (fun _=>rfl)
   |exact gQ (fun _ _ h=>h) (aG BY.out.1 qO) (aG BY.out.2.1 qO) (fun _=>rfl)
   |exact bA cG (T0:=fun _ v=>v= .agg #[.bool s, .slice A n c]) (fun _ _ h=>h) (fun W v0 hb h0=>by
    subst h0
    refine (dH HP.out (HS.out.below hb (Nat.le_refl _)) hb.size).mono ?_
    rintro e w' ⟨rfl,hb'⟩
    exact ⟨⟨_,rfl,rfl⟩,hb'⟩)
   |exact bA cG (T0:=fun _ v=>v= .agg #[.bool t, .slice A2 m c2]) (fun _ _ h=>h) (fun W v0 hb h0=>by
    subst h0
    refine (dH HQ.out (HT.out.below hb (Nat.le_refl _)) hb.size).mono ?_
    rintro e w' ⟨rfl,hb'⟩
    exact ⟨⟨_,rfl,rfl⟩,hb'⟩)
   |exact zk (fun _ _ h=>h) (fun _=>rfl)
   |exact wx (fun _ _ h=>h) (fun _=>rfl)
   |exact y6 (fun _ _ h=>h) (fun _ _ h=>h) F1.out G1.out (fun _ _ h=>h)
   |exact bA tR (T0:=(aM.rowsS [xs',ys']).holds) (fun _ _ h=>h) (fun W v0 hb h0=>by
    obtain ⟨A5,n5,c5,rfl,h5⟩:=h0
    refine (FG (M:=2000) h5 (Nat.le_refl _) (HE.out.below (HB.out.trans (hb.mono HB.out.size)) hE0) (by have:=HB.out.size;have:=hb.size;omega) (by simp [F2.out,G2.out];omega) qO).mono ?_
    rintro e w' ⟨zs,hr,A7,n7,c7,rfl,ho,hb'⟩
    rw [HV.out] at hr
    exact ⟨⟨_,rfl,A7,n7,c7,zs,rfl,hr,ho.lower hb.size⟩,hb'⟩)
   |exact bZ dl (T0:=fun _ v=>v= .bool false) (T1:=(aM.ownN W0.heap.size (cJ ((bp s xs).natAbs:Int) ((bp t ys).natAbs:Int))).holds) (fun _=>rfl) (fun _ _ h=>h) (fun W v0 v1 hb h0 h1=>by
    subst h0
    obtain ⟨A7,n7,c7,zs,rfl,hr,ho⟩:=h1
    refine dc.mono ?_
    rintro e w' ⟨rfl,hb'⟩
    have:=Whole.num (s:=false) hr (gU hr) ho.len
    rw [cZ] at this
    exact ⟨⟨_,rfl,_,zs,A7,n7,c7,rfl,this,ho.below hb'⟩,hb'⟩)
 case fin=>
  intro v w' ho hb
  obtain ⟨sc,Z,A7,n7,c7,e10,hW,hO⟩:=ho.slot (d:=15) qF
  clear ho
  simp only [List.take,List.map_cons,List.map_nil,aK,Option.getD_some,bF,Act.put,List.setIfInBounds_toArray,List.set_cons_succ,List.set_cons_zero,e10]
  clear e10
  obtain ⟨q0,q1,q2,q3⟩:=ay.below BR.out hb qO
  have HW:=Lib.hid hW
  have HO:=Lib.hid hO
  have HB1:=Lib.hid (HB.out.trans (hb.mono HB.out.size))
  clear hW hO hb
  go_wp2_with fail
  refine bodyPost_ret (v:= .agg #[.bool sc, .slice A7 n7 c7]) ?_ rfl (d7.put HW.out (show w.heap.size≤w.heap.size+2 by omega) HO.out qO HB1.out)
  simp only [results,Tryz.results118]
  go_simp
def yZ (w:World) (a b:Int) (e:Ending) (w':World):Prop:=
 (b=0∧e= .returned (.tuple #[.agg #[.bool false, .slice none 0 0], .agg #[.bool false, .slice none 0 0], .int .i64 20])∧Below w.heap.size w w')∨
 (b≠0∧∃ s1 qs s2 rs A1 n1 c1 A2 n2 c2,e= .returned (.tuple #[.agg #[.bool s1, .slice A1 n1 c1], .agg #[.bool s2, .slice A2 n2 c2], .int .i64 0])∧Whole (a.fdiv b) s1 qs∧Whole (a.fmod b) s2 rs∧bH .u32 115 w' w.heap.size A1 n1 c1 qs∧bH .u32 115 w' w.heap.size A2 n2 c2 rs∧Sep A1 A2∧Below w.heap.size w w')
theorem yZ.put {w w1:World} {B:Nat} {a b:Int} {s1 s2:Bool} {qs rs:List Int} {A1 A2:Option Addr} {n1 c1 n2 c2:Nat} {u v x y:Value} (hb0:b≠0) (hq:Whole (a.fdiv b) s1 qs) (hr:Whole (a.fmod b) s2 rs) (o1:bH .u32 115 w1 B A1 n1 c1 qs) (o2:bH .u32 115 w1 B A2 n2 c2 rs) (hs:Sep A1 A2) (hB:w.heap.size+3<B) (hb:Below w.heap.size w w1):
 yZ w a b (.returned (.tuple #[.agg #[.bool s1, .slice A1 n1 c1], .agg #[.bool s2, .slice A2 n2 c2], .int .i64 0])) ((((w1.setCell ⟨w.heap.size+2,0,none⟩ u).setCell ⟨w.heap.size+2,1,none⟩ v).setCell ⟨w.heap.size+3,0,none⟩ x).setCell ⟨w.heap.size+3,1,none⟩ y):=
 .inr ⟨hb0,s1,qs,s2,rs,A1,n1,c1,A2,n2,c2,rfl,hq,hr,((((o1.box qO 0 u).box qO 1 v).box (r:=w.heap.size+3) qO 0 x).box qO 1 y).lower qO,((((o2.box qO 0 u).box qO 1 v).box (r:=w.heap.size+3) qO 0 x).box qO 1 y).lower qO,hs,
  (((hb.setCell (p:=⟨w.heap.size+2,0,none⟩) (show w.heap.size≤w.heap.size+2 by omega) u).setCell (p:=⟨w.heap.size+2,1,none⟩) (show w.heap.size≤w.heap.size+2 by omega) v).setCell (p:=⟨w.heap.size+3,0,none⟩) (show w.heap.size≤w.heap.size+3 by omega) x).setCell (p:=⟨w.heap.size+3,1,none⟩) (show w.heap.size≤w.heap.size+3 by omega) y⟩
theorem CE(h:(s != t)=false):s=t:=by cases s<;>cases t<;>first|rfl|cases h
theorem tB(h:(s != t)=true):s≠t:=by cases s<;>cases t<;>first|(intro e;cases e;done)|cases h
theorem CG(h:(s != t)=true) (q r U:Int):dz (s != t) q - 1=dz (s != t) (q+1)∧dz s r+dz t U=dz t (U - r):=by
 rw [h]
 have hne:=tB h
 refine ⟨by rw [cX,cX];omega,?_⟩
 cases s<;>cases t
 ·exact absurd rfl hne
 ·rw [cZ,cX,cX];omega
 ·rw [cZ,cX,cZ];omega
 ·exact absurd rfl hne
theorem ph{V U:Int} (hU:0<U):
 ((s != t)=false∨V%U=0→(dz s V).fdiv (dz t U)=dz (s != t) (V / U)∧(dz s V).fmod (dz t U)=dz t (V%U))∧
 ((s != t)=true∧V%U≠0→(dz s V).fdiv (dz t U)=dz (s != t) (V / U+1)∧(dz s V).fmod (dz t U)=dz t (U - V%U)):=by
 have h1:V=V / U*U+V%U:=by rw [Int.mul_comm];exact (Int.mul_ediv_add_emod V U).symm
 have h2:=Int.emod_nonneg V (show U≠0 by omega)
 have h3:=Int.emod_lt_of_pos V hU
 refine ⟨fun h=> ?_,fun ⟨h,h0⟩=> ?_⟩
 ·have h4:V%U=0∨s=t:=by
   rcases h with h|h
   ·exact .inr (CE h)
   ·exact .inl h
  obtain ⟨e1,e2⟩:=mD (s:=s) (t:=t) h1 h2 h3 h4
  refine ⟨e1,e2.trans ?_⟩
  rcases h4 with h4|h4
  ·rw [h4];cases s<;>cases t<;>rfl
  ·rw [h4]
 ·obtain ⟨e1,e2⟩:=kI (s:=s) (t:=t) h1 qO h3 (tB h)
  obtain ⟨e3,e4⟩:=CG h (V / U) (V%U) U
  exact ⟨e1.trans e3,e2.trans e4⟩
theorem FD(h:n≠0):(0:Int)<(n:Int):=qO
theorem tZ    (hs:Sl .u32 w B A n c xs) (ht:Sl .u32 w B A2 m c2 ys) (hB:B≤w.heap.size) (hE:f_ w) (hE0:3<w.heap.size) (hx:Dg 4294967296 xs) (hy:Dg 4294967296 ys) (hn:n≤100000000) (hm:m≤100000000):
 Calls Tryz.prog 150 #[.agg #[.bool s, .slice A n c], .agg #[.bool t, .slice A2 m c2]] w (yZ w (bp s xs) (bp t ys)):=by
 obtain ⟨s',A',n',c',xs',hp⟩:=f9.ex s A n c xs
 obtain ⟨t',A2',m',c2',ys',hq⟩:=f9.ex t A2 m c2 ys
 obtain ⟨f1,f2,f3,f4,f5⟩:=hp.facts hs hx
 obtain ⟨g1,g2,g3,g4,g5⟩:=hq.facts ht hy
 have v0:=am (β:=4294967296) qD f2
 have u0:=am (β:=4294967296) qD g2
 have HN:=Lib.hid f4
 have HM:=Lib.hid g4
 have HFP:=Lib.hid (fun h:0<val 4294967296 ys'=>ph (s:=s') (t:=t') (V:=val 4294967296 xs') h)
 have HE:=Lib.hid hE
 clear hE v0
 obtain ⟨bX,bY,bR,bS,hlt,_⟩:=ur (w:=w) (v0:= .bool s) (v1:= .slice A n c) (u0:= .bool t) (u1:= .slice A2 m c2) (x0:= .bool false) (x1:= .slice none 0 0) (y0:= .bool false) (y1:= .slice none 0 0) (t:=25) (t2:=25) (t3:=25) (t4:=25) (Below.refl _ _)
 have hb0:Below w.heap.size w ((((w.alloc (.cells #[.bool s, .slice A n c] 25)).alloc (.cells #[.bool t, .slice A2 m c2] 25)).alloc (.cells #[.bool false, .slice none 0 0] 25)).alloc (.cells #[.bool false, .slice none 0 0] 25)):=(((((Below.refl _ _).alloc qO _).alloc qA _).alloc qM _).alloc (by rw [fl];omega) _)
 have hz:=sN w (.cells #[.bool s, .slice A n c] 25) (.cells #[.bool t, .slice A2 m c2] 25) (.cells #[.bool false, .slice none 0 0] 25) (.cells #[.bool false, .slice none 0 0] 25)
 have HS:=Lib.hid ((hs.below hb0 hB).more (Nat.le_trans hB hb0.size))
 have HT:=Lib.hid ((ht.below hb0 hB).more (Nat.le_trans hB hb0.size))
 have F1:=Lib.hid ((f1.below hb0 hB).more (Nat.le_trans hB hb0.size))
 have G1:=Lib.hid ((g1.below hb0 hB).more (Nat.le_trans hB hb0.size))
 have F2:=Lib.hid f2
 have G2:=Lib.hid g2
 have BX:=Lib.hid bX
 have BY:=Lib.hid bY
 have BR:=Lib.hid bR
 have BS:=Lib.hid bS
 have HB:=Lib.hid hb0
 have HP:=Lib.hid hp
 have HQ:=Lib.hid hq
 clear hs ht hb0 bX bY bR bS hlt f1 f2 f3 f4 g1 g2 g3 g4 hp hq hx hy
 go_enter Tryz.func150,Tryz.ntmps150
 go_wp2_with fail
 generalize ((((w.alloc (.cells #[.bool s, .slice A n c] 25)).alloc (.cells #[.bool t, .slice A2 m c2] 25)).alloc (.cells #[.bool false, .slice none 0 0] 25)).alloc (.cells #[.bool false, .slice none 0 0] 25))=W0 at HS HT F1 G1 BX BY BR BS HB hz ⊢
 refine cF [(2,aM.is (.pointer (some ⟨w.heap.size,0,none⟩))),(3,aM.is (.pointer (some ⟨w.heap.size+1,0,none⟩))),(11,aM.is (.agg #[.bool s, .slice A n c])),(12,aM.is (jM s' A' n' c')),(13,aM.is (.agg #[.bool t, .slice A2 m c2])),(14,aM.is (jM t' A2' m' c2')),
  (7,aM.nbox W0.heap.size 207),(8,aM.nbox W0.heap.size 207)]
  [2,3] [] 60 6 qK qK rfl trivial ⟨rfl,rfl,trivial⟩ ?ok ?al ?fin
 case ok=>
  repeat' first
   |exact bf.nil
   |refine bf.run ?_ ?_
   |exact gQ (fun _ _ h=>h) (aG BX.out.1 qO) (aG BX.out.2.1 qO) (fun _=>rfl)
   |exact gQ (fun _ _ h=>h) (aG BY.out.1 qO) (aG BY.out.2.1 qO) (fun _=>rfl)
   |exact bA cG (T0:=fun _ v=>v= .agg #[.bool s, .slice A n c]) (fun _ _ h=>h) (fun W v0 hb h0=>by
    subst h0
    refine (dH HP.out (HS.out.below hb (Nat.le_refl _)) hb.size).mono ?_
    rintro e w' ⟨rfl,hb'⟩
    exact ⟨⟨_,rfl,rfl⟩,hb'⟩)
   |exact bA cG (T0:=fun _ v=>v= .agg #[.bool t, .slice A2 m c2]) (fun _ _ h=>h) (fun W v0 hb h0=>by
    subst h0
    refine (dH HQ.out (HT.out.below hb (Nat.le_refl _)) hb.size).mono ?_
    rintro e w' ⟨rfl,hb'⟩
    exact ⟨⟨_,rfl,rfl⟩,hb'⟩)
   |exact ox (fun _ _ h=>h)
 case al=>
  repeat' first
   |exact bt.nil
   |refine bt.cons ?_ ?_
   |exact fun T h ρ w=>mE ρ w
   |exact fun T h=>nomatch h
 case fin=>
  intro v w' ho ha hb
  obtain ⟨r1,e5,h51,h52,h53⟩:=ho.slot (d:=7) qF
  obtain ⟨r2,e6,h61,h62,h63⟩:=ho.slot (d:=8) qF
  have e8:v 12=jM s' A' n' c':=ho.slot (d:=12) qF
  have e10:v 14=jM t' A2' m' c2':=ho.slot (d:=14) qF
  have hne:r1≠r2:=fun h=>ha 4 5 _ _ _ _ qD rfl rfl rfl rfl rfl rfl (by show v 7=v 8;rw [e5,e6,h])
  clear ho ha
  obtain ⟨d1,d2,d3,d4⟩:=lN (k:=W0.heap.size) (.bool s') (.slice A' n' c') (.bool t') (.slice A2' m' c2') h53 h63 hne h51 h61
  have hne':=hne.symm
  obtain ⟨p0,p1,p2,p3⟩:=fM h53
  obtain ⟨q0,q1,q2,q3⟩:=fM h63
  have D1:=Lib.hid d1
  have D2:=Lib.hid d2
  have D3:=Lib.hid (hb.trans (d3.mono (Nat.le_refl _)))
  clear d1 d2 d3 h53 h63 hb
  simp only [List.take,List.drop,List.map_cons,List.map_nil,aK,Option.getD_some,bF,Act.put,List.setIfInBounds_toArray,List.set_cons_succ,List.set_cons_zero,e5,e6,e8,e10]
  go_wp2_with fail
  generalize (((w'.setCell ⟨r1,0,none⟩ (.bool s')).setCell ⟨r1,1,none⟩ (.slice A' n' c')).setCell ⟨r2,0,none⟩ (.bool t')).setCell ⟨r2,1,none⟩ (.slice A2' m' c2')=W1 at D1 D2 D3 d4 ⊢
  clear p0 p1 p2 p3 q0 q1 q2 q3 e5 e6 e8 e10 hne hne'
  have hr1:r1<W1.heap.size:=qO
  have hr2:r2<W1.heap.size:=qO
  have F3:=Lib.hid ((F1.out.below D3.out (Nat.le_refl _)).more D3.out.size)
  have G3:=Lib.hid ((G1.out.below D3.out (Nat.le_refl _)).more D3.out.size)
  have hf:=F1.out.len
  have hg:=G1.out.len
  have hz1:=D3.out.size
  have hW1:w.heap.size+4≤W1.heap.size:=qO
  have HB1:=Lib.hid (HB.out.trans (D3.out.mono HB.out.size))
  have BR1:=Lib.hid (ay.below BR.out D3.out qO)
  have BS1:=Lib.hid (ay.below BS.out D3.out qO)
  refine (qW F3.out G3.out (Nat.le_refl _) (HE.out.below HB1.out hE0) (by have:=HB1.out.size;omega) F2.out G2.out qO qO).mono ?_
  rintro e w3 (⟨hz0,rfl,hb⟩|⟨hpos,qs,rs,A5,n5,c5,A6,n6,c6,rfl,hq,hr,o5,o6,hsep,hb⟩)
  ·have HZ:=Lib.hid (show bp t ys=0 by rw [←HM.out,hz0];cases t'<;>rfl)
   obtain ⟨p0,p1,p2,p3⟩:=ay.below BR1.out hb qO
   obtain ⟨q0,q1,q2,q3⟩:=ay.below BS1.out hb qO
   have HB3:=Lib.hid (HB1.out.trans (hb.mono HB1.out.size))
   clear hb hz0 u0
   go_wp2_with fail
   refine bodyPost_ret (v:= .tuple #[.agg #[.bool false, .slice none 0 0], .agg #[.bool false, .slice none 0 0], .int .i64 20]) ?_ rfl (.inl ⟨HZ.out,rfl,(((HB3.out.setCell (p:=⟨w.heap.size+2,0,none⟩) (show w.heap.size≤w.heap.size+2 by omega) _).setCell (p:=⟨w.heap.size+2,1,none⟩) (show w.heap.size≤w.heap.size+2 by omega) _).setCell (p:=⟨w.heap.size+3,0,none⟩) (show w.heap.size≤w.heap.size+3 by omega) _).setCell (p:=⟨w.heap.size+3,1,none⟩) (show w.heap.size≤w.heap.size+3 by omega) _⟩)
   simp only [results,Tryz.results150]
   go_simp
  ·obtain ⟨k1,k2⟩:=HFP.out hpos
   have hM0:bp t ys≠0:=by rw [←HM.out];cases t'<;>simp [dz]<;>omega
   rw [HN.out,HM.out] at k1 k2
   have K1:=Lib.hid k1
   have K2:=Lib.hid k2
   have HM0:=Lib.hid hM0
   have RQ:=Lib.hid hq
   have RR:=Lib.hid hr
   have O5:=Lib.hid o5
   have O6:=Lib.hid o6
   have SEP:=Lib.hid hsep
   have D5:=Lib.hid (D1.out.below hb hr1)
   have D6:=Lib.hid (D2.out.below hb hr2)
   have BR3:=Lib.hid (ay.below BR1.out hb qO)
   have BS3:=Lib.hid (ay.below BS1.out hb qO)
   have HB3:=Lib.hid (HB1.out.trans (hb.mono HB1.out.size))
   have F5:=Lib.hid ((F3.out.below hb (Nat.le_refl _)).more hb.size)
   have G5:=Lib.hid ((G3.out.below hb (Nat.le_refl _)).more hb.size)
   have hz3:=hb.size
   have l5:=o5.len
   have l6:=o6.len
   have hr3:r1<w3.heap.size:=qO
   have hr4:r2<w3.heap.size:=qO
   obtain ⟨p0,p1,p2,p3⟩:=D1.out.below hb hr1
   obtain ⟨q0,q1,q2,q3⟩:=D2.out.below hb hr2
   clear k1 k2 hM0 hq hr o5 o6 hsep hb D1 D2 F3 G3 BR1 BS1 HB1 HFP HN HM BX BY HS HT F1 G1 D3
   go_wp2_with fail
   refine dF.mono ?_
   rintro e w4 ⟨rfl,hb⟩
   have hz4:=hb.size
   have O5':=Lib.hid (O5.out.below hb)
   have O6':=Lib.hid (O6.out.below hb)
   have D5':=Lib.hid (D5.out.below hb hr3)
   have D6':=Lib.hid (D6.out.below hb hr4)
   have BR4:=Lib.hid (ay.below BR3.out hb qO)
   have BS4:=Lib.hid (ay.below BS3.out hb qO)
   have HB4:=Lib.hid (HB3.out.trans (hb.mono HB3.out.size))
   have G6:=Lib.hid ((G5.out.below hb (Nat.le_refl _)).more hb.size)
   have hr5:r1<w4.heap.size:=qO
   have hr6:r2<w4.heap.size:=qO
   clear p0 p1 p2 p3 q0 q1 q2 q3
   obtain ⟨p0,p1,p2,p3⟩:=D5.out.below hb hr3
   obtain ⟨q0,q1,q2,q3⟩:=D6.out.below hb hr4
   clear hb O5 O6 D5 D6 BR3 BS3 HB3 F5 G5
   by_cases hdown:(s' != t')=true∧n6≠0
   ·obtain ⟨hu,hn6⟩:=hdown
    have hrem:val 4294967296 xs'%val 4294967296 ys'≠0:=fun h=>hn6 (by
     have:=Tr.zero qD RR.out.dg RR.out.tr (RR.out.val.trans h)
     rw [this] at l6
     exact l6.symm)
    obtain ⟨k1,k2⟩:=K2.out ⟨hu,hrem⟩
    have K3:=Lib.hid k1
    have K4:=Lib.hid k2
    have hg6:=FD hn6
    have rr0:=gU RR.out
    have hle:=Int.le_of_lt (Int.emod_lt_of_pos (val 4294967296 xs') hpos)
    have hqb:n5≤1000000000 - 10:=by
     have hd:val 4294967296 xs' / val 4294967296 ys'≤val 4294967296 xs':=Int.ediv_le_self _ (am qD F2.out)
     have:=RQ.out.len_le (k:=n') qD (by have:=bQ (β:=4294967296) (by decide) F2.out;rw [hf] at this;omega)
     omega
    clear k1 k2 hrem K1 K2
    go_wp2_with fail
    refine (Ec (O5'.out.sl.alloc (Nat.le_refl _) _ |>.more (Nat.le_succ _)) (I9 w4 w4.heap.size rfl 1 115) (by rw [ak];exact Nat.le_refl _) RQ.out.dg (JR qO) qO qO).mono ?_
    rintro e w5 ⟨zs,hz,A7,n7,c7,rfl,o7,hb⟩
    have hb':=cW hb
    have v1:val 4294967296 [1]=1:=by simp [val]
    rw [RQ.out.val,v1] at hz
    have RZ:=Lib.hid hz
    have O7:=Lib.hid (o7.lower (show w4.heap.size≤_ by rw [ak];exact Nat.le_succ _))
    have O6a:=Lib.hid (O6'.out.below hb')
    have D6a:=Lib.hid (D6'.out.below hb' hr6)
    have D5a:=Lib.hid (D5'.out.below hb' hr5)
    have BR5:=Lib.hid (ay.below BR4.out hb' qO)
    have BS5:=Lib.hid (ay.below BS4.out hb' qO)
    have HB5:=Lib.hid (HB4.out.trans (hb'.mono HB4.out.size))
    have G7:=Lib.hid ((G6.out.below hb' (Nat.le_refl _)).more hb'.size)
    have hz5:=hb'.size
    have hr7:r1<w5.heap.size:=qO
    have hr8:r2<w5.heap.size:=qO
    clear p0 p1 p2 p3 q0 q1 q2 q3
    obtain ⟨q0,q1,q2,q3⟩:=D6'.out.below hb' hr6
    clear hb hb' hz o7 O6' D6' D5' BR4 BS4 HB4 G6 O5'
    go_wp2_with fail
    refine (nC G7.out O6a.out.sl (Nat.le_refl _) G2.out RR.out.dg (show val 4294967296 rs≤val 4294967296 ys' by rw [RR.out.val];exact hle) qO).mono ?_
    rintro e w6 ⟨ws,A8,n8,c8,hw,rfl,o8,hb⟩
    rw [RR.out.val] at hw
    have RW:=Lib.hid hw
    have SP:=Lib.hid (Sep.symm (show Sep A8 A7 from O7.out.apart o8 (Nat.le_refl _)))
    have O8:=Lib.hid (o8.lower (show w4.heap.size≤_ by omega))
    have O7a:=Lib.hid (O7.out.below hb)
    have D5b:=Lib.hid (D5a.out.below hb hr7)
    have D6b:=Lib.hid (D6a.out.below hb hr8)
    have BR6:=Lib.hid (ay.below BR5.out hb qO)
    have BS6:=Lib.hid (ay.below BS5.out hb qO)
    have HB6:=Lib.hid (HB5.out.trans (hb.mono HB5.out.size))
    have hz6:=hb.size
    have hr9:r1<w6.heap.size:=qO
    have hrA:r2<w6.heap.size:=qO
    have WQ:=Lib.hid (show Whole ((bp s xs).fdiv (bp t ys)) (cD (s' != t') n7) zs by
     have:=Whole.num (s:=s' != t') RZ.out (gU RZ.out) O7.out.len
     rw [←K3.out] at this
     exact this)
    have WR:=Lib.hid (show Whole ((bp s xs).fmod (bp t ys)) (cD t' n8) ws by
     have:=Whole.num (s:=t') RW.out (gU RW.out) O8.out.len
     rw [←K4.out] at this
     exact this)
    clear hb hw o8 O7 D5a D6a BR5 BS5 HB5 K3 K4 q0 q1 q2 q3 hu hg6 G7 O6a
    go_wp2_with fail
    refine cF [(7,aM.is (.pointer (some ⟨r1,0,none⟩))),(8,aM.is (.pointer (some ⟨r2,0,none⟩))),(9,aM.is (.slice A7 n7 c7)),(10,aM.is (.slice A8 n8 c8)),(50,aM.is (jM s' A' n' c')),(51,aM.is (jM t' A2' m' c2')),(52,aM.is (.bool (s' != t'))),(53,aM.is (.slice A7 n7 c7)),(54,aM.is (.agg #[.bool (cD (s' != t') n7), .slice A7 n7 c7])),
     (55,aM.is (.pointer (some ⟨r2,0,none⟩))),(56,aM.is (.pointer (some ⟨r2,0,none⟩))),(57,aM.is (.bool t')),(58,aM.is (.slice A8 n8 c8)),(59,aM.is (.agg #[.bool (cD t' n8), .slice A8 n8 c8]))]
     [7,8,9,10] [] 60 10 qK qK rfl trivial ⟨rfl,rfl,rfl,rfl,trivial⟩ ?ok ?al ?fin
    case ok=>
     repeat' first
      |exact bf.nil
      |refine bf.run ?_ ?_
      |exact i8 (fun _ _ h=>h) (aG D5b.out.1 hr9) (aG D5b.out.2.1 hr9) (fun _=>rfl)
      |exact i8 (fun _ _ h=>h) (aG D6b.out.1 hrA) (aG D6b.out.2.1 hrA) (fun _=>rfl)
      |exact mT (fun _ _ h=>h) (fun _=>rfl)
      |exact oa (fun _ _ h=>h) (fun _=>rfl)
      |exact g_ (fun _ _ h=>h) (aG D6b.out.1 hrA) (fun _=>rfl)
      |exact jO fun _ _ h=>h
      |exact bZ gb (T0:=fun _ v=>v=jM s' A' n' c') (T1:=fun _ v=>v=jM t' A2' m' c2') (fun _ _ h=>h) (fun _ _ h=>h) (fun W v0 v1 hb h0 h1=>by
       subst h0
       subst h1
       refine dF.mono ?_
       rintro e w' ⟨rfl,hb'⟩
       exact ⟨⟨_,rfl,rfl⟩,hb'⟩)
      |exact bZ dl (T0:=fun _ v=>v= .bool (s' != t')) (T1:=fun _ v=>v= .slice A7 n7 c7) (fun _ _ h=>h) (fun _ _ h=>h) (fun W v0 v1 hb h0 h1=>by
       subst h0
       subst h1
       refine dc.mono ?_
       rintro e w' ⟨rfl,hb'⟩
       exact ⟨⟨_,rfl,rfl⟩,hb'⟩)
      |exact bZ dl (T0:=fun _ v=>v= .bool t') (T1:=fun _ v=>v= .slice A8 n8 c8) (fun _ _ h=>h) (fun _ _ h=>h) (fun W v0 v1 hb h0 h1=>by
       subst h0
       subst h1
       refine dc.mono ?_
       rintro e w' ⟨rfl,hb'⟩
       exact ⟨⟨_,rfl,rfl⟩,hb'⟩)
    case al=>
     repeat' first
      |exact bt.nil
      |refine bt.cons ?_ ?_
      |exact fun T h=>nomatch h
    case fin=>
     intro v w' ho _ hb
     have e54:v 54= .agg #[.bool (cD (s' != t') n7), .slice A7 n7 c7]:=ho.slot (d:=54) qF
     have e59:v 59= .agg #[.bool (cD t' n8), .slice A8 n8 c8]:=ho.slot (d:=59) qF
     clear ho
     simp only [List.take,List.drop,List.map_cons,List.map_nil,aK,Option.getD_some,bF,Act.put,List.setIfInBounds_toArray,List.set_cons_succ,List.set_cons_zero,e54,e59]
     clear e54 e59
     obtain ⟨x0,x1,x2,x3⟩:=ay.below BR6.out hb qO
     obtain ⟨y0,y1,y2,y3⟩:=ay.below BS6.out hb qO
     have O7z:=Lib.hid (O7a.out.below hb)
     have O8z:=Lib.hid (O8.out.below hb)
     have HBz:=Lib.hid (HB6.out.trans (hb.mono HB6.out.size))
     clear hb
     go_wp2_with fail
     refine bodyPost_ret (v:= .tuple #[.agg #[.bool (cD (s' != t') n7), .slice A7 n7 c7], .agg #[.bool (cD t' n8), .slice A8 n8 c8], .int .i64 0]) ?_ rfl (yZ.put HM0.out WQ.out WR.out O7z.out O8z.out SP.out qO HBz.out)
     simp only [results,Tryz.results150]
     go_simp
   ·have hor:(s' != t')=false∨val 4294967296 xs'%val 4294967296 ys'=0:=by
     rcases hu:(s' != t') with _|_
     ·exact .inl rfl
     ·refine .inr ?_
      have h0:n6=0:=Classical.byContradiction fun h=>hdown ⟨hu,h⟩
      rw [h0] at l6
      rw [←RR.out.val,List.eq_nil_of_length_eq_zero l6]
      rfl
    obtain ⟨k1,k2⟩:=K1.out hor
    have WQ:=Lib.hid (show Whole ((bp s xs).fdiv (bp t ys)) (cD (s' != t') n5) qs by
     have:=Whole.num (s:=s' != t') RQ.out (gU RQ.out) l5
     rw [←k1] at this
     exact this)
    have WR:=Lib.hid (show Whole ((bp s xs).fmod (bp t ys)) (cD t' n6) rs by
     have:=Whole.num (s:=t') RR.out (gU RR.out) l6
     rw [←k2] at this
     exact this)
    have O5a:=Lib.hid (O5'.out.raise O5'.out)
    clear k1 k2 K1 K2 hor G6 RQ RR u0 hpos
    rcases hu:(s' != t') with _|_
    ·rw [hu] at WQ
     clear hdown
     go_wp2_with fail
     refine cF [(7,aM.is (.pointer (some ⟨r1,0,none⟩))),(8,aM.is (.pointer (some ⟨r2,0,none⟩))),(9,aM.is (.slice A5 n5 c5)),(10,aM.is (.slice A6 n6 c6)),(50,aM.is (jM s' A' n' c')),(51,aM.is (jM t' A2' m' c2')),(52,aM.is (.bool false)),(53,aM.is (.slice A5 n5 c5)),(54,aM.is (.agg #[.bool (cD false n5), .slice A5 n5 c5])),
      (55,aM.is (.pointer (some ⟨r2,0,none⟩))),(56,aM.is (.pointer (some ⟨r2,0,none⟩))),(57,aM.is (.bool t')),(58,aM.is (.slice A6 n6 c6)),(59,aM.is (.agg #[.bool (cD t' n6), .slice A6 n6 c6]))]
      [7,8,9,10] [] 60 10 qK qK rfl trivial ⟨rfl,rfl,rfl,rfl,trivial⟩ ?ok ?al ?fin
     case ok=>
      repeat' first
       |exact bf.nil
       |refine bf.run ?_ ?_
       |exact i8 (fun _ _ h=>h) (aG D5'.out.1 hr5) (aG D5'.out.2.1 hr5) (fun _=>rfl)
       |exact i8 (fun _ _ h=>h) (aG D6'.out.1 hr6) (aG D6'.out.2.1 hr6) (fun _=>rfl)
       |exact mT (fun _ _ h=>h) (fun _=>rfl)
       |exact oa (fun _ _ h=>h) (fun _=>rfl)
       |exact g_ (fun _ _ h=>h) (aG D6'.out.1 hr6) (fun _=>rfl)
       |exact jO fun _ _ h=>h
       |exact bZ gb (T0:=fun _ v=>v=jM s' A' n' c') (T1:=fun _ v=>v=jM t' A2' m' c2') (fun _ _ h=>h) (fun _ _ h=>h) (fun W v0 v1 hb h0 h1=>by
        subst h0
        subst h1
        refine dF.mono ?_
        rintro e w' ⟨rfl,hb'⟩
        exact ⟨⟨_,rfl,by show Value.bool _=_;rw [hu]⟩,hb'⟩)
       |exact bZ dl (T0:=fun _ v=>v= .bool false) (T1:=fun _ v=>v= .slice A5 n5 c5) (fun _ _ h=>h) (fun _ _ h=>h) (fun W v0 v1 hb h0 h1=>by
        subst h0
        subst h1
        refine dc.mono ?_
        rintro e w' ⟨rfl,hb'⟩
        exact ⟨⟨_,rfl,rfl⟩,hb'⟩)
       |exact bZ dl (T0:=fun _ v=>v= .bool t') (T1:=fun _ v=>v= .slice A6 n6 c6) (fun _ _ h=>h) (fun _ _ h=>h) (fun W v0 v1 hb h0 h1=>by
        subst h0
        subst h1
        refine dc.mono ?_
        rintro e w' ⟨rfl,hb'⟩
        exact ⟨⟨_,rfl,rfl⟩,hb'⟩)
     case al=>
      repeat' first
       |exact bt.nil
       |refine bt.cons ?_ ?_
       |exact fun T h=>nomatch h
     case fin=>
      intro v w' ho _ hb
      have e54:v 54= .agg #[.bool (cD false n5), .slice A5 n5 c5]:=ho.slot (d:=54) qF
      have e59:v 59= .agg #[.bool (cD t' n6), .slice A6 n6 c6]:=ho.slot (d:=59) qF
      clear ho
      simp only [List.take,List.drop,List.map_cons,List.map_nil,aK,Option.getD_some,bF,Act.put,List.setIfInBounds_toArray,List.set_cons_succ,List.set_cons_zero,e54,e59]
      clear e54 e59
      obtain ⟨x0,x1,x2,x3⟩:=ay.below BR4.out hb qO
      obtain ⟨y0,y1,y2,y3⟩:=ay.below BS4.out hb qO
      have O7z:=Lib.hid (O5'.out.below hb)
      have O8z:=Lib.hid (O6'.out.below hb)
      have HBz:=Lib.hid (HB4.out.trans (hb.mono HB4.out.size))
      clear hb
      go_wp2_with fail
      refine bodyPost_ret (v:= .tuple #[.agg #[.bool (cD false n5), .slice A5 n5 c5], .agg #[.bool (cD t' n6), .slice A6 n6 c6], .int .i64 0]) ?_ rfl (yZ.put HM0.out WQ.out WR.out O7z.out O8z.out SEP.out qO HBz.out)
      simp only [results,Tryz.results150]
      go_simp
    ·have hn6:n6=0:=Classical.byContradiction fun h=>hdown ⟨hu,h⟩
     subst hn6
     rw [hu] at WQ
     clear hdown
     go_wp2_with fail
     refine cF [(7,aM.is (.pointer (some ⟨r1,0,none⟩))),(8,aM.is (.pointer (some ⟨r2,0,none⟩))),(9,aM.is (.slice A5 n5 c5)),(10,aM.is (.slice A6 0 c6)),(50,aM.is (jM s' A' n' c')),(51,aM.is (jM t' A2' m' c2')),(52,aM.is (.bool true)),(53,aM.is (.slice A5 n5 c5)),(54,aM.is (.agg #[.bool (cD true n5), .slice A5 n5 c5])),
      (55,aM.is (.pointer (some ⟨r2,0,none⟩))),(56,aM.is (.pointer (some ⟨r2,0,none⟩))),(57,aM.is (.bool t')),(58,aM.is (.slice A6 0 c6)),(59,aM.is (.agg #[.bool (cD t' 0), .slice A6 0 c6]))]
      [7,8,9,10] [] 60 10 qK qK rfl trivial ⟨rfl,rfl,rfl,rfl,trivial⟩ ?ok ?al ?fin
     case ok=>
      repeat' first
       |exact bf.nil
       |refine bf.run ?_ ?_
       |exact i8 (fun _ _ h=>h) (aG D5'.out.1 hr5) (aG D5'.out.2.1 hr5) (fun _=>rfl)
       |exact i8 (fun _ _ h=>h) (aG D6'.out.1 hr6) (aG D6'.out.2.1 hr6) (fun _=>rfl)
       |exact mT (fun _ _ h=>h) (fun _=>rfl)
       |exact oa (fun _ _ h=>h) (fun _=>rfl)
       |exact g_ (fun _ _ h=>h) (aG D6'.out.1 hr6) (fun _=>rfl)
       |exact jO fun _ _ h=>h
       |exact bZ gb (T0:=fun _ v=>v=jM s' A' n' c') (T1:=fun _ v=>v=jM t' A2' m' c2') (fun _ _ h=>h) (fun _ _ h=>h) (fun W v0 v1 hb h0 h1=>by
        subst h0
        subst h1
        refine dF.mono ?_
        rintro e w' ⟨rfl,hb'⟩
        exact ⟨⟨_,rfl,by show Value.bool _=_;rw [hu]⟩,hb'⟩)
       |exact bZ dl (T0:=fun _ v=>v= .bool true) (T1:=fun _ v=>v= .slice A5 n5 c5) (fun _ _ h=>h) (fun _ _ h=>h) (fun W v0 v1 hb h0 h1=>by
        subst h0
        subst h1
        refine dc.mono ?_
        rintro e w' ⟨rfl,hb'⟩
        exact ⟨⟨_,rfl,rfl⟩,hb'⟩)
       |exact bZ dl (T0:=fun _ v=>v= .bool t') (T1:=fun _ v=>v= .slice A6 0 c6) (fun _ _ h=>h) (fun _ _ h=>h) (fun W v0 v1 hb h0 h1=>by
        subst h0
        subst h1
        refine dc.mono ?_
        rintro e w' ⟨rfl,hb'⟩
        exact ⟨⟨_,rfl,rfl⟩,hb'⟩)
     case al=>
      repeat' first
       |exact bt.nil
       |refine bt.cons ?_ ?_
       |exact fun T h=>nomatch h
     case fin=>
      intro v w' ho _ hb
      have e54:v 54= .agg #[.bool (cD true n5), .slice A5 n5 c5]:=ho.slot (d:=54) qF
      have e59:v 59= .agg #[.bool (cD t' 0), .slice A6 0 c6]:=ho.slot (d:=59) qF
      clear ho
      simp only [List.take,List.drop,List.map_cons,List.map_nil,aK,Option.getD_some,bF,Act.put,List.setIfInBounds_toArray,List.set_cons_succ,List.set_cons_zero,e54,e59]
      clear e54 e59
      obtain ⟨x0,x1,x2,x3⟩:=ay.below BR4.out hb qO
      obtain ⟨y0,y1,y2,y3⟩:=ay.below BS4.out hb qO
      have O7z:=Lib.hid (O5'.out.below hb)
      have O8z:=Lib.hid (O6'.out.below hb)
      have HBz:=Lib.hid (HB4.out.trans (hb.mono HB4.out.size))
      clear hb
      go_wp2_with fail
      refine bodyPost_ret (v:= .tuple #[.agg #[.bool (cD true n5), .slice A5 n5 c5], .agg #[.bool (cD t' 0), .slice A6 0 c6], .int .i64 0]) ?_ rfl (yZ.put HM0.out WQ.out WR.out O7z.out O8z.out SEP.out qO HBz.out)
      simp only [results,Tryz.results150]
      go_simp
end Go.Proofs.YtpmhjieibebclaaGreatDoor
