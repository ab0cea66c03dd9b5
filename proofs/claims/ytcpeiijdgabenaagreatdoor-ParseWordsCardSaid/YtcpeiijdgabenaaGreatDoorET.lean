/- Package parse: words, their places; what may follow. -/
import Derived.Test.YtcpeiijdgabenaaGreatDoorES
import Derived.Test.YtcpeiijdgabenaaGreatDoorShelf
import Derived.Test.YtcpeiijdgabenaaGreatDoorER
set_option maxHeartbeats 4000000
set_option maxRecDepth 20000
set_option synthInstance.maxHeartbeats 400000
set_option synthInstance.maxSize 4000
set_option linter.unusedSimpArgs false
set_option linter.unusedVariables false
namespace Go.Proofs.YtcpeiijdgabenaaGreatDoor
open Go Go.RowKit
variable {r off B:Nat} {w:World} {f:FuncId} {As:List ai}
def ul:List Int:=[0,12,12,16,32,64,128,132864,132864,132608,261120,261120,259072,254976,254976,230400,197632,2]
def Hk (v:Value):Prop:=v= .nilIface∨∃ te pe,v= .iface te pe
structure fE (w:World):Prop where
 env:vE w
 sp : Lib.TabIs Tryz.prog w "strings.asciiSpace" .u8 Lib.asciiSpaceTab
 bh:∀ (i:Nat) (z:Int),ul[i]? =some z→w.cell? ⟨0,i,none⟩=some (.int .u32 z)
 es:∃ ev,w.cell? ⟨4,0,none⟩=some ev∧Hk ev
 er:∃ ev,w.cell? ⟨5,0,none⟩=some ev∧Hk ev
theorem km{w':World} {p:Addr} {v:Value} (h:w.cell? p=some v) (hb:Below w.heap.size w w'):w'.cell? p=some v:=(hb.cell (p:=p) (World.block_lt_of_cell? _ _ h)).trans h
theorem yu {w w' : World} (h : Lib.TabIs Tryz.prog w "strings.asciiSpace" .u8 Lib.asciiSpaceTab) (hb : Below w.heap.size w w') : Lib.TabIs Tryz.prog w' "strings.asciiSpace" .u8 Lib.asciiSpaceTab := by
 have hg : Tryz.prog.globalNamed "strings.asciiSpace" = some 1 := by kernel_rfl
 unfold Lib.TabIs World.var? at h ⊢
 rw [hg] at h ⊢
 simp only [Option.bind_some] at h ⊢
 have hlt:1<w.heap.size:=by
  rcases Nat.lt_or_ge 1 w.heap.size with h'|h'
  ·exact h'
  ·rw [Array.getElem?_eq_none h'] at h;cases h
 rw [hb.block _ hlt]
 exact h
instance:jL fE:=⟨fun h hb=>⟨jL.stab h.env hb,yu h.sp hb,fun i z hz=>km (h.bh i z hz) hb,h.es.imp fun _ g=>⟨km g.1 hb,g.2⟩,h.er.imp fun _ g=>⟨km g.1 hb,g.2⟩⟩⟩
theorem qw {x:Int} (h:0≤x∧x<256):IntKind.u8.wrap x=x:=by
 obtain ⟨h0,h1⟩:=h
 rw [IntKind.wrap_u8]
 omega
theorem wi:∀ {ws:List (List UInt8)} {t:List UInt8} {i:Nat},ws[i]? =some t→0<dE ws t∧dE ws t≤i+1
 |[],_,_,h=>by simp at h
 |w::ws,t,0,h=>by
  obtain rfl:w=t:=by simpa using h
  unfold dE
  simp
 |w::ws,t,i+1,h=>by
  obtain ⟨h1,h2⟩:=wi (ws:=ws) (i:=i) (by simpa using h)
  unfold dE
  cases w==t
  ·rw [show (dE ws t==0)=false from beq_eq_false_iff_ne.2 qO]
   simp only [cond_false]
   omega
  ·simp
theorem sZ:∀ {ws:List (List UInt8)} {t:List UInt8} {i:Nat},dE ws t=i+1→ws[i]? =some t
 |[],_,_,h=>by simp [dE] at h
 |w::ws,t,i,h=>by
  unfold dE at h
  cases hw:w==t with
  |true=>
   rw [hw,cond_true] at h
   obtain rfl:i=0:=qO
   rw [eq_of_beq hw]
   rfl
  |false=>
   rw [hw,cond_false] at h
   cases h0:dE ws t==0 with
   |true=>rw [h0,cond_true] at h;omega
   |false=>
    rw [h0,cond_false] at h
    have h1:dE ws t≠0:=beq_eq_false_iff_ne.1 h0
    obtain ⟨j,rfl⟩:∃ j,i=j+1:=⟨i - 1,by omega⟩
    have:=sZ (ws:=ws) (t:=t) (i:=j) qO
    simpa using this
theorem ux {l:List UInt8} (hl:l.length<4294967281) (ha:∀ (j:Nat) b,l[j]? =some b→b.toNat<128):dB Tryz.prog fE 79 [0] [.is (Tx l)] (fun _=> .vs ((Lib.fields l).map Tx)):=
 ⟨fun _ _=>by kernel_rfl,fun _ h=>h,fun {X w vs} hG hX h=>by
  obtain ⟨x,rfl,e⟩:=h.one
  rw [show x=Tx l from e]
  refine (Tryz.strings_Fields ⟨l.toArray⟩ w (by rw [fR];exact hl) (by rw [bU];exact ha) hG.sp).mono ?_
  rintro e w' ⟨rfl,rfl⟩
  rw [bU]
  refine ⟨_,rfl,⟨w.heap.size,by rw [List.length_map],cZ.new6 hX _,fun j u hj=>eX (iw w _) (by simpa using hj)⟩,(Below.refl _ _).alloc (Nat.le_refl _) _⟩⟩
theorem GB {ws:List (List UInt8)} {t:List UInt8} (hl:ws.length≤1000000):dB Tryz.prog S1 78 [0,0] [.vs (ws.map Tx), .is (Tx t)] (fun _=> .is (.int .i64 ((dE ws t:Int) - 1))):=by
 have hle:=mo ws t
 refine fA Tryz.func78 rfl Tryz.ntmps78 qE (fun _ _=>by kernel_rfl) fun X w hE=> ?_
 simp only [bf,Nat.zero_add,Nat.reduceAdd]
 repeat' first|kernel_rfl|apply aF|apply aG|apply aI|apply aD|apply aH|apply aM|apply aN|apply aA|apply aE|apply be|apply aq|apply a_|apply a8|apply aB|refine fm rfl ?_|apply bl|apply bO|apply bN|apply eo|apply em|refine eu rfl ?_|apply ep|apply ew|apply bc|exact dw|exact gI qL|exact cT|exact cC qL|exact aL|exact bj qG|exact bG qL|exact aj|exact ab|exact ah|exact au qG|exact bu qG|exact am|exact aK qL|exact ae|exact Cv.rfl'|intro _
 refine kd fun a w h=> ?_
 refine iG (fun k a w=>∃ i:Nat,i+k=ws.length∧(dE ws t=0∨i<dE ws t)∧TS _ X [] [(8, .is (.int .i64 (i:Int))),(7, .is (.int .i64 ((ws.map Tx).length:Int))),(0, .vs (ws.map Tx)),(1, .is (Tx t))] 19 a w) ws.length ⟨0,by omega,by omega,h.keep [8,7,0,1]⟩ ?_
 clear h
 rintro k a w ⟨i,hi,hcs,h⟩
 by_cases hlt:i<ws.length
 ·have hc:decide ((i:Int)<((ws.map Tx).length:Int))=true:=decide_eq_true (by rw [List.length_map];omega)
  have hw:IntKind.i64.wrap ((i:Int)+1)=((i+1:Nat):Int):=dh qO qO
  obtain ⟨x,hx⟩:∃ x,ws[i]? =some x:=⟨_,List.getElem?_eq_getElem hlt⟩
  have hx':(ws.map Tx)[i]? =some (Tx x):=by rw [List.getElem?_map,hx];rfl
  cases hq:t==x with
  |true=>
   have hx:ws[i]? =some t:=by rw [hx,eq_of_beq hq]
   have h1:=wi hx
   have hv:((dE ws t:Int) - 1)=(i:Int):=qO
   rw [hv]
   refine fh h ?_
   clear h
   repeat' first|kernel_rfl|apply aF|apply aG|apply aI|apply kK (s:=8)|apply aD|apply aH|apply aM|apply aN|apply aA|apply aE|apply be|apply aq|apply a_|apply a8|apply aB|refine fm rfl ?_|apply bl|apply bO|apply bN|apply eo|apply em|refine eu rfl ?_|apply ep|apply ew|apply bc|exact dw|exact gI qL|exact cT|exact cC qL|exact aL|exact bj qG|exact bG qL|exact aj|exact ab|exact ah|exact au qG|exact bu qG|exact am|exact aK qL|exact ae|exact Cv.rfl'|intro _
  |false=>
   have hn:dE ws t≠i+1:=fun e=>by
    have:=sZ e
    rw [hx] at this
    injection this with this
    rw [this,beq_self_eq_true] at hq
    cases hq
   refine fh h ?_
   clear h
   repeat' first|kernel_rfl|exact iz fun _ _ h=>⟨k - 1,by omega,i+1,by omega,by omega,h.keep [8,7,0,1]⟩|apply aF|apply aG|apply aI|apply kK (s:=8)|apply aD|apply aH|apply aM|apply aN|apply aA|apply aE|apply be|apply aq|apply a_|apply a8|apply aB|refine fm rfl ?_|apply bl|apply bO|apply bN|apply eo|apply em|refine eu rfl ?_|apply ep|apply ew|apply bc|exact dw|exact gI qL|exact cT|exact cC qL|exact aL|exact bj qG|exact bG qL|exact aj|exact ab|exact ah|exact au qG|exact bu qG|exact am|exact aK qL|exact ae|exact Cv.rfl'|intro _
 ·have hc:decide ((i:Int)<((ws.map Tx).length:Int))=false:=decide_eq_false (by rw [List.length_map];omega)
  have hv:((dE ws t:Int) - 1)= -1:=qO
  rw [hv]
  refine fh h ?_
  clear h
  repeat' first|kernel_rfl|apply aF|apply aG|apply aI|apply kK (s:=8)|apply aD|apply aH|apply aM|apply aN|apply aA|apply aE|apply be|apply aq|apply a_|apply a8|apply aB|refine fm rfl ?_|apply bl|apply bO|apply bN|apply eo|apply em|refine eu rfl ?_|apply ep|apply ew|apply bc|exact dw|exact gI qL|exact cT|exact cC qL|exact aL|exact bj qG|exact bG qL|exact aj|exact ab|exact ah|exact au qG|exact bu qG|exact am|exact aK qL|exact ae|exact Cv.rfl'|intro _
instance:o_ Tryz.prog 232:=⟨⟨_,Tryz.underlying232,by kernel_rfl,fun w=>⟨.nilFunc,by go_simp⟩⟩⟩
theorem s7 {l t:List UInt8} (hl:l.length<4294967281) (ha:∀ (j:Nat) b,l[j]? =some b→b.toNat<128) (hn:(Lib.fields l).length≤200):dB Tryz.prog fE 44 [0,0] [.is (Tx t), .is (Tx l)] (fun _=> .tup [.is (.int .u8 (dE (Lib.fields l) t:Int)), .is (.bool (decide (0<dE (Lib.fields l) t)))]):=by
 have hp:=mo (Lib.fields l) t
 have cf:=ux hl ha
 have ci:=GB (ws:=Lib.fields l) (t:=t) qO
 have hw:IntKind.i64.wrap (((dE (Lib.fields l) t:Nat):Int) - 1+1)=((dE (Lib.fields l) t:Nat):Int):=by rw [Int.sub_add_cancel];exact dh qO qO
 have hz:IntKind.u8.wrap ((dE (Lib.fields l) t:Nat):Int)=((dE (Lib.fields l) t:Nat):Int):=qw qO
 have hg:decide (((dE (Lib.fields l) t:Nat):Int)>0)=decide (0<dE (Lib.fields l) t):=decide_eq_decide.2 qO
 generalize dE (Lib.fields l) t=z at*
 refine fA Tryz.func44 rfl Tryz.ntmps44 qE (fun _ _=>by kernel_rfl) fun X w hE=> ?_
 simp only [bf,Nat.zero_add,Nat.reduceAdd]
 repeat' first|kernel_rfl|apply aF|apply aG|apply aI|apply aD|apply aH|apply aM|apply aN|apply aA|apply aE|apply be|apply aq|apply a_|apply a8|apply aB|refine oI rfl ?_|apply bc|exact sc hE cf|exact sc trivial ci|exact dR Tryz.underlying3 Tryz.underlying5 qL|exact ay qL|exact cC qL|exact bG qL|exact aj|exact ab|exact ay qG|exact Cv.rfl'|intro _
def dk (B:Nat) (w:World):Prop:=fE w∧B≤w.heap.size
instance {B:Nat}:jL (dk B):=⟨fun h hb=>⟨jL.stab h.1 hb,Nat.le_trans h.2 hb.size⟩⟩
theorem dk.env(h:dk B w):vE w:=h.1.env
theorem dB.atB{P:Program} {G:World→Prop} {ks:List Nat} {T:Nat→ai} (h:dB P G f ks As T):dB P (fun w=>G w∧B≤w.heap.size) f ks As (fun _=>T B):=⟨h.ent,fun _ h=>h,fun {X w vs} hG hX ha=>(h.run hG.1 hX ha).mono fun e w' ⟨v,e1,hT,hb⟩=>⟨v,e1,h.down hG.2 hT,hb⟩⟩
theorem dB.env{P:Program} {ks:List Nat} {T:Nat→ai} {G:World→Prop} (h:dB P (fun w=>G w∧B≤w.heap.size) f ks As T) (hg:∀ w,fE w→G w):dB P (dk B) f ks As T:=⟨h.ent,h.down,fun hG hX ha=>h.run ⟨hg _ hG.1,hG.2⟩ hX ha⟩
theorem lj{w00:World} {X X0:List Nat} {L:List Loc} {E:List (Nat×ai)} {n:Nat} {T:ai} {a:Act} (h:TS w00 X L E n a w) [hl:ke L r T] [z:bi T 1 false] [sx:lQ X0 X] (hX:∀ b∈X0,b<w00.heap.size):(ai.pt T).holds X0 w (.pointer (some ⟨r,0,none⟩)):=by
 obtain ⟨g1,g2,v,ty,g3,g4⟩:=h.mem.loc _ hl.mem
 obtain ⟨_,_,_,z4⟩:=z.ok g3
 rw [z4 rfl] at g4
 exact ⟨r,0,v,rfl,⟨h.mem.far _ g1,fun hx=>by have:=hX _ hx;omega⟩,eX g4 rfl,T.stable g3 ⟨Nat.le_refl _,fun _ _ _=>rfl⟩ fun b hb _=>sx.sub b hb⟩
instance {p:Option Addr}:bi (.is (.pointer p)) 1 false:=⟨fun {X w v} h=>by rw [show v=_ from h];exact ⟨rfl,by simp [Value.cells,Value.oneCell'],(fun h=>by cases h),fun _=>rfl⟩⟩
class Fe (P:Program) (ty:TypeId):Prop where
 nil:∀ w,(binOp .eql ty .nilIface .nilIface).run P w= .ok (.bool true) w
 some:∀ t p w,(binOp .eql ty (.iface t p) .nilIface).run P w= .ok (.bool false) w
section
variable {P:Program} {w00:World} {N:Nat} {L:List Loc} {E:List (Nat×ai)} {d:Nat} {t0:TypeId} {pos:String} {af:Array Edge} {gd:Option (Nat×Bool)} {ats:Array TypeId}
theorem pW{os:List Operand} (ks:List Nat) [k:kR E os ks As]:aR P w00 N L E ⟨some d, .makeFunc (.func f) #[] os.toArray,t0,pos,af,gd⟩ (.fv f [] As):=by
 constructor
 intro X ρ w hc hf hN hm hsl
 have h:=k.get (X:=X) (w:=w) (ρ:=ρ) hc hf fun p hp e=>hsl p hp (by simpa [Op.operands] using e)
 unfold Yields execOp
 simp only [Sem.run_bind,Sem.run_pure,Result.andThen_ok]
 exact ⟨⟨[],os.map ρ,by simp,trivial,h⟩,Below.refl _ _⟩
theorem lv {o:Operand} {ty t1:TypeId} [q:Fe P ty] [ho:b_ E o (.is .nilIface)]:aR P w00 N L E ⟨some d, .binOp .eql ty o (.const .nilIface) t1,t0,pos,af,gd⟩ (.is (.bool true)):=by
 constructor
 intro X ρ w hc _ hN hm hsl
 have e0:ρ o= .nilIface:=ho.get (X:=X) (w:=w) hc fun p hp e=>hsl p hp qS
 have e1:=hc .nilIface
 have he:=q.nil w
 clear hc hsl ho
 unfold Yields
 go_simp
 exact ⟨rfl,Below.refl _ _⟩
def ai.nzI:ai:=⟨fun _ _ v=>∃ t p,v= .iface t p,fun h _ _=>h⟩
theorem lF {o:Operand} {ty t1:TypeId} [q:Fe P ty] [ho:b_ E o .nzI]:aR P w00 N L E ⟨some d, .binOp .eql ty o (.const .nilIface) t1,t0,pos,af,gd⟩ (.is (.bool false)):=by
 constructor
 intro X ρ w hc _ hN hm hsl
 obtain ⟨t,p,e0⟩:∃ t p,ρ o= .iface t p:=ho.get (X:=X) (w:=w) hc fun p hp e=>hsl p hp qS
 have e1:=hc .nilIface
 have he:=q.some t p w
 clear hc hsl ho
 unfold Yields
 go_simp
 exact ⟨rfl,Below.refl _ _⟩
end
instance:eV Tryz.prog 228 1 false:=⟨⟨_,Tryz.underlying228,rfl⟩,by kernel_rfl⟩
instance:eV Tryz.prog 230 1 false:=⟨⟨_,Tryz.underlying230,rfl⟩,by kernel_rfl⟩
instance:eV Tryz.prog 236 1 false:=⟨⟨_,Tryz.underlying236,rfl⟩,by kernel_rfl⟩
instance:eV Tryz.prog 202 1 false:=⟨⟨_,Tryz.underlying202,rfl⟩,by kernel_rfl⟩
instance:eV Tryz.prog 52 1 false:=⟨⟨_,Tryz.underlying52,rfl⟩,by kernel_rfl⟩
instance:eV Tryz.prog 226 1 false:=⟨⟨_,Tryz.underlying226,rfl⟩,by kernel_rfl⟩
instance:Fe Tryz.prog 155:=⟨fun w=>by kernel_rfl,fun t p w=>by kernel_rfl⟩
theorem eY{σ:Type} {Ts:σ→List ai} {LR:σ→List Loc} {u:σ→List UInt8→σ} [kl:m6 fun s=>(r,ai.st (Ts s))::LR s] (hLR:∀ s a,LR (u s a)=LR s) (hset:∀ s a,gQ (Ts s) off (.is (Tx a)) (Ts (u s a))):uz Tryz.prog (dk B) 161 [.pt (.is (.pointer (some ⟨r,off,none⟩)))] (fun s=>(r, .st (Ts s))::LR s) (fun s t=>(gW t).map (u s)):=fun s t ht=>by
 haveI:=hset s t
 have hg:((gW t).map (u s)).isSome=lW t:=by unfold gW;cases lW t<;>rfl
 have hs:∀ s1,(gW t).map (u s)=some s1→u s t=s1:=by
  intro s1
  unfold gW
  cases lW t<;>simp
 show j6 _ _ _ _ _ _ ((gW t).map (u s)) (.is (.bool ((gW t).map (u s)).isSome))
 rw [hg]
 refine tQ Tryz.func161 rfl Tryz.ntmps161 qE (fun _ _=>by kernel_rfl) fun w00 X L0 w hE hm=> ?_
 simp only [List.cons_append,List.nil_append,bf,Nat.zero_add,Nat.reduceAdd]
 repeat' first|kernel_rfl|(refine oN ?_)|apply aF|apply aG|apply aI|apply aD|apply aH|apply aM|apply aN|apply aA|apply aE|apply be|apply aq|apply a_|apply a8|apply aB|refine tM (LT:=(fun s=>(r, .st (Ts s))::LR s)) (s':=u s t) (L1:=(r, .st (Ts (u s t)))::(LR s++L0)) rfl hm hs (by show (_::LR _)++L0=_;rw [hLR];rfl) ?_|apply bc|exact dj|exact bn|exact sc trivial tS|exact aj|exact ab|exact ah|exact ae|exact Cv.rfl'|intro _
theorem fw:dB Tryz.prog S1 115 [0] [.is (.pointer (some ⟨r,off,none⟩))] (fun _=> .fv 161 [] [.pt (.is (.pointer (some ⟨r,off,none⟩)))]):=by
 haveI:d8 fun _=>ai.fv 161 [] [.pt (.is (.pointer (some ⟨r,off,none⟩)))]:=⟨fun _ h=>h⟩
 refine wN Tryz.func115 rfl Tryz.ntmps115 qE (fun _ _=>by kernel_rfl) fun X w hE hX=> ?_
 simp only [bf,Nat.zero_add,Nat.reduceAdd]
 repeat' first|kernel_rfl|apply aF|apply aG|apply aI|apply aD|apply aH|apply aM|apply aN|apply aA|apply aE|apply be|apply aq|apply a_|apply a8|apply aB|refine wP rfl fun a w v ht hv=> ?_|apply bc|exact pW [0]|exact ab|exact Cv.rfl'|intro _
 obtain ⟨vs,us,rfl,h1,h2⟩:=hv
 match vs,us,h1,h2 with
 |[],[q0],_,h2=>
  have e0:q0=_:=h2.1
  subst e0
  exact ⟨[],[_],rfl,trivial,lj ht hX,trivial⟩
theorem FJ {n:Bool} {a b:List UInt8} (hd:∀ c∈a++b,fc c) (hl:a.length+b.length≤40):Lq (CU n a b) 5:=by
 have h1:=(gZ (a++b) hd).2
 have h0:=(gZ (a++b) hd).1
 have h2:(10:Int)^(a++b).length<4294967296^5:=nj (by rw [List.length_append];omega)
 have h3:(10:Int)^b.length<4294967296^5:=nj qO
 have h4:(0:Int)<10^b.length:=Int.pow_pos qD
 refine Lq.divInt ?_ qO qO
 have:((fy n (dL (a++b))).natAbs:Int)=dL (a++b):=by cases n<;>simp [fy]<;>omega
 omega
theorem Jh {m:Nat} {t:List UInt8} (h:pE m t=0):Lq (dq t) 5:=by
 unfold pE at h
 cases h1:(Bw t&&(r3 t==[]))<;>rw [h1] at h
 ·simp at h
 ·rw [cond_true] at h
  cases h2:decide (m<(pc t).length)<;>rw [h2] at h
  ·rw [cond_false] at h
   cases h3:decide (40<(wh t).length+(pc t).length)<;>rw [h3] at h
   ·exact FJ (vJ t) (by have:=of_decide_eq_false h3;omega)
   ·simp at h
  ·simp at h
theorem CF {q:Rat} {L:Nat} (h:Lq q L) (hL:0<L):lN L (G_ q):=⟨((pK q).len h).1,((pK q).len h).2,hL⟩
theorem vK{x:bA} {L C:Nat} {ts:List TypeId} (hL:L≤80) (hf:lN L x):dB Tryz.prog g9 130 [0] [.tr (Rp.frn B Rp.frac) ts C x] (fun _=> .is (.bool (s8 x))):=(x_ hL hf).args fun h=>by
 obtain ⟨v,rfl,cs,e,hr⟩:=h.one
 exact ⟨⟨cs,e,Rp.frac.more hr fun b hb=>hb.1.1⟩,trivial⟩
theorem iQ{σ:Type} {Ts:σ→List ai} {LR:σ→List Loc} {u:σ→bA→σ} [kl:m6 fun s=>(r,ai.st (Ts s))::LR s] (hLR:∀ s a,LR (u s a)=LR s) (hset:∀ s a,∃ T1 T2 T3,gQ (Ts s) off (.is (.bool a.1.1)) T1∧gQ T1 (off+1) (.tc (Rp.frn B Rp.limbs) [128] 0 a.1.2) T2∧gQ T2 (off+2) (.is (.bool a.2.1)) T3∧gQ T3 (off+3) (.tc (Rp.frn B Rp.limbs) [128] 0 a.2.2) (Ts (u s a))):uz Tryz.prog (dk B) 164 [.pt (.is (.pointer (some ⟨r,off,none⟩)))] (fun s=>(r, .st (Ts s))::LR s) (fun s t=>(kM t).map (u s)):=fun s t ht=>by
 obtain ⟨T1,T2,T3,i1,i2,i3,i4⟩:=hset s (si (dq t) (pE 2 t))
 have ca:=((yD (l:=t) qO).atB (B:=B)).env fun w h=>h.env
 have hpe:∀ {b},(pE 2 t==0)=b→decide (((pE 2 t):Int)=0)=b:=fun h=>by rw [←h];rfl
 cases h0:(pE 2 t==0) with
 |false=>
  have hs:∀ s1,(kM t).map (u s)=some s1→u s (si (dq t) (pE 2 t))=s1:=by
   intro s1
   unfold kM
   rw [h0]
   simp
  have hg:((kM t).map (u s)).isSome=false:=by unfold kM;rw [h0];rfl
  show j6 _ _ _ _ _ _ ((kM t).map (u s)) (.is (.bool ((kM t).map (u s)).isSome))
  rw [hg]
  unfold ai.qf at ca
  refine tQ Tryz.func164 rfl Tryz.ntmps164 qE (fun _ _=>by kernel_rfl) fun w00 X L0 w hE hm=> ?_
  simp only [List.cons_append,List.nil_append,bf,Nat.zero_add,Nat.reduceAdd]
  repeat' first|kernel_rfl|(refine zF ?_)|apply aF|apply aG|apply aI|apply aD|apply aH|apply aM|apply aN|apply aA|apply aE|refine bw rfl inferInstance (by first|exact dj|exact sc hE ca|exact ah|exact ae) qK ?_|refine bZ rfl inferInstance rfl qK ?_|refine bW rfl inferInstance qK ?_|apply be|apply aq|apply a_|apply a8|apply aB|refine tM (LT:=(fun s=>(r, .st (Ts s))::LR s)) (s':=u s (si (dq t) (pE 2 t))) (L1:=(r, .st (Ts (u s (si (dq t) (pE 2 t)))))::(LR s++L0)) rfl hm hs (by show (_::LR _)++L0=_;rw [hLR];rfl) ?_|apply bc|exact dj|exact bn|exact sc hE ca|exact au qL|exact aj|exact ab|exact ah|exact aJ|exact aQ|exact aW|exact au qG|exact ae|exact Cv.rfl'|intro _
 |true=>
  have hf:lN 5 (si (dq t) (pE 2 t)):=by
   unfold si
   rw [h0]
   exact CF (Jh (m:=2) (by simpa using h0)) qD
  have hs:∀ s1,(kM t).map (u s)=some s1→u s (si (dq t) (pE 2 t))=s1:=by
   intro s1
   unfold kM
   cases (pE 2 t==0)&&s8 (si (dq t) (pE 2 t))<;>simp
  have hg:((kM t).map (u s)).isSome=s8 (si (dq t) (pE 2 t)):=by unfold kM;rw [h0];cases s8 (si (dq t) (pE 2 t))<;>rfl
  have cm:=vK (C:=0) (B:=B) (ts:=[128]) (L:=5) qD hf
  show j6 _ _ _ _ _ _ ((kM t).map (u s)) (.is (.bool ((kM t).map (u s)).isSome))
  rw [hg]
  unfold ai.qf at ca
  generalize si (dq t) (pE 2 t)=q at*
  generalize s8 q=bm at*
  cases bm
  all_goals
   refine tQ Tryz.func164 rfl Tryz.ntmps164 qE (fun _ _=>by kernel_rfl) fun w00 X L0 w hE hm=> ?_
   simp only [List.cons_append,List.nil_append,bf,Nat.zero_add,Nat.reduceAdd]
   repeat' first|kernel_rfl|(refine zF ?_)|apply aF|apply aG|apply aI|apply aD|apply aH|apply aM|apply aN|apply aA|apply aE|refine bw rfl inferInstance (by first|exact dj|exact sc hE ca|exact sc hE.env.tab cm|exact ah|exact ae) qK ?_|refine bZ rfl inferInstance rfl qK ?_|refine bW rfl inferInstance qK ?_|apply be|apply aq|apply a_|apply a8|apply aB|refine tM (LT:=(fun s=>(r, .st (Ts s))::LR s)) (s':=u s q) (L1:=(r, .st (Ts (u s q)))::(LR s++L0)) rfl hm hs (by show (_::LR _)++L0=_;rw [hLR];rfl) ?_|apply bc|exact dj|exact bn|exact sc hE ca|exact sc hE.env.tab cm|exact au qL|exact aj|exact ab|exact ah|exact aJ|exact aQ|exact aW|exact au qG|exact ae|exact Cv.rfl'|intro _
theorem ee:dB Tryz.prog S1 117 [0] [.is (.pointer (some ⟨r,off,none⟩))] (fun _=> .fv 164 [] [.pt (.is (.pointer (some ⟨r,off,none⟩)))]):=by
 haveI:d8 fun _=>ai.fv 164 [] [.pt (.is (.pointer (some ⟨r,off,none⟩)))]:=⟨fun _ h=>h⟩
 refine wN Tryz.func117 rfl Tryz.ntmps117 qE (fun _ _=>by kernel_rfl) fun X w hE hX=> ?_
 simp only [bf,Nat.zero_add,Nat.reduceAdd]
 repeat' first|kernel_rfl|apply aF|apply aG|apply aI|apply aD|apply aH|apply aM|apply aN|apply aA|apply aE|apply be|apply aq|apply a_|apply a8|apply aB|refine wP rfl fun a w v ht hv=> ?_|apply bc|exact pW [0]|exact ab|exact Cv.rfl'|intro _
 obtain ⟨vs,us,rfl,h1,h2⟩:=hv
 match vs,us,h1,h2 with
 |[],[q0],_,h2=>
  have e0:q0=_:=h2.1
  subst e0
  exact ⟨[],[_],rfl,trivial,lj ht hX,trivial⟩
theorem i7{σ:Type} {Ts:σ→List ai} {LR:σ→List Loc} {u:σ→bA→σ} [kl:m6 fun s=>(r,ai.st (Ts s))::LR s] (hLR:∀ s a,LR (u s a)=LR s) (hset:∀ s a,∃ T1 T2 T3,gQ (Ts s) off (.is (.bool a.1.1)) T1∧gQ T1 (off+1) (.tc (Rp.frn B Rp.limbs) [128] 0 a.1.2) T2∧gQ T2 (off+2) (.is (.bool a.2.1)) T3∧gQ T3 (off+3) (.tc (Rp.frn B Rp.limbs) [128] 0 a.2.2) (Ts (u s a))):uz Tryz.prog (dk B) 162 [.pt (.is (.pointer (some ⟨r,off,none⟩)))] (fun s=>(r, .st (Ts s))::LR s) (fun s t=>(m4 t).map (u s)):=fun s t ht=>by
 obtain ⟨T1,T2,T3,i1,i2,i3,i4⟩:=hset s (si (dq t / tK) (zl t))
 have ca:=((AB (l:=t) qO).atB (B:=B)).env fun w h=>h.env
 have hs:∀ s1,(m4 t).map (u s)=some s1→u s (si (dq t / tK) (zl t))=s1:=by
  intro s1
  unfold m4
  cases (zl t==0)<;>simp
 have hg:((m4 t).map (u s)).isSome=(zl t==0):=by unfold m4;cases (zl t==0)<;>rfl
 show j6 _ _ _ _ _ _ ((m4 t).map (u s)) (.is (.bool ((m4 t).map (u s)).isSome))
 rw [hg]
 unfold ai.qf at ca
 refine tQ Tryz.func162 rfl Tryz.ntmps162 qE (fun _ _=>by kernel_rfl) fun w00 X L0 w hE hm=> ?_
 simp only [List.cons_append,List.nil_append,bf,Nat.zero_add,Nat.reduceAdd]
 repeat' first|kernel_rfl|(refine zF ?_)|apply aF|apply aG|apply aI|apply aD|apply aH|apply aM|apply aN|apply aA|apply aE|apply be|apply aq|apply a_|apply a8|apply aB|refine tM (LT:=(fun s=>(r, .st (Ts s))::LR s)) (s':=u s (si (dq t / tK) (zl t))) (L1:=(r, .st (Ts (u s (si (dq t / tK) (zl t)))))::(LR s++L0)) rfl hm hs (by show (_::LR _)++L0=_;rw [hLR];rfl) ?_|apply bc|exact dj|exact bn|exact sc hE ca|exact au rfl|exact aj|exact ab|exact ah|exact aJ|exact au qG|exact ae|exact Cv.rfl'|intro _
theorem eO:dB Tryz.prog S1 116 [0] [.is (.pointer (some ⟨r,off,none⟩))] (fun _=> .fv 162 [] [.pt (.is (.pointer (some ⟨r,off,none⟩)))]):=by
 haveI:d8 fun _=>ai.fv 162 [] [.pt (.is (.pointer (some ⟨r,off,none⟩)))]:=⟨fun _ h=>h⟩
 refine wN Tryz.func116 rfl Tryz.ntmps116 qE (fun _ _=>by kernel_rfl) fun X w hE hX=> ?_
 simp only [bf,Nat.zero_add,Nat.reduceAdd]
 repeat' first|kernel_rfl|apply aF|apply aG|apply aI|apply aD|apply aH|apply aM|apply aN|apply aA|apply aE|apply be|apply aq|apply a_|apply a8|apply aB|refine wP rfl fun a w v ht hv=> ?_|apply bc|exact pW [0]|exact ab|exact Cv.rfl'|intro _
 obtain ⟨vs,us,rfl,h1,h2⟩:=hv
 match vs,us,h1,h2 with
 |[],[q0],_,h2=>
  have e0:q0=_:=h2.1
  subst e0
  exact ⟨[],[_],rfl,trivial,lj ht hX,trivial⟩
theorem FV {t:List UInt8} {v:Int} (ht:t.length≤65536) (h:Lib.atoiAll t= .ok v):dB Tryz.prog fE 170 [0] [.is (Tx t)] (fun _=> .tup [.is (.int .i64 v), .is .nilIface]):=
 ⟨fun _ _=>by kernel_rfl,fun _ h=>h,fun {X w vs} hG hX ha=>by
  obtain ⟨x,rfl,e⟩:=ha.one
  rw [show x=Tx t from e]
  refine (Any.strconv_Atoi_ok Tryz.laysC172 ⟨t.toArray⟩ (by rw [fR];omega) v (by rw [bU];exact h) w).mono ?_
  rintro e w' ⟨rfl,hw⟩
  refine ⟨_,rfl,⟨[_,_],rfl,rfl,rfl,trivial⟩,?_⟩
  rcases hw with rfl|⟨t,rfl⟩
  ·exact Below.refl _ _
  ·exact Lib.bytesWorld_below _ _ _⟩
theorem xj {t:List UInt8} (ht:t.length≤65536) (h:∀ v,Lib.atoiAll t≠ .ok v):∃ z:Int,dB Tryz.prog fE 170 [0] [.is (Tx t)] (fun _=> .tup [.is (.int .i64 z), .nzI]):=by
 rcases hq:Lib.atoiAll t with v|_|_
 ·exact absurd hq (h v)
 ·
  refine ⟨0,fun _ _=>by kernel_rfl,fun _ h=>h,fun {X w vs} hG hX ha=> ?_⟩
  obtain ⟨x,rfl,e⟩:=ha.one
  rw [show x=Tx t from e]
  obtain ⟨ev,h1,h2⟩:=hG.es
  refine (Any.strconv_Atoi_syntax Tryz.laysC172 ⟨t.toArray⟩ (by rw [fR];omega) (by rw [bU];exact hq) ev w h1 h2).mono ?_
  rintro e w' ⟨N,rfl,_,_,hB⟩
  exact ⟨_,rfl,⟨[_,_],rfl,rfl,⟨_,_,rfl⟩,trivial⟩,hB⟩
 ·
  refine ⟨Lib.atoiSat t,fun _ _=>by kernel_rfl,fun _ h=>h,fun {X w vs} hG hX ha=> ?_⟩
  obtain ⟨x,rfl,e⟩:=ha.one
  rw [show x=Tx t from e]
  obtain ⟨ev,h1,h2⟩:=hG.er
  refine (Any.strconv_Atoi_range Tryz.laysC172 ⟨t.toArray⟩ (by rw [fR];omega) (by rw [bU];exact hq) ev w h1 h2).mono ?_
  rintro e w' ⟨N,rfl,_,_,hB⟩
  exact ⟨_,rfl,⟨[_,_],rfl,by rw [bU];rfl,⟨_,_,rfl⟩,trivial⟩,hB⟩
theorem GL {v:Int} (h0: -9223372036854775808≤v∧v≤9223372036854775807):dB Tryz.prog fE 171 [0] [.is (.int .i64 v)] (fun _=> .is (Tx (Lib.itoa v))):=
 ⟨fun _ _=>by kernel_rfl,fun _ h=>h,fun {X w vs} hG hX ha=>by
  obtain ⟨x,rfl,e⟩:=ha.one
  rw [show x=_ from e]
  refine (Tryz.strconv_Itoa v h0.1 h0.2 w hG.env.pow).mono ?_
  rintro e w' ⟨rfl,k,os,rfl⟩
  exact ⟨_,rfl,rfl,Lib.below_grow _ w (Nat.le_refl _) k os⟩⟩
theorem lz{σ:Type} {lo hi:Int} {Ts:σ→List ai} {LR:σ→List Loc} {u:σ→Int→σ} [kl:m6 fun s=>(r,ai.st (Ts s))::LR s] (hLR:∀ s a,LR (u s a)=LR s) (hset:∀ s a,gQ (Ts s) off (.is (.int .i64 a)) (Ts (u s a))):uz Tryz.prog (dk B) 169 [.pt (.is (.pointer (some ⟨r,off,none⟩))), .pt (.is (.int .i64 lo)), .pt (.is (.int .i64 hi))] (fun s=>(r, .st (Ts s))::LR s) (fun s t=>(iZ lo hi t).map (u s)):=fun s t ht=>by
 rcases hq:Lib.atoiAll t with v|_|_
 ·
  haveI:=hset s v
  have ca:=FV ht hq
  have ci:=GL (Lib.atoiAll_bounds hq)
  have hs:∀ s1,(iZ lo hi t).map (u s)=some s1→u s v=s1:=by
   intro s1
   unfold iZ
   rw [hq]
   dsimp only
   cases (Lib.itoa v==t)&&(decide (lo≤v)&&decide (v≤hi))<;>simp
  have hg:((iZ lo hi t).map (u s)).isSome=((Lib.itoa v==t)&&(decide (lo≤v)&&decide (v≤hi))):=by
   unfold iZ
   rw [hq]
   dsimp only
   cases (Lib.itoa v==t)&&(decide (lo≤v)&&decide (v≤hi))<;>rfl
  show j6 _ _ _ _ _ _ ((iZ lo hi t).map (u s)) (.is (.bool ((iZ lo hi t).map (u s)).isSome))
  rw [hg]
  cases k1:(Lib.itoa v==t)
  all_goals cases k2:decide (lo≤v)
  all_goals cases k3:decide (v≤hi)
  all_goals
   refine tQ Tryz.func169 rfl Tryz.ntmps169 qE (fun _ _=>by kernel_rfl) fun w00 X L0 w hE hm=> ?_
   simp only [List.cons_append,List.nil_append,bf,Nat.zero_add,Nat.reduceAdd]
   repeat' first|kernel_rfl|(refine oN ?_)|apply aF|apply aG|apply aI|apply aD|apply aH|apply aM|apply aN|apply aA|apply aE|refine bw rfl inferInstance (by first|exact dj|exact sc hE.1 ca|exact sc hE.1 ci|exact lv|exact lF|exact bj (by assumption)|exact bP (by assumption)|exact cL (by assumption)|exact aj|exact ah|exact au (by first|assumption|rfl)|exact cL (by first|assumption|rfl)|exact bP (by first|assumption|rfl)|exact ae) qK ?_|refine bZ rfl inferInstance rfl qK ?_|refine bW rfl inferInstance qK ?_|apply be|apply aq|apply a_|apply a8|apply aB|refine tM (LT:=(fun s=>(r, .st (Ts s))::LR s)) (s':=u s v) (L1:=(r, .st (Ts (u s v)))::(LR s++L0)) rfl hm hs (by show (_::LR _)++L0=_;rw [hLR];rfl) ?_|apply bc|exact dj|exact bn|exact sc hE.1 ca|exact sc hE.1 ci|exact lv|exact lF|exact bj qL|exact bP qL|exact cL qL|exact aj|exact ab|exact ah|exact aJ|exact aQ|exact aW|exact au qG|exact cL qG|exact bP qG|exact ae|exact Cv.rfl'|intro _
 ·
  obtain ⟨z,ca⟩:=xj ht fun v=>by rw [hq];exact fun h=>by cases h
  haveI:=hset s z
  have hs:∀ s1,(iZ lo hi t).map (u s)=some s1→u s z=s1:=by
   intro s1
   unfold iZ
   rw [hq]
   simp
  have hg:((iZ lo hi t).map (u s)).isSome=false:=by unfold iZ;rw [hq];rfl
  show j6 _ _ _ _ _ _ ((iZ lo hi t).map (u s)) (.is (.bool ((iZ lo hi t).map (u s)).isSome))
  rw [hg]
  refine tQ Tryz.func169 rfl Tryz.ntmps169 qE (fun _ _=>by kernel_rfl) fun w00 X L0 w hE hm=> ?_
  simp only [List.cons_append,List.nil_append,bf,Nat.zero_add,Nat.reduceAdd]
  repeat' first|kernel_rfl|(refine oN ?_)|apply aF|apply aG|apply aI|apply aD|apply aH|apply aM|apply aN|apply aA|apply aE|refine bw rfl inferInstance (by first|exact dj|exact sc hE.1 ca|exact sc hE.1 ci|exact lv|exact lF|exact bj (by assumption)|exact bP (by assumption)|exact cL (by assumption)|exact aj|exact ah|exact au (by first|assumption|rfl)|exact cL (by first|assumption|rfl)|exact bP (by first|assumption|rfl)|exact ae) qK ?_|refine bZ rfl inferInstance rfl qK ?_|refine bW rfl inferInstance qK ?_|apply be|apply aq|apply a_|apply a8|apply aB|refine tM (LT:=(fun s=>(r, .st (Ts s))::LR s)) (s':=u s z) (L1:=(r, .st (Ts (u s z)))::(LR s++L0)) rfl hm hs (by show (_::LR _)++L0=_;rw [hLR];rfl) ?_|apply bc|exact dj|exact bn|exact sc hE.1 ca|exact sc hE.1 ci|exact lv|exact lF|exact bj qL|exact bP qL|exact cL qL|exact aj|exact ab|exact ah|exact aJ|exact aQ|exact aW|exact au qG|exact cL qG|exact bP qG|exact ae|exact Cv.rfl'|intro _
 ·
  obtain ⟨z,ca⟩:=xj ht fun v=>by rw [hq];exact fun h=>by cases h
  haveI:=hset s z
  have hs:∀ s1,(iZ lo hi t).map (u s)=some s1→u s z=s1:=by
   intro s1
   unfold iZ
   rw [hq]
   simp
  have hg:((iZ lo hi t).map (u s)).isSome=false:=by unfold iZ;rw [hq];rfl
  show j6 _ _ _ _ _ _ ((iZ lo hi t).map (u s)) (.is (.bool ((iZ lo hi t).map (u s)).isSome))
  rw [hg]
  refine tQ Tryz.func169 rfl Tryz.ntmps169 qE (fun _ _=>by kernel_rfl) fun w00 X L0 w hE hm=> ?_
  simp only [List.cons_append,List.nil_append,bf,Nat.zero_add,Nat.reduceAdd]
  repeat' first|kernel_rfl|(refine oN ?_)|apply aF|apply aG|apply aI|apply aD|apply aH|apply aM|apply aN|apply aA|apply aE|refine bw rfl inferInstance (by first|exact dj|exact sc hE.1 ca|exact sc hE.1 ci|exact lv|exact lF|exact bj (by assumption)|exact bP (by assumption)|exact cL (by assumption)|exact aj|exact ah|exact au (by first|assumption|rfl)|exact cL (by first|assumption|rfl)|exact bP (by first|assumption|rfl)|exact ae) qK ?_|refine bZ rfl inferInstance rfl qK ?_|refine bW rfl inferInstance qK ?_|apply be|apply aq|apply a_|apply a8|apply aB|refine tM (LT:=(fun s=>(r, .st (Ts s))::LR s)) (s':=u s z) (L1:=(r, .st (Ts (u s z)))::(LR s++L0)) rfl hm hs (by show (_::LR _)++L0=_;rw [hLR];rfl) ?_|apply bc|exact dj|exact bn|exact sc hE.1 ca|exact sc hE.1 ci|exact lv|exact lF|exact bj qL|exact bP qL|exact cL qL|exact aj|exact ab|exact ah|exact aJ|exact aQ|exact aW|exact au qG|exact cL qG|exact bP qG|exact ae|exact Cv.rfl'|intro _
theorem g_{lo hi:Int}:dB Tryz.prog S1 120 [0,0,0] [.is (.pointer (some ⟨r,off,none⟩)), .is (.int .i64 lo), .is (.int .i64 hi)] (fun _=> .fv 169 [] [.pt (.is (.pointer (some ⟨r,off,none⟩))), .pt (.is (.int .i64 lo)), .pt (.is (.int .i64 hi))]):=by
 haveI:d8 fun _=>ai.fv 169 [] [.pt (.is (.pointer (some ⟨r,off,none⟩))), .pt (.is (.int .i64 lo)), .pt (.is (.int .i64 hi))]:=⟨fun _ h=>h⟩
 refine wN Tryz.func120 rfl Tryz.ntmps120 qE (fun _ _=>by kernel_rfl) fun X w hE hX=> ?_
 simp only [bf,Nat.zero_add,Nat.reduceAdd]
 repeat' first|kernel_rfl|apply aF|apply aG|apply aI|apply aD|apply aH|apply aM|apply aN|apply aA|apply aE|apply be|apply aq|apply a_|apply a8|apply aB|refine wP rfl fun a w v ht hv=> ?_|apply bc|exact pW [0,0,0]|exact ab|exact Cv.rfl'|intro _
 obtain ⟨vs,us,rfl,h1,h2⟩:=hv
 match vs,us,h1,h2 with
 |[],[q0,q1,q2],_,h2=>
  have e0:q0=_:=h2.1
  have e1:q1=_:=h2.2.1
  have e2:q2=_:=h2.2.2.1
  subst e0 e1 e2
  exact ⟨[],[_,_,_],rfl,trivial,lj ht hX,lj ht hX,lj ht hX,trivial⟩
theorem wU{σ:Type} {g:Nat} {ws:List (List UInt8)} {Ts:σ→List ai} {LR:σ→List Loc} {u:σ→Int→σ} [kl:m6 fun s=>(r,ai.st (Ts s))::LR s] (hLR:∀ s a,LR (u s a)=LR s) (hk:∀ t,dB Tryz.prog fE g [0] [.is (Tx t)] (fun _=> .tup [.is (.int .u8 (dE ws t:Int)), .is (.bool (decide (0<dE ws t)))])) (hset:∀ s a,gQ (Ts s) off (.is (.int .u8 a)) (Ts (u s a))):uz Tryz.prog (dk B) 166 [.pt (.fv g [] []), .pt (.is (.pointer (some ⟨r,off,none⟩)))] (fun s=>(r, .st (Ts s))::LR s) (fun s t=>(ua ws t).map (u s)):=fun s t ht=>by
 haveI:=hset s (dE ws t:Int)
 have ck:=hk t
 have hg:((ua ws t).map (u s)).isSome=decide (0<dE ws t):=by unfold ua;cases decide (0<dE ws t)<;>rfl
 have hs:∀ s1,(ua ws t).map (u s)=some s1→u s (dE ws t:Int)=s1:=by
  intro s1
  unfold ua
  cases decide (0<dE ws t)<;>simp
 show j6 _ _ _ _ _ _ ((ua ws t).map (u s)) (.is (.bool ((ua ws t).map (u s)).isSome))
 rw [hg]
 refine tQ Tryz.func166 rfl Tryz.ntmps166 qE (fun _ _=>by kernel_rfl) fun w00 X L0 w hE hm=> ?_
 simp only [List.cons_append,List.nil_append,bf,Nat.zero_add,Nat.reduceAdd]
 repeat' first|kernel_rfl|apply cR (id:=1) [] [] 8 [(8,6)]|apply kV|(refine oN ?_)|apply aF|apply aG|apply aI|apply bQ|apply de|exact bT.nil|exact aZ.nil|exact aY.nil|apply aD|apply aH|apply aM|apply aN|apply aA|apply aE|apply be|apply aq|apply a_|apply a8|apply aB|refine tM (LT:=(fun s=>(r, .st (Ts s))::LR s)) (s':=u s (dE ws t:Int)) (L1:=(r, .st (Ts (u s (dE ws t:Int))))::(LR s++L0)) rfl hm hs (by show (_::LR _)++L0=_;rw [hLR];rfl) ?_|apply bc|exact dj|exact bn|exact Jk hE.1 ck|exact aj|exact ab|exact ah|exact aJ|exact ae|exact Cv.rfl'|(intro _;simp only[cP,cQ,cS,List.map,List.cons_append,List.nil_append])|intro _
theorem lM{g:Nat}:dB Tryz.prog S1 118 [0,0] [.is (.pointer (some ⟨r,off,none⟩)), .fv g [] []] (fun _=> .fv 166 [] [.pt (.fv g [] []), .pt (.is (.pointer (some ⟨r,off,none⟩)))]):=by
 haveI:d8 fun _=>ai.fv 166 [] [.pt (.fv g [] []), .pt (.is (.pointer (some ⟨r,off,none⟩)))]:=⟨fun _ h=>h⟩
 refine wN Tryz.func118 rfl Tryz.ntmps118 qE (fun _ _=>by kernel_rfl) fun X w hE hX=> ?_
 simp only [bf,Nat.zero_add,Nat.reduceAdd]
 repeat' first|kernel_rfl|apply aF|apply aG|apply aI|apply aD|apply aH|apply aM|apply aN|apply aA|apply aE|apply be|apply aq|apply a_|apply a8|apply aB|refine wP rfl fun a w v ht hv=> ?_|apply bc|exact pW [0,0]|exact ab|exact Cv.rfl'|intro _
 obtain ⟨vs,us,rfl,h1,h2⟩:=hv
 match vs,us,h1,h2 with
 |[],[q0,q1],_,h2=>
  have e0:q0=_:=h2.1
  have e1:q1=_:=h2.2.1
  subst e0 e1
  exact ⟨[],[_,_],rfl,trivial,lj ht hX,lj ht hX,trivial⟩
end Go.Proofs.YtcpeiijdgabenaaGreatDoor
