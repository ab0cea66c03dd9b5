/- Package tallagelaw09: works. -/
import Derived.Test.YtcpeiijdgabenaaGreatDoorEX
set_option maxHeartbeats 40000000
set_option maxRecDepth 100000
set_option synthInstance.maxHeartbeats 400000
set_option synthInstance.maxSize 4000
set_option linter.unusedSimpArgs false
set_option linter.unusedVariables false
namespace Go.Proofs.YtcpeiijdgabenaaGreatDoor
open Go Go.RowKit
variable {k:Nat}
def IV:List UInt8:=[102,105,108,105,110,103,32,70,32,80,10,116,104,114,101,115,104,111,108,100,32,55,53,37,10,99,97,112,32,54,48,37,10,98,97,99,107,32,49,10,102,111,114,119,97,114,100,32,53,10,105,110,116,101,114,101,115,116,32,51,48,37,32,48,46,48,48,32,53,10]
def Jb:List UInt8:=[101,110,116,105,116,121,32,80,10,121,101,97,114,32,50,48,50,48,10,98,111,111,107,32,80,32,120,32,49,46,48,48,10]
def we:List UInt8:=[102,105,108,105,110,103,32,70,32,80,10,116,104,114,101,115,104,111,108,100,32,55,53,37,10,99,97,112,32,54,48,37,10,98,97,99,107,32,49,10,102,111,114,119,97,114,100,32,53,10,105,110,116,101,114,101,115,116,32,51,48,37,32,48,46,48,48,32,53,10,101,110,116,105,116,121,32,80,10,121,101,97,114,32,50,48,50,48,10,98,111,111,107,32,80,32,120,32,49,46,48,48,10]
def GZ:List UInt8:=[102,105,108,105,110,103,32,70]
def GY:List UInt8:=[102,105,108,105,110,103,32,70,32,80,32,99,97,112,32,54,48,37]
theorem CI:(jg we).2=(0,0)∧(jg GZ).2=(0,90)∧(jg GY).2=(11,90)∧(jg []).2=(0,90):=by decide +kernel
theorem IP:((jg we).1.1==[70])=true∧((jg we).1.2.1==[80])=true∧((jg we).1.2.2.2.2.2.2.1==5)=true∧(jg we).1.2.2.2.2.2.2.2.2.2.2.2.1.length=1:=by decide +kernel
theorem I0:(jg we).1.2.2.2.2.2.2.2.2.2.2.2.2.length=1∧((cb (jg we).1.2.2.2.2.2.2.2.2.2.2.2.2).2.2.1.length=1)∧(cb (jg we).1.2.2.2.2.2.2.2.2.2.2.2.2).2.2.1.head?.map (fun b=>b.2.1)=some [120]:=by decide +kernel
theorem CT:(∀ x∈(kN we).1,dE fW (x.1.headD ([],0)).1≠8)∧(∀ x∈(kN GZ).1,dE fW (x.1.headD ([],0)).1≠8)∧(∀ x∈(kN GY).1,dE fW (x.1.headD ([],0)).1≠8)∧(∀ x∈(kN []).1,dE fW (x.1.headD ([],0)).1≠8):=by decide +kernel
instance:bi (.cs EI) 25 true:=⟨fun {X w v} h=>(inferInstance:bi (.fx 0 cD false) 25 true).ok (Bu h)⟩
theorem Ft {B:Nat} {d:ar} {X:List Nat} {w:World} {v:Value} (h:(ai.tr (Rp.frn B a7) j7 0 d).holds X w v):(ai.ra a7 d).holds X w v:=by
 obtain ⟨cs,e,h⟩:=h
 exact ⟨cs,e,a7.more h fun b hb=>hb.1.1⟩
theorem xG:dB Tryz.prog S1 27 [] [] (fun _=> .is (Tx IV)):=by
 refine fA Tryz.func27 rfl Tryz.ntmps27 qE (fun _ _=>by kernel_rfl) fun X w hE=> ?_
 simp only [bf,Nat.zero_add,Nat.reduceAdd]
 repeat' first|kernel_rfl|apply aF|apply aG|apply aI|apply aD|apply aH|apply aM|apply aN|apply aA|apply aE|apply be|apply aq|apply a_|apply a8|apply aB|refine fm rfl ?_|apply bc|exact ab|exact Cv.rfl'|intro _
theorem F4:IV++Jb=we:=by decide
theorem Ey {w00:World} {N:Nat} {L:List Loc} {E:List (Nat×ai)} {d:Nat} {t0:TypeId} {pos:String} {af:Array Edge} {gd:Option (Nat×Bool)} {o:Operand} {ty t1:TypeId} [h0:b_ E o (.is (Tx IV))]:aR Tryz.prog w00 N L E ⟨some d, .binOp .add ty o (.const (Tx Jb)) t1,t0,pos,af,gd⟩ (.is (Tx we)):=F4▸cC qD
theorem AU:dB Tryz.prog fE 8 [] [] (fun _=> .is (.bool true)):=by
 have c0:dB Tryz.prog fE 10 [0] [.is (Tx we)] (fun B=> .tup [.tr (Rp.frn B a7) j7 0 (jg we).1, .is (.int .i64 0), .is (.int .i64 0)]):=by
  have:=pB (s:=we) CT.1
  rw [CI.1] at this
  exact this
 have c1:dB Tryz.prog fE 10 [0] [.is (Tx GZ)] (fun B=> .tup [.tr (Rp.frn B a7) j7 0 (jg GZ).1, .is (.int .i64 0), .is (.int .i64 90)]):=by
  have:=pB (s:=GZ) CT.2.1
  rw [CI.2.1] at this
  exact this
 have c2:dB Tryz.prog fE 10 [0] [.is (Tx GY)] (fun B=> .tup [.tr (Rp.frn B a7) j7 0 (jg GY).1, .is (.int .i64 11), .is (.int .i64 90)]):=by
  have:=pB (s:=GY) CT.2.2.1
  rw [CI.2.2.1] at this
  exact this
 have c3:dB Tryz.prog fE 10 [0] [.is (Tx [])] (fun B=> .tup [.tr (Rp.frn B a7) j7 0 (jg []).1, .is (.int .i64 0), .is (.int .i64 90)]):=by
  have:=pB (s:=[]) CT.2.2.2
  rw [CI.2.2.2] at this
  exact this
 obtain ⟨q1,q2,q3,q4⟩:=IP
 obtain ⟨y1,y2,y3⟩:=I0
 generalize (jg we).1=D at*
 generalize (jg GZ).1=D1 at*
 generalize (jg GY).1=D2 at*
 generalize (jg []).1=D3 at*
 obtain ⟨y,hy⟩:∃ y,D.2.2.2.2.2.2.2.2.2.2.2.2=[y]:=List.length_eq_one_iff.1 y1
 rw [hy] at y2 y3
 have y2:y.2.2.1.length=1:=y2
 have y3:y.2.2.1.head?.map (fun b=>b.2.1)=some [120]:=y3
 obtain ⟨bk,hbk⟩:∃ b,y.2.2.1=[b]:=List.length_eq_one_iff.1 y2
 rw [hbk] at y3
 have y3:(bk.2.1==[120])=true:=by
  have:bk.2.1=[120]:=Option.some.inj y3
  rw [this];rfl
 have hy0:(D.2.2.2.2.2.2.2.2.2.2.2.2)[0]? =some y:=by rw [hy];rfl
 have hb0:(y.2.2.1)[0]? =some bk:=by rw [hbk];rfl
 have q4:(((D.2.2.2.2.2.2.2.2.2.2.2.1.length:Nat):Int)==1)=true:=by rw [q4];rfl
 have y1:(((D.2.2.2.2.2.2.2.2.2.2.2.2.length:Nat):Int)==1)=true:=by rw [y1];rfl
 have y2:(((y.2.2.1.length:Nat):Int)==1)=true:=by rw [y2];rfl
 refine fA Tryz.func8 rfl Tryz.ntmps8 qE (fun _ _=>by kernel_rfl) fun X w hE=> ?_
 simp only [bf,Nat.zero_add,Nat.reduceAdd]
 repeat' first|kernel_rfl|(refine fd (.ra a7 D) (fun _ _ _ h=>Ft h) ?_)|apply aF|apply aG|apply aI|apply aD|apply aH|apply aM|apply aN|apply aA|apply aE|refine bw rfl inferInstance (by first|exact sc trivial xG|exact sc hE c0|exact sc hE c1|exact sc hE c2|exact sc hE c3|exact bj (by first|assumption|rfl)|exact au (by first|assumption|rfl)|exact cN hy0|exact cN hb0|exact fg|exact eG|exact am|exact aj|exact ah|exact aa|exact au (by first|assumption|rfl)|exact am|exact aK (by assumption)|exact ae) qK ?_|refine bZ rfl inferInstance rfl qK ?_|refine bW rfl inferInstance qK ?_|apply be|apply aq|apply a_|apply a8|apply aB|refine fm rfl ?_|apply bl|apply bO|apply bN|apply eo|apply em|refine eu rfl ?_|apply ep|apply ew|apply bc|exact sc trivial xG|exact Ey|exact sc hE c0|exact sc hE c1|exact sc hE c2|exact sc hE c3|exact bj qG|exact au qG|exact cN hy0|exact cN hb0|exact fg|exact eG|exact am|exact aQ|exact aj|exact ab|exact ah|exact aa|exact aJ|exact aQ|exact aW|exact au qG|exact am|exact aK qL|exact ae|exact Cv.rfl'|intro _
def gL (ws:List (List UInt8)) (k:Nat):List UInt8:=bif k==0 || decide (ws.length<k) then [] else ws.getD (k - 1) []
def oV:List (List UInt8):=[[105,110,99,111,109,101],[101,120,112,101,110,115,101],[101,120,101,109,112,116],[100,101,110,105,101,100],[99,97,112,112,101,100],[100,101,102,101,114,114,101,100],[100,101,112,114,101,99,105,97,116,105,111,110],[105,110,116,101,114,101,115,116,45,105,110],[105,110,116,101,114,101,115,116,45,111,117,116],[100,105,118,105,100,101,110,100],[100,105,115,116,114,105,98,117,116,105,111,110]]
def oU:List (List UInt8):=[[103,111,111,100,115],[115,101,114,118,105,99,101],[105,110,116,101,114,101,115,116],[100,105,118,105,100,101,110,100]]
theorem xS:yS=oV:=by decide +kernel
theorem xv:sF=oU:=by decide +kernel
theorem jP {P:Program} {w00:World} {N:Nat} {L:List Loc} {E:List (Nat×ai)} {d:Nat} {t0:TypeId} {pos:String} {af:Array Edge} {gd:Option (Nat×Bool)} {l:List Value} {u:Value} {o oi:Operand} {ty:TypeId} {j:Nat} {kk:IntKind} [ho:b_ E o (.vs l)] [hi:b_ E oi (.is (.int kk (j:Int)))] [ht:o_ P ty] (ha:l[j]? =some u):aR P w00 N L E ⟨some d, .indexAddr ty o oi,t0,pos,af,gd⟩ (.pv u):=by
 constructor
 intro X ρ w hc _ hN hm hsl
 obtain ⟨b,e,hb,h⟩:=ho.get (X:=X) (w:=w) hc fun p hp e=>hsl p hp qS
 have e1:ρ o= .slice (some ⟨b,0,none⟩) l.length l.length:=e
 have e2:ρ oi= .int kk j:=hi.get (X:=X) (w:=w) hc fun p hp e=>hsl p hp qS
 have hj:j<l.length:=(List.getElem?_eq_some_iff.1 ha).1
 obtain ⟨el,hu,hs,_⟩:=ht.ok
 have hz:(sizeOf el).run P w= .ok 1 w:=by
  cases hq:P.info? el with
  |none=>rw [hq] at hs;cases hs
  |some q=>
   rw [hq] at hs
   have:q.size=1:=by simpa using hs
   simp [sizeOf,typeInfo,hq,this]
 have hrun:(execOp ρ ⟨some d, .indexAddr ty o oi,t0,pos,af,gd⟩).run P w= .ok (.value (.pointer (some ⟨b,0+j*1,none⟩))) w:=by
  unfold execOp
  have hji:(0:Int)≤(j:Int)∧(j:Int)<(l.length:Int):=⟨by omega,by omega⟩
  simp only [e1,e2,Instr.indexAt,asIntOf,Sem.run_bind,Sem.run_pure,Result.andThen_ok,run_underlying hu w,hji,and_self,if_true,hz,Int.toNat_natCast,Addr.add_mid]
 unfold Yields
 rw [hrun]
 exact ⟨⟨b,_,rfl,hb,by rw [show 0+j*1=j by omega];exact h j u ha⟩,Below.refl _ _⟩
theorem Ax(h:0<k) (h2:k<256):IntKind.u8.wrap ((k:Int) - 1)=((k - 1:Nat):Int):=by
 rw [show (k:Int) - 1=((k - 1:Nat):Int) by omega]
 exact qw ⟨by omega,by omega⟩
theorem uh{ws:List (List UInt8)} {l:List UInt8} (hk:k<256) (hll:l.length<4294967281) (ha:∀ (j:Nat) b,l[j]? =some b→b.toNat<128) (hws:Lib.fields l=ws):dB Tryz.prog fE 48 [0,0] [.is (.int .u8 (k:Int)), .is (Tx l)] (fun _=> .is (Tx (gL ws k))):=by
 have hcv:IntKind.i64.wrap (k:Int)=(k:Int):=dh qO qO
 have cf:=ux hll ha
 rw [hws] at cf
 by_cases h0:k=0
 ·subst h0
  rw [show gL ws 0=[] from rfl]
  refine fA Tryz.func48 rfl Tryz.ntmps48 qE (fun _ _=>by kernel_rfl) fun X w hE=> ?_
  simp only [bf,Nat.zero_add,Nat.reduceAdd]
  repeat' first|kernel_rfl|apply aF|apply aG|apply aI|apply aD|apply aH|apply aM|apply aN|apply aA|apply aE|refine bw rfl inferInstance (by first|exact sc hE cf|exact dw|exact dR (k:= .u8) (k2:= .i64) (by kernel_rfl) (by kernel_rfl) hcv|exact ay (by first|assumption|rfl)|exact aj|exact ay (by first|assumption|rfl)|exact am) qK ?_|refine bZ rfl inferInstance rfl qK ?_|refine bW rfl inferInstance qK ?_|apply be|apply aq|apply a_|apply a8|apply aB|refine fm rfl ?_|apply bl|apply bO|apply bN|apply eo|apply em|refine eu rfl ?_|apply ep|apply ew|apply bc|exact sc hE cf|exact dw|exact jP hx|exact cT|exact fQ hsb|exact dR (k:= .u8) (k2:= .i64) qK qK hcv|exact au qG|exact ay qG|exact aj|exact ab|exact ah|exact bI|exact bH|exact au qG|exact ay qG|exact am|exact aK qL|exact ae|exact Cv.rfl'|intro _
 ·have e0:((k:Int)==0)=false:=beq_eq_false_iff_ne.2 qO
  by_cases hl:ws.length<k
  ·have h1:decide (((ws.map Tx).length:Int)<(k:Int))=true:=decide_eq_true (by rw [List.length_map];omega)
   rw [show gL ws k=[] by unfold gL;rw [decide_eq_true hl,Bool.or_true];rfl]
   refine fA Tryz.func48 rfl Tryz.ntmps48 qE (fun _ _=>by kernel_rfl) fun X w hE=> ?_
   simp only [bf,Nat.zero_add,Nat.reduceAdd]
   repeat' first|kernel_rfl|apply aF|apply aG|apply aI|apply aD|apply aH|apply aM|apply aN|apply aA|apply aE|refine bw rfl inferInstance (by first|exact sc hE cf|exact dw|exact dR (k:= .u8) (k2:= .i64) (by kernel_rfl) (by kernel_rfl) hcv|exact ay (by first|assumption|rfl)|exact aj|exact ay (by first|assumption|rfl)|exact am) qK ?_|refine bZ rfl inferInstance rfl qK ?_|refine bW rfl inferInstance qK ?_|apply be|apply aq|apply a_|apply a8|apply aB|refine fm rfl ?_|apply bl|apply bO|apply bN|apply eo|apply em|refine eu rfl ?_|apply ep|apply ew|apply bc|exact sc hE cf|exact dw|exact jP hx|exact cT|exact fQ hsb|exact dR (k:= .u8) (k2:= .i64) qK qK hcv|exact au qG|exact ay qG|exact aj|exact ab|exact ah|exact bI|exact bH|exact au qG|exact ay qG|exact am|exact aK qL|exact ae|exact Cv.rfl'|intro _
  ·have h1:decide (((ws.map Tx).length:Int)<(k:Int))=false:=decide_eq_false (by rw [List.length_map];omega)
   have hsb:=Ax (k:=k) qO hk
   obtain ⟨t,ht⟩:∃ t,ws[k - 1]? =some t:=⟨_,List.getElem?_eq_getElem qO⟩
   have hx:(ws.map Tx)[k - 1]? =some (Tx t):=by rw [List.getElem?_map,ht];rfl
   rw [show gL ws k=t by unfold gL;rw [show (k==0)=false from beq_eq_false_iff_ne.2 h0,decide_eq_false hl,Bool.or_self,cond_false,List.getD_eq_getElem?_getD,ht];rfl]
   refine fA Tryz.func48 rfl Tryz.ntmps48 qE (fun _ _=>by kernel_rfl) fun X w hE=> ?_
   simp only [bf,Nat.zero_add,Nat.reduceAdd]
   repeat' first|kernel_rfl|apply aF|apply aG|apply aI|apply aD|apply aH|apply aM|apply aN|apply aA|apply aE|refine bw rfl inferInstance (by first|exact sc hE cf|exact dw|exact dR (k:= .u8) (k2:= .i64) (by kernel_rfl) (by kernel_rfl) hcv|exact ay (by first|assumption|rfl)|exact aj|exact ay (by first|assumption|rfl)|exact am) qK ?_|refine bZ rfl inferInstance rfl qK ?_|refine bW rfl inferInstance qK ?_|apply be|apply aq|apply a_|apply a8|apply aB|refine fm rfl ?_|apply bl|apply bO|apply bN|apply eo|apply em|refine eu rfl ?_|apply ep|apply ew|apply bc|exact sc hE cf|exact dw|exact jP hx|exact cT|exact fQ hsb|exact dR (k:= .u8) (k2:= .i64) qK qK hcv|exact au qG|exact ay qG|exact aj|exact ab|exact ah|exact bI|exact bH|exact au qG|exact ay qG|exact am|exact aK qL|exact ae|exact Cv.rfl'|intro _
theorem xq{ws:List (List UInt8)} (hk:k<256)  :dB Tryz.prog S1 49 [0,0] [.vs (ws.map Tx), .is (.int .u8 (k:Int))] (fun _=> .is (Tx (gL ws k))):=by
 have hcv:IntKind.i64.wrap (k:Int)=(k:Int):=dh qO qO
 by_cases h0:k=0
 ·subst h0
  rw [show gL ws 0=[] from rfl]
  refine fA Tryz.func49 rfl Tryz.ntmps49 qE (fun _ _=>by kernel_rfl) fun X w hE=> ?_
  simp only [bf,Nat.zero_add,Nat.reduceAdd]
  repeat' first|kernel_rfl|apply aF|apply aG|apply aI|apply aD|apply aH|apply aM|apply aN|apply aA|apply aE|refine bw rfl inferInstance (by first|exact dw|exact dR (k:= .u8) (k2:= .i64) (by kernel_rfl) (by kernel_rfl) hcv|exact ay (by first|assumption|rfl)|exact aj|exact ay (by first|assumption|rfl)|exact am) qK ?_|refine bZ rfl inferInstance rfl qK ?_|refine bW rfl inferInstance qK ?_|apply be|apply aq|apply a_|apply a8|apply aB|refine fm rfl ?_|apply bl|apply bO|apply bN|apply eo|apply em|refine eu rfl ?_|apply ep|apply ew|apply bc|exact dw|exact jP hx|exact cT|exact fQ hsb|exact dR (k:= .u8) (k2:= .i64) qK qK hcv|exact bu qG|exact ay qG|exact aj|exact ab|exact ah|exact bI|exact bH|exact bu qG|exact ay qG|exact am|exact aK qL|exact ae|exact Cv.rfl'|intro _
 ·have e0:decide ((k:Int)<1)=false:=decide_eq_false qO
  by_cases hl:ws.length<k
  ·have h1:decide (((ws.map Tx).length:Int)<(k:Int))=true:=decide_eq_true (by rw [List.length_map];omega)
   rw [show gL ws k=[] by unfold gL;rw [decide_eq_true hl,Bool.or_true];rfl]
   refine fA Tryz.func49 rfl Tryz.ntmps49 qE (fun _ _=>by kernel_rfl) fun X w hE=> ?_
   simp only [bf,Nat.zero_add,Nat.reduceAdd]
   repeat' first|kernel_rfl|apply aF|apply aG|apply aI|apply aD|apply aH|apply aM|apply aN|apply aA|apply aE|refine bw rfl inferInstance (by first|exact dw|exact dR (k:= .u8) (k2:= .i64) (by kernel_rfl) (by kernel_rfl) hcv|exact ay (by first|assumption|rfl)|exact aj|exact ay (by first|assumption|rfl)|exact am) qK ?_|refine bZ rfl inferInstance rfl qK ?_|refine bW rfl inferInstance qK ?_|apply be|apply aq|apply a_|apply a8|apply aB|refine fm rfl ?_|apply bl|apply bO|apply bN|apply eo|apply em|refine eu rfl ?_|apply ep|apply ew|apply bc|exact dw|exact jP hx|exact cT|exact fQ hsb|exact dR (k:= .u8) (k2:= .i64) qK qK hcv|exact bu qG|exact ay qG|exact aj|exact ab|exact ah|exact bI|exact bH|exact bu qG|exact ay qG|exact am|exact aK qL|exact ae|exact Cv.rfl'|intro _
  ·have h1:decide (((ws.map Tx).length:Int)<(k:Int))=false:=decide_eq_false (by rw [List.length_map];omega)
   have hsb:=Ax (k:=k) qO hk
   obtain ⟨t,ht⟩:∃ t,ws[k - 1]? =some t:=⟨_,List.getElem?_eq_getElem qO⟩
   have hx:(ws.map Tx)[k - 1]? =some (Tx t):=by rw [List.getElem?_map,ht];rfl
   rw [show gL ws k=t by unfold gL;rw [show (k==0)=false from beq_eq_false_iff_ne.2 h0,decide_eq_false hl,Bool.or_self,cond_false,List.getD_eq_getElem?_getD,ht];rfl]
   refine fA Tryz.func49 rfl Tryz.ntmps49 qE (fun _ _=>by kernel_rfl) fun X w hE=> ?_
   simp only [bf,Nat.zero_add,Nat.reduceAdd]
   repeat' first|kernel_rfl|apply aF|apply aG|apply aI|apply aD|apply aH|apply aM|apply aN|apply aA|apply aE|refine bw rfl inferInstance (by first|exact dw|exact dR (k:= .u8) (k2:= .i64) (by kernel_rfl) (by kernel_rfl) hcv|exact ay (by first|assumption|rfl)|exact aj|exact ay (by first|assumption|rfl)|exact am) qK ?_|refine bZ rfl inferInstance rfl qK ?_|refine bW rfl inferInstance qK ?_|apply be|apply aq|apply a_|apply a8|apply aB|refine fm rfl ?_|apply bl|apply bO|apply bN|apply eo|apply em|refine eu rfl ?_|apply ep|apply ew|apply bc|exact dw|exact jP hx|exact cT|exact fQ hsb|exact dR (k:= .u8) (k2:= .i64) qK qK hcv|exact bu qG|exact ay qG|exact aj|exact ab|exact ah|exact bI|exact bH|exact bu qG|exact ay qG|exact am|exact aK qL|exact ae|exact Cv.rfl'|intro _
theorem wY {ws:List (List UInt8)} {t:List UInt8} (hl:ws.length≤200):dB Tryz.prog S1 45 [0,0] [.vs (ws.map Tx), .is (Tx t)] (fun _=> .is (.int .u8 (dE ws t:Int))):=by
 have hle:=mo ws t
 refine fA Tryz.func45 rfl Tryz.ntmps45 qE (fun _ _=>by kernel_rfl) fun X w hE=> ?_
 simp only [bf,Nat.zero_add,Nat.reduceAdd]
 repeat' first|kernel_rfl|apply aF|apply aG|apply aI|apply aD|apply aH|apply aM|apply aN|apply aA|apply aE|apply be|apply aq|apply a_|apply a8|apply aB|refine fm rfl ?_|apply bl|apply bO|apply bN|apply eo|apply em|refine eu rfl ?_|apply ep|apply ew|apply bc|exact dw|exact gI qL|exact cT|exact bj qG|exact bG qL|exact bu qG|exact dR (k:= .i64) (k2:= .u8) qK qK qL|exact aj|exact ab|exact ah|exact au qG|exact bu qG|exact am|exact aK qL|exact ae|exact Cv.rfl'|intro _
 refine kd fun a w h=> ?_
 refine iG (fun k a w=>∃ i:Nat,i+k=ws.length∧(dE ws t=0∨i<dE ws t)∧TS _ X [] [(5, .is (.int .i64 (i:Int))),(0, .vs (ws.map Tx)),(1, .is (Tx t))] 21 a w) ws.length ⟨0,by omega,by omega,h.keep [5,0,1]⟩ ?_
 clear h
 rintro k a w ⟨i,hi,hcs,h⟩
 by_cases hlt:i<ws.length
 ·have hc:decide ((i:Int)<((ws.map Tx).length:Int))=true:=decide_eq_true (by rw [List.length_map];omega)
  have hw:IntKind.i64.wrap ((i:Int)+1)=((i+1:Nat):Int):=dh qO qO
  have hu:IntKind.u8.wrap ((i+1:Nat):Int)=((i+1:Nat):Int):=qw ⟨by omega,by omega⟩
  obtain ⟨x,hx⟩:∃ x,ws[i]? =some x:=⟨_,List.getElem?_eq_getElem hlt⟩
  have hx':(ws.map Tx)[i]? =some (Tx x):=by rw [List.getElem?_map,hx];rfl
  cases hq:x==t with
  |true=>
   have hx:ws[i]? =some t:=by rw [hx,eq_of_beq hq]
   have h1:=wi hx
   rw [show dE ws t=i+1 by omega]
   refine fh h ?_
   clear h
   repeat' first|kernel_rfl|apply aF|apply aG|apply aI|apply kK (s:=5)|apply aD|apply aH|apply aM|apply aN|apply aA|apply aE|apply be|apply aq|apply a_|apply a8|apply aB|refine fm rfl ?_|apply bl|apply bO|apply bN|apply eo|apply em|refine eu rfl ?_|apply ep|apply ew|apply bc|exact dw|exact gI qL|exact cT|exact bj qG|exact bG qL|exact bu qG|exact dR (k:= .i64) (k2:= .u8) qK qK qL|exact aj|exact ab|exact ah|exact au qG|exact bu qG|exact am|exact aK qL|exact ae|exact Cv.rfl'|intro _
  |false=>
   have hn:dE ws t≠i+1:=fun e=>by
    have:=sZ e
    rw [hx] at this
    injection this with this
    rw [this,beq_self_eq_true] at hq
    cases hq
   refine fh h ?_
   clear h
   repeat' first|kernel_rfl|exact iz fun _ _ h=>⟨k - 1,by omega,i+1,by omega,by omega,h.keep [5,0,1]⟩|apply aF|apply aG|apply aI|apply kK (s:=5)|apply aD|apply aH|apply aM|apply aN|apply aA|apply aE|apply be|apply aq|apply a_|apply a8|apply aB|refine fm rfl ?_|apply bl|apply bO|apply bN|apply eo|apply em|refine eu rfl ?_|apply ep|apply ew|apply bc|exact dw|exact gI qL|exact cT|exact bj qG|exact bG qL|exact bu qG|exact dR (k:= .i64) (k2:= .u8) qK qK qL|exact aj|exact ab|exact ah|exact au qG|exact bu qG|exact am|exact aK qL|exact ae|exact Cv.rfl'|intro _
 ·have hc:decide ((i:Int)<((ws.map Tx).length:Int))=false:=decide_eq_false (by rw [List.length_map];omega)
  rw [show dE ws t=0 by omega]
  refine fh h ?_
  clear h
  repeat' first|kernel_rfl|apply aF|apply aG|apply aI|apply kK (s:=5)|apply aD|apply aH|apply aM|apply aN|apply aA|apply aE|apply be|apply aq|apply a_|apply a8|apply aB|refine fm rfl ?_|apply bl|apply bO|apply bN|apply eo|apply em|refine eu rfl ?_|apply ep|apply ew|apply bc|exact dw|exact gI qL|exact cT|exact bj qG|exact bG qL|exact bu qG|exact dR (k:= .i64) (k2:= .u8) qK qK qL|exact aj|exact ab|exact ah|exact au qG|exact bu qG|exact am|exact aK qL|exact ae|exact Cv.rfl'|intro _
theorem sn:dB Tryz.prog S1 46 [] [] (fun _=> .vs (oV.map Tx)):=by
 refine fA Tryz.func46 rfl Tryz.ntmps46 qE (fun _ _=>by kernel_rfl) fun X w hE=> ?_
 simp only [bf,Nat.zero_add,Nat.reduceAdd]
 repeat' first|kernel_rfl|apply aF|apply aG|apply aI|apply aD|apply aH|apply aM|apply aN|apply aA|apply aE|apply be|apply aq|apply a_|apply a8|apply aB|refine fm rfl ?_|apply bc|exact lu rfl rfl rfl|exact ab|exact Cv.rfl'|intro _
theorem uX:dB Tryz.prog S1 47 [] [] (fun _=> .vs (oU.map Tx)):=by
 refine fA Tryz.func47 rfl Tryz.ntmps47 qE (fun _ _=>by kernel_rfl) fun X w hE=> ?_
 simp only [bf,Nat.zero_add,Nat.reduceAdd]
 repeat' first|kernel_rfl|apply aF|apply aG|apply aI|apply aD|apply aH|apply aM|apply aN|apply aA|apply aE|apply be|apply aq|apply a_|apply a8|apply aB|refine fm rfl ?_|apply bc|exact lu rfl rfl rfl|exact ab|exact Cv.rfl'|intro _
theorem oH(hk:k<256):dB Tryz.prog fE 18 [0] [.is (.int .u8 (k:Int))] (fun _=> .is (Tx (gL oV k))):=by
 have cw:dB Tryz.prog fE 48 [0,0] [.is (.int .u8 (k:Int)), .is (Tx yE)] (fun _=> .is (Tx (gL oV k))):=uh hk qD pF xS
 refine fA Tryz.func18 rfl Tryz.ntmps18 qE (fun _ _=>by kernel_rfl) fun X w hE=> ?_
 simp only [bf,Nat.zero_add,Nat.reduceAdd]
 repeat' first|kernel_rfl|apply aF|apply aG|apply aI|apply aD|apply aH|apply aM|apply aN|apply aA|apply aE|apply be|apply aq|apply a_|apply a8|apply aB|refine fm rfl ?_|apply bc|exact sc hE cw|exact aj|exact ab|exact Cv.rfl'|intro _
theorem tN(hk:k<256):dB Tryz.prog S1 19 [0] [.is (.int .u8 (k:Int))] (fun _=> .is (Tx (gL oV k))):=by
 have cw:=xq (ws:=oV) hk
 refine fA Tryz.func19 rfl Tryz.ntmps19 qE (fun _ _=>by kernel_rfl) fun X w hE=> ?_
 simp only [bf,Nat.zero_add,Nat.reduceAdd]
 repeat' first|kernel_rfl|apply aF|apply aG|apply aI|apply aD|apply aH|apply aM|apply aN|apply aA|apply aE|apply be|apply aq|apply a_|apply a8|apply aB|refine fm rfl ?_|apply bc|exact sc trivial sn|exact sc trivial cw|exact aj|exact ab|exact Cv.rfl'|intro _
theorem sU {t:List UInt8}:dB Tryz.prog S1 15 [0] [.is (Tx t)] (fun _=> .tup [.is (.int .u8 (dE oV t:Int)), .is (.bool (decide (0<dE oV t)))]):=by
 have cf:=wY (ws:=oV) (t:=t) qD
 have hg:decide ((0:Int)<(dE oV t:Int))=decide (0<dE oV t):=decide_eq_decide.2 qO
 refine fA Tryz.func15 rfl Tryz.ntmps15 qE (fun _ _=>by kernel_rfl) fun X w hE=> ?_
 simp only [bf,Nat.zero_add,Nat.reduceAdd]
 repeat' first|kernel_rfl|apply aF|apply aG|apply aI|apply aD|apply aH|apply aM|apply aN|apply aA|apply aE|apply be|apply aq|apply a_|apply a8|apply aB|refine oI rfl ?_|apply bc|exact sc trivial sn|exact sc trivial cf|exact ay hg|exact aj|exact ab|exact ay qG|exact Cv.rfl'|intro _
theorem qm(hk:k<256):dB Tryz.prog fE 20 [0] [.is (.int .u8 (k:Int))] (fun _=> .is (Tx (gL oU k))):=by
 have cw:dB Tryz.prog fE 48 [0,0] [.is (.int .u8 (k:Int)), .is (Tx zi)] (fun _=> .is (Tx (gL oU k))):=uh hk qD pZ xv
 refine fA Tryz.func20 rfl Tryz.ntmps20 qE (fun _ _=>by kernel_rfl) fun X w hE=> ?_
 simp only [bf,Nat.zero_add,Nat.reduceAdd]
 repeat' first|kernel_rfl|apply aF|apply aG|apply aI|apply aD|apply aH|apply aM|apply aN|apply aA|apply aE|apply be|apply aq|apply a_|apply a8|apply aB|refine fm rfl ?_|apply bc|exact sc hE cw|exact aj|exact ab|exact Cv.rfl'|intro _
theorem vb(hk:k<256):dB Tryz.prog S1 21 [0] [.is (.int .u8 (k:Int))] (fun _=> .is (Tx (gL oU k))):=by
 have cw:=xq (ws:=oU) hk
 refine fA Tryz.func21 rfl Tryz.ntmps21 qE (fun _ _=>by kernel_rfl) fun X w hE=> ?_
 simp only [bf,Nat.zero_add,Nat.reduceAdd]
 repeat' first|kernel_rfl|apply aF|apply aG|apply aI|apply aD|apply aH|apply aM|apply aN|apply aA|apply aE|apply be|apply aq|apply a_|apply a8|apply aB|refine fm rfl ?_|apply bc|exact sc trivial uX|exact sc trivial cw|exact aj|exact ab|exact Cv.rfl'|intro _
theorem vv {t:List UInt8}:dB Tryz.prog S1 17 [0] [.is (Tx t)] (fun _=> .tup [.is (.int .u8 (dE oU t:Int)), .is (.bool (decide (0<dE oU t)))]):=by
 have cf:=wY (ws:=oU) (t:=t) qD
 have hg:decide ((0:Int)<(dE oU t:Int))=decide (0<dE oU t):=decide_eq_decide.2 qO
 refine fA Tryz.func17 rfl Tryz.ntmps17 qE (fun _ _=>by kernel_rfl) fun X w hE=> ?_
 simp only [bf,Nat.zero_add,Nat.reduceAdd]
 repeat' first|kernel_rfl|apply aF|apply aG|apply aI|apply aD|apply aH|apply aM|apply aN|apply aA|apply aE|apply be|apply aq|apply a_|apply a8|apply aB|refine oI rfl ?_|apply bc|exact sc trivial uX|exact sc trivial cf|exact ay hg|exact aj|exact ab|exact ay qG|exact Cv.rfl'|intro _
theorem xB {ws:List (List UInt8)} {t:List UInt8} (h:0<dE ws t):gL ws (dE ws t)=t:=by
 obtain ⟨i,hi⟩:∃ i,dE ws t=i+1:=⟨dE ws t - 1,by omega⟩
 have hx:=sZ hi
 have hl:=(List.getElem?_eq_some_iff.1 hx).1
 rw [hi]
 unfold gL
 rw [decide_eq_false qO,show (i+1==0)=false from rfl,Bool.or_self,cond_false,List.getD_eq_getElem?_getD,Nat.add_sub_cancel,hx]
 rfl
theorem Bn{t:List UInt8} (hk:k<256) (ht:t.length≤9223372036854775807):dB Tryz.prog fE 4 [0,0] [.is (Tx t), .is (.int .u8 (k:Int))] (fun _=> .is (.bool true)):=by
 have hR:=AU
 by_cases hl:100<t.length
 ·have hlen:decide ((100:Int)<(t.length:Int))=true:=decide_eq_true qO
  refine fA Tryz.func4 rfl Tryz.ntmps4 qE (fun _ _=>by kernel_rfl) fun X w hE=> ?_
  simp only [bf,Nat.zero_add,Nat.reduceAdd]
  repeat' first|kernel_rfl|apply aF|apply aG|apply aI|apply aD|apply aH|apply aM|apply aN|apply aA|apply aE|refine bw rfl inferInstance (by first|exact sc hE hR|exact aj|exact bI|exact bH|exact ak (b:=true) (u:=false) rfl|exact ak (b:=false) (u:=true) rfl|exact ak rfl|exact au (by first|assumption|rfl)|exact bq (by first|assumption|rfl)) qK ?_|refine bZ rfl inferInstance rfl qK ?_|refine bW rfl inferInstance qK ?_|apply be|apply aq|apply a_|apply a8|apply aB|refine fm rfl ?_|apply bl|apply bO|apply bN|apply eo|apply em|refine eu rfl ?_|apply ep|apply ew|apply bc|exact aL|exact ay qG|exact sc hE hR|exact aj|exact ab|exact aJ|exact aQ|exact aW|exact bI|exact bH|exact ak (b:=true) (u:=false) rfl|exact ak (b:=false) (u:=true) rfl|exact ak rfl|exact au qG|exact bq qG|exact ay qG|exact am|exact Cv.rfl'|intro _
 ·have hlen:decide ((100:Int)<(t.length:Int))=false:=decide_eq_false qO
  have k1:dB Tryz.prog fE 14 [0] [.is (Tx t)] (fun _=> .tup [.is (.int .u8 (dE oV t:Int)), .is (.bool (decide (0<dE oV t)))]):=xS▸vj
  have k2:=sU (t:=t)
  have k3:dB Tryz.prog fE 16 [0] [.is (Tx t)] (fun _=> .tup [.is (.int .u8 (dE oU t:Int)), .is (.bool (decide (0<dE oU t)))]):=xv▸l_
  have k4:=vv (t:=t)
  have w1:=oH hk
  have w2:=tN hk
  have w3:=qm hk
  have w4:=vb hk
  have hc16:=mo oV t
  have hd16:=mo oU t
  have hcl:oV.length=11:=rfl
  have hdl:oU.length=4:=rfl
  have v1:=oH (k:=dE oV t) qO
  have v2:=qm (k:=dE oU t) qO
  have p1:0<dE oV t→gL oV (dE oV t)=t:=xB
  have p2:0<dE oU t→gL oU (dE oU t)=t:=xB
  have n1:((dE oV t:Int) != (dE oV t:Int))=false:=bne_self_eq_false _
  have n2:((dE oU t:Int) != (dE oU t:Int))=false:=bne_self_eq_false _
  have n3:(!(gL oV k==gL oV k))=false:=by rw [beq_self_eq_true];rfl
  have n4:(!(gL oU k==gL oU k))=false:=by rw [beq_self_eq_true];rfl
  have n5:∀ b:Bool,(b != b)=false:=fun b=>by cases b<;>rfl
  have q1:(t==t)=true:=beq_self_eq_true _
  generalize dE oV t=x at*
  generalize dE oU t=y at*
  generalize hwc:gL oV k=u1 at*
  generalize hwd:gL oU k=u2 at*
  cases hx:decide (0<x) with
  |true=>
   rw [hx] at k1 k2
   rw [p1 (of_decide_eq_true hx)] at v1
   cases hy:decide (0<y) with
   |true=>
    rw [hy] at k3 k4
    rw [p2 (of_decide_eq_true hy)] at v2
    refine fA Tryz.func4 rfl Tryz.ntmps4 qE (fun _ _=>by kernel_rfl) fun X w hE=> ?_
    simp only [bf,Nat.zero_add,Nat.reduceAdd]
    repeat' first|kernel_rfl|apply aF|apply aG|apply aI|apply aD|apply aH|apply aM|apply aN|apply aA|apply aE|refine bw rfl inferInstance (by first|exact sc hE hR|exact sc hE k1|exact sc trivial k2|exact sc hE k3|exact sc trivial k4|exact sc hE w1|exact sc trivial w2|exact sc hE w3|exact sc trivial w4|exact sc hE v1|exact sc hE v2|exact bq (by assumption)|exact ip (n5 _)|exact dI (by assumption)|exact bj (by assumption)|exact aj|exact bI|exact bH|exact ak (b:=true) (u:=false) rfl|exact ak (b:=false) (u:=true) rfl|exact ak rfl|exact au (by first|assumption|rfl)|exact bq (by first|assumption|rfl)) qK ?_|refine bZ rfl inferInstance rfl qK ?_|refine bW rfl inferInstance qK ?_|apply be|apply aq|apply a_|apply a8|apply aB|refine fm rfl ?_|apply bl|apply bO|apply bN|apply eo|apply em|refine eu rfl ?_|apply ep|apply ew|apply bc|exact aL|exact ay qG|exact sc hE hR|exact sc hE k1|exact sc trivial k2|exact sc hE k3|exact sc trivial k4|exact sc hE w1|exact sc trivial w2|exact sc hE w3|exact sc trivial w4|exact sc hE v1|exact sc hE v2|exact bq qL|exact ip (n5 _)|exact dI qL|exact bj qL|exact aj|exact ab|exact aJ|exact aQ|exact aW|exact bI|exact bH|exact ak (b:=true) (u:=false) rfl|exact ak (b:=false) (u:=true) rfl|exact ak rfl|exact au qG|exact bq qG|exact ay qG|exact am|exact Cv.rfl'|intro _
   |false=>
    rw [hy] at k3 k4
    refine fA Tryz.func4 rfl Tryz.ntmps4 qE (fun _ _=>by kernel_rfl) fun X w hE=> ?_
    simp only [bf,Nat.zero_add,Nat.reduceAdd]
    repeat' first|kernel_rfl|apply aF|apply aG|apply aI|apply aD|apply aH|apply aM|apply aN|apply aA|apply aE|refine bw rfl inferInstance (by first|exact sc hE hR|exact sc hE k1|exact sc trivial k2|exact sc hE k3|exact sc trivial k4|exact sc hE w1|exact sc trivial w2|exact sc hE w3|exact sc trivial w4|exact sc hE v1|exact sc hE v2|exact bq (by assumption)|exact ip (n5 _)|exact dI (by assumption)|exact bj (by assumption)|exact aj|exact bI|exact bH|exact ak (b:=true) (u:=false) rfl|exact ak (b:=false) (u:=true) rfl|exact ak rfl|exact au (by first|assumption|rfl)|exact bq (by first|assumption|rfl)) qK ?_|refine bZ rfl inferInstance rfl qK ?_|refine bW rfl inferInstance qK ?_|apply be|apply aq|apply a_|apply a8|apply aB|refine fm rfl ?_|apply bl|apply bO|apply bN|apply eo|apply em|refine eu rfl ?_|apply ep|apply ew|apply bc|exact aL|exact ay qG|exact sc hE hR|exact sc hE k1|exact sc trivial k2|exact sc hE k3|exact sc trivial k4|exact sc hE w1|exact sc trivial w2|exact sc hE w3|exact sc trivial w4|exact sc hE v1|exact sc hE v2|exact bq qL|exact ip (n5 _)|exact dI qL|exact bj qL|exact aj|exact ab|exact aJ|exact aQ|exact aW|exact bI|exact bH|exact ak (b:=true) (u:=false) rfl|exact ak (b:=false) (u:=true) rfl|exact ak rfl|exact au qG|exact bq qG|exact ay qG|exact am|exact Cv.rfl'|intro _
  |false=>
   rw [hx] at k1 k2
   cases hy:decide (0<y) with
   |true=>
    rw [hy] at k3 k4
    rw [p2 (of_decide_eq_true hy)] at v2
    refine fA Tryz.func4 rfl Tryz.ntmps4 qE (fun _ _=>by kernel_rfl) fun X w hE=> ?_
    simp only [bf,Nat.zero_add,Nat.reduceAdd]
    repeat' first|kernel_rfl|apply aF|apply aG|apply aI|apply aD|apply aH|apply aM|apply aN|apply aA|apply aE|refine bw rfl inferInstance (by first|exact sc hE hR|exact sc hE k1|exact sc trivial k2|exact sc hE k3|exact sc trivial k4|exact sc hE w1|exact sc trivial w2|exact sc hE w3|exact sc trivial w4|exact sc hE v1|exact sc hE v2|exact bq (by assumption)|exact ip (n5 _)|exact dI (by assumption)|exact bj (by assumption)|exact aj|exact bI|exact bH|exact ak (b:=true) (u:=false) rfl|exact ak (b:=false) (u:=true) rfl|exact ak rfl|exact au (by first|assumption|rfl)|exact bq (by first|assumption|rfl)) qK ?_|refine bZ rfl inferInstance rfl qK ?_|refine bW rfl inferInstance qK ?_|apply be|apply aq|apply a_|apply a8|apply aB|refine fm rfl ?_|apply bl|apply bO|apply bN|apply eo|apply em|refine eu rfl ?_|apply ep|apply ew|apply bc|exact aL|exact ay qG|exact sc hE hR|exact sc hE k1|exact sc trivial k2|exact sc hE k3|exact sc trivial k4|exact sc hE w1|exact sc trivial w2|exact sc hE w3|exact sc trivial w4|exact sc hE v1|exact sc hE v2|exact bq qL|exact ip (n5 _)|exact dI qL|exact bj qL|exact aj|exact ab|exact aJ|exact aQ|exact aW|exact bI|exact bH|exact ak (b:=true) (u:=false) rfl|exact ak (b:=false) (u:=true) rfl|exact ak rfl|exact au qG|exact bq qG|exact ay qG|exact am|exact Cv.rfl'|intro _
   |false=>
    rw [hy] at k3 k4
    refine fA Tryz.func4 rfl Tryz.ntmps4 qE (fun _ _=>by kernel_rfl) fun X w hE=> ?_
    simp only [bf,Nat.zero_add,Nat.reduceAdd]
    repeat' first|kernel_rfl|apply aF|apply aG|apply aI|apply aD|apply aH|apply aM|apply aN|apply aA|apply aE|refine bw rfl inferInstance (by first|exact sc hE hR|exact sc hE k1|exact sc trivial k2|exact sc hE k3|exact sc trivial k4|exact sc hE w1|exact sc trivial w2|exact sc hE w3|exact sc trivial w4|exact sc hE v1|exact sc hE v2|exact bq (by assumption)|exact ip (n5 _)|exact dI (by assumption)|exact bj (by assumption)|exact aj|exact bI|exact bH|exact ak (b:=true) (u:=false) rfl|exact ak (b:=false) (u:=true) rfl|exact ak rfl|exact au (by first|assumption|rfl)|exact bq (by first|assumption|rfl)) qK ?_|refine bZ rfl inferInstance rfl qK ?_|refine bW rfl inferInstance qK ?_|apply be|apply aq|apply a_|apply a8|apply aB|refine fm rfl ?_|apply bl|apply bO|apply bN|apply eo|apply em|refine eu rfl ?_|apply ep|apply ew|apply bc|exact aL|exact ay qG|exact sc hE hR|exact sc hE k1|exact sc trivial k2|exact sc hE k3|exact sc trivial k4|exact sc hE w1|exact sc trivial w2|exact sc hE w3|exact sc trivial w4|exact sc hE v1|exact sc hE v2|exact bq qL|exact ip (n5 _)|exact dI qL|exact bj qL|exact aj|exact ab|exact aJ|exact aQ|exact aW|exact bI|exact bH|exact ak (b:=true) (u:=false) rfl|exact ak (b:=false) (u:=true) rfl|exact ak rfl|exact au qG|exact bq qG|exact ay qG|exact am|exact Cv.rfl'|intro _
end Go.Proofs.YtcpeiijdgabenaaGreatDoor
