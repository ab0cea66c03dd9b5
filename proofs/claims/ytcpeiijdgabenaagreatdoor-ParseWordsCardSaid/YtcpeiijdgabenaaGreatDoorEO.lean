/- Package ast: names, money, shares. -/
import Derived.Test.YtcpeiijdgabenaaGreatDoorEN
import Derived.Test.YtcpeiijdgabenaaGreatDoorShelf
import Derived.Test.YtcpeiijdgabenaaGreatDoorEM
import Derived.Test.YtcpeiijdgabenaaGreatDoorEK
import Derived.Test.YtcpeiijdgabenaaGreatDoorEL
import Derived.Test.YtcpeiijdgabenaaGreatDoorEJ
import Derived.Test.YtcpeiijdgabenaaGreatDoorEG
set_option maxHeartbeats 4000000
set_option maxRecDepth 20000
set_option synthInstance.maxHeartbeats 400000
set_option synthInstance.maxSize 4000
set_option linter.unusedSimpArgs false
set_option linter.unusedVariables false
namespace Go.Proofs.YtcpeiijdgabenaaGreatDoor
open Go Go.RowKit
variable {x:bA} {k L:Nat} {X:List Nat} {w:World} {v:Value} {ty:TypeId}
theorem BT (p:UInt8→Prop) (h:∀ n:Fin 256,p (UInt8.ofNat n.val)) (c:UInt8):p c:=by
 have:=h ⟨c.toNat,UInt8.toNat_lt c⟩
 simpa using this
def yM:List UInt8:=[65,66,67,68,69,70,71,72,73,74,75,76,77,78,79,80,81,82,83,84,85,86,87,88,89,90,97,98,99,100,101,102,103,104,105,106,107,108,109,110,111,112,113,114,115,116,117,118,119,120,121,122]
def qZ:List UInt8:=[65,66,67,68,69,70,71,72,73,74,75,76,77,78,79,80,81,82,83,84,85,86,87,88,89,90,97,98,99,100,101,102,103,104,105,106,107,108,109,110,111,112,113,114,115,116,117,118,119,120,121,122,48,49,50,51,52,53,54,55,56,57,95,45]
theorem Hy (c:UInt8):decide ((0:Int)≤Lib.indexByte yM c)=C2 c:=BT (fun c=>decide ((0:Int)≤Lib.indexByte yM c)=C2 c) (by decide +kernel) c
theorem IW (c:UInt8):qZ.contains c=Ih c:=BT (fun c=>qZ.contains c=Ih c) (by decide +kernel) c
theorem rU {p:UInt8→Bool}:∀ (l:List UInt8),l.dropWhile p=[]↔l.all p=true
 |[]=>by simp
 |c::l=>by
  rw [List.dropWhile_cons,List.all_cons]
  cases h:p c
  ·simp
  ·simpa using rU l
theorem sm {p:UInt8→Bool}:∀ (l:List UInt8),(l.dropWhile p).all p=true↔l.all p=true
 |[]=>by simp
 |c::l=>by
  rw [List.dropWhile_cons,List.all_cons]
  cases h:p c
  ·simp [h]
  ·simpa using sm l
theorem y6 (l:List UInt8):(Lib.trimS l qZ==[])=l.all Ih:=by
 have e:(fun b=>qZ.contains b)=Ih:=funext IW
 rw [Bool.eq_iff_iff,beq_iff_eq]
 show List.dropWhile (fun b=>qZ.contains b) (List.reverse (List.dropWhile (fun b=>qZ.contains b) l.reverse))=[]↔_
 rw [e,rU,List.all_reverse,sm,List.all_reverse]
def BG (l:List UInt8):Bool:=((!(l==[]))&&decide ((l.length:Int)≤32))&&(match l with|[]=>false|c::_=>decide ((0:Int)≤Lib.indexByte yM c))&&(Lib.trimS l qZ==[])
theorem BW (l:List UInt8):BG l=lW l:=by
 unfold BG lW
 rw [y6,Bool.eq_iff_iff]
 cases l with
 |nil=>simp
 |cons c l=>
  dsimp only
  rw [Hy]
  simp only [Bool.and_eq_true,decide_eq_true_eq]
  constructor
  ·rintro ⟨⟨⟨_,h1⟩,h2⟩,h3⟩;exact ⟨⟨h2,h3⟩,by omega⟩
  ·rintro ⟨⟨h2,h3⟩,h1⟩;exact ⟨⟨⟨rfl,by omega⟩,h2⟩,h3⟩
theorem gw {l:List UInt8} (hl:l.length≤9223372036854775807):dB Tryz.prog S1 173 [0,0] [.is (Tx l), .is (Tx qZ)] (fun _=> .is (Tx (Lib.trimS l qZ))):=
 qr (fun _ _=>by kernel_rfl) fun w _=>(Any.strings_Trim_laid Tryz.lays160 qK ⟨l.toArray⟩ ⟨qZ.toArray⟩ w (by rw [fR];exact hl) qD (ascii_of_all qD)).mono fun e w' h=>by
  rw [bU,bU] at h
  exact h
theorem tS {l:List UInt8}:dB Tryz.prog S1 125 [0] [.is (Tx l)] (fun _=> .is (.bool (lW l))):=by
 rw [←BW]
 unfold BG
 have hci:∀ {c:UInt8},dB Tryz.prog S1 148 [0,0] [.is (Tx yM), .is (.int .u8 (c.toNat:Int))] (fun _=> .is (.int .i64 (Lib.indexByte yM c))):=xm
 cases h0:(!(l==[]))
 ·simp only [Bool.false_and]
  refine fA Tryz.func125 rfl Tryz.ntmps125 qE (fun _ _=>by kernel_rfl) fun X w hE=> ?_
  simp only [bf,Nat.zero_add,Nat.reduceAdd]
  repeat' first|kernel_rfl|apply aF|apply aG|apply aI|apply aD|apply aH|apply aM|apply aN|apply aA|apply aE|refine bw rfl inferInstance (by first|exact sc trivial hci|exact sc trivial (gw qO)|exact bD qL|exact aL|exact bj qG|exact bD qL|exact aj|exact au qG|exact cL qG|exact bP qG|exact am) qK ?_|refine bZ rfl inferInstance rfl qK ?_|refine bW rfl inferInstance qK ?_|apply be|apply aq|apply a_|apply a8|apply aB|refine fm rfl ?_|apply bc|exact sc trivial hci|exact sc trivial (gw qO)|exact bD qL|exact aL|exact bj qG|exact dI qG|exact bD qL|exact aj|exact ab|exact aQ|exact aW|exact au qG|exact bq qG|exact cL qG|exact bP qG|exact am|exact Cv.rfl'|intro _
 cases l with
 |nil=>cases h0
 |cons c t=>
 dsimp only
 cases h1:decide (((c::t).length:Int)≤32)
 ·simp only [Bool.true_and,Bool.false_and]
  refine fA Tryz.func125 rfl Tryz.ntmps125 qE (fun _ _=>by kernel_rfl) fun X w hE=> ?_
  simp only [bf,Nat.zero_add,Nat.reduceAdd]
  repeat' first|kernel_rfl|apply aF|apply aG|apply aI|apply aD|apply aH|apply aM|apply aN|apply aA|apply aE|refine bw rfl inferInstance (by first|exact sc trivial hci|exact sc trivial (gw qO)|exact bD qL|exact aL|exact bj qG|exact bD qL|exact aj|exact au qG|exact cL qG|exact bP qG|exact am) qK ?_|refine bZ rfl inferInstance rfl qK ?_|refine bW rfl inferInstance qK ?_|apply be|apply aq|apply a_|apply a8|apply aB|refine fm rfl ?_|apply bc|exact sc trivial hci|exact sc trivial (gw qO)|exact bD qL|exact aL|exact bj qG|exact dI qG|exact bD qL|exact aj|exact ab|exact aQ|exact aW|exact au qG|exact bq qG|exact cL qG|exact bP qG|exact am|exact Cv.rfl'|intro _
 have hx:0≤(0:Int)∧(c::t)[(0:Int).toNat]? =some c:=⟨by omega,rfl⟩
 have hlen:=of_decide_eq_true h1
 cases h2:decide ((0:Int)≤Lib.indexByte yM c)
 ·simp only [Bool.true_and,Bool.false_and]
  refine fA Tryz.func125 rfl Tryz.ntmps125 qE (fun _ _=>by kernel_rfl) fun X w hE=> ?_
  simp only [bf,Nat.zero_add,Nat.reduceAdd]
  repeat' first|kernel_rfl|apply aF|apply aG|apply aI|apply aD|apply aH|apply aM|apply aN|apply aA|apply aE|refine bw rfl inferInstance (by first|exact sc trivial hci|exact sc trivial (gw qO)|exact bD qL|exact aL|exact bj qG|exact bD qL|exact aj|exact au qG|exact cL qG|exact bP qG|exact am) qK ?_|refine bZ rfl inferInstance rfl qK ?_|refine bW rfl inferInstance qK ?_|apply be|apply aq|apply a_|apply a8|apply aB|refine fm rfl ?_|apply bc|exact sc trivial hci|exact sc trivial (gw qO)|exact bD qL|exact aL|exact bj qG|exact dI qG|exact bD qL|exact aj|exact ab|exact aQ|exact aW|exact au qG|exact bq qG|exact cL qG|exact bP qG|exact am|exact Cv.rfl'|intro _
 simp only [Bool.true_and]
 refine fA Tryz.func125 rfl Tryz.ntmps125 qE (fun _ _=>by kernel_rfl) fun X w hE=> ?_
 simp only [bf,Nat.zero_add,Nat.reduceAdd]
 repeat' first|kernel_rfl|apply aF|apply aG|apply aI|apply aD|apply aH|apply aM|apply aN|apply aA|apply aE|refine bw rfl inferInstance (by first|exact sc trivial hci|exact sc trivial (gw qO)|exact bD qL|exact aL|exact bj qG|exact bD qL|exact aj|exact au qG|exact cL qG|exact bP qG|exact am) qK ?_|refine bZ rfl inferInstance rfl qK ?_|refine bW rfl inferInstance qK ?_|apply be|apply aq|apply a_|apply a8|apply aB|refine fm rfl ?_|apply bc|exact sc trivial hci|exact sc trivial (gw qO)|exact bD qL|exact aL|exact bj qG|exact dI qG|exact bD qL|exact aj|exact ab|exact aQ|exact aW|exact au qG|exact bq qG|exact cL qG|exact bP qG|exact am|exact Cv.rfl'|intro _
theorem qb(hx:Dg 4294967296 x.1.2) (hy:Dg 4294967296 x.2.2) (hk:0<k∧k<4294967296) (h:jn k x=true):∃ m,x.2.2=[m]∧0<m∧(k:Int).tmod m=0:=by
 unfold jn at h
 simp only [Bool.and_eq_true,decide_eq_true_eq] at h
 obtain ⟨h1,h2⟩:=h
 obtain ⟨hf,_,_⟩:=jG.of hx hy h1
 have hd:=(qv x).den_pos
 have hle:(qv x).den≤k:=Nat.le_of_dvd hk.1 (Nat.dvd_of_mod_eq_zero h2)
 have hw:=hf.den
 have hl:x.2.2.length≤1:=hw.row.len_le qD (by have:(4294967296:Int)^1=4294967296:=rfl;omega)
 have hv:=hw.row.val
 match hq:x.2.2,hl with
 |[],_=>
  rw [hq] at hv
  have:(0:Int)=(((qv x).den:Int).natAbs:Int):=hv
  omega
 |[m],_=>
  rw [hq] at hv
  have e:m+4294967296*0=(((qv x).den:Int).natAbs:Int):=hv
  have e':m=((qv x).den:Int):=qO
  refine ⟨m,rfl,by omega,?_⟩
  rw [e']
  have:((k:Int)%((qv x).den:Int))=0:=by exact_mod_cast congrArg (Nat.cast:Nat→Int) h2
  rw [Int.tmod_eq_emod_of_nonneg qO]
  exact this
theorem zW{m:Int} (hx:Dg 4294967296 x.1.2) (hy:Dg 4294967296 x.2.2) (hq:x.2.2=[m]) (hm:0<m) (hr:(k:Int).tmod m=0):jn k x=pO x:=by
 unfold jn
 cases h1:pO x with
 |false=>rfl
 |true=>
  obtain ⟨hf,_,_⟩:=jG.of hx hy h1
  have hv:=hf.den.row.val
  rw [hq] at hv
  have e:m+4294967296*0=(((qv x).den:Int).natAbs:Int):=hv
  have e':m=((qv x).den:Int):=qO
  rw [e',Int.tmod_eq_emod_of_nonneg qO] at hr
  have:k%(qv x).den=0:=by exact_mod_cast hr
  simp [this]
theorem Hr(h:(ai.qx x L).holds X w v):(Dg 4294967296 x.1.2∧Dg 4294967296 x.2.2)∧x.1.2.length≤L∧x.2.2.length≤L∧0<L:=by
 obtain ⟨y,⟨rfl,hl⟩,cs,e,c1,c2,e2,h1,h2⟩:=h
 obtain ⟨_,_,_,_,_,d1⟩:=dc.1 h1
 obtain ⟨_,_,_,_,_,d2⟩:=dc.1 h2
 exact ⟨⟨d1,d2⟩,hl⟩
section
variable {w00:World} {N:Nat} {L:List Loc} {E:List (Nat×ai)} {d:Nat} {t0:TypeId} {pos:String} {af:Array Edge} {gd:Option (Nat×Bool)} {ats:Array TypeId}
theorem jz {o o1:Operand} {x y:Int} {t1:TypeId} [h0:b_ E o (.is (.int .u32 x))] [h1:b_ E o1 (.is (.int .u32 y))] (hx:y≠0∧IntKind.u32.wrap (x.tmod y)=x.tmod y):aR Tryz.prog w00 N L E ⟨some d, .binOp .rem 128 o o1 t1,t0,pos,af,gd⟩ (.is (.int .u32 (x.tmod y))):=by
 constructor
 intro X ρ w hc _ hN hm hsl
 have e0:ρ o= .int .u32 x:=h0.get (X:=X) (w:=w) hc fun p hp e=>hsl p hp qS
 have e1:ρ o1= .int .u32 y:=h1.get (X:=X) (w:=w) hc fun p hp e=>hsl p hp qS
 obtain ⟨hy,hz⟩:=hx
 clear hc hsl h0 h1
 unfold Yields
 go_simp
 exact ⟨rfl,Below.refl _ _⟩
end
theorem zb{u:Bool} (hL:L≤90) (hk:0<k∧k<4294967296) (hu:jn k x=u):dB Tryz.prog g9 174 [4,0] [.qx x L, .is (.int .u32 (k:Int))] (fun _=> .is (.bool u)):=by
 subst hu
 refine I8 (F:=(Dg 4294967296 x.1.2∧Dg 4294967296 x.2.2)∧x.1.2.length≤L∧x.2.2.length≤L∧0<L) (fun ha=> ?_) (fun _ _=>by kernel_rfl) fun ⟨⟨hx,hy⟩,_⟩=> ?_
 ·obtain ⟨v,us,rfl,h,_⟩:=ha.tail
  exact Hr h
 cases h1:((x.2.2.length:Int)==1)
 ·rw [show jn k x=false by
   cases h:jn k x with
   |false=>rfl
   |true=>
    obtain ⟨m,e,_⟩:=qb hx hy hk h
    rw [e] at h1;cases h1]
  refine fA Tryz.func174 rfl Tryz.ntmps174 qE (fun _ _=>by kernel_rfl) fun X w hE=> ?_
  simp only [bf,Nat.zero_add,Nat.reduceAdd]
  repeat' first|kernel_rfl|apply aF|apply aG|apply aI|apply aD|apply aH|apply aM|apply aN|apply aA|apply aE|refine bw rfl inferInstance (by first|exact gy (by assumption)|exact jm|exact jz (by assumption)|exact gu hE (by omega)|exact aj|exact ah|exact au (by first|assumption|rfl)|exact ay (by first|assumption|rfl)|exact aK (by assumption)|exact ae) qK ?_|refine bZ rfl inferInstance rfl qK ?_|refine bW rfl inferInstance qK ?_|apply be|apply aq|apply a_|apply a8|apply aB|refine fm rfl ?_|apply bc|exact pu|exact gy qL|exact jm|exact jz qL|exact gu hE qO|exact aj|exact ab|exact ah|exact aa|exact aQ|exact aW|exact au qG|exact ay qG|exact am|exact aK qL|exact ae|exact Cv.rfl'|intro _
 obtain ⟨m,hm⟩:∃ m,x.2.2=[m]:=List.length_eq_one_iff.1 (by have:=eq_of_beq h1;omega)
 have hx0:x.2.2[0]? =some m:=by rw [hm];rfl
 have hmr:0≤m∧m<4294967296:=hy m (by rw [hm];exact List.mem_singleton.2 rfl)
 cases h2:decide (0<m)
 ·rw [show jn k x=false by
   cases h:jn k x with
   |false=>rfl
   |true=>
    obtain ⟨m',e,h0,_⟩:=qb hx hy hk h
    rw [hm] at e
    have e:m=m':=List.head_eq_of_cons_eq e
    rw [e,decide_eq_true h0] at h2;cases h2]
  refine fA Tryz.func174 rfl Tryz.ntmps174 qE (fun _ _=>by kernel_rfl) fun X w hE=> ?_
  simp only [bf,Nat.zero_add,Nat.reduceAdd]
  repeat' first|kernel_rfl|apply aF|apply aG|apply aI|apply aD|apply aH|apply aM|apply aN|apply aA|apply aE|refine bw rfl inferInstance (by first|exact gy (by assumption)|exact jm|exact jz (by assumption)|exact gu hE (by omega)|exact aj|exact ah|exact au (by first|assumption|rfl)|exact ay (by first|assumption|rfl)|exact aK (by assumption)|exact ae) qK ?_|refine bZ rfl inferInstance rfl qK ?_|refine bW rfl inferInstance qK ?_|apply be|apply aq|apply a_|apply a8|apply aB|refine fm rfl ?_|apply bc|exact pu|exact gy qL|exact jm|exact jz qL|exact gu hE qO|exact aj|exact ab|exact ah|exact aa|exact aQ|exact aW|exact au qG|exact ay qG|exact am|exact aK qL|exact ae|exact Cv.rfl'|intro _
 have hm0:=of_decide_eq_true h2
 have hrm:m≠0∧IntKind.u32.wrap ((k:Int).tmod m)=(k:Int).tmod m:=⟨by omega,by
  rw [IntKind.wrap_u32]
  have h1:=Int.tmod_lt_of_pos (k:Int) hm0
  have h2:=Int.tmod_nonneg m (a:=(k:Int)) qO
  omega⟩
 cases h3:((k:Int).tmod m==0)
 ·rw [show jn k x=false by
   cases h:jn k x with
   |false=>rfl
   |true=>
    obtain ⟨m',e,h0,h4⟩:=qb hx hy hk h
    rw [hm] at e
    have e:m=m':=List.head_eq_of_cons_eq e
    rw [e,h4] at h3;cases h3]
  refine fA Tryz.func174 rfl Tryz.ntmps174 qE (fun _ _=>by kernel_rfl) fun X w hE=> ?_
  simp only [bf,Nat.zero_add,Nat.reduceAdd]
  repeat' first|kernel_rfl|apply aF|apply aG|apply aI|apply aD|apply aH|apply aM|apply aN|apply aA|apply aE|refine bw rfl inferInstance (by first|exact gy (by assumption)|exact jm|exact jz (by assumption)|exact gu hE (by omega)|exact aj|exact ah|exact au (by first|assumption|rfl)|exact ay (by first|assumption|rfl)|exact aK (by assumption)|exact ae) qK ?_|refine bZ rfl inferInstance rfl qK ?_|refine bW rfl inferInstance qK ?_|apply be|apply aq|apply a_|apply a8|apply aB|refine fm rfl ?_|apply bc|exact pu|exact gy qL|exact jm|exact jz qL|exact gu hE qO|exact aj|exact ab|exact ah|exact aa|exact aQ|exact aW|exact au qG|exact ay qG|exact am|exact aK qL|exact ae|exact Cv.rfl'|intro _
 rw [zW hx hy hm hm0 (eq_of_beq h3)]
 refine fA Tryz.func174 rfl Tryz.ntmps174 qE (fun _ _=>by kernel_rfl) fun X w hE=> ?_
 simp only [bf,Nat.zero_add,Nat.reduceAdd]
 repeat' first|kernel_rfl|apply aF|apply aG|apply aI|apply aD|apply aH|apply aM|apply aN|apply aA|apply aE|refine bw rfl inferInstance (by first|exact gy (by assumption)|exact jm|exact jz (by assumption)|exact gu hE (by omega)|exact aj|exact ah|exact au (by first|assumption|rfl)|exact ay (by first|assumption|rfl)|exact aK (by assumption)|exact ae) qK ?_|refine bZ rfl inferInstance rfl qK ?_|refine bW rfl inferInstance qK ?_|apply be|apply aq|apply a_|apply a8|apply aB|refine fm rfl ?_|apply bc|exact pu|exact gy qL|exact jm|exact jz qL|exact gu hE qO|exact aj|exact ab|exact ah|exact aa|exact aQ|exact aW|exact au qG|exact ay qG|exact am|exact aK qL|exact ae|exact Cv.rfl'|intro _
theorem mr{u:Bool} (hL:L≤90) (hu:jn 100 x=u):dB Tryz.prog g9 174 [4,0] [.qx x L, .is (.int .u32 100)] (fun _=> .is (.bool u)):=zb (k:=100) hL qD hu
theorem xO:(0:Rat)<nu:=by unfold nu;decide +kernel
theorem Eh {p:Rat} (h:gb p 0<0):(decide (gb p nu<0)&&decide (gb (-p) nu<0))=decide (gb (-p) nu<0):=by
 have h':=pm.1 h
 have:=xO
 rw [decide_eq_true (pm.2 (by grind)),Bool.true_and]
theorem Dx {p:Rat} (h:¬ gb p 0<0):(decide (gb p nu<0)&&decide (gb (-p) nu<0))=decide (gb p nu<0):=by
 have h':¬ p<0:=fun g=>h (pm.2 g)
 have:=xO
 rw [decide_eq_true (p:=gb (-p) nu<0) (pm.2 (by grind)),Bool.and_true]
theorem wR(hL:L≤80):dB Tryz.prog g9 130 [4] [.qx x L] (fun _=> .is (.bool (s8 x))):=by
 unfold s8
 rw [Bool.and_assoc]
 cases h0:jn 100 x
 ·simp only [Bool.false_and]
  refine fA Tryz.func130 rfl Tryz.ntmps130 qE (fun _ _=>by kernel_rfl) fun X w hE=> ?_
  simp only [bf,Nat.zero_add,Nat.reduceAdd]
  repeat' first|kernel_rfl|apply aF|apply aG|apply aI|apply bQ|apply de|exact bT.nil|exact aZ.nil|exact aY.nil|apply aD|apply aH|apply aM|apply aN|apply aA|apply aE|apply be|apply aq|apply a_|apply a8|apply aB|refine fm rfl ?_|apply bc|exact sc hE (mr qO h0)|exact ab|exact ah|exact ak (b:=true) (u:=false) rfl|exact ak (b:=false) (u:=true) rfl|exact ak rfl|exact bu qG|exact ae|exact Cv.rfl'|(intro _;simp only[cP,cQ,cS,List.map,List.cons_append,List.nil_append])|intro _
 simp only [Bool.true_and]
 cases h1:decide (gb (qv x) 0<0)
 ·rw [Dx (of_decide_eq_false h1)]
  unfold nu
  refine fA Tryz.func130 rfl Tryz.ntmps130 qE (fun _ _=>by kernel_rfl) fun X w hE=> ?_
  simp only [bf,Nat.zero_add,Nat.reduceAdd]
  repeat' first|kernel_rfl|apply aF|apply aG|apply aI|apply b9 (id:=6) [] [] 6|apply bQ|apply de|exact bT.nil|exact aZ.nil|exact aY.nil|apply aD|apply aH|apply aM|apply aN|apply aA|apply aE|apply be|apply aq|apply a_|apply a8|apply aB|refine fm rfl ?_|apply bc|exact sc hE (mr qO h0)|exact z7 hE qO|exact BK hE qO|exact lb hE qO|exact xz hE qO|exact iu hE qD|exact ab|exact ah|exact ak (b:=true) (u:=false) rfl|exact ak (b:=false) (u:=true) rfl|exact ak rfl|exact bu qG|exact ae|exact Cv.rfl'|(intro _;simp only[cP,cQ,cS,List.map,List.cons_append,List.nil_append])|intro _
 ·rw [Eh (of_decide_eq_true h1)]
  unfold nu
  refine fA Tryz.func130 rfl Tryz.ntmps130 qE (fun _ _=>by kernel_rfl) fun X w hE=> ?_
  simp only [bf,Nat.zero_add,Nat.reduceAdd]
  repeat' first|kernel_rfl|apply aF|apply aG|apply aI|apply b9 (id:=6) [] [] 6|apply bQ|apply de|exact bT.nil|exact aZ.nil|exact aY.nil|apply aD|apply aH|apply aM|apply aN|apply aA|apply aE|apply be|apply aq|apply a_|apply a8|apply aB|refine fm rfl ?_|apply bc|exact sc hE (mr qO h0)|exact z7 hE qO|exact BK hE qO|exact lb hE qO|exact xz hE qO|exact iu hE qD|exact ab|exact ah|exact ak (b:=true) (u:=false) rfl|exact ak (b:=false) (u:=true) rfl|exact ak rfl|exact bu qG|exact ae|exact Cv.rfl'|(intro _;simp only[cP,cQ,cS,List.map,List.cons_append,List.nil_append])|intro _
theorem H3(hf:lN L x) (h:(ai.ra Rp.frac x).holds X w v):(ai.qx x L).holds X w v:=⟨x,⟨rfl,hf⟩,h⟩
theorem x_(hL:L≤80) (hf:lN L x):dB Tryz.prog g9 130 [0] [.ra Rp.frac x] (fun _=> .is (.bool (s8 x))):=(wR hL).args fun h=>by
 obtain ⟨v,rfl,h⟩:=h.one
 exact ⟨H3 hf h.1,trivial⟩
section
variable {P:Program} {w00:World} {N:Nat} {L:List Loc} {E:List (Nat×ai)} {d:Nat} {t0:TypeId} {pos:String} {af:Array Edge} {gd:Option (Nat×Bool)} {ats:Array TypeId}
theorem cN{α:Type} {r:Rp α} {p:α→Prop} {l:List α} {a:α} {o oi:Operand} {j:Nat} [ho:b_ E o (.rw r p l)] [hi:b_ E oi (.is (.int .i64 (j:Int)))] [kc:KC r k] [ht:cO P ty k] (ha:l[j]? =some a):aR P w00 N L E ⟨some d, .indexAddr ty o oi,t0,pos,af,gd⟩ (.pe r p a):=by
 have e:=kc.ok
 subst e
 exact aK ha
theorem fH{α:Type} {r:Rp α} {p:α→Prop} {a:α} {s:Nat} [ho:ce E s (.pe r p a)] [kc:KC r k] [ht:eV P ty k true]:aR P w00 N L E ⟨some d, .load ty (.tmp s),t0,pos,af,gd⟩ (.ra r a):=by
 have e:=kc.ok
 subst e
 constructor
 intro X ρ w hc _ hN hm hsl
 obtain ⟨hp,b,o,cs,e,hb,h1,h2⟩:=hsl _ ho.mem qI
 have e':ρ (.tmp s)= .pointer (some ⟨b,o,none⟩):=e
 obtain ⟨dd,hu,hd⟩:=ht.row
 have hi:(P.info? ty).map (·.size)=some cs.length:=by rw [r.len h2];exact ht.size
 have hrun:(execOp ρ ⟨some d, .load ty (.tmp s),t0,pos,af,gd⟩).run P w= .ok (.value (.agg cs.toArray)) w:=by
  unfold execOp
  simp only [e',run_loadAt_mid w b o ty cs dd h1 hu hd hi,Sem.run_bind,Sem.run_pure,Result.andThen_ok]
 unfold Yields
 rw [hrun]
 exact ⟨⟨cs,rfl,h2⟩,Below.refl _ _⟩
end
instance bi.raK {α:Type} {r:Rp α} {a:α} {k:Nat} [kc:KC r k]:bi (.ra r a) k true:=by
 have e:=kc.ok
 subst e
 infer_instance
instance (priority:=low) az.raw {α:Type} {r:Rp α} {a:α} {k:Nat} [kc:KC r k]:az (.ra r a) 0 k true (.ra r a):=by
 have e:=kc.ok
 subst e
 exact .whole inferInstance
def Rp.fnc:Rp FuncId:=⟨1,fun _ _ f cs=>cs=[.func (.func f) #[] #[]],fun h=>by rw [h];rfl,fun h v hv=>by rw [h,List.mem_singleton] at hv;rw [hv];rfl,fun h _=>h,fun h _=>h⟩
instance {f:FuncId}:fI Rp.fnc f (.fv f [] []):=⟨fun h=>by
 injection (show [_]=[_] from h) with e _
 exact ⟨[],[],e,trivial,trivial⟩⟩
instance:KC Rp.fnc 1:=⟨rfl⟩
abbrev BA:Rp (Int×FuncId):=(Rp.int .u8).pair Rp.fnc
instance:KC BA 2:=⟨rfl⟩
instance {a:Int×FuncId}:az (.ra BA a) 0 1 false (.is (.int .u8 a.1)):=az.cell (r':=Rp.int .u8) (g:=fun (a:Int×FuncId)=>a.1) bB.fst ⟨rfl⟩ inferInstance
instance {a:Int×FuncId}:az (.ra BA a) 1 1 false (.fv a.2 [] []):=az.cell (r':=Rp.fnc) (g:=fun (a:Int×FuncId)=>a.2) (bB.tail (n:=1) ⟨rfl⟩ bB.self rfl) ⟨rfl⟩ inferInstance
def ai.sz (k:Nat):ai:=⟨fun _ _ v=>v.cells.size=k∧v.cells.all (·.oneCell')=true∧v= .agg v.cells,fun h _ _=>h⟩
instance {k:Nat}:bi (.sz k) k true:=⟨fun h=>⟨h.1,h.2.1,fun _=>h.2.2,fun h=>by cases h⟩⟩
def I2:Value→Bool
 | .agg _=>true
 |_=>false
theorem xR{P:Program} (h:((P.info? ty).bind (·.zero)).map (fun z=>(z.cells.size,z.cells.all (·.oneCell'),I2 z))=some (k,true,true)):cX P ty (.sz k):=by
 cases hi:P.info? ty with
 |none=>rw [hi] at h;cases h
 |some i=>
 cases hz:i.zero with
 |none=>simp [hi,hz] at h
 |some z=>
 simp [hi,hz] at h
 refine ⟨z,fun X w=>⟨h.1,by simpa using h.2.1,by
  have:=h.2.2
  cases z<;>first|rfl|cases this⟩,fun o ρ w e=> ?_⟩
 have hze:(zeroValue ty).run P w= .ok z w:=by simp [zeroValue,typeInfo,hi,hz]
 cases o with
 |mk dst op t pos af gd=>
  have e':op=_:=e
  subst e'
  unfold execOp
  simp [Instr.alloc,newVar,newRow,Sem.run_bind,hze,Result.andThen_ok]
instance:eV Tryz.prog 192 2 true:=⟨⟨_,Tryz.underlying192,rfl⟩,by kernel_rfl⟩
instance:cX Tryz.prog 192 (.sz 2):=xR qK
instance:cO Tryz.prog 142 2:=⟨⟨_,Tryz.underlying142,by kernel_rfl⟩⟩
instance:eV Tryz.prog 190 1 false:=⟨⟨_,Tryz.underlying190,rfl⟩,by kernel_rfl⟩
instance:aP Tryz.prog 192 0 0 1 false:=⟨⟨_,_,Tryz.underlying192,rfl,rfl,by kernel_rfl,by decide,_,Tryz.underlying5,rfl⟩⟩
instance:aP Tryz.prog 192 1 1 1 false:=⟨⟨_,_,Tryz.underlying192,rfl,rfl,by kernel_rfl,by decide,_,Tryz.underlying190,rfl⟩⟩
section
variable {w00:World} {N:Nat} {L:List Loc} {E:List (Nat×ai)} {d:Nat} {t0:TypeId} {pos:String} {af:Array Edge} {gd:Option (Nat×Bool)}
end
instance:eV Tryz.prog 196 2 true:=⟨⟨_,Tryz.underlying196,rfl⟩,by kernel_rfl⟩
instance:cX Tryz.prog 196 (.sz 2):=xR qK
instance:cO Tryz.prog 145 2:=⟨⟨_,Tryz.underlying145,by kernel_rfl⟩⟩
instance:eV Tryz.prog 194 1 false:=⟨⟨_,Tryz.underlying194,rfl⟩,by kernel_rfl⟩
instance:aP Tryz.prog 196 0 0 1 false:=⟨⟨_,_,Tryz.underlying196,rfl,rfl,by kernel_rfl,by decide,_,Tryz.underlying5,rfl⟩⟩
instance:aP Tryz.prog 196 1 1 1 false:=⟨⟨_,_,Tryz.underlying196,rfl,rfl,by kernel_rfl,by decide,_,Tryz.underlying194,rfl⟩⟩
section
variable {w00:World} {N:Nat} {L:List Loc} {E:List (Nat×ai)} {d:Nat} {t0:TypeId} {pos:String} {af:Array Edge} {gd:Option (Nat×Bool)}
end
abbrev d9:cK:=(((false,[]),(false,[])),((false,[]),(false,[])))
instance:cX Tryz.prog 122 (.ra cq d9):=pf.al
abbrev Et:h_:=([],0,((false,[]),(false,[])))
instance:cX Tryz.prog 124 (.ra d7 Et):=rz.al
abbrev gB:eL:=([],[],((false,[]),(false,[])))
instance:cX Tryz.prog 130 (.ra eH gB):=sT.al
abbrev gD:eT:=([],[],((false,[]),(false,[])))
instance:cX Tryz.prog 82 (.ra eF gD):=tB.al
abbrev GO:c_:=(false,[],0,[],[],[],((false,[]),(false,[])))
instance:cX Tryz.prog 132 (.ra cH GO):=fe.al
abbrev fu:dG:=([],((false,[]),(false,[])),((false,[]),(false,[])))
instance:cX Tryz.prog 134 (.ra dz fu):=rm.al
abbrev gF:fq:=([],((false,[]),(false,[])))
instance:cX Tryz.prog 136 (.ra e9 gF):=s4.al
abbrev Ai:cI:=(0,[],[],[],[],[])
instance:cX Tryz.prog 80 (.ra cU Ai):=mI.al
abbrev cD:ar:=([],[],[],((false,[]),(false,[])),((false,[]),(false,[])),0,0,((false,[]),(false,[])),((false,[]),(false,[])),0,[],[],[])
instance:cX Tryz.prog 44 (.ra a7 cD):=dN.al
abbrev Di:mM:=(0,0,0)
instance:cX Tryz.prog 56 (.ra gl Di):=qX.al
theorem dB.up {P:Program} {G:World→Prop} {f:FuncId} {ks:List Nat} {As:List ai} {T:Nat→ai} (h:dB P S1 f ks As T):dB P G f ks As T:=⟨h.ent,h.down,fun _ hX ha=>h.run trivial hX ha⟩
instance:cX Tryz.prog 9 (.is (Tx [])):=⟨⟨Tx [],fun X w=>rfl,fun o ρ w e=>by
 cases o with
 |mk dst op ty pos af gd=>
  have e':op=_:=e
  subst e'
  go_simp⟩⟩
instance:eV Tryz.prog 30 1 false:=⟨⟨_,Tryz.underlying30,rfl⟩,by kernel_rfl⟩
instance:o_ Tryz.prog 245:=⟨⟨_,Tryz.underlying245,by kernel_rfl,fun w=>⟨.bool false,by go_simp⟩⟩⟩
theorem FK{l:List (List UInt8)} (hl:l.length≤9223372036854775807) (h:(ai.vs (l.map Tx)).holds X w v):(ai.rw Rp.str tt l).holds X w v:=by
 obtain ⟨b,e,hb,hc⟩:=h
 rw [List.length_map] at e
 refine ⟨fun _ _=>trivial,_,l.length,l.length,by rw [e],rfl,Nat.le_refl _,hl,(fun h=>by cases h),fun _=>⟨b,0,rfl,hb,fun j a ha=>⟨[Tx a],?_,⟨_,rfl,bU a⟩⟩⟩⟩
 intro i u hu
 cases i with
 |zero=>
  have e:Tx a=u:=by simpa using hu
  subst e
  have:=hc j (Tx a) (by rw [List.getElem?_map,ha];rfl)
  simpa [show Rp.str.k=1 from rfl] using this
 |succ i=>simp at hu
instance:eV Tryz.prog 34 1 false:=⟨⟨_,Tryz.underlying34,rfl⟩,by kernel_rfl⟩
end Go.Proofs.YtcpeiijdgabenaaGreatDoor
