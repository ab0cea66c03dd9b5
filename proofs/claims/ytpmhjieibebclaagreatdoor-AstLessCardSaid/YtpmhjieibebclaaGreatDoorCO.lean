/- Package ast: names, money, shares. -/
import Derived.Test.YtpmhjieibebclaaGreatDoorCN
import Derived.Test.YtpmhjieibebclaaGreatDoorShelf
import Derived.Test.YtpmhjieibebclaaGreatDoorCM
import Derived.Test.YtpmhjieibebclaaGreatDoorCK
import Derived.Test.YtpmhjieibebclaaGreatDoorCL
import Derived.Test.YtpmhjieibebclaaGreatDoorCJ
import Derived.Test.YtpmhjieibebclaaGreatDoorCG
set_option maxHeartbeats 4000000
set_option maxRecDepth 20000
set_option synthInstance.maxHeartbeats 400000
set_option synthInstance.maxSize 4000
set_option linter.unusedSimpArgs false
set_option linter.unusedVariables false
namespace Go.Proofs.YtpmhjieibebclaaGreatDoor
open Go Go.RowKit
variable {x:aR} {L k:Nat} {u:Bool} {X:List Nat} {w:World} {v:Value} {ty:TypeId}
theorem C8 (p:UInt8→Prop) (h:∀ n:Fin 256,p (UInt8.ofNat n.val)) (c:UInt8):p c:=by
 have:=h ⟨c.toNat,UInt8.toNat_lt c⟩
 simpa using this
def zQ:List UInt8:=[65,66,67,68,69,70,71,72,73,74,75,76,77,78,79,80,81,82,83,84,85,86,87,88,89,90,97,98,99,100,101,102,103,104,105,106,107,108,109,110,111,112,113,114,115,116,117,118,119,120,121,122]
def ri:List UInt8:=[65,66,67,68,69,70,71,72,73,74,75,76,77,78,79,80,81,82,83,84,85,86,87,88,89,90,97,98,99,100,101,102,103,104,105,106,107,108,109,110,111,112,113,114,115,116,117,118,119,120,121,122,48,49,50,51,52,53,54,55,56,57,95,45]
theorem I1 (c:UInt8):decide ((0:Int)≤Lib.indexByte zQ c)=ga c:=C8 (fun c=>decide ((0:Int)≤Lib.indexByte zQ c)=ga c) (by decide +kernel) c
theorem JH (c:UInt8):ri.contains c=mJ c:=C8 (fun c=>ri.contains c=mJ c) (by decide +kernel) c
theorem r_ {p:UInt8→Bool}:∀ (l:List UInt8),l.dropWhile p=[]↔l.all p=true
 |[]=>by simp
 |c::l=>by
  rw [List.dropWhile_cons,List.all_cons]
  cases h:p c
  ·simp
  ·simpa using r_ l
theorem sD {p:UInt8→Bool}:∀ (l:List UInt8),(l.dropWhile p).all p=true↔l.all p=true
 |[]=>by simp
 |c::l=>by
  rw [List.dropWhile_cons,List.all_cons]
  cases h:p c
  ·simp [h]
  ·simpa using sD l
theorem z9 (l:List UInt8):(Lib.trimS l ri==[])=l.all mJ:=by
 have e:(fun b=>ri.contains b)=mJ:=funext JH
 rw [Bool.eq_iff_iff,beq_iff_eq]
 show List.dropWhile (fun b=>ri.contains b) (List.reverse (List.dropWhile (fun b=>ri.contains b) l.reverse))=[]↔_
 rw [e,r_,List.all_reverse,sD,List.all_reverse]
def CR (l:List UInt8):Bool:=((!(l==[]))&&decide ((l.length:Int)≤32))&&(match l with|[]=>false|c::_=>decide ((0:Int)≤Lib.indexByte zQ c))&&(Lib.trimS l ri==[])
theorem C_ (l:List UInt8):CR l=bg l:=by
 unfold CR bg
 rw [z9,Bool.eq_iff_iff]
 cases l with
 |nil=>simp
 |cons c l=>
  dsimp only
  rw [I1]
  simp only [Bool.and_eq_true,decide_eq_true_eq]
  constructor
  ·rintro ⟨⟨⟨_,h1⟩,h2⟩,h3⟩;exact ⟨⟨h2,h3⟩,by omega⟩
  ·rintro ⟨⟨h2,h3⟩,h1⟩;exact ⟨⟨⟨rfl,by omega⟩,h2⟩,h3⟩
theorem zz {l:List UInt8} (hl:l.length≤9223372036854775807):bW Tryz.prog S1 40 [0,0] [.is (Tx l), .is (Tx ri)] (fun _=> .is (Tx (Lib.trimS l ri))):=
 CS (fun _ _=>by kernel_rfl) fun w _=>(Any.strings_Trim_laid Tryz.lays160 qK ⟨l.toArray⟩ ⟨ri.toArray⟩ w (by rw [yh];exact hl) qD (ascii_of_all qD)).mono fun e w' h=>by
  rw [bu,bu] at h
  exact h
theorem bs {p:Prop} (h:p:=by first|exact yG (by assumption)|exact tM|exact Ix (by first|assumption|rfl)|exact AH (by first|assumption|rfl)|exact yl|exact Ax (by assumption)|exact Ed|exact FL (by assumption)|exact dt|exact dE|exact du|exact bm|exact eI|exact eH|exact jT (by first|assumption|rfl)|exact nq (by first|assumption|rfl)|exact mN (by first|assumption|rfl)|exact l7 (by first|assumption|rfl)|exact lZ (by first|assumption|rfl)|exact iA|exact dh (by assumption)|exact bO (b:=true) (u:=false) rfl|exact bO (b:=false) (u:=true) rfl|exact bO rfl|exact iE (by first|assumption|rfl)|exact dA|exact sc trivial hci|exact sc trivial (zz (by omega))|exact zi hE (by omega)|exact d8.nil|exact bG.nil|exact bE.nil|exact sc hE (xu (by omega) h0)|exact GL hE (by omega)|exact Ip hE (by omega)|exact Hn hE (by omega)|exact E_ hE (by omega)|exact v7 hE (by decide)|exact sc trivial k0|exact sc hE k1|exact sc trivial k1|exact sc hE k2|exact sc trivial k2|exact sc trivial k3|exact sc hE ks|exact sc hE km|exact sc hE kw|exact sc hE ku|exact Cv.rfl'):p:=h
theorem ee {l:List UInt8}:bW Tryz.prog S1 16 [0] [.is (Tx l)] (fun _=> .is (.bool (bg l))):=by
 rw [←C_]
 unfold CR
 have hci:∀ {c:UInt8},bW Tryz.prog S1 39 [0,0] [.is (Tx zQ), .is (.int .u8 (c.toNat:Int))] (fun _=> .is (.int .i64 (Lib.indexByte zQ c))):=EC
 cases h0:(!(l==[]))
 ·simp only [Bool.false_and]
  refine cr Tryz.func16 Tryz.ntmps16 fun X w hE=> ?_
  repeat' first|kernel_rfl|apply Bt.mk|refine nx ?_|refine aE rfl bs ?_|refine aD rfl ?_|refine aF rfl ?_|apply ae|refine aQ rfl ?_|exact bs|intro _
 cases l with
 |nil=>cases h0
 |cons c t=>
 dsimp only
 cases h1:decide (((c::t).length:Int)≤32)
 ·simp only [Bool.true_and,Bool.false_and]
  refine cr Tryz.func16 Tryz.ntmps16 fun X w hE=> ?_
  repeat' first|kernel_rfl|apply Bt.mk|refine nx ?_|refine aE rfl bs ?_|refine aD rfl ?_|refine aF rfl ?_|apply ae|refine aQ rfl ?_|exact bs|intro _
 have hx:0≤(0:Int)∧(c::t)[(0:Int).toNat]? =some c:=⟨by omega,rfl⟩
 have hlen:=of_decide_eq_true h1
 cases h2:decide ((0:Int)≤Lib.indexByte zQ c)
 ·simp only [Bool.true_and,Bool.false_and]
  refine cr Tryz.func16 Tryz.ntmps16 fun X w hE=> ?_
  repeat' first|kernel_rfl|apply Bt.mk|refine nx ?_|refine aE rfl bs ?_|refine aD rfl ?_|refine aF rfl ?_|apply ae|refine aQ rfl ?_|exact bs|intro _
 simp only [Bool.true_and]
 refine cr Tryz.func16 Tryz.ntmps16 fun X w hE=> ?_
 repeat' first|kernel_rfl|apply Bt.mk|refine nx ?_|refine aE rfl bs ?_|refine aD rfl ?_|refine aF rfl ?_|apply ae|refine aQ rfl ?_|exact bs|intro _
theorem qq(hx:Dg 4294967296 x.1.2) (hy:Dg 4294967296 x.2.2) (hk:0<k∧k<4294967296) (h:cV k x=true):∃ m,x.2.2=[m]∧0<m∧(k:Int).tmod m=0:=by
 unfold cV at h
 simp only [Bool.and_eq_true,decide_eq_true_eq] at h
 obtain ⟨h1,h2⟩:=h
 obtain ⟨hf,_,_⟩:=iW.of hx hy h1
 have hd:=(qv x).den_pos
 have hle:(qv x).den≤k:=Nat.le_of_dvd hk.1 (Nat.dvd_of_mod_eq_zero h2)
 have hw:=hf.den
 have hl:x.2.2.length≤1:=hw.row.len_le qD (by have:(4294967296:Int)^1=4294967296:=rfl;omega)
 have hv:=hw.row.val
 match hq:x.2.2,hl with
 |[],_=>
  rw [hq] at hv
  have:(0:Int)=(((qv x).den:Int).natAbs:Int):=hv
  omega
 |[m],_=>
  rw [hq] at hv
  have e:m+4294967296*0=(((qv x).den:Int).natAbs:Int):=hv
  have e':m=((qv x).den:Int):=qO
  refine ⟨m,rfl,by omega,?_⟩
  rw [e']
  have:((k:Int)%((qv x).den:Int))=0:=by exact_mod_cast congrArg (Nat.cast:Nat→Int) h2
  rw [Int.tmod_eq_emod_of_nonneg qO]
  exact this
theorem Bq{m:Int} (hx:Dg 4294967296 x.1.2) (hy:Dg 4294967296 x.2.2) (hq:x.2.2=[m]) (hm:0<m) (hr:(k:Int).tmod m=0):cV k x=jB x:=by
 unfold cV
 cases h1:jB x with
 |false=>rfl
 |true=>
  obtain ⟨hf,_,_⟩:=iW.of hx hy h1
  have hv:=hf.den.row.val
  rw [hq] at hv
  have e:m+4294967296*0=(((qv x).den:Int).natAbs:Int):=hv
  have e':m=((qv x).den:Int):=qO
  rw [e',Int.tmod_eq_emod_of_nonneg qO] at hr
  have:k%(qv x).den=0:=by exact_mod_cast hr
  simp [this]
theorem FS(h:(aa.qx x L).holds X w v):(Dg 4294967296 x.1.2∧Dg 4294967296 x.2.2)∧x.1.2.length≤L∧x.2.2.length≤L∧0<L:=by
 obtain ⟨y,⟨rfl,hl⟩,cs,e,c1,c2,e2,h1,h2⟩:=h
 obtain ⟨_,_,_,_,_,d1⟩:=b9.1 h1
 obtain ⟨_,_,_,_,_,d2⟩:=b9.1 h2
 exact ⟨⟨d1,d2⟩,hl⟩
section
variable {w00:World} {N:Nat} {L:List Loc} {E:List (Nat×aa)} {d:Nat} {t0:TypeId} {pos:String} {af:Array Edge} {gd:Option (Nat×Bool)} {ats:Array TypeId}
theorem FL {o o1:Operand} {x y:Int} {t1:TypeId} [h0:bD E o (.is (.int .u32 x))] [h1:bD E o1 (.is (.int .u32 y))] (hx:y≠0∧IntKind.u32.wrap (x.tmod y)=x.tmod y):au Tryz.prog w00 N L E ⟨some d, .binOp .rem 115 o o1 t1,t0,pos,af,gd⟩ (.is (.int .u32 (x.tmod y))):=by
 constructor
 intro X ρ w hc _ hN hm hsl
 have e0:ρ o= .int .u32 x:=h0.get (X:=X) (w:=w) hc fun p hp e=>hsl p hp qS
 have e1:ρ o1= .int .u32 y:=h1.get (X:=X) (w:=w) hc fun p hp e=>hsl p hp qS
 obtain ⟨hy,hz⟩:=hx
 clear hc hsl h0 h1
 unfold Yields
 go_simp
 exact ⟨rfl,Below.refl _ _⟩
end
theorem oo(hL:L≤90) (hk:0<k∧k<4294967296) (hu:cV k x=u):bW Tryz.prog cK 41 [4,0] [.qx x L, .is (.int .u32 (k:Int))] (fun _=> .is (.bool u)):=by
 subst hu
 refine lH (F:=(Dg 4294967296 x.1.2∧Dg 4294967296 x.2.2)∧x.1.2.length≤L∧x.2.2.length≤L∧0<L) (fun ha=> ?_) (fun _ _=>by kernel_rfl) fun ⟨⟨hx,hy⟩,_⟩=> ?_
 ·obtain ⟨v,us,rfl,h,_⟩:=ha.tail
  exact FS h
 cases h1:((x.2.2.length:Int)==1)
 ·rw [show cV k x=false by
   cases h:cV k x with
   |false=>rfl
   |true=>
    obtain ⟨m,e,_⟩:=qq hx hy hk h
    rw [e] at h1;cases h1]
  refine cr Tryz.func41 Tryz.ntmps41 fun X w hE=> ?_
  repeat' first|kernel_rfl|apply Bt.mk|refine nx ?_|refine aE rfl bs ?_|refine aD rfl ?_|refine aF rfl ?_|apply ae|refine aQ rfl ?_|exact bs|intro _
 obtain ⟨m,hm⟩:∃ m,x.2.2=[m]:=List.length_eq_one_iff.1 (by have:=eq_of_beq h1;omega)
 have hx0:x.2.2[0]? =some m:=by rw [hm];rfl
 have hmr:0≤m∧m<4294967296:=hy m (by rw [hm];exact List.mem_singleton.2 rfl)
 cases h2:decide (0<m)
 ·rw [show cV k x=false by
   cases h:cV k x with
   |false=>rfl
   |true=>
    obtain ⟨m',e,h0,_⟩:=qq hx hy hk h
    rw [hm] at e
    have e:m=m':=List.head_eq_of_cons_eq e
    rw [e,decide_eq_true h0] at h2;cases h2]
  refine cr Tryz.func41 Tryz.ntmps41 fun X w hE=> ?_
  repeat' first|kernel_rfl|apply Bt.mk|refine nx ?_|refine aE rfl bs ?_|refine aD rfl ?_|refine aF rfl ?_|apply ae|refine aQ rfl ?_|exact bs|intro _
 have hm0:=of_decide_eq_true h2
 have hrm:m≠0∧IntKind.u32.wrap ((k:Int).tmod m)=(k:Int).tmod m:=⟨by omega,by
  rw [IntKind.wrap_u32]
  have h1:=Int.tmod_lt_of_pos (k:Int) hm0
  have h2:=Int.tmod_nonneg m (a:=(k:Int)) qO
  omega⟩
 cases h3:((k:Int).tmod m==0)
 ·rw [show cV k x=false by
   cases h:cV k x with
   |false=>rfl
   |true=>
    obtain ⟨m',e,h0,h4⟩:=qq hx hy hk h
    rw [hm] at e
    have e:m=m':=List.head_eq_of_cons_eq e
    rw [e,h4] at h3;cases h3]
  refine cr Tryz.func41 Tryz.ntmps41 fun X w hE=> ?_
  repeat' first|kernel_rfl|apply Bt.mk|refine nx ?_|refine aE rfl bs ?_|refine aD rfl ?_|refine aF rfl ?_|apply ae|refine aQ rfl ?_|exact bs|intro _
 rw [Bq hx hy hm hm0 (eq_of_beq h3)]
 refine cr Tryz.func41 Tryz.ntmps41 fun X w hE=> ?_
 repeat' first|kernel_rfl|apply Bt.mk|refine nx ?_|refine aE rfl bs ?_|refine aD rfl ?_|refine aF rfl ?_|apply ae|refine aQ rfl ?_|exact bs|intro _
theorem j7 {n a b:Int}:bW Tryz.prog S1 88 [0,0,0] [.is (.int .i64 n), .is (.int .i64 a), .is (.int .i64 b)] (fun _=> .is (.bool (gp n a b))):=by
 unfold gp
 cases h0:decide (a≤n)
 ·simp only [Bool.false_and]
  refine cr Tryz.func88 Tryz.ntmps88 fun X w hE=> ?_
  repeat' first|kernel_rfl|apply Bt.mk|refine nx ?_|refine aE rfl bs ?_|refine aD rfl ?_|refine aF rfl ?_|apply ae|refine aQ rfl ?_|exact bs|intro _
 simp only [Bool.true_and]
 refine cr Tryz.func88 Tryz.ntmps88 fun X w hE=> ?_
 repeat' first|kernel_rfl|apply Bt.mk|refine nx ?_|refine aE rfl bs ?_|refine aD rfl ?_|refine aF rfl ?_|apply ae|refine aQ rfl ?_|exact bs|intro _
theorem pi {n a b:Int}:bW Tryz.prog S1 131 [0,0,0] [.is (.int .u8 n), .is (.int .u8 a), .is (.int .u8 b)] (fun _=> .is (.bool (gp n a b))):=by
 unfold gp
 cases h0:decide (a≤n)
 ·simp only [Bool.false_and]
  refine cr Tryz.func131 Tryz.ntmps131 fun X w hE=> ?_
  repeat' first|kernel_rfl|apply Bt.mk|refine nx ?_|refine aE rfl bs ?_|refine aD rfl ?_|refine aF rfl ?_|apply ae|refine aQ rfl ?_|exact bs|intro _
 simp only [Bool.true_and]
 refine cr Tryz.func131 Tryz.ntmps131 fun X w hE=> ?_
 repeat' first|kernel_rfl|apply Bt.mk|refine nx ?_|refine aE rfl bs ?_|refine aD rfl ?_|refine aF rfl ?_|apply ae|refine aQ rfl ?_|exact bs|intro _
theorem xy{k:Int} (hL:L≤90) (hk: -9223372036854775808≤k∧k≤9223372036854775807):bW Tryz.prog cK 49 [4,0] [.qx x L, .is (.int .i64 k)] (fun _=> .is (.bool (jH k x))):=by
 unfold jH
 cases h0:decide (0≤de (qv x) 0)
 ·simp only [Bool.false_and]
  refine cr Tryz.func49 Tryz.ntmps49 fun X w hE=> ?_
  repeat' first|kernel_rfl|apply Bt.mk|refine nx ?_|apply ar (id:=1) [(8,false)] [] 10|(apply m7;(focus rfl);(focus kernel_rfl))|apply az|apply aW|infer_instance|refine aE rfl bs ?_|refine aD rfl ?_|refine aF rfl ?_|apply ae|refine aQ rfl ?_|exact bs|intro _
 simp only [Bool.true_and]
 refine cr Tryz.func49 Tryz.ntmps49 fun X w hE=> ?_
 repeat' first|kernel_rfl|apply Bt.mk|refine nx ?_|apply ar (id:=1) [(8,true)] [] 10|apply az|apply aW|infer_instance|refine aE rfl bs ?_|refine aD rfl ?_|refine aF rfl ?_|apply ae|refine aQ rfl ?_|exact v7 hE hk|exact bs|intro _
theorem xu(hL:L≤90) (hu:cV 100 x=u):bW Tryz.prog cK 41 [4,0] [.qx x L, .is (.int .u32 100)] (fun _=> .is (.bool u)):=oo (k:=100) hL qD hu
theorem mZ(hL:L≤90) (hu:cV 1000000 x=u):bW Tryz.prog cK 41 [4,0] [.qx x L, .is (.int .u32 1000000)] (fun _=> .is (.bool u)):=oo (k:=1000000) hL qD hu
theorem xn(hL:L≤90):bW Tryz.prog cK 19 [4] [.qx x L] (fun _=> .is (.bool (jS x))):=by
 unfold jS
 cases h0:cV 1000000 x
 ·simp only [Bool.false_and]
  refine cr Tryz.func19 Tryz.ntmps19 fun X w hE=> ?_
  repeat' first|kernel_rfl|apply Bt.mk|refine nx ?_|refine aE rfl (by first|exact sc hE (mZ hL h0)|exact bs) ?_|refine aD rfl ?_|refine aF rfl ?_|apply ae|refine aQ rfl ?_|exact sc hE (mZ hL h0)|exact bs|intro _
 simp only [Bool.true_and]
 refine cr Tryz.func19 Tryz.ntmps19 fun X w hE=> ?_
 repeat' first|kernel_rfl|apply Bt.mk|refine nx ?_|refine aE rfl (by first|exact sc hE (mZ hL h0)|exact sc hE (xy hL qD)|exact bs) ?_|refine aD rfl ?_|refine aF rfl ?_|apply ae|refine aQ rfl ?_|exact sc hE (mZ hL h0)|exact sc hE (xy hL qD)|exact bs|intro _
theorem yH:(0:Rat)<l9:=by unfold l9;decide +kernel
theorem Fr {p:Rat} (h:de p 0<0):(decide (de p l9<0)&&decide (de (-p) l9<0))=decide (de (-p) l9<0):=by
 have h':=pz.1 h
 have:=yH
 rw [decide_eq_true (pz.2 (by grind)),Bool.true_and]
theorem EL {p:Rat} (h:¬ de p 0<0):(decide (de p l9<0)&&decide (de (-p) l9<0))=decide (de p l9<0):=by
 have h':¬ p<0:=fun g=>h (pz.2 g)
 have:=yH
 rw [decide_eq_true (p:=de (-p) l9<0) (pz.2 (by grind)),Bool.and_true]
theorem xG(hL:L≤80):bW Tryz.prog cK 17 [4] [.qx x L] (fun _=> .is (.bool (j0 x))):=by
 unfold j0
 rw [Bool.and_assoc]
 cases h0:cV 100 x
 ·simp only [Bool.false_and]
  refine cr Tryz.func17 Tryz.ntmps17 fun X w hE=> ?_
  repeat' first|kernel_rfl|apply Bt.mk|refine nx ?_|apply az|apply aW|apply ae|refine aQ rfl ?_|exact bs|intro _
 simp only [Bool.true_and]
 cases h1:decide (de (qv x) 0<0)
 ·rw [EL (of_decide_eq_false h1)]
  unfold l9
  refine cr Tryz.func17 Tryz.ntmps17 fun X w hE=> ?_
  repeat' first|kernel_rfl|apply Bt.mk|refine nx ?_|apply ar (id:=6) [] [] 6|apply az|apply aW|apply ae|refine aQ rfl ?_|exact bs|intro _
 ·rw [Fr (of_decide_eq_true h1)]
  unfold l9
  refine cr Tryz.func17 Tryz.ntmps17 fun X w hE=> ?_
  repeat' first|kernel_rfl|apply Bt.mk|refine nx ?_|apply ar (id:=6) [] [] 6|apply az|apply aW|apply ae|refine aQ rfl ?_|exact bs|intro _
theorem mW(hf:b6 L x) (h:(aa.ra Rp.frac x).holds X w v):(aa.qx x L).holds X w v:=⟨x,⟨rfl,hf⟩,h⟩
theorem gB(hL:L≤80) (hf:b6 L x):bW Tryz.prog cK 17 [0] [.ra Rp.frac x] (fun _=> .is (.bool (j0 x))):=(xG hL).args fun h=>by
 obtain ⟨v,rfl,h⟩:=h.one
 exact ⟨mW hf h.1,trivial⟩
theorem fB(hL:L≤90) (hf:b6 L x):bW Tryz.prog cK 19 [0] [.ra Rp.frac x] (fun _=> .is (.bool (jS x))):=(xn hL).args fun h=>by
 obtain ⟨v,rfl,h⟩:=h.one
 exact ⟨mW hf h.1,trivial⟩
theorem nj{z:Int} (hL:L≤90) (hf:b6 L x) (hz:z=(k:Int)) (hk:0<k∧k<4294967296) (hu:cV k x=u):bW Tryz.prog cK 41 [0,0] [.ra Rp.frac x, .is (.int .u32 z)] (fun _=> .is (.bool u)):=by
 subst hz
 exact (oo hL hk hu).args fun h=>by
  obtain ⟨v,us,rfl,h,h'⟩:=h.tail
  exact ⟨mW hf h,h'⟩
theorem yF{k:Int} (hL:L≤90) (hf:b6 L x) (hk: -9223372036854775808≤k∧k≤9223372036854775807):bW Tryz.prog cK 49 [0,0] [.ra Rp.frac x, .is (.int .i64 k)] (fun _=> .is (.bool (jH k x))):=(xy hL hk).args fun h=>by
 obtain ⟨v,us,rfl,h,h'⟩:=h.tail
 exact ⟨mW hf h,h'⟩
section
variable {P:Program} {w00:World} {N:Nat} {L:List Loc} {E:List (Nat×aa)} {d:Nat} {t0:TypeId} {pos:String} {af:Array Edge} {gd:Option (Nat×Bool)} {ats:Array TypeId}
theorem gW{α:Type} {r:Rp α} {p:α→Prop} {l:List α} {a:α} {o oi:Operand} {j:Nat} [ho:bD E o (.rw r p l)] [hi:bD E oi (.is (.int .i64 (j:Int)))] [kc:KC r k] [ht:cP P ty k] (ha:l[j]? =some a):au P w00 N L E ⟨some d, .indexAddr ty o oi,t0,pos,af,gd⟩ (.pe r p a):=by
 have e:=kc.ok
 subst e
 exact dh ha
theorem fO{α:Type} {r:Rp α} {p:α→Prop} {a:α} {s:Nat} [ho:ck E s (.pe r p a)] [kc:KC r k] [ht:fw P ty k true]:au P w00 N L E ⟨some d, .load ty (.tmp s),t0,pos,af,gd⟩ (.ra r a):=by
 have e:=kc.ok
 subst e
 constructor
 intro X ρ w hc _ hN hm hsl
 obtain ⟨hp,b,o,cs,e,hb,h1,h2⟩:=hsl _ ho.mem qI
 have e':ρ (.tmp s)= .pointer (some ⟨b,o,none⟩):=e
 obtain ⟨dd,hu,hd⟩:=ht.row
 have hi:(P.info? ty).map (·.size)=some cs.length:=by rw [r.len h2];exact ht.size
 have hrun:(execOp ρ ⟨some d, .load ty (.tmp s),t0,pos,af,gd⟩).run P w= .ok (.value (.agg cs.toArray)) w:=by
  unfold execOp
  simp only [e',run_loadAt_mid w b o ty cs dd h1 hu hd hi,Sem.run_bind,Sem.run_pure,Result.andThen_ok]
 unfold Yields
 rw [hrun]
 exact ⟨⟨cs,rfl,h2⟩,Below.refl _ _⟩
end
instance aL.raK {α:Type} {r:Rp α} {a:α} {k:Nat} [kc:KC r k]:aL (.ra r a) k true:=by
 have e:=kc.ok
 subst e
 infer_instance
instance (priority:=low) ai.raw {α:Type} {r:Rp α} {a:α} {k:Nat} [kc:KC r k]:ai (.ra r a) 0 k true (.ra r a):=by
 have e:=kc.ok
 subst e
 exact .whole inferInstance
theorem C0{α:Type} {r:Rp α} {p:α→Prop} {l:List α} (h:(aa.rw r p l).holds X w v):l.length≤9223372036854775807:=by
 obtain ⟨_,A,n,c,_,h⟩:=h
 have hm:=h.lenMax
 rw [h.1];exact hm
def Rp.fnc:Rp FuncId:=⟨1,fun _ _ f cs=>cs=[.func (.func f) #[] #[]],fun h=>by rw [h];rfl,fun h v hv=>by rw [h,List.mem_singleton] at hv;rw [hv];rfl,fun h _=>h,fun h _=>h⟩
instance {f:FuncId}:lC Rp.fnc f (.fv f [] []):=⟨fun h=>by
 injection (show [_]=[_] from h) with e _
 exact ⟨[],[],e,trivial,trivial⟩⟩
instance:KC Rp.fnc 1:=⟨rfl⟩
abbrev iY:Rp (Int×FuncId):=(Rp.int .u8).pair Rp.fnc
instance:KC iY 2:=⟨rfl⟩
instance {a:Int×FuncId}:ai (.ra iY a) 0 1 false (.is (.int .u8 a.1)):=ai.cell (r':=Rp.int .u8) (g:=fun (a:Int×FuncId)=>a.1) aZ.fst ⟨rfl⟩ inferInstance
instance {a:Int×FuncId}:ai (.ra iY a) 1 1 false (.fv a.2 [] []):=ai.cell (r':=Rp.fnc) (g:=fun (a:Int×FuncId)=>a.2) (aZ.tail (n:=1) ⟨rfl⟩ aZ.self rfl) ⟨rfl⟩ inferInstance
def aa.sz (k:Nat):aa:=⟨fun _ _ v=>v.cells.size=k∧v.cells.all (·.oneCell')=true∧v= .agg v.cells,fun h _ _=>h⟩
instance {k:Nat}:aL (.sz k) k true:=⟨fun h=>⟨h.1,h.2.1,fun _=>h.2.2,fun h=>by cases h⟩⟩
def JL:Value→Bool
 | .agg _=>true
 |_=>false
theorem yI{P:Program} (h:((P.info? ty).bind (·.zero)).map (fun z=>(z.cells.size,z.cells.all (·.oneCell'),JL z))=some (k,true,true)):cQ P ty (.sz k):=by
 cases hi:P.info? ty with
 |none=>rw [hi] at h;cases h
 |some i=>
 cases hz:i.zero with
 |none=>simp [hi,hz] at h
 |some z=>
 simp [hi,hz] at h
 refine ⟨z,fun X w=>⟨h.1,by simpa using h.2.1,by
  have:=h.2.2
  cases z<;>first|rfl|cases this⟩,fun o ρ w e=> ?_⟩
 have hze:(zeroValue ty).run P w= .ok z w:=by simp [zeroValue,typeInfo,hi,hz]
 cases o with
 |mk dst op t pos af gd=>
  have e':op=_:=e
  subst e'
  unfold execOp
  simp [Instr.alloc,newVar,newRow,Sem.run_bind,hze,Result.andThen_ok]
instance:fw Tryz.prog 137 2 true:=⟨⟨_,Tryz.underlying137,rfl⟩,by kernel_rfl⟩
instance:cQ Tryz.prog 137 (.sz 2):=yI qK
instance:cP Tryz.prog 88 2:=⟨⟨_,Tryz.underlying88,by kernel_rfl⟩⟩
instance:fw Tryz.prog 135 1 false:=⟨⟨_,Tryz.underlying135,rfl⟩,by kernel_rfl⟩
instance:aq Tryz.prog 137 0 0 1 false:=⟨⟨_,_,Tryz.underlying137,rfl,rfl,by kernel_rfl,by decide,_,Tryz.underlying5,rfl⟩⟩
instance:aq Tryz.prog 137 1 1 1 false:=⟨⟨_,_,Tryz.underlying137,rfl,rfl,by kernel_rfl,by decide,_,Tryz.underlying135,rfl⟩⟩
theorem mi:∃ z,Tryz.prog.underlying 88=some (.slice 137)∧∃ i,Tryz.prog.info? 137=some i∧i.zero=some z∧i.size=2∧z.cells.size=2:=by
 have h:((Tryz.prog.info? 137).bind (·.zero)).map (fun z=>z.cells.size)=some 2:=by kernel_rfl
 have h2:(Tryz.prog.info? 137).map (·.size)=some 2:=by kernel_rfl
 cases hi:Tryz.prog.info? 137 with
 |none=>rw [hi] at h;cases h
 |some i=>
 cases hz:i.zero with
 |none=>simp [hi,hz] at h
 |some z=>
 simp [hi,hz] at h
 simp [hi] at h2
 exact ⟨z,Tryz.underlying88,i,rfl,hz,h2,h⟩
theorem xI:pp Tryz.prog 88 137 iY.k:=⟨(mi).choose_spec.1,let ⟨i,h⟩:=(mi).choose_spec.2;⟨i,_,h⟩⟩
section
variable {w00:World} {N:Nat} {L:List Loc} {E:List (Nat×aa)} {d:Nat} {t0:TypeId} {pos:String} {af:Array Edge} {gd:Option (Nat×Bool)}
theorem tV {k:Int} {f:FuncId}:au Tryz.prog w00 N L E ⟨some d, .build 137 #[(0, .const (.int .u8 k)),(1, .func f)],t0,pos,af,gd⟩ (.ra iY (k,f)):=by
 constructor
 intro X ρ w hc hf hN hm hsl
 have e0:=hc (.int .u8 k)
 have e1:=hf f
 clear hc hf hsl hm
 unfold Yields
 go_simp
 exact ⟨⟨[.int .u8 k, .func (.func f) #[] #[]],rfl,[.int .u8 k],[.func (.func f) #[] #[]],rfl,rfl,rfl⟩,Below.refl _ _⟩
end
instance:fw Tryz.prog 142 2 true:=⟨⟨_,Tryz.underlying142,rfl⟩,by kernel_rfl⟩
instance:cQ Tryz.prog 142 (.sz 2):=yI qK
instance:cP Tryz.prog 91 2:=⟨⟨_,Tryz.underlying91,by kernel_rfl⟩⟩
instance:fw Tryz.prog 140 1 false:=⟨⟨_,Tryz.underlying140,rfl⟩,by kernel_rfl⟩
instance:aq Tryz.prog 142 0 0 1 false:=⟨⟨_,_,Tryz.underlying142,rfl,rfl,by kernel_rfl,by decide,_,Tryz.underlying5,rfl⟩⟩
instance:aq Tryz.prog 142 1 1 1 false:=⟨⟨_,_,Tryz.underlying142,rfl,rfl,by kernel_rfl,by decide,_,Tryz.underlying140,rfl⟩⟩
theorem pf:∃ z,Tryz.prog.underlying 91=some (.slice 142)∧∃ i,Tryz.prog.info? 142=some i∧i.zero=some z∧i.size=2∧z.cells.size=2:=by
 have h:((Tryz.prog.info? 142).bind (·.zero)).map (fun z=>z.cells.size)=some 2:=by kernel_rfl
 have h2:(Tryz.prog.info? 142).map (·.size)=some 2:=by kernel_rfl
 cases hi:Tryz.prog.info? 142 with
 |none=>rw [hi] at h;cases h
 |some i=>
 cases hz:i.zero with
 |none=>simp [hi,hz] at h
 |some z=>
 simp [hi,hz] at h
 simp [hi] at h2
 exact ⟨z,Tryz.underlying91,i,rfl,hz,h2,h⟩
theorem Cd:pp Tryz.prog 91 142 iY.k:=⟨(pf).choose_spec.1,let ⟨i,h⟩:=(pf).choose_spec.2;⟨i,_,h⟩⟩
section
variable {w00:World} {N:Nat} {L:List Loc} {E:List (Nat×aa)} {d:Nat} {t0:TypeId} {pos:String} {af:Array Edge} {gd:Option (Nat×Bool)}
theorem xm {k:Int} {f:FuncId}:au Tryz.prog w00 N L E ⟨some d, .build 142 #[(0, .const (.int .u8 k)),(1, .func f)],t0,pos,af,gd⟩ (.ra iY (k,f)):=by
 constructor
 intro X ρ w hc hf hN hm hsl
 have e0:=hc (.int .u8 k)
 have e1:=hf f
 clear hc hf hsl hm
 unfold Yields
 go_simp
 exact ⟨⟨[.int .u8 k, .func (.func f) #[] #[]],rfl,[.int .u8 k],[.func (.func f) #[] #[]],rfl,rfl,rfl⟩,Below.refl _ _⟩
end
abbrev zN:dJ:=(((false,[]),(false,[])),((false,[]),(false,[])))
instance:cQ Tryz.prog 72 (.ra a_ zN):=im.al
abbrev FC:ej:=([],0,((false,[]),(false,[])))
instance:cQ Tryz.prog 76 (.ra bq FC):=mp.al
abbrev jQ:gk:=([],[],((false,[]),(false,[])))
instance:cQ Tryz.prog 100 (.ra bl jQ):=mP.al
abbrev jR:gl:=([],[],((false,[]),(false,[])))
instance:cQ Tryz.prog 102 (.ra bk jR):=m_.al
abbrev ky:fb:=(false,[],0,[],[],[],((false,[]),(false,[])))
instance:cQ Tryz.prog 104 (.ra a7 ky):=nh.al
abbrev Eu:eS:=([],((false,[]),(false,[])),((false,[]),(false,[])))
instance:cQ Tryz.prog 106 (.ra bn Eu):=mn.al
abbrev Gw:gK:=([],((false,[]),(false,[])))
instance:cQ Tryz.prog 108 (.ra b7 Gw):=mS.al
abbrev wM:aX:=(0,[],[],[],[],[])
instance:cQ Tryz.prog 60 (.ra aw wM):=iC.al
abbrev eo:aj:=([],[],[],((false,[]),(false,[])),((false,[]),(false,[])),0,0,((false,[]),(false,[])),((false,[]),(false,[])),0,[],[],[])
instance:cQ Tryz.prog 32 (.ra ab eo):=lb.al
abbrev gf:mQ:=(0,0,0)
instance:cQ Tryz.prog 45 (.ra bM gf):=mf.al
theorem xJ {a:dJ} (hf:b6 6 a.1∧b6 6 a.2):bW Tryz.prog cK 87 [0] [.ra a_ a] (fun _=> .is (.bool (fG a))):=by
 unfold fG
 have k0:=gB (x:=a.1) (L:=6) qD hf.1
 cases h0:j0 a.1
 ·rw [h0] at k0
  simp only [Bool.false_and]
  refine cr Tryz.func87 Tryz.ntmps87 fun X w hE=> ?_
  repeat' first|kernel_rfl|apply Bt.mk|refine nx ?_|refine aE rfl (by first|exact sc hE k0|exact bs) ?_|refine aD rfl ?_|refine aF rfl ?_|apply ae|refine aQ rfl ?_|exact sc hE k0|exact bs|intro _
 rw [h0] at k0
 simp only [Bool.true_and]
 have k1:=fB (x:=a.2) (L:=6) qD hf.2
 refine cr Tryz.func87 Tryz.ntmps87 fun X w hE=> ?_
 repeat' first|kernel_rfl|apply Bt.mk|refine nx ?_|refine aE rfl (by first|exact sc hE k0|exact bs) ?_|refine aD rfl ?_|refine aF rfl ?_|apply ae|refine aQ rfl ?_|exact sc hE k0|exact bs|intro _
theorem DR {a:aX}:bW Tryz.prog cK 93 [0] [.ra aw a] (fun _=> .is (.bool (ln a))):=by
 unfold ln
 have k0:=j7 (n:=a.1) (a:=1) (b:=9999)
 refine cr Tryz.func93 Tryz.ntmps93 fun X w hE=> ?_
 repeat' first|kernel_rfl|apply Bt.mk|refine nx ?_|apply ae|refine aQ rfl ?_|exact bs|intro _
theorem Et {a:gk} (hf:b6 6 a.2.2):bW Tryz.prog cK 95 [0] [.ra bl a] (fun _=> .is (.bool (iy a))):=by
 unfold iy
 simp only [Bool.and_assoc]
 have k0:=ee (l:=a.1)
 cases h0:bg a.1
 ·rw [h0] at k0
  simp only [Bool.false_and]
  refine cr Tryz.func95 Tryz.ntmps95 fun X w hE=> ?_
  repeat' first|kernel_rfl|apply Bt.mk|refine nx ?_|refine aE rfl bs ?_|refine aD rfl ?_|refine aF rfl ?_|apply ae|refine aQ rfl ?_|exact bs|intro _
 rw [h0] at k0
 simp only [Bool.true_and]
 have k1:=ee (l:=a.2.1)
 cases h1:bg a.2.1
 ·rw [h1] at k1
  simp only [Bool.false_and]
  refine cr Tryz.func95 Tryz.ntmps95 fun X w hE=> ?_
  repeat' first|kernel_rfl|apply Bt.mk|refine nx ?_|refine aE rfl bs ?_|refine aD rfl ?_|refine aF rfl ?_|apply ae|refine aQ rfl ?_|exact bs|intro _
 rw [h1] at k1
 simp only [Bool.true_and]
 have k2:=fB (x:=a.2.2) (L:=6) qD hf
 refine cr Tryz.func95 Tryz.ntmps95 fun X w hE=> ?_
 repeat' first|kernel_rfl|apply Bt.mk|refine nx ?_|refine aE rfl bs ?_|refine aD rfl ?_|refine aF rfl ?_|apply ae|refine aQ rfl ?_|exact bs|intro _
theorem DZ {a:gl} (hf:b6 6 a.2.2):bW Tryz.prog cK 97 [0] [.ra bk a] (fun _=> .is (.bool (iq a))):=by
 unfold iq
 simp only [Bool.and_assoc]
 have k0:=ee (l:=a.1)
 cases h0:bg a.1
 ·rw [h0] at k0
  simp only [Bool.false_and]
  refine cr Tryz.func97 Tryz.ntmps97 fun X w hE=> ?_
  repeat' first|kernel_rfl|apply Bt.mk|refine nx ?_|refine aE rfl bs ?_|refine aD rfl ?_|refine aF rfl ?_|apply ae|refine aQ rfl ?_|exact bs|intro _
 rw [h0] at k0
 simp only [Bool.true_and]
 have k1:=ee (l:=a.2.1)
 cases h1:bg a.2.1
 ·rw [h1] at k1
  simp only [Bool.false_and]
  refine cr Tryz.func97 Tryz.ntmps97 fun X w hE=> ?_
  repeat' first|kernel_rfl|apply Bt.mk|refine nx ?_|refine aE rfl bs ?_|refine aD rfl ?_|refine aF rfl ?_|apply ae|refine aQ rfl ?_|exact bs|intro _
 rw [h1] at k1
 simp only [Bool.true_and]
 have k2:=gB (x:=a.2.2) (L:=6) qD hf
 refine cr Tryz.func97 Tryz.ntmps97 fun X w hE=> ?_
 repeat' first|kernel_rfl|apply Bt.mk|refine nx ?_|refine aE rfl bs ?_|refine aD rfl ?_|refine aF rfl ?_|apply ae|refine aQ rfl ?_|exact bs|intro _
theorem DQ {a:fb} (hf:b6 6 a.2.2.2.2.2.2):bW Tryz.prog cK 99 [0] [.ra a7 a] (fun _=> .is (.bool (iu a))):=by
 unfold iu
 simp only [Bool.and_assoc]
 have k0:=ee (l:=a.2.1)
 cases h0:bg a.2.1
 ·rw [h0] at k0
  simp only [Bool.false_and]
  refine cr Tryz.func99 Tryz.ntmps99 fun X w hE=> ?_
  repeat' first|kernel_rfl|apply Bt.mk|refine nx ?_|refine aE rfl bs ?_|refine aD rfl ?_|refine aF rfl ?_|apply ae|refine aQ rfl ?_|exact bs|intro _
 rw [h0] at k0
 simp only [Bool.true_and]
 have k1:=pi (n:=a.2.2.1) (a:=1) (b:=4)
 cases h1:gp a.2.2.1 1 4
 ·rw [h1] at k1
  simp only [Bool.false_and]
  refine cr Tryz.func99 Tryz.ntmps99 fun X w hE=> ?_
  repeat' first|kernel_rfl|apply Bt.mk|refine nx ?_|refine aE rfl bs ?_|refine aD rfl ?_|refine aF rfl ?_|apply ae|refine aQ rfl ?_|exact bs|intro _
 rw [h1] at k1
 simp only [Bool.true_and]
 have k2:=ee (l:=a.2.2.2.1)
 cases h2:bg a.2.2.2.1
 ·rw [h2] at k2
  simp only [Bool.false_and]
  refine cr Tryz.func99 Tryz.ntmps99 fun X w hE=> ?_
  repeat' first|kernel_rfl|apply Bt.mk|refine nx ?_|refine aE rfl bs ?_|refine aD rfl ?_|refine aF rfl ?_|apply ae|refine aQ rfl ?_|exact bs|intro _
 rw [h2] at k2
 simp only [Bool.true_and]
 have k3:=ee (l:=a.2.2.2.2.1)
 cases h3:bg a.2.2.2.2.1
 ·rw [h3] at k3
  simp only [Bool.false_and]
  refine cr Tryz.func99 Tryz.ntmps99 fun X w hE=> ?_
  repeat' first|kernel_rfl|apply Bt.mk|refine nx ?_|refine aE rfl bs ?_|refine aD rfl ?_|refine aF rfl ?_|apply ae|refine aQ rfl ?_|exact bs|intro _
 rw [h3] at k3
 simp only [Bool.true_and]
 have k4:=ee (l:=a.2.2.2.2.2.1)
 cases h4:bg a.2.2.2.2.2.1
 ·rw [h4] at k4
  simp only [Bool.false_and]
  refine cr Tryz.func99 Tryz.ntmps99 fun X w hE=> ?_
  repeat' first|kernel_rfl|apply Bt.mk|refine nx ?_|refine aE rfl (by first|exact sc trivial k4|exact bs) ?_|refine aD rfl ?_|refine aF rfl ?_|apply ae|refine aQ rfl ?_|exact sc trivial k4|exact bs|intro _
 rw [h4] at k4
 simp only [Bool.true_and]
 have k5:=gB (x:=a.2.2.2.2.2.2) (L:=6) qD hf
 refine cr Tryz.func99 Tryz.ntmps99 fun X w hE=> ?_
 repeat' first|kernel_rfl|apply Bt.mk|refine nx ?_|refine aE rfl (by first|exact sc trivial k4|exact sc hE k5|exact bs) ?_|refine aD rfl ?_|refine aF rfl ?_|apply ae|refine aQ rfl ?_|exact sc trivial k4|exact sc hE k5|exact bs|intro _
theorem AG {a:eS} (hf:b6 6 a.2.1∧b6 6 a.2.2):bW Tryz.prog cK 101 [0] [.ra bn a] (fun _=> .is (.bool (fH a))):=by
 unfold fH
 simp only [Bool.and_assoc]
 have k0:=ee (l:=a.1)
 cases h0:bg a.1
 ·rw [h0] at k0
  simp only [Bool.false_and]
  refine cr Tryz.func101 Tryz.ntmps101 fun X w hE=> ?_
  repeat' first|kernel_rfl|apply Bt.mk|refine nx ?_|refine aE rfl bs ?_|refine aD rfl ?_|refine aF rfl ?_|apply ae|refine aQ rfl ?_|exact bs|intro _
 rw [h0] at k0
 simp only [Bool.true_and]
 have k1:=gB (x:=a.2.1) (L:=6) qD hf.1
 cases h1:j0 a.2.1
 ·rw [h1] at k1
  simp only [Bool.false_and]
  refine cr Tryz.func101 Tryz.ntmps101 fun X w hE=> ?_
  repeat' first|kernel_rfl|apply Bt.mk|refine nx ?_|refine aE rfl bs ?_|refine aD rfl ?_|refine aF rfl ?_|apply ae|refine aQ rfl ?_|exact bs|intro _
 rw [h1] at k1
 simp only [Bool.true_and]
 have k2:=fB (x:=a.2.2) (L:=6) qD hf.2
 refine cr Tryz.func101 Tryz.ntmps101 fun X w hE=> ?_
 repeat' first|kernel_rfl|apply Bt.mk|refine nx ?_|refine aE rfl bs ?_|refine aD rfl ?_|refine aF rfl ?_|apply ae|refine aQ rfl ?_|exact bs|intro _
theorem Fh {a:gK} (hf:b6 6 a.2):bW Tryz.prog cK 103 [0] [.ra b7 a] (fun _=> .is (.bool (ir a))):=by
 unfold ir
 have k0:=ee (l:=a.1)
 cases h0:bg a.1
 ·rw [h0] at k0
  simp only [Bool.false_and]
  refine cr Tryz.func103 Tryz.ntmps103 fun X w hE=> ?_
  repeat' first|kernel_rfl|apply Bt.mk|refine nx ?_|refine aE rfl bs ?_|refine aD rfl ?_|refine aF rfl ?_|apply ae|refine aQ rfl ?_|exact bs|intro _
 rw [h0] at k0
 simp only [Bool.true_and]
 have k1:=fB (x:=a.2) (L:=6) qD hf
 refine cr Tryz.func103 Tryz.ntmps103 fun X w hE=> ?_
 repeat' first|kernel_rfl|apply Bt.mk|refine nx ?_|refine aE rfl bs ?_|refine aD rfl ?_|refine aF rfl ?_|apply ae|refine aQ rfl ?_|exact bs|intro _
theorem wt {a:ej} (hf:b6 6 a.2.2):bW Tryz.prog cK 132 [0] [.ra bq a] (fun _=> .is (.bool (tU a.2.1 a.2.2))):=by
 unfold tU
 have ks:=fB (x:=a.2.2) (L:=6) qD hf
 have km:=gB (x:=a.2.2) (L:=6) qD hf
 have ku:=yF (x:=a.2.2) (L:=6) (k:=40) qD hf qD
 cases h4:(a.2.1==4)
 rotate_left
 ·simp only [cond_true]
  refine cr Tryz.func132 Tryz.ntmps132 fun X w hE=> ?_
  repeat' first|kernel_rfl|apply Bt.mk|refine nx ?_|refine aE rfl bs ?_|refine aD rfl ?_|refine aF rfl ?_|apply ae|refine aQ rfl ?_|exact bs|intro _
 simp only [cond_false]
 cases h5:(a.2.1==5)
 rotate_left
 ·simp only [cond_true]
  refine cr Tryz.func132 Tryz.ntmps132 fun X w hE=> ?_
  repeat' first|kernel_rfl|apply Bt.mk|refine nx ?_|refine aE rfl bs ?_|refine aD rfl ?_|refine aF rfl ?_|apply ae|refine aQ rfl ?_|exact bs|intro _
 simp only [cond_false]
 cases h6:(a.2.1==6)
 ·simp only [cond_false]
  have ku:=yF (x:=a.2.2) (L:=6) (k:=0) qD hf qD
  cases hw:cV 1 a.2.2
  ·have kw:=nj (x:=a.2.2) (L:=6) (k:=1) (z:=1) qD hf rfl qD hw
   simp only [Bool.false_and]
   refine cr Tryz.func132 Tryz.ntmps132 fun X w hE=> ?_
   repeat' first|kernel_rfl|apply Bt.mk|refine nx ?_|refine aE rfl bs ?_|refine aD rfl ?_|refine aF rfl ?_|apply ae|refine aQ rfl ?_|exact bs|intro _
  ·have kw:=nj (x:=a.2.2) (L:=6) (k:=1) (z:=1) qD hf rfl qD hw
   simp only [Bool.true_and]
   refine cr Tryz.func132 Tryz.ntmps132 fun X w hE=> ?_
   repeat' first|kernel_rfl|apply Bt.mk|refine nx ?_|refine aE rfl bs ?_|refine aD rfl ?_|refine aF rfl ?_|apply ae|refine aQ rfl ?_|exact bs|intro _
 simp only [cond_true]
 cases hw:cV 1 a.2.2
 ·have kw:=nj (x:=a.2.2) (L:=6) (k:=1) (z:=1) qD hf rfl qD hw
  simp only [Bool.false_and]
  refine cr Tryz.func132 Tryz.ntmps132 fun X w hE=> ?_
  repeat' first|kernel_rfl|apply Bt.mk|refine nx ?_|refine aE rfl bs ?_|refine aD rfl ?_|refine aF rfl ?_|apply ae|refine aQ rfl ?_|exact bs|intro _
 have kw:=nj (x:=a.2.2) (L:=6) (k:=1) (z:=1) qD hf rfl qD hw
 simp only [Bool.true_and]
 refine cr Tryz.func132 Tryz.ntmps132 fun X w hE=> ?_
 repeat' first|kernel_rfl|apply Bt.mk|refine nx ?_|refine aE rfl bs ?_|refine aD rfl ?_|refine aF rfl ?_|apply ae|refine aQ rfl ?_|exact bs|intro _
theorem C2 {a:ej} (hf:b6 6 a.2.2):bW Tryz.prog cK 91 [0] [.ra bq a] (fun _=> .is (.bool (fp a))):=by
 unfold fp
 simp only [Bool.and_assoc]
 have k0:=ee (l:=a.1)
 cases h0:bg a.1
 ·rw [h0] at k0
  simp only [Bool.false_and]
  refine cr Tryz.func91 Tryz.ntmps91 fun X w hE=> ?_
  repeat' first|kernel_rfl|apply Bt.mk|refine nx ?_|refine aE rfl bs ?_|refine aD rfl ?_|refine aF rfl ?_|apply ae|refine aQ rfl ?_|exact bs|intro _
 rw [h0] at k0
 simp only [Bool.true_and]
 have k1:=pi (n:=a.2.1) (a:=1) (b:=11)
 cases h1:gp a.2.1 1 11
 ·rw [h1] at k1
  simp only [Bool.false_and]
  refine cr Tryz.func91 Tryz.ntmps91 fun X w hE=> ?_
  repeat' first|kernel_rfl|apply Bt.mk|refine nx ?_|refine aE rfl bs ?_|refine aD rfl ?_|refine aF rfl ?_|apply ae|refine aQ rfl ?_|exact bs|intro _
 rw [h1] at k1
 simp only [Bool.true_and]
 have k2:=wt hf
 refine cr Tryz.func91 Tryz.ntmps91 fun X w hE=> ?_
 repeat' first|kernel_rfl|apply Bt.mk|refine nx ?_|refine aE rfl bs ?_|refine aD rfl ?_|refine aF rfl ?_|apply ae|refine aQ rfl ?_|exact bs|intro _
end Go.Proofs.YtpmhjieibebclaaGreatDoor
