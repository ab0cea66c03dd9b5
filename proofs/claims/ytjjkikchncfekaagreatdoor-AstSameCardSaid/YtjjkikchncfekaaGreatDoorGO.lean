/- Package ast: names, money, shares. -/
import Derived.Test.YtjjkikchncfekaaGreatDoorGN
import Derived.Test.YtjjkikchncfekaaGreatDoorShelf
import Derived.Test.YtjjkikchncfekaaGreatDoorGM
import Derived.Test.YtjjkikchncfekaaGreatDoorGK
import Derived.Test.YtjjkikchncfekaaGreatDoorGL
import Derived.Test.YtjjkikchncfekaaGreatDoorGJ
import Derived.Test.YtjjkikchncfekaaGreatDoorGG
set_option maxHeartbeats 4000000
set_option maxRecDepth 20000
set_option synthInstance.maxHeartbeats 400000
set_option synthInstance.maxSize 4000
set_option linter.unusedSimpArgs false
set_option linter.unusedVariables false
namespace Go.Proofs.YtjjkikchncfekaaGreatDoor
open Go Go.RowKit
variable {x:aP} {L k:Nat} {u:Bool} {X:List Nat} {w:World} {v:Value} {ty:TypeId}
theorem Ay (p:UInt8→Prop) (h:∀ n:Fin 256,p (UInt8.ofNat n.val)) (c:UInt8):p c:=by
 have:=h ⟨c.toNat,UInt8.toNat_lt c⟩
 simpa using this
def x4:List UInt8:=[65,66,67,68,69,70,71,72,73,74,75,76,77,78,79,80,81,82,83,84,85,86,87,88,89,90,97,98,99,100,101,102,103,104,105,106,107,108,109,110,111,112,113,114,115,116,117,118,119,120,121,122]
def pt:List UInt8:=[65,66,67,68,69,70,71,72,73,74,75,76,77,78,79,80,81,82,83,84,85,86,87,88,89,90,97,98,99,100,101,102,103,104,105,106,107,108,109,110,111,112,113,114,115,116,117,118,119,120,121,122,48,49,50,51,52,53,54,55,56,57,95,45]
theorem FW (c:UInt8):decide ((0:Int)≤Lib.indexByte x4 c)=BJ c:=Ay (fun c=>decide ((0:Int)≤Lib.indexByte x4 c)=BJ c) (by decide +kernel) c
theorem GS (c:UInt8):pt.contains c=Gg c:=Ay (fun c=>pt.contains c=Gg c) (by decide +kernel) c
theorem pY {p:UInt8→Bool}:∀ (l:List UInt8),l.dropWhile p=[]↔l.all p=true
 |[]=>by simp
 |c::l=>by
  rw [List.dropWhile_cons,List.all_cons]
  cases h:p c
  ·simp
  ·simpa using pY l
theorem p_ {p:UInt8→Bool}:∀ (l:List UInt8),(l.dropWhile p).all p=true↔l.all p=true
 |[]=>by simp
 |c::l=>by
  rw [List.dropWhile_cons,List.all_cons]
  cases h:p c
  ·simp [h]
  ·simpa using p_ l
theorem yl (l:List UInt8):(Lib.trimS l pt==[])=l.all Gg:=by
 have e:(fun b=>pt.contains b)=Gg:=funext GS
 rw [Bool.eq_iff_iff,beq_iff_eq]
 show List.dropWhile (fun b=>pt.contains b) (List.reverse (List.dropWhile (fun b=>pt.contains b) l.reverse))=[]↔_
 rw [e,pY,List.all_reverse,p_,List.all_reverse]
def Ai (l:List UInt8):Bool:=((!(l==[]))&&decide ((l.length:Int)≤32))&&(match l with|[]=>false|c::_=>decide ((0:Int)≤Lib.indexByte x4 c))&&(Lib.trimS l pt==[])
theorem AB (l:List UInt8):Ai l=dF l:=by
 unfold Ai dF
 rw [yl,Bool.eq_iff_iff]
 cases l with
 |nil=>simp
 |cons c l=>
  dsimp only
  rw [FW]
  simp only [Bool.and_eq_true,decide_eq_true_eq]
  constructor
  ·rintro ⟨⟨⟨_,h1⟩,h2⟩,h3⟩;exact ⟨⟨h2,h3⟩,by omega⟩
  ·rintro ⟨⟨h2,h3⟩,h1⟩;exact ⟨⟨⟨rfl,by omega⟩,h2⟩,h3⟩
theorem xJ {l:List UInt8} (hl:l.length≤9223372036854775807):cw Tryz.prog S1 82 [0,0] [.is (Tx l), .is (Tx pt)] (fun _=> .is (Tx (Lib.trimS l pt))):=
 Aj (fun _ _=>by kernel_rfl) fun w _=>(Any.strings_Trim_laid Tryz.lays160 qK ⟨l.toArray⟩ ⟨pt.toArray⟩ w (by rw [wz];exact hl) qD (ascii_of_all qD)).mono fun e w' h=>by
  rw [bU,bU] at h
  exact h
theorem bZ {p:Prop} (h:p:=by first|exact Dd (by assumption)|exact wE|exact AK (by first|assumption|rfl)|exact qr (by first|assumption|rfl)|exact wD|exact yF (by assumption)|exact BF|exact Ds (by assumption)|exact cb|exact eJ|exact ca|exact aW|exact f6|exact fX|exact ka (by first|assumption|rfl)|exact mq (by first|assumption|rfl)|exact Bx (by first|assumption|rfl)|exact wW (by first|assumption|rfl)|exact rM (by first|assumption|rfl)|exact iO|exact ee (by assumption)|exact cZ (b:=true) (u:=false) rfl|exact cZ (b:=false) (u:=true) rfl|exact cZ rfl|exact iQ (by first|assumption|rfl)|exact eC|exact sc trivial hci|exact sc trivial (xJ (by omega))|exact xv hE (by omega)|exact eI.nil|exact aM.nil|exact aL.nil|exact sc hE (vp (by omega) h0)|exact Eu hE (by omega)|exact Fr hE (by omega)|exact ER hE (by omega)|exact CP hE (by omega)|exact ue hE (by decide)|exact sc trivial k0|exact sc hE k1|exact sc trivial k1|exact sc hE k2|exact sc trivial k2|exact sc trivial k3|exact sc hE ks|exact sc hE km|exact sc hE kw|exact sc hE ku|exact sc hE kg|exact Cv.rfl'):p:=h
theorem eD {l:List UInt8}:cw Tryz.prog S1 30 [0] [.is (Tx l)] (fun _=> .is (.bool (dF l))):=by
 rw [←AB]
 unfold Ai
 have hci:∀ {c:UInt8},cw Tryz.prog S1 81 [0,0] [.is (Tx x4), .is (.int .u8 (c.toNat:Int))] (fun _=> .is (.int .i64 (Lib.indexByte x4 c))):=Ck
 cases h0:(!(l==[]))
 ·simp only [Bool.false_and]
  refine cr Tryz.func30 Tryz.ntmps30 fun X w hE=> ?_
  simp only [ar,Nat.zero_add,Nat.reduceAdd]
  repeat' first|kernel_rfl|apply Bt.mk|refine nx ?_|refine bi rfl bZ ?_|refine bh rfl ?_|refine bj rfl ?_|apply ae|refine aO rfl ?_|exact bZ|intro _
 cases l with
 |nil=>cases h0
 |cons c t=>
 dsimp only
 cases h1:decide (((c::t).length:Int)≤32)
 ·simp only [Bool.true_and,Bool.false_and]
  refine cr Tryz.func30 Tryz.ntmps30 fun X w hE=> ?_
  simp only [ar,Nat.zero_add,Nat.reduceAdd]
  repeat' first|kernel_rfl|apply Bt.mk|refine nx ?_|refine bi rfl bZ ?_|refine bh rfl ?_|refine bj rfl ?_|apply ae|refine aO rfl ?_|exact bZ|intro _
 have hx:0≤(0:Int)∧(c::t)[(0:Int).toNat]? =some c:=⟨by omega,rfl⟩
 have hlen:=of_decide_eq_true h1
 cases h2:decide ((0:Int)≤Lib.indexByte x4 c)
 ·simp only [Bool.true_and,Bool.false_and]
  refine cr Tryz.func30 Tryz.ntmps30 fun X w hE=> ?_
  simp only [ar,Nat.zero_add,Nat.reduceAdd]
  repeat' first|kernel_rfl|apply Bt.mk|refine nx ?_|refine bi rfl bZ ?_|refine bh rfl ?_|refine bj rfl ?_|apply ae|refine aO rfl ?_|exact bZ|intro _
 simp only [Bool.true_and]
 refine cr Tryz.func30 Tryz.ntmps30 fun X w hE=> ?_
 simp only [ar,Nat.zero_add,Nat.reduceAdd]
 repeat' first|kernel_rfl|apply Bt.mk|refine nx ?_|refine bi rfl bZ ?_|refine bh rfl ?_|refine bj rfl ?_|apply ae|refine aO rfl ?_|exact bZ|intro _
theorem o_(hx:Dg 4294967296 x.1.2) (hy:Dg 4294967296 x.2.2) (hk:0<k∧k<4294967296) (h:fi k x=true):∃ m,x.2.2=[m]∧0<m∧(k:Int).tmod m=0:=by
 unfold fi at h
 simp only [Bool.and_eq_true,decide_eq_true_eq] at h
 obtain ⟨h1,h2⟩:=h
 obtain ⟨hf,_,_⟩:=i_.of hx hy h1
 have hd:=(qv x).den_pos
 have hle:(qv x).den≤k:=Nat.le_of_dvd hk.1 (Nat.dvd_of_mod_eq_zero h2)
 have hw:=hf.den
 have hl:x.2.2.length≤1:=hw.row.len_le qD (by have:(4294967296:Int)^1=4294967296:=rfl;omega)
 have hv:=hw.row.val
 match hq:x.2.2,hl with
 |[],_=>
  rw [hq] at hv
  have:(0:Int)=(((qv x).den:Int).natAbs:Int):=hv
  omega
 |[m],_=>
  rw [hq] at hv
  have e:m+4294967296*0=(((qv x).den:Int).natAbs:Int):=hv
  have e':m=((qv x).den:Int):=qO
  refine ⟨m,rfl,by omega,?_⟩
  rw [e']
  have:((k:Int)%((qv x).den:Int))=0:=by exact_mod_cast congrArg (Nat.cast:Nat→Int) h2
  rw [Int.tmod_eq_emod_of_nonneg qO]
  exact this
theorem zb{m:Int} (hx:Dg 4294967296 x.1.2) (hy:Dg 4294967296 x.2.2) (hq:x.2.2=[m]) (hm:0<m) (hr:(k:Int).tmod m=0):fi k x=nS x:=by
 unfold fi
 cases h1:nS x with
 |false=>rfl
 |true=>
  obtain ⟨hf,_,_⟩:=i_.of hx hy h1
  have hv:=hf.den.row.val
  rw [hq] at hv
  have e:m+4294967296*0=(((qv x).den:Int).natAbs:Int):=hv
  have e':m=((qv x).den:Int):=qO
  rw [e',Int.tmod_eq_emod_of_nonneg qO] at hr
  have:k%(qv x).den=0:=by exact_mod_cast hr
  simp [this]
theorem FQ(h:(aa.qx x L).holds X w v):(Dg 4294967296 x.1.2∧Dg 4294967296 x.2.2)∧x.1.2.length≤L∧x.2.2.length≤L∧0<L:=by
 obtain ⟨y,⟨rfl,hl⟩,cs,e,c1,c2,e2,h1,h2⟩:=h
 obtain ⟨_,_,_,_,_,d1⟩:=dh.1 h1
 obtain ⟨_,_,_,_,_,d2⟩:=dh.1 h2
 exact ⟨⟨d1,d2⟩,hl⟩
section
variable {w00:World} {N:Nat} {L:List Loc} {E:List (Nat×aa)} {d:Nat} {t0:TypeId} {pos:String} {af:Array Edge} {gd:Option (Nat×Bool)} {ats:Array TypeId}
theorem Ds {o o1:Operand} {x y:Int} {t1:TypeId} [h0:cT E o (.is (.int .u32 x))] [h1:cT E o1 (.is (.int .u32 y))] (hx:y≠0∧IntKind.u32.wrap (x.tmod y)=x.tmod y):aF Tryz.prog w00 N L E ⟨some d, .binOp .rem 117 o o1 t1,t0,pos,af,gd⟩ (.is (.int .u32 (x.tmod y))):=by
 constructor
 intro X ρ w hc _ hN hm hsl
 have e0:ρ o= .int .u32 x:=h0.get (X:=X) (w:=w) hc fun p hp e=>hsl p hp qS
 have e1:ρ o1= .int .u32 y:=h1.get (X:=X) (w:=w) hc fun p hp e=>hsl p hp qS
 obtain ⟨hy,hz⟩:=hx
 clear hc hsl h0 h1
 unfold Yields
 go_simp
 exact ⟨rfl,Below.refl _ _⟩
end
theorem mT(hL:L≤90) (hk:0<k∧k<4294967296) (hu:fi k x=u):cw Tryz.prog dZ 83 [4,0] [.qx x L, .is (.int .u32 (k:Int))] (fun _=> .is (.bool u)):=by
 subst hu
 refine h_ (F:=(Dg 4294967296 x.1.2∧Dg 4294967296 x.2.2)∧x.1.2.length≤L∧x.2.2.length≤L∧0<L) (fun ha=> ?_) (fun _ _=>by kernel_rfl) fun ⟨⟨hx,hy⟩,_⟩=> ?_
 ·obtain ⟨v,us,rfl,h,_⟩:=ha.tail
  exact FQ h
 cases h1:((x.2.2.length:Int)==1)
 ·rw [show fi k x=false by
   cases h:fi k x with
   |false=>rfl
   |true=>
    obtain ⟨m,e,_⟩:=o_ hx hy hk h
    rw [e] at h1;cases h1]
  refine cr Tryz.func83 Tryz.ntmps83 fun X w hE=> ?_
  simp only [ar,Nat.zero_add,Nat.reduceAdd]
  repeat' first|kernel_rfl|apply Bt.mk|refine nx ?_|refine bi rfl bZ ?_|refine bh rfl ?_|refine bj rfl ?_|apply ae|refine aO rfl ?_|exact bZ|intro _
 obtain ⟨m,hm⟩:∃ m,x.2.2=[m]:=List.length_eq_one_iff.1 (by have:=eq_of_beq h1;omega)
 have hx0:x.2.2[0]? =some m:=by rw [hm];rfl
 have hmr:0≤m∧m<4294967296:=hy m (by rw [hm];exact List.mem_singleton.2 rfl)
 cases h2:decide (0<m)
 ·rw [show fi k x=false by
   cases h:fi k x with
   |false=>rfl
   |true=>
    obtain ⟨m',e,h0,_⟩:=o_ hx hy hk h
    rw [hm] at e
    have e:m=m':=List.head_eq_of_cons_eq e
    rw [e,decide_eq_true h0] at h2;cases h2]
  refine cr Tryz.func83 Tryz.ntmps83 fun X w hE=> ?_
  simp only [ar,Nat.zero_add,Nat.reduceAdd]
  repeat' first|kernel_rfl|apply Bt.mk|refine nx ?_|refine bi rfl bZ ?_|refine bh rfl ?_|refine bj rfl ?_|apply ae|refine aO rfl ?_|exact bZ|intro _
 have hm0:=of_decide_eq_true h2
 have hrm:m≠0∧IntKind.u32.wrap ((k:Int).tmod m)=(k:Int).tmod m:=⟨by omega,by
  rw [IntKind.wrap_u32]
  have h1:=Int.tmod_lt_of_pos (k:Int) hm0
  have h2:=Int.tmod_nonneg m (a:=(k:Int)) qO
  omega⟩
 cases h3:((k:Int).tmod m==0)
 ·rw [show fi k x=false by
   cases h:fi k x with
   |false=>rfl
   |true=>
    obtain ⟨m',e,h0,h4⟩:=o_ hx hy hk h
    rw [hm] at e
    have e:m=m':=List.head_eq_of_cons_eq e
    rw [e,h4] at h3;cases h3]
  refine cr Tryz.func83 Tryz.ntmps83 fun X w hE=> ?_
  simp only [ar,Nat.zero_add,Nat.reduceAdd]
  repeat' first|kernel_rfl|apply Bt.mk|refine nx ?_|refine bi rfl bZ ?_|refine bh rfl ?_|refine bj rfl ?_|apply ae|refine aO rfl ?_|exact bZ|intro _
 rw [zb hx hy hm hm0 (eq_of_beq h3)]
 refine cr Tryz.func83 Tryz.ntmps83 fun X w hE=> ?_
 simp only [ar,Nat.zero_add,Nat.reduceAdd]
 repeat' first|kernel_rfl|apply Bt.mk|refine nx ?_|refine bi rfl bZ ?_|refine bh rfl ?_|refine bj rfl ?_|apply ae|refine aO rfl ?_|exact bZ|intro _
theorem jC {n a b:Int}:cw Tryz.prog S1 190 [0,0,0] [.is (.int .i64 n), .is (.int .i64 a), .is (.int .i64 b)] (fun _=> .is (.bool (iK n a b))):=by
 unfold iK
 cases h0:decide (a≤n)
 ·simp only [Bool.false_and]
  refine cr Tryz.func190 Tryz.ntmps190 fun X w hE=> ?_
  simp only [ar,Nat.zero_add,Nat.reduceAdd]
  repeat' first|kernel_rfl|apply Bt.mk|refine nx ?_|refine bi rfl bZ ?_|refine bh rfl ?_|refine bj rfl ?_|apply ae|refine aO rfl ?_|exact bZ|intro _
 simp only [Bool.true_and]
 refine cr Tryz.func190 Tryz.ntmps190 fun X w hE=> ?_
 simp only [ar,Nat.zero_add,Nat.reduceAdd]
 repeat' first|kernel_rfl|apply Bt.mk|refine nx ?_|refine bi rfl bZ ?_|refine bh rfl ?_|refine bj rfl ?_|apply ae|refine aO rfl ?_|exact bZ|intro _
theorem nD {n a b:Int}:cw Tryz.prog S1 229 [0,0,0] [.is (.int .u8 n), .is (.int .u8 a), .is (.int .u8 b)] (fun _=> .is (.bool (iK n a b))):=by
 unfold iK
 cases h0:decide (a≤n)
 ·simp only [Bool.false_and]
  refine cr Tryz.func229 Tryz.ntmps229 fun X w hE=> ?_
  simp only [ar,Nat.zero_add,Nat.reduceAdd]
  repeat' first|kernel_rfl|apply Bt.mk|refine nx ?_|refine bi rfl bZ ?_|refine bh rfl ?_|refine bj rfl ?_|apply ae|refine aO rfl ?_|exact bZ|intro _
 simp only [Bool.true_and]
 refine cr Tryz.func229 Tryz.ntmps229 fun X w hE=> ?_
 simp only [ar,Nat.zero_add,Nat.reduceAdd]
 repeat' first|kernel_rfl|apply Bt.mk|refine nx ?_|refine bi rfl bZ ?_|refine bh rfl ?_|refine bj rfl ?_|apply ae|refine aO rfl ?_|exact bZ|intro _
theorem vv{k:Int} (hL:L≤90) (hk: -9223372036854775808≤k∧k≤9223372036854775807):cw Tryz.prog dZ 88 [4,0] [.qx x L, .is (.int .i64 k)] (fun _=> .is (.bool (nj k x))):=by
 unfold nj
 cases h0:decide (0≤eS (qv x) 0)
 ·simp only [Bool.false_and]
  refine cr Tryz.func88 Tryz.ntmps88 fun X w hE=> ?_
  simp only [ar,Nat.zero_add,Nat.reduceAdd]
  repeat' first|kernel_rfl|apply Bt.mk|refine nx ?_|apply ab (id:=1) [(8,false)] [] 10|(apply u7;(focus rfl);(focus kernel_rfl))|apply au|apply aR|infer_instance|refine bi rfl bZ ?_|refine bh rfl ?_|refine bj rfl ?_|apply ae|refine aO rfl ?_|exact bZ|intro _
 simp only [Bool.true_and]
 refine cr Tryz.func88 Tryz.ntmps88 fun X w hE=> ?_
 simp only [ar,Nat.zero_add,Nat.reduceAdd]
 repeat' first|kernel_rfl|apply Bt.mk|refine nx ?_|apply ab (id:=1) [(8,true)] [] 10|apply au|apply aR|infer_instance|refine bi rfl bZ ?_|refine bh rfl ?_|refine bj rfl ?_|apply ae|refine aO rfl ?_|exact ue hE hk|exact bZ|intro _
theorem vp(hL:L≤90) (hu:fi 100 x=u):cw Tryz.prog dZ 83 [4,0] [.qx x L, .is (.int .u32 100)] (fun _=> .is (.bool u)):=mT (k:=100) hL qD hu
theorem mf(hL:L≤90) (hu:fi 1000000 x=u):cw Tryz.prog dZ 83 [4,0] [.qx x L, .is (.int .u32 1000000)] (fun _=> .is (.bool u)):=mT (k:=1000000) hL qD hu
theorem vl(hL:L≤90):cw Tryz.prog dZ 32 [4] [.qx x L] (fun _=> .is (.bool (k8 x))):=by
 unfold k8
 cases h0:fi 1000000 x
 ·simp only [Bool.false_and]
  refine cr Tryz.func32 Tryz.ntmps32 fun X w hE=> ?_
  simp only [ar,Nat.zero_add,Nat.reduceAdd]
  repeat' first|kernel_rfl|apply Bt.mk|refine nx ?_|refine bi rfl (by first|exact sc hE (mf hL h0)|exact bZ) ?_|refine bh rfl ?_|refine bj rfl ?_|apply ae|refine aO rfl ?_|exact sc hE (mf hL h0)|exact bZ|intro _
 simp only [Bool.true_and]
 refine cr Tryz.func32 Tryz.ntmps32 fun X w hE=> ?_
 simp only [ar,Nat.zero_add,Nat.reduceAdd]
 repeat' first|kernel_rfl|apply Bt.mk|refine nx ?_|refine bi rfl (by first|exact sc hE (mf hL h0)|exact sc hE (vv hL qD)|exact bZ) ?_|refine bh rfl ?_|refine bj rfl ?_|apply ae|refine aO rfl ?_|exact sc hE (mf hL h0)|exact sc hE (vv hL qD)|exact bZ|intro _
theorem wU:(0:Rat)<lu:=by unfold lu;decide +kernel
theorem C7 {p:Rat} (h:eS p 0<0):(decide (eS p lu<0)&&decide (eS (-p) lu<0))=decide (eS (-p) lu<0):=by
 have h':=nP.1 h
 have:=wU
 rw [decide_eq_true (nP.2 (by grind)),Bool.true_and]
theorem Cu {p:Rat} (h:¬ eS p 0<0):(decide (eS p lu<0)&&decide (eS (-p) lu<0))=decide (eS p lu<0):=by
 have h':¬ p<0:=fun g=>h (nP.2 g)
 have:=wU
 rw [decide_eq_true (p:=eS (-p) lu<0) (nP.2 (by grind)),Bool.and_true]
theorem vG(hL:L≤80):cw Tryz.prog dZ 31 [4] [.qx x L] (fun _=> .is (.bool (md x))):=by
 unfold md
 rw [Bool.and_assoc]
 cases h0:fi 100 x
 ·simp only [Bool.false_and]
  refine cr Tryz.func31 Tryz.ntmps31 fun X w hE=> ?_
  simp only [ar,Nat.zero_add,Nat.reduceAdd]
  repeat' first|kernel_rfl|apply Bt.mk|refine nx ?_|apply au|apply aR|apply ae|refine aO rfl ?_|exact bZ|intro _
 simp only [Bool.true_and]
 cases h1:decide (eS (qv x) 0<0)
 ·rw [Cu (of_decide_eq_false h1)]
  unfold lu
  refine cr Tryz.func31 Tryz.ntmps31 fun X w hE=> ?_
  simp only [ar,Nat.zero_add,Nat.reduceAdd]
  repeat' first|kernel_rfl|apply Bt.mk|refine nx ?_|apply ab (id:=6) [] [] 6|apply au|apply aR|apply ae|refine aO rfl ?_|exact bZ|intro _
 ·rw [C7 (of_decide_eq_true h1)]
  unfold lu
  refine cr Tryz.func31 Tryz.ntmps31 fun X w hE=> ?_
  simp only [ar,Nat.zero_add,Nat.reduceAdd]
  repeat' first|kernel_rfl|apply Bt.mk|refine nx ?_|apply ab (id:=6) [] [] 6|apply au|apply aR|apply ae|refine aO rfl ?_|exact bZ|intro _
theorem wt(hf:di L x) (h:(aa.ra Rp.frac x).holds X w v):(aa.qx x L).holds X w v:=⟨x,⟨rfl,hf⟩,h⟩
theorem gr(hL:L≤80) (hf:di L x):cw Tryz.prog dZ 31 [0] [.ra Rp.frac x] (fun _=> .is (.bool (md x))):=(vG hL).args fun h=>by
 obtain ⟨v,rfl,h⟩:=h.one
 exact ⟨wt hf h.1,trivial⟩
theorem fG(hL:L≤90) (hf:di L x):cw Tryz.prog dZ 32 [0] [.ra Rp.frac x] (fun _=> .is (.bool (k8 x))):=(vl hL).args fun h=>by
 obtain ⟨v,rfl,h⟩:=h.one
 exact ⟨wt hf h.1,trivial⟩
theorem tN{z:Int} (hL:L≤90) (hf:di L x) (hz:z=(k:Int)) (hk:0<k∧k<4294967296) (hu:fi k x=u):cw Tryz.prog dZ 83 [0,0] [.ra Rp.frac x, .is (.int .u32 z)] (fun _=> .is (.bool u)):=by
 subst hz
 exact (mT hL hk hu).args fun h=>by
  obtain ⟨v,us,rfl,h,h'⟩:=h.tail
  exact ⟨wt hf h,h'⟩
theorem C9{k:Int} (hL:L≤90) (hf:di L x) (hk: -9223372036854775808≤k∧k≤9223372036854775807):cw Tryz.prog dZ 88 [0,0] [.ra Rp.frac x, .is (.int .i64 k)] (fun _=> .is (.bool (nj k x))):=(vv hL hk).args fun h=>by
 obtain ⟨v,us,rfl,h,h'⟩:=h.tail
 exact ⟨wt hf h,h'⟩
theorem C6(hL:L≤90) (hf:di L x):cw Tryz.prog dZ 84 [0] [.ra Rp.frac x] (fun _=> .is (.int .i64 (eS (qv x) 0))):=⟨fun _ _=>by kernel_rfl,fY.const.down,fun hG hX h=>by
 obtain ⟨v,rfl,h⟩:=h.one
 exact wV hG hX ⟨x,⟨rfl,hf⟩,h.1⟩ hL⟩
section
variable {P:Program} {w00:World} {N:Nat} {L:List Loc} {E:List (Nat×aa)} {d:Nat} {t0:TypeId} {pos:String} {af:Array Edge} {gd:Option (Nat×Bool)} {ats:Array TypeId}
theorem dJ{α:Type} {r:Rp α} {p:α→Prop} {l:List α} {a:α} {o oi:Operand} {j:Nat} [ho:cT E o (.rw r p l)] [hi:cT E oi (.is (.int .i64 (j:Int)))] [kc:KC r k] [ht:dt P ty k] (ha:l[j]? =some a):aF P w00 N L E ⟨some d, .indexAddr ty o oi,t0,pos,af,gd⟩ (.pe r p a):=by
 have e:=kc.ok
 subst e
 exact ee ha
theorem cP{α:Type} {r:Rp α} {p:α→Prop} {a:α} {s:Nat} [ho:co E s (.pe r p a)] [kc:KC r k] [ht:fw P ty k true]:aF P w00 N L E ⟨some d, .load ty (.tmp s),t0,pos,af,gd⟩ (.ra r a):=by
 have e:=kc.ok
 subst e
 constructor
 intro X ρ w hc _ hN hm hsl
 obtain ⟨hp,b,o,cs,e,hb,h1,h2⟩:=hsl _ ho.mem qI
 have e':ρ (.tmp s)= .pointer (some ⟨b,o,none⟩):=e
 obtain ⟨dd,hu,hd⟩:=ht.row
 have hi:(P.info? ty).map (·.size)=some cs.length:=by rw [r.len h2];exact ht.size
 have hrun:(execOp ρ ⟨some d, .load ty (.tmp s),t0,pos,af,gd⟩).run P w= .ok (.value (.agg cs.toArray)) w:=by
  unfold execOp
  simp only [e',run_loadAt_mid w b o ty cs dd h1 hu hd hi,Sem.run_bind,Sem.run_pure,Result.andThen_ok]
 unfold Yields
 rw [hrun]
 exact ⟨⟨cs,rfl,h2⟩,Below.refl _ _⟩
end
instance aZ.raK {α:Type} {r:Rp α} {a:α} {k:Nat} [kc:KC r k]:aZ (.ra r a) k true:=by
 have e:=kc.ok
 subst e
 infer_instance
instance (priority:=low) am.raw {α:Type} {r:Rp α} {a:α} {k:Nat} [kc:KC r k]:am (.ra r a) 0 k true (.ra r a):=by
 have e:=kc.ok
 subst e
 exact .whole inferInstance
theorem Ao{α:Type} {r:Rp α} {p:α→Prop} {l:List α} (h:(aa.rw r p l).holds X w v):l.length≤9223372036854775807:=by
 obtain ⟨_,A,n,c,_,h⟩:=h
 have hm:=h.lenMax
 rw [h.1];exact hm
def Rp.fnc:Rp FuncId:=⟨1,fun _ _ f cs=>cs=[.func (.func f) #[] #[]],fun h=>by rw [h];rfl,fun h v hv=>by rw [h,List.mem_singleton] at hv;rw [hv];rfl,fun h _=>h,fun h _=>h⟩
instance {f:FuncId}:kA Rp.fnc f (.fv f [] []):=⟨fun h=>by
 injection (show [_]=[_] from h) with e _
 exact ⟨[],[],e,trivial,trivial⟩⟩
instance:KC Rp.fnc 1:=⟨rfl⟩
abbrev iJ:Rp (Int×FuncId):=(Rp.int .u8).pair Rp.fnc
instance:KC iJ 2:=⟨rfl⟩
instance {a:Int×FuncId}:am (.ra iJ a) 0 1 false (.is (.int .u8 a.1)):=am.cell (r':=Rp.int .u8) (g:=fun (a:Int×FuncId)=>a.1) bk.fst ⟨rfl⟩ inferInstance
instance {a:Int×FuncId}:am (.ra iJ a) 1 1 false (.fv a.2 [] []):=am.cell (r':=Rp.fnc) (g:=fun (a:Int×FuncId)=>a.2) (bk.tail (n:=1) ⟨rfl⟩ bk.self rfl) ⟨rfl⟩ inferInstance
def aa.sz (k:Nat):aa:=⟨fun _ _ v=>v.cells.size=k∧v.cells.all (·.oneCell')=true∧v= .agg v.cells,fun h _ _=>h⟩
instance {k:Nat}:aZ (.sz k) k true:=⟨fun h=>⟨h.1,h.2.1,fun _=>h.2.2,fun h=>by cases h⟩⟩
def GY:Value→Bool
 | .agg _=>true
 |_=>false
theorem wX{P:Program} (h:((P.info? ty).bind (·.zero)).map (fun z=>(z.cells.size,z.cells.all (·.oneCell'),GY z))=some (k,true,true)):dq P ty (.sz k):=by
 cases hi:P.info? ty with
 |none=>rw [hi] at h;cases h
 |some i=>
 cases hz:i.zero with
 |none=>simp [hi,hz] at h
 |some z=>
 simp [hi,hz] at h
 refine ⟨z,fun X w=>⟨h.1,by simpa using h.2.1,by
  have:=h.2.2
  cases z<;>first|rfl|cases this⟩,fun o ρ w e=> ?_⟩
 have hze:(zeroValue ty).run P w= .ok z w:=by simp [zeroValue,typeInfo,hi,hz]
 cases o with
 |mk dst op t pos af gd=>
  have e':op=_:=e
  subst e'
  unfold execOp
  simp [Instr.alloc,newVar,newRow,Sem.run_bind,hze,Result.andThen_ok]
instance:fw Tryz.prog 220 2 true:=⟨⟨_,Tryz.underlying220,rfl⟩,by kernel_rfl⟩
instance:dq Tryz.prog 220 (.sz 2):=wX qK
instance:dt Tryz.prog 140 2:=⟨⟨_,Tryz.underlying140,by kernel_rfl⟩⟩
instance:fw Tryz.prog 218 1 false:=⟨⟨_,Tryz.underlying218,rfl⟩,by kernel_rfl⟩
instance:ay Tryz.prog 220 0 0 1 false:=⟨⟨_,_,Tryz.underlying220,rfl,rfl,by kernel_rfl,by decide,_,Tryz.underlying5,rfl⟩⟩
instance:ay Tryz.prog 220 1 1 1 false:=⟨⟨_,_,Tryz.underlying220,rfl,rfl,by kernel_rfl,by decide,_,Tryz.underlying218,rfl⟩⟩
theorem lh:∃ z,Tryz.prog.underlying 140=some (.slice 220)∧∃ i,Tryz.prog.info? 220=some i∧i.zero=some z∧i.size=2∧z.cells.size=2:=by
 have h:((Tryz.prog.info? 220).bind (·.zero)).map (fun z=>z.cells.size)=some 2:=by kernel_rfl
 have h2:(Tryz.prog.info? 220).map (·.size)=some 2:=by kernel_rfl
 cases hi:Tryz.prog.info? 220 with
 |none=>rw [hi] at h;cases h
 |some i=>
 cases hz:i.zero with
 |none=>simp [hi,hz] at h
 |some z=>
 simp [hi,hz] at h
 simp [hi] at h2
 exact ⟨z,Tryz.underlying140,i,rfl,hz,h2,h⟩
theorem vI:nY Tryz.prog 140 220 iJ.k:=⟨(lh).choose_spec.1,let ⟨i,h⟩:=(lh).choose_spec.2;⟨i,_,h⟩⟩
section
variable {w00:World} {N:Nat} {L:List Loc} {E:List (Nat×aa)} {d:Nat} {t0:TypeId} {pos:String} {af:Array Edge} {gd:Option (Nat×Bool)}
theorem rL {k:Int} {f:FuncId}:aF Tryz.prog w00 N L E ⟨some d, .build 220 #[(0, .const (.int .u8 k)),(1, .func f)],t0,pos,af,gd⟩ (.ra iJ (k,f)):=by
 constructor
 intro X ρ w hc hf hN hm hsl
 have e0:=hc (.int .u8 k)
 have e1:=hf f
 clear hc hf hsl hm
 unfold Yields
 go_simp
 exact ⟨⟨[.int .u8 k, .func (.func f) #[] #[]],rfl,[.int .u8 k],[.func (.func f) #[] #[]],rfl,rfl,rfl⟩,Below.refl _ _⟩
end
instance:fw Tryz.prog 225 2 true:=⟨⟨_,Tryz.underlying225,rfl⟩,by kernel_rfl⟩
instance:dq Tryz.prog 225 (.sz 2):=wX qK
instance:dt Tryz.prog 143 2:=⟨⟨_,Tryz.underlying143,by kernel_rfl⟩⟩
instance:fw Tryz.prog 223 1 false:=⟨⟨_,Tryz.underlying223,rfl⟩,by kernel_rfl⟩
instance:ay Tryz.prog 225 0 0 1 false:=⟨⟨_,_,Tryz.underlying225,rfl,rfl,by kernel_rfl,by decide,_,Tryz.underlying5,rfl⟩⟩
instance:ay Tryz.prog 225 1 1 1 false:=⟨⟨_,_,Tryz.underlying225,rfl,rfl,by kernel_rfl,by decide,_,Tryz.underlying223,rfl⟩⟩
theorem nu:∃ z,Tryz.prog.underlying 143=some (.slice 225)∧∃ i,Tryz.prog.info? 225=some i∧i.zero=some z∧i.size=2∧z.cells.size=2:=by
 have h:((Tryz.prog.info? 225).bind (·.zero)).map (fun z=>z.cells.size)=some 2:=by kernel_rfl
 have h2:(Tryz.prog.info? 225).map (·.size)=some 2:=by kernel_rfl
 cases hi:Tryz.prog.info? 225 with
 |none=>rw [hi] at h;cases h
 |some i=>
 cases hz:i.zero with
 |none=>simp [hi,hz] at h
 |some z=>
 simp [hi,hz] at h
 simp [hi] at h2
 exact ⟨z,Tryz.underlying143,i,rfl,hz,h2,h⟩
theorem zy:nY Tryz.prog 143 225 iJ.k:=⟨(nu).choose_spec.1,let ⟨i,h⟩:=(nu).choose_spec.2;⟨i,_,h⟩⟩
section
variable {w00:World} {N:Nat} {L:List Loc} {E:List (Nat×aa)} {d:Nat} {t0:TypeId} {pos:String} {af:Array Edge} {gd:Option (Nat×Bool)}
theorem vk {k:Int} {f:FuncId}:aF Tryz.prog w00 N L E ⟨some d, .build 225 #[(0, .const (.int .u8 k)),(1, .func f)],t0,pos,af,gd⟩ (.ra iJ (k,f)):=by
 constructor
 intro X ρ w hc hf hN hm hsl
 have e0:=hc (.int .u8 k)
 have e1:=hf f
 clear hc hf hsl hm
 unfold Yields
 go_simp
 exact ⟨⟨[.int .u8 k, .func (.func f) #[] #[]],rfl,[.int .u8 k],[.func (.func f) #[] #[]],rfl,rfl,rfl⟩,Below.refl _ _⟩
end
abbrev xX:cM:=(((false,[]),(false,[])),((false,[]),(false,[])))
instance:dq Tryz.prog 79 (.ra a8 xX):=ii.al
abbrev Dk:ct:=([],0,((false,[]),(false,[])))
instance:dq Tryz.prog 84 (.ra bt Dk):=lp.al
abbrev dc:ft:=([],[],((false,[]),(false,[])))
instance:dq Tryz.prog 119 (.ra aH dc):=l8.al
abbrev de:fg:=([],[],((false,[]),(false,[])))
instance:dq Tryz.prog 121 (.ra aG de):=mm.al
abbrev bs:eo:=(false,[],0,[],[],[],((false,[]),(false,[])))
instance:dq Tryz.prog 123 (.ra ak bs):=mn.al
abbrev Ca:dI:=([],((false,[]),(false,[])),((false,[]),(false,[])))
instance:dq Tryz.prog 125 (.ra bp Ca):=lm.al
abbrev Ek:eX:=([],((false,[]),(false,[])))
instance:dq Tryz.prog 127 (.ra b7 Ek):=ma.al
abbrev zi:bw:=(0,[],[],[],[],[])
instance:dq Tryz.prog 65 (.ra aA zi):=ir.al
abbrev Au:aI:=([],[],[],((false,[]),(false,[])),((false,[]),(false,[])),0,0,((false,[]),(false,[])),((false,[]),(false,[])),0,[],[],[])
instance:dq Tryz.prog 32 (.ra ai Au):=j_.al
abbrev nU:l9:=(0,0,0)
instance:dq Tryz.prog 71 (.ra dK nU):=lc.al
theorem vJ {a:cM} (hf:di 6 a.1∧di 6 a.2):cw Tryz.prog dZ 189 [0] [.ra a8 a] (fun _=> .is (.bool (ib a))):=by
 unfold ib
 have k0:=gr (x:=a.1) (L:=6) qD hf.1
 cases h0:md a.1
 ·rw [h0] at k0
  simp only [Bool.false_and]
  refine cr Tryz.func189 Tryz.ntmps189 fun X w hE=> ?_
  simp only [ar,Nat.zero_add,Nat.reduceAdd]
  repeat' first|kernel_rfl|apply Bt.mk|refine nx ?_|refine bi rfl (by first|exact sc hE k0|exact bZ) ?_|refine bh rfl ?_|refine bj rfl ?_|apply ae|refine aO rfl ?_|exact sc hE k0|exact bZ|intro _
 rw [h0] at k0
 simp only [Bool.true_and]
 have k1:=fG (x:=a.2) (L:=6) qD hf.2
 refine cr Tryz.func189 Tryz.ntmps189 fun X w hE=> ?_
 simp only [ar,Nat.zero_add,Nat.reduceAdd]
 repeat' first|kernel_rfl|apply Bt.mk|refine nx ?_|refine bi rfl (by first|exact sc hE k0|exact bZ) ?_|refine bh rfl ?_|refine bj rfl ?_|apply ae|refine aO rfl ?_|exact sc hE k0|exact bZ|intro _
theorem Bn {a:bw}:cw Tryz.prog dZ 195 [0] [.ra aA a] (fun _=> .is (.bool (pd a))):=by
 unfold pd
 have k0:=jC (n:=a.1) (a:=1) (b:=9999)
 refine cr Tryz.func195 Tryz.ntmps195 fun X w hE=> ?_
 simp only [ar,Nat.zero_add,Nat.reduceAdd]
 repeat' first|kernel_rfl|apply Bt.mk|refine nx ?_|apply ae|refine aO rfl ?_|exact bZ|intro _
theorem B9 {a:ft} (hf:di 6 a.2.2):cw Tryz.prog dZ 197 [0] [.ra aH a] (fun _=> .is (.bool (jX a))):=by
 unfold jX
 simp only [Bool.and_assoc]
 have k0:=eD (l:=a.1)
 cases h0:dF a.1
 ·rw [h0] at k0
  simp only [Bool.false_and]
  refine cr Tryz.func197 Tryz.ntmps197 fun X w hE=> ?_
  simp only [ar,Nat.zero_add,Nat.reduceAdd]
  repeat' first|kernel_rfl|apply Bt.mk|refine nx ?_|refine bi rfl bZ ?_|refine bh rfl ?_|refine bj rfl ?_|apply ae|refine aO rfl ?_|exact bZ|intro _
 rw [h0] at k0
 simp only [Bool.true_and]
 have k1:=eD (l:=a.2.1)
 cases h1:dF a.2.1
 ·rw [h1] at k1
  simp only [Bool.false_and]
  refine cr Tryz.func197 Tryz.ntmps197 fun X w hE=> ?_
  simp only [ar,Nat.zero_add,Nat.reduceAdd]
  repeat' first|kernel_rfl|apply Bt.mk|refine nx ?_|refine bi rfl bZ ?_|refine bh rfl ?_|refine bj rfl ?_|apply ae|refine aO rfl ?_|exact bZ|intro _
 rw [h1] at k1
 simp only [Bool.true_and]
 have k2:=fG (x:=a.2.2) (L:=6) qD hf
 refine cr Tryz.func197 Tryz.ntmps197 fun X w hE=> ?_
 simp only [ar,Nat.zero_add,Nat.reduceAdd]
 repeat' first|kernel_rfl|apply Bt.mk|refine nx ?_|refine bi rfl bZ ?_|refine bh rfl ?_|refine bj rfl ?_|apply ae|refine aO rfl ?_|exact bZ|intro _
theorem Bw {a:fg} (hf:di 6 a.2.2):cw Tryz.prog dZ 199 [0] [.ra aG a] (fun _=> .is (.bool (jR a))):=by
 unfold jR
 simp only [Bool.and_assoc]
 have k0:=eD (l:=a.1)
 cases h0:dF a.1
 ·rw [h0] at k0
  simp only [Bool.false_and]
  refine cr Tryz.func199 Tryz.ntmps199 fun X w hE=> ?_
  simp only [ar,Nat.zero_add,Nat.reduceAdd]
  repeat' first|kernel_rfl|apply Bt.mk|refine nx ?_|refine bi rfl bZ ?_|refine bh rfl ?_|refine bj rfl ?_|apply ae|refine aO rfl ?_|exact bZ|intro _
 rw [h0] at k0
 simp only [Bool.true_and]
 have k1:=eD (l:=a.2.1)
 cases h1:dF a.2.1
 ·rw [h1] at k1
  simp only [Bool.false_and]
  refine cr Tryz.func199 Tryz.ntmps199 fun X w hE=> ?_
  simp only [ar,Nat.zero_add,Nat.reduceAdd]
  repeat' first|kernel_rfl|apply Bt.mk|refine nx ?_|refine bi rfl bZ ?_|refine bh rfl ?_|refine bj rfl ?_|apply ae|refine aO rfl ?_|exact bZ|intro _
 rw [h1] at k1
 simp only [Bool.true_and]
 have k2:=gr (x:=a.2.2) (L:=6) qD hf
 refine cr Tryz.func199 Tryz.ntmps199 fun X w hE=> ?_
 simp only [ar,Nat.zero_add,Nat.reduceAdd]
 repeat' first|kernel_rfl|apply Bt.mk|refine nx ?_|refine bi rfl bZ ?_|refine bh rfl ?_|refine bj rfl ?_|apply ae|refine aO rfl ?_|exact bZ|intro _
theorem Bm {a:eo} (hf:di 6 a.2.2.2.2.2.2):cw Tryz.prog dZ 201 [0] [.ra ak a] (fun _=> .is (.bool (jU a))):=by
 unfold jU
 simp only [Bool.and_assoc]
 have k0:=eD (l:=a.2.1)
 cases h0:dF a.2.1
 ·rw [h0] at k0
  simp only [Bool.false_and]
  refine cr Tryz.func201 Tryz.ntmps201 fun X w hE=> ?_
  simp only [ar,Nat.zero_add,Nat.reduceAdd]
  repeat' first|kernel_rfl|apply Bt.mk|refine nx ?_|refine bi rfl bZ ?_|refine bh rfl ?_|refine bj rfl ?_|apply ae|refine aO rfl ?_|exact bZ|intro _
 rw [h0] at k0
 simp only [Bool.true_and]
 have k1:=nD (n:=a.2.2.1) (a:=1) (b:=4)
 cases h1:iK a.2.2.1 1 4
 ·rw [h1] at k1
  simp only [Bool.false_and]
  refine cr Tryz.func201 Tryz.ntmps201 fun X w hE=> ?_
  simp only [ar,Nat.zero_add,Nat.reduceAdd]
  repeat' first|kernel_rfl|apply Bt.mk|refine nx ?_|refine bi rfl bZ ?_|refine bh rfl ?_|refine bj rfl ?_|apply ae|refine aO rfl ?_|exact bZ|intro _
 rw [h1] at k1
 simp only [Bool.true_and]
 have k2:=eD (l:=a.2.2.2.1)
 cases h2:dF a.2.2.2.1
 ·rw [h2] at k2
  simp only [Bool.false_and]
  refine cr Tryz.func201 Tryz.ntmps201 fun X w hE=> ?_
  simp only [ar,Nat.zero_add,Nat.reduceAdd]
  repeat' first|kernel_rfl|apply Bt.mk|refine nx ?_|refine bi rfl bZ ?_|refine bh rfl ?_|refine bj rfl ?_|apply ae|refine aO rfl ?_|exact bZ|intro _
 rw [h2] at k2
 simp only [Bool.true_and]
 have k3:=eD (l:=a.2.2.2.2.1)
 cases h3:dF a.2.2.2.2.1
 ·rw [h3] at k3
  simp only [Bool.false_and]
  refine cr Tryz.func201 Tryz.ntmps201 fun X w hE=> ?_
  simp only [ar,Nat.zero_add,Nat.reduceAdd]
  repeat' first|kernel_rfl|apply Bt.mk|refine nx ?_|refine bi rfl bZ ?_|refine bh rfl ?_|refine bj rfl ?_|apply ae|refine aO rfl ?_|exact bZ|intro _
 rw [h3] at k3
 simp only [Bool.true_and]
 have k4:=eD (l:=a.2.2.2.2.2.1)
 cases h4:dF a.2.2.2.2.2.1
 ·rw [h4] at k4
  simp only [Bool.false_and]
  refine cr Tryz.func201 Tryz.ntmps201 fun X w hE=> ?_
  simp only [ar,Nat.zero_add,Nat.reduceAdd]
  repeat' first|kernel_rfl|apply Bt.mk|refine nx ?_|refine bi rfl (by first|exact sc trivial k4|exact bZ) ?_|refine bh rfl ?_|refine bj rfl ?_|apply ae|refine aO rfl ?_|exact sc trivial k4|exact bZ|intro _
 rw [h4] at k4
 simp only [Bool.true_and]
 have k5:=gr (x:=a.2.2.2.2.2.2) (L:=6) qD hf
 refine cr Tryz.func201 Tryz.ntmps201 fun X w hE=> ?_
 simp only [ar,Nat.zero_add,Nat.reduceAdd]
 repeat' first|kernel_rfl|apply Bt.mk|refine nx ?_|refine bi rfl (by first|exact sc trivial k4|exact sc hE k5|exact bZ) ?_|refine bh rfl ?_|refine bj rfl ?_|apply ae|refine aO rfl ?_|exact sc trivial k4|exact sc hE k5|exact bZ|intro _
theorem yM {a:dI} (hf:di 6 a.2.1∧di 6 a.2.2):cw Tryz.prog dZ 203 [0] [.ra bp a] (fun _=> .is (.bool (ie a))):=by
 unfold ie
 simp only [Bool.and_assoc]
 have k0:=eD (l:=a.1)
 cases h0:dF a.1
 ·rw [h0] at k0
  simp only [Bool.false_and]
  refine cr Tryz.func203 Tryz.ntmps203 fun X w hE=> ?_
  simp only [ar,Nat.zero_add,Nat.reduceAdd]
  repeat' first|kernel_rfl|apply Bt.mk|refine nx ?_|refine bi rfl bZ ?_|refine bh rfl ?_|refine bj rfl ?_|apply ae|refine aO rfl ?_|exact bZ|intro _
 rw [h0] at k0
 simp only [Bool.true_and]
 have k1:=gr (x:=a.2.1) (L:=6) qD hf.1
 cases h1:md a.2.1
 ·rw [h1] at k1
  simp only [Bool.false_and]
  refine cr Tryz.func203 Tryz.ntmps203 fun X w hE=> ?_
  simp only [ar,Nat.zero_add,Nat.reduceAdd]
  repeat' first|kernel_rfl|apply Bt.mk|refine nx ?_|refine bi rfl bZ ?_|refine bh rfl ?_|refine bj rfl ?_|apply ae|refine aO rfl ?_|exact bZ|intro _
 rw [h1] at k1
 simp only [Bool.true_and]
 have k2:=fG (x:=a.2.2) (L:=6) qD hf.2
 refine cr Tryz.func203 Tryz.ntmps203 fun X w hE=> ?_
 simp only [ar,Nat.zero_add,Nat.reduceAdd]
 repeat' first|kernel_rfl|apply Bt.mk|refine nx ?_|refine bi rfl bZ ?_|refine bh rfl ?_|refine bj rfl ?_|apply ae|refine aO rfl ?_|exact bZ|intro _
theorem CX {a:eX} (hf:di 6 a.2):cw Tryz.prog dZ 205 [0] [.ra b7 a] (fun _=> .is (.bool (jS a))):=by
 unfold jS
 have k0:=eD (l:=a.1)
 cases h0:dF a.1
 ·rw [h0] at k0
  simp only [Bool.false_and]
  refine cr Tryz.func205 Tryz.ntmps205 fun X w hE=> ?_
  simp only [ar,Nat.zero_add,Nat.reduceAdd]
  repeat' first|kernel_rfl|apply Bt.mk|refine nx ?_|refine bi rfl bZ ?_|refine bh rfl ?_|refine bj rfl ?_|apply ae|refine aO rfl ?_|exact bZ|intro _
 rw [h0] at k0
 simp only [Bool.true_and]
 have k1:=fG (x:=a.2) (L:=6) qD hf
 refine cr Tryz.func205 Tryz.ntmps205 fun X w hE=> ?_
 simp only [ar,Nat.zero_add,Nat.reduceAdd]
 repeat' first|kernel_rfl|apply Bt.mk|refine nx ?_|refine bi rfl bZ ?_|refine bh rfl ?_|refine bj rfl ?_|apply ae|refine aO rfl ?_|exact bZ|intro _
theorem ut {a:ct} (hf:di 6 a.2.2):cw Tryz.prog dZ 230 [0] [.ra bt a] (fun _=> .is (.bool (tZ a.2.1 a.2.2))):=by
 unfold tZ
 have ks:=fG (x:=a.2.2) (L:=6) qD hf
 have km:=gr (x:=a.2.2) (L:=6) qD hf
 have ku:=C9 (x:=a.2.2) (L:=6) (k:=40) qD hf qD
 have kg:=C6 (x:=a.2.2) (L:=6) qD hf
 cases h4:(a.2.1==4)
 rotate_left
 ·simp only [cond_true]
  refine cr Tryz.func230 Tryz.ntmps230 fun X w hE=> ?_
  simp only [ar,Nat.zero_add,Nat.reduceAdd]
  repeat' first|kernel_rfl|apply Bt.mk|refine nx ?_|refine bi rfl bZ ?_|refine bh rfl ?_|refine bj rfl ?_|apply ae|refine aO rfl ?_|exact bZ|intro _
 simp only [cond_false]
 cases h5:(a.2.1==5)
 rotate_left
 ·simp only [cond_true]
  refine cr Tryz.func230 Tryz.ntmps230 fun X w hE=> ?_
  simp only [ar,Nat.zero_add,Nat.reduceAdd]
  repeat' first|kernel_rfl|apply Bt.mk|refine nx ?_|refine bi rfl bZ ?_|refine bh rfl ?_|refine bj rfl ?_|apply ae|refine aO rfl ?_|exact bZ|intro _
 simp only [cond_false]
 cases h6:(a.2.1==6)
 ·simp only [cond_false]
  refine cr Tryz.func230 Tryz.ntmps230 fun X w hE=> ?_
  simp only [ar,Nat.zero_add,Nat.reduceAdd]
  repeat' first|kernel_rfl|apply Bt.mk|refine nx ?_|refine bi rfl bZ ?_|refine bh rfl ?_|refine bj rfl ?_|apply ae|refine aO rfl ?_|exact bZ|intro _
 simp only [cond_true]
 cases hw:fi 1 a.2.2
 ·have kw:=tN (x:=a.2.2) (L:=6) (k:=1) (z:=1) qD hf rfl qD hw
  simp only [Bool.false_and]
  refine cr Tryz.func230 Tryz.ntmps230 fun X w hE=> ?_
  simp only [ar,Nat.zero_add,Nat.reduceAdd]
  repeat' first|kernel_rfl|apply Bt.mk|refine nx ?_|refine bi rfl bZ ?_|refine bh rfl ?_|refine bj rfl ?_|apply ae|refine aO rfl ?_|exact bZ|intro _
 have kw:=tN (x:=a.2.2) (L:=6) (k:=1) (z:=1) qD hf rfl qD hw
 simp only [Bool.true_and]
 refine cr Tryz.func230 Tryz.ntmps230 fun X w hE=> ?_
 simp only [ar,Nat.zero_add,Nat.reduceAdd]
 repeat' first|kernel_rfl|apply Bt.mk|refine nx ?_|refine bi rfl bZ ?_|refine bh rfl ?_|refine bj rfl ?_|apply ae|refine aO rfl ?_|exact bZ|intro _
theorem Aq {a:ct} (hf:di 6 a.2.2):cw Tryz.prog dZ 193 [0] [.ra bt a] (fun _=> .is (.bool (ij a))):=by
 unfold ij
 simp only [Bool.and_assoc]
 have k0:=eD (l:=a.1)
 cases h0:dF a.1
 ·rw [h0] at k0
  simp only [Bool.false_and]
  refine cr Tryz.func193 Tryz.ntmps193 fun X w hE=> ?_
  simp only [ar,Nat.zero_add,Nat.reduceAdd]
  repeat' first|kernel_rfl|apply Bt.mk|refine nx ?_|refine bi rfl bZ ?_|refine bh rfl ?_|refine bj rfl ?_|apply ae|refine aO rfl ?_|exact bZ|intro _
 rw [h0] at k0
 simp only [Bool.true_and]
 have k1:=nD (n:=a.2.1) (a:=1) (b:=11)
 cases h1:iK a.2.1 1 11
 ·rw [h1] at k1
  simp only [Bool.false_and]
  refine cr Tryz.func193 Tryz.ntmps193 fun X w hE=> ?_
  simp only [ar,Nat.zero_add,Nat.reduceAdd]
  repeat' first|kernel_rfl|apply Bt.mk|refine nx ?_|refine bi rfl bZ ?_|refine bh rfl ?_|refine bj rfl ?_|apply ae|refine aO rfl ?_|exact bZ|intro _
 rw [h1] at k1
 simp only [Bool.true_and]
 have k2:=ut hf
 refine cr Tryz.func193 Tryz.ntmps193 fun X w hE=> ?_
 simp only [ar,Nat.zero_add,Nat.reduceAdd]
 repeat' first|kernel_rfl|apply Bt.mk|refine nx ?_|refine bi rfl bZ ?_|refine bh rfl ?_|refine bj rfl ?_|apply ae|refine aO rfl ?_|exact bZ|intro _
end Go.Proofs.YtjjkikchncfekaaGreatDoor
