/- Package ast: names, money, shares. -/
import Derived.Test.YtjjkikchncfekaaGreatDoorCN
import Derived.Test.YtjjkikchncfekaaGreatDoorShelf
import Derived.Test.YtjjkikchncfekaaGreatDoorCM
import Derived.Test.YtjjkikchncfekaaGreatDoorCK
import Derived.Test.YtjjkikchncfekaaGreatDoorCL
import Derived.Test.YtjjkikchncfekaaGreatDoorCJ
import Derived.Test.YtjjkikchncfekaaGreatDoorCG
set_option maxHeartbeats 4000000
set_option maxRecDepth 20000
set_option synthInstance.maxHeartbeats 400000
set_option synthInstance.maxSize 4000
set_option linter.unusedSimpArgs false
set_option linter.unusedVariables false
namespace Go.Proofs.YtjjkikchncfekaaGreatDoor
open Go Go.RowKit
variable {x:aP} {L k:Nat} {u:Bool} {X:List Nat} {w:World} {v:Value} {ty:TypeId}
theorem Cm (p:UInt8→Prop) (h:∀ n:Fin 256,p (UInt8.ofNat n.val)) (c:UInt8):p c:=by
 have:=h ⟨c.toNat,UInt8.toNat_lt c⟩
 simpa using this
def zj:List UInt8:=[65,66,67,68,69,70,71,72,73,74,75,76,77,78,79,80,81,82,83,84,85,86,87,88,89,90,97,98,99,100,101,102,103,104,105,106,107,108,109,110,111,112,113,114,115,116,117,118,119,120,121,122]
def pX:List UInt8:=[65,66,67,68,69,70,71,72,73,74,75,76,77,78,79,80,81,82,83,84,85,86,87,88,89,90,97,98,99,100,101,102,103,104,105,106,107,108,109,110,111,112,113,114,115,116,117,118,119,120,121,122,48,49,50,51,52,53,54,55,56,57,95,45]
theorem Iq (c:UInt8):decide ((0:Int)≤Lib.indexByte zj c)=Dt c:=Cm (fun c=>decide ((0:Int)≤Lib.indexByte zj c)=Dt c) (by decide +kernel) c
theorem Jn (c:UInt8):pX.contains c=IM c:=Cm (fun c=>pX.contains c=IM c) (by decide +kernel) c
theorem qQ {p:UInt8→Bool}:∀ (l:List UInt8),l.dropWhile p=[]↔l.all p=true
 |[]=>by simp
 |c::l=>by
  rw [List.dropWhile_cons,List.all_cons]
  cases h:p c
  ·simp
  ·simpa using qQ l
theorem q_ {p:UInt8→Bool}:∀ (l:List UInt8),(l.dropWhile p).all p=true↔l.all p=true
 |[]=>by simp
 |c::l=>by
  rw [List.dropWhile_cons,List.all_cons]
  cases h:p c
  ·simp [h]
  ·simpa using q_ l
theorem zC (l:List UInt8):(Lib.trimS l pX==[])=l.all IM:=by
 have e:(fun b=>pX.contains b)=IM:=funext Jn
 rw [Bool.eq_iff_iff,beq_iff_eq]
 show List.dropWhile (fun b=>pX.contains b) (List.reverse (List.dropWhile (fun b=>pX.contains b) l.reverse))=[]↔_
 rw [e,qQ,List.all_reverse,q_,List.all_reverse]
def BU (l:List UInt8):Bool:=((!(l==[]))&&decide ((l.length:Int)≤32))&&(match l with|[]=>false|c::_=>decide ((0:Int)≤Lib.indexByte zj c))&&(Lib.trimS l pX==[])
theorem Co (l:List UInt8):BU l=cS l:=by
 unfold BU cS
 rw [zC,Bool.eq_iff_iff]
 cases l with
 |nil=>simp
 |cons c l=>
  dsimp only
  rw [Iq]
  simp only [Bool.and_eq_true,decide_eq_true_eq]
  constructor
  ·rintro ⟨⟨⟨_,h1⟩,h2⟩,h3⟩;exact ⟨⟨h2,h3⟩,by omega⟩
  ·rintro ⟨⟨h2,h3⟩,h1⟩;exact ⟨⟨⟨rfl,by omega⟩,h2⟩,h3⟩
theorem yW {l:List UInt8} (hl:l.length≤9223372036854775807):bJ Tryz.prog S1 82 [0,0] [.is (Tx l), .is (Tx pX)] (fun _=> .is (Tx (Lib.trimS l pX))):=
 BZ (fun _ _=>by kernel_rfl) fun w _=>(Any.strings_Trim_laid Tryz.lays160 qK ⟨l.toArray⟩ ⟨pX.toArray⟩ w (by rw [sG];exact hl) qD (ascii_of_all qD)).mono fun e w' h=>by
  rw [bn,bn] at h
  exact h
theorem bs {p:Prop} (h:p:=by first|exact E4 (by assumption)|exact xN|exact Hv (by first|assumption|rfl)|exact z7 (by first|assumption|rfl)|exact xM|exact zT (by assumption)|exact Dp|exact Fe (by assumption)|exact cZ|exact cQ|exact c_|exact bC|exact gB|exact gw|exact mO (by first|assumption|rfl)|exact s_ (by first|assumption|rfl)|exact Dj (by first|assumption|rfl)|exact x7 (by first|assumption|rfl)|exact tf (by first|assumption|rfl)|exact iW|exact dB (by assumption)|exact dK (b:=true) (u:=false) rfl|exact dK (b:=false) (u:=true) rfl|exact dK rfl|exact iY (by first|assumption|rfl)|exact dc|exact sc trivial hci|exact sc trivial (yW (by omega))|exact yD hE (by omega)|exact dW.nil|exact eM.nil|exact eI.nil|exact sc hE (wB (by omega) h0)|exact F8 hE (by omega)|exact Hn hE (by omega)|exact Gz hE (by omega)|exact Ez hE (by omega)|exact u_ hE (by decide)|exact sc trivial k0|exact sc hE k1|exact sc trivial k1|exact sc hE k2|exact sc trivial k2|exact sc trivial k3|exact sc hE ks|exact sc hE km|exact sc hE kw|exact sc hE ku|exact sc hE kg|exact Cv.rfl'):p:=h
theorem dN {l:List UInt8}:bJ Tryz.prog S1 30 [0] [.is (Tx l)] (fun _=> .is (.bool (cS l))):=by
 rw [←Co]
 unfold BU
 have hci:∀ {c:UInt8},bJ Tryz.prog S1 81 [0,0] [.is (Tx zj), .is (.int .u8 (c.toNat:Int))] (fun _=> .is (.int .i64 (Lib.indexByte zj c))):=DW
 cases h0:(!(l==[]))
 ·simp only [Bool.false_and]
  refine cr Tryz.func30 Tryz.ntmps30 fun X w hE=> ?_
  repeat' first|kernel_rfl|apply Bt.mk|refine nx ?_|refine bl rfl bs ?_|refine bj rfl ?_|refine bm rfl ?_|apply ae|refine bc rfl ?_|exact bs|intro _
 cases l with
 |nil=>cases h0
 |cons c t=>
 dsimp only
 cases h1:decide (((c::t).length:Int)≤32)
 ·simp only [Bool.true_and,Bool.false_and]
  refine cr Tryz.func30 Tryz.ntmps30 fun X w hE=> ?_
  repeat' first|kernel_rfl|apply Bt.mk|refine nx ?_|refine bl rfl bs ?_|refine bj rfl ?_|refine bm rfl ?_|apply ae|refine bc rfl ?_|exact bs|intro _
 have hx:0≤(0:Int)∧(c::t)[(0:Int).toNat]? =some c:=⟨by omega,rfl⟩
 have hlen:=of_decide_eq_true h1
 cases h2:decide ((0:Int)≤Lib.indexByte zj c)
 ·simp only [Bool.true_and,Bool.false_and]
  refine cr Tryz.func30 Tryz.ntmps30 fun X w hE=> ?_
  repeat' first|kernel_rfl|apply Bt.mk|refine nx ?_|refine bl rfl bs ?_|refine bj rfl ?_|refine bm rfl ?_|apply ae|refine bc rfl ?_|exact bs|intro _
 simp only [Bool.true_and]
 refine cr Tryz.func30 Tryz.ntmps30 fun X w hE=> ?_
 repeat' first|kernel_rfl|apply Bt.mk|refine nx ?_|refine bl rfl bs ?_|refine bj rfl ?_|refine bm rfl ?_|apply ae|refine bc rfl ?_|exact bs|intro _
theorem pD(hx:Dg 4294967296 x.1.2) (hy:Dg 4294967296 x.2.2) (hk:0<k∧k<4294967296) (h:eO k x=true):∃ m,x.2.2=[m]∧0<m∧(k:Int).tmod m=0:=by
 unfold eO at h
 simp only [Bool.and_eq_true,decide_eq_true_eq] at h
 obtain ⟨h1,h2⟩:=h
 obtain ⟨hf,_,_⟩:=ji.of hx hy h1
 have hd:=(qv x).den_pos
 have hle:(qv x).den≤k:=Nat.le_of_dvd hk.1 (Nat.dvd_of_mod_eq_zero h2)
 have hw:=hf.den
 have hl:x.2.2.length≤1:=hw.row.len_le qD (by have:(4294967296:Int)^1=4294967296:=rfl;omega)
 have hv:=hw.row.val
 match hq:x.2.2,hl with
 |[],_=>
  rw [hq] at hv
  have:(0:Int)=(((qv x).den:Int).natAbs:Int):=hv
  omega
 |[m],_=>
  rw [hq] at hv
  have e:m+4294967296*0=(((qv x).den:Int).natAbs:Int):=hv
  have e':m=((qv x).den:Int):=qO
  refine ⟨m,rfl,by omega,?_⟩
  rw [e']
  have:((k:Int)%((qv x).den:Int))=0:=by exact_mod_cast congrArg (Nat.cast:Nat→Int) h2
  rw [Int.tmod_eq_emod_of_nonneg qO]
  exact this
theorem Ax{m:Int} (hx:Dg 4294967296 x.1.2) (hy:Dg 4294967296 x.2.2) (hq:x.2.2=[m]) (hm:0<m) (hr:(k:Int).tmod m=0):eO k x=oJ x:=by
 unfold eO
 cases h1:oJ x with
 |false=>rfl
 |true=>
  obtain ⟨hf,_,_⟩:=ji.of hx hy h1
  have hv:=hf.den.row.val
  rw [hq] at hv
  have e:m+4294967296*0=(((qv x).den:Int).natAbs:Int):=hv
  have e':m=((qv x).den:Int):=qO
  rw [e',Int.tmod_eq_emod_of_nonneg qO] at hr
  have:k%(qv x).den=0:=by exact_mod_cast hr
  simp [this]
theorem Ij(h:(aa.qx x L).holds X w v):(Dg 4294967296 x.1.2∧Dg 4294967296 x.2.2)∧x.1.2.length≤L∧x.2.2.length≤L∧0<L:=by
 obtain ⟨y,⟨rfl,hl⟩,cs,e,c1,c2,e2,h1,h2⟩:=h
 obtain ⟨_,_,_,_,_,d1⟩:=cC.1 h1
 obtain ⟨_,_,_,_,_,d2⟩:=cC.1 h2
 exact ⟨⟨d1,d2⟩,hl⟩
section
variable {w00:World} {N:Nat} {L:List Loc} {E:List (Nat×aa)} {d:Nat} {t0:TypeId} {pos:String} {af:Array Edge} {gd:Option (Nat×Bool)} {ats:Array TypeId}
theorem Fe {o o1:Operand} {x y:Int} {t1:TypeId} [h0:cb E o (.is (.int .u32 x))] [h1:cb E o1 (.is (.int .u32 y))] (hx:y≠0∧IntKind.u32.wrap (x.tmod y)=x.tmod y):ay Tryz.prog w00 N L E ⟨some d, .binOp .rem 117 o o1 t1,t0,pos,af,gd⟩ (.is (.int .u32 (x.tmod y))):=by
 constructor
 intro X ρ w hc _ hN hm hsl
 have e0:ρ o= .int .u32 x:=h0.get (X:=X) (w:=w) hc fun p hp e=>hsl p hp qS
 have e1:ρ o1= .int .u32 y:=h1.get (X:=X) (w:=w) hc fun p hp e=>hsl p hp qS
 obtain ⟨hy,hz⟩:=hx
 clear hc hsl h0 h1
 unfold Yields
 go_simp
 exact ⟨rfl,Below.refl _ _⟩
end
theorem nj(hL:L≤90) (hk:0<k∧k<4294967296) (hu:eO k x=u):bJ Tryz.prog dk 83 [4,0] [.qx x L, .is (.int .u32 (k:Int))] (fun _=> .is (.bool u)):=by
 subst hu
 refine kV (F:=(Dg 4294967296 x.1.2∧Dg 4294967296 x.2.2)∧x.1.2.length≤L∧x.2.2.length≤L∧0<L) (fun ha=> ?_) (fun _ _=>by kernel_rfl) fun ⟨⟨hx,hy⟩,_⟩=> ?_
 ·obtain ⟨v,us,rfl,h,_⟩:=ha.tail
  exact Ij h
 cases h1:((x.2.2.length:Int)==1)
 ·rw [show eO k x=false by
   cases h:eO k x with
   |false=>rfl
   |true=>
    obtain ⟨m,e,_⟩:=pD hx hy hk h
    rw [e] at h1;cases h1]
  refine cr Tryz.func83 Tryz.ntmps83 fun X w hE=> ?_
  repeat' first|kernel_rfl|apply Bt.mk|refine nx ?_|refine bl rfl bs ?_|refine bj rfl ?_|refine bm rfl ?_|apply ae|refine bc rfl ?_|exact bs|intro _
 obtain ⟨m,hm⟩:∃ m,x.2.2=[m]:=List.length_eq_one_iff.1 (by have:=eq_of_beq h1;omega)
 have hx0:x.2.2[0]? =some m:=by rw [hm];rfl
 have hmr:0≤m∧m<4294967296:=hy m (by rw [hm];exact List.mem_singleton.2 rfl)
 cases h2:decide (0<m)
 ·rw [show eO k x=false by
   cases h:eO k x with
   |false=>rfl
   |true=>
    obtain ⟨m',e,h0,_⟩:=pD hx hy hk h
    rw [hm] at e
    have e:m=m':=List.head_eq_of_cons_eq e
    rw [e,decide_eq_true h0] at h2;cases h2]
  refine cr Tryz.func83 Tryz.ntmps83 fun X w hE=> ?_
  repeat' first|kernel_rfl|apply Bt.mk|refine nx ?_|refine bl rfl bs ?_|refine bj rfl ?_|refine bm rfl ?_|apply ae|refine bc rfl ?_|exact bs|intro _
 have hm0:=of_decide_eq_true h2
 have hrm:m≠0∧IntKind.u32.wrap ((k:Int).tmod m)=(k:Int).tmod m:=⟨by omega,by
  rw [IntKind.wrap_u32]
  have h1:=Int.tmod_lt_of_pos (k:Int) hm0
  have h2:=Int.tmod_nonneg m (a:=(k:Int)) qO
  omega⟩
 cases h3:((k:Int).tmod m==0)
 ·rw [show eO k x=false by
   cases h:eO k x with
   |false=>rfl
   |true=>
    obtain ⟨m',e,h0,h4⟩:=pD hx hy hk h
    rw [hm] at e
    have e:m=m':=List.head_eq_of_cons_eq e
    rw [e,h4] at h3;cases h3]
  refine cr Tryz.func83 Tryz.ntmps83 fun X w hE=> ?_
  repeat' first|kernel_rfl|apply Bt.mk|refine nx ?_|refine bl rfl bs ?_|refine bj rfl ?_|refine bm rfl ?_|apply ae|refine bc rfl ?_|exact bs|intro _
 rw [Ax hx hy hm hm0 (eq_of_beq h3)]
 refine cr Tryz.func83 Tryz.ntmps83 fun X w hE=> ?_
 repeat' first|kernel_rfl|apply Bt.mk|refine nx ?_|refine bl rfl bs ?_|refine bj rfl ?_|refine bm rfl ?_|apply ae|refine bc rfl ?_|exact bs|intro _
theorem jN {n a b:Int}:bJ Tryz.prog S1 190 [0,0,0] [.is (.int .i64 n), .is (.int .i64 a), .is (.int .i64 b)] (fun _=> .is (.bool (iP n a b))):=by
 unfold iP
 cases h0:decide (a≤n)
 ·simp only [Bool.false_and]
  refine cr Tryz.func190 Tryz.ntmps190 fun X w hE=> ?_
  repeat' first|kernel_rfl|apply Bt.mk|refine nx ?_|refine bl rfl bs ?_|refine bj rfl ?_|refine bm rfl ?_|apply ae|refine bc rfl ?_|exact bs|intro _
 simp only [Bool.true_and]
 refine cr Tryz.func190 Tryz.ntmps190 fun X w hE=> ?_
 repeat' first|kernel_rfl|apply Bt.mk|refine nx ?_|refine bl rfl bs ?_|refine bj rfl ?_|refine bm rfl ?_|apply ae|refine bc rfl ?_|exact bs|intro _
theorem nZ {n a b:Int}:bJ Tryz.prog S1 229 [0,0,0] [.is (.int .u8 n), .is (.int .u8 a), .is (.int .u8 b)] (fun _=> .is (.bool (iP n a b))):=by
 unfold iP
 cases h0:decide (a≤n)
 ·simp only [Bool.false_and]
  refine cr Tryz.func229 Tryz.ntmps229 fun X w hE=> ?_
  repeat' first|kernel_rfl|apply Bt.mk|refine nx ?_|refine bl rfl bs ?_|refine bj rfl ?_|refine bm rfl ?_|apply ae|refine bc rfl ?_|exact bs|intro _
 simp only [Bool.true_and]
 refine cr Tryz.func229 Tryz.ntmps229 fun X w hE=> ?_
 repeat' first|kernel_rfl|apply Bt.mk|refine nx ?_|refine bl rfl bs ?_|refine bj rfl ?_|refine bm rfl ?_|apply ae|refine bc rfl ?_|exact bs|intro _
theorem wI{k:Int} (hL:L≤90) (hk: -9223372036854775808≤k∧k≤9223372036854775807):bJ Tryz.prog dk 88 [4,0] [.qx x L, .is (.int .i64 k)] (fun _=> .is (.bool (nM k x))):=by
 unfold nM
 cases h0:decide (0≤ee (qv x) 0)
 ·simp only [Bool.false_and]
  refine cr Tryz.func88 Tryz.ntmps88 fun X w hE=> ?_
  repeat' first|kernel_rfl|apply Bt.mk|refine nx ?_|apply aw (id:=1) [(8,false)] [] 10|(apply Jq;(focus rfl);(focus kernel_rfl))|apply aG|apply be|infer_instance|refine bl rfl bs ?_|refine bj rfl ?_|refine bm rfl ?_|apply ae|refine bc rfl ?_|exact bs|intro _
 simp only [Bool.true_and]
 refine cr Tryz.func88 Tryz.ntmps88 fun X w hE=> ?_
 repeat' first|kernel_rfl|apply Bt.mk|refine nx ?_|apply aw (id:=1) [(8,true)] [] 10|apply aG|apply be|infer_instance|refine bl rfl bs ?_|refine bj rfl ?_|refine bm rfl ?_|apply ae|refine bc rfl ?_|exact u_ hE hk|exact bs|intro _
theorem wB(hL:L≤90) (hu:eO 100 x=u):bJ Tryz.prog dk 83 [4,0] [.qx x L, .is (.int .u32 100)] (fun _=> .is (.bool u)):=nj (k:=100) hL qD hu
theorem my(hL:L≤90) (hu:eO 1000000 x=u):bJ Tryz.prog dk 83 [4,0] [.qx x L, .is (.int .u32 1000000)] (fun _=> .is (.bool u)):=nj (k:=1000000) hL qD hu
theorem wu(hL:L≤90):bJ Tryz.prog dk 32 [4] [.qx x L] (fun _=> .is (.bool (lm x))):=by
 unfold lm
 cases h0:eO 1000000 x
 ·simp only [Bool.false_and]
  refine cr Tryz.func32 Tryz.ntmps32 fun X w hE=> ?_
  repeat' first|kernel_rfl|apply Bt.mk|refine nx ?_|refine bl rfl (by first|exact sc hE (my hL h0)|exact bs) ?_|refine bj rfl ?_|refine bm rfl ?_|apply ae|refine bc rfl ?_|exact sc hE (my hL h0)|exact bs|intro _
 simp only [Bool.true_and]
 refine cr Tryz.func32 Tryz.ntmps32 fun X w hE=> ?_
 repeat' first|kernel_rfl|apply Bt.mk|refine nx ?_|refine bl rfl (by first|exact sc hE (my hL h0)|exact sc hE (wI hL qD)|exact bs) ?_|refine bj rfl ?_|refine bm rfl ?_|apply ae|refine bc rfl ?_|exact sc hE (my hL h0)|exact sc hE (wI hL qD)|exact bs|intro _
theorem x5:(0:Rat)<lK:=by unfold lK;decide +kernel
theorem ES {p:Rat} (h:ee p 0<0):(decide (ee p lK<0)&&decide (ee (-p) lK<0))=decide (ee (-p) lK<0):=by
 have h':=oF.1 h
 have:=x5
 rw [decide_eq_true (oF.2 (by grind)),Bool.true_and]
theorem Ee {p:Rat} (h:¬ ee p 0<0):(decide (ee p lK<0)&&decide (ee (-p) lK<0))=decide (ee p lK<0):=by
 have h':¬ p<0:=fun g=>h (oF.2 g)
 have:=x5
 rw [decide_eq_true (p:=ee (-p) lK<0) (oF.2 (by grind)),Bool.and_true]
theorem wT(hL:L≤80):bJ Tryz.prog dk 31 [4] [.qx x L] (fun _=> .is (.bool (mt x))):=by
 unfold mt
 rw [Bool.and_assoc]
 cases h0:eO 100 x
 ·simp only [Bool.false_and]
  refine cr Tryz.func31 Tryz.ntmps31 fun X w hE=> ?_
  repeat' first|kernel_rfl|apply Bt.mk|refine nx ?_|apply aG|apply be|apply ae|refine bc rfl ?_|exact bs|intro _
 simp only [Bool.true_and]
 cases h1:decide (ee (qv x) 0<0)
 ·rw [Ee (of_decide_eq_false h1)]
  unfold lK
  refine cr Tryz.func31 Tryz.ntmps31 fun X w hE=> ?_
  repeat' first|kernel_rfl|apply Bt.mk|refine nx ?_|apply aw (id:=6) [] [] 6|apply aG|apply be|apply ae|refine bc rfl ?_|exact bs|intro _
 ·rw [ES (of_decide_eq_true h1)]
  unfold lK
  refine cr Tryz.func31 Tryz.ntmps31 fun X w hE=> ?_
  repeat' first|kernel_rfl|apply Bt.mk|refine nx ?_|apply aw (id:=6) [] [] 6|apply aG|apply be|apply ae|refine bc rfl ?_|exact bs|intro _
theorem xB(hf:cD L x) (h:(aa.ra Rp.frac x).holds X w v):(aa.qx x L).holds X w v:=⟨x,⟨rfl,hf⟩,h⟩
theorem gn(hL:L≤80) (hf:cD L x):bJ Tryz.prog dk 31 [0] [.ra Rp.frac x] (fun _=> .is (.bool (mt x))):=(wT hL).args fun h=>by
 obtain ⟨v,rfl,h⟩:=h.one
 exact ⟨xB hf h.1,trivial⟩
theorem fg(hL:L≤90) (hf:cD L x):bJ Tryz.prog dk 32 [0] [.ra Rp.frac x] (fun _=> .is (.bool (lm x))):=(wu hL).args fun h=>by
 obtain ⟨v,rfl,h⟩:=h.one
 exact ⟨xB hf h.1,trivial⟩
theorem uI{z:Int} (hL:L≤90) (hf:cD L x) (hz:z=(k:Int)) (hk:0<k∧k<4294967296) (hu:eO k x=u):bJ Tryz.prog dk 83 [0,0] [.ra Rp.frac x, .is (.int .u32 z)] (fun _=> .is (.bool u)):=by
 subst hz
 exact (nj hL hk hu).args fun h=>by
  obtain ⟨v,us,rfl,h,h'⟩:=h.tail
  exact ⟨xB hf h,h'⟩
theorem EW{k:Int} (hL:L≤90) (hf:cD L x) (hk: -9223372036854775808≤k∧k≤9223372036854775807):bJ Tryz.prog dk 88 [0,0] [.ra Rp.frac x, .is (.int .i64 k)] (fun _=> .is (.bool (nM k x))):=(wI hL hk).args fun h=>by
 obtain ⟨v,us,rfl,h,h'⟩:=h.tail
 exact ⟨xB hf h,h'⟩
theorem ER(hL:L≤90) (hf:cD L x):bJ Tryz.prog dk 84 [0] [.ra Rp.frac x] (fun _=> .is (.int .i64 (ee (qv x) 0))):=⟨fun _ _=>by kernel_rfl,d9.const.down,fun hG hX h=>by
 obtain ⟨v,rfl,h⟩:=h.one
 exact x6 hG hX ⟨x,⟨rfl,hf⟩,h.1⟩ hL⟩
section
variable {P:Program} {w00:World} {N:Nat} {L:List Loc} {E:List (Nat×aa)} {d:Nat} {t0:TypeId} {pos:String} {af:Array Edge} {gd:Option (Nat×Bool)} {ats:Array TypeId}
theorem lj{α:Type} {r:Rp α} {p:α→Prop} {l:List α} {a:α} {o oi:Operand} {j:Nat} [ho:cb E o (.rw r p l)] [hi:cb E oi (.is (.int .i64 (j:Int)))] [kc:KC r k] [ht:ca P ty k] (ha:l[j]? =some a):ay P w00 N L E ⟨some d, .indexAddr ty o oi,t0,pos,af,gd⟩ (.pe r p a):=by
 have e:=kc.ok
 subst e
 exact dB ha
theorem jy{α:Type} {r:Rp α} {p:α→Prop} {a:α} {s:Nat} [ho:bH E s (.pe r p a)] [kc:KC r k] [ht:eP P ty k true]:ay P w00 N L E ⟨some d, .load ty (.tmp s),t0,pos,af,gd⟩ (.ra r a):=by
 have e:=kc.ok
 subst e
 constructor
 intro X ρ w hc _ hN hm hsl
 obtain ⟨hp,b,o,cs,e,hb,h1,h2⟩:=hsl _ ho.mem qI
 have e':ρ (.tmp s)= .pointer (some ⟨b,o,none⟩):=e
 obtain ⟨dd,hu,hd⟩:=ht.row
 have hi:(P.info? ty).map (·.size)=some cs.length:=by rw [r.len h2];exact ht.size
 have hrun:(execOp ρ ⟨some d, .load ty (.tmp s),t0,pos,af,gd⟩).run P w= .ok (.value (.agg cs.toArray)) w:=by
  unfold execOp
  simp only [e',run_loadAt_mid w b o ty cs dd h1 hu hd hi,Sem.run_bind,Sem.run_pure,Result.andThen_ok]
 unfold Yields
 rw [hrun]
 exact ⟨⟨cs,rfl,h2⟩,Below.refl _ _⟩
end
instance aJ.raK {α:Type} {r:Rp α} {a:α} {k:Nat} [kc:KC r k]:aJ (.ra r a) k true:=by
 have e:=kc.ok
 subst e
 infer_instance
instance (priority:=low) ai.raw {α:Type} {r:Rp α} {a:α} {k:Nat} [kc:KC r k]:ai (.ra r a) 0 k true (.ra r a):=by
 have e:=kc.ok
 subst e
 exact .whole inferInstance
theorem Cd{α:Type} {r:Rp α} {p:α→Prop} {l:List α} (h:(aa.rw r p l).holds X w v):l.length≤9223372036854775807:=by
 obtain ⟨_,A,n,c,_,h⟩:=h
 have hm:=h.lenMax
 rw [h.1];exact hm
def Rp.fnc:Rp FuncId:=⟨1,fun _ _ f cs=>cs=[.func (.func f) #[] #[]],fun h=>by rw [h];rfl,fun h v hv=>by rw [h,List.mem_singleton] at hv;rw [hv];rfl,fun h _=>h,fun h _=>h⟩
instance {f:FuncId}:gS Rp.fnc f (.fv f [] []):=⟨fun h=>by
 injection (show [_]=[_] from h) with e _
 exact ⟨[],[],e,trivial,trivial⟩⟩
instance:KC Rp.fnc 1:=⟨rfl⟩
abbrev iO:Rp (Int×FuncId):=(Rp.int .u8).pair Rp.fnc
instance:KC iO 2:=⟨rfl⟩
instance {a:Int×FuncId}:ai (.ra iO a) 0 1 false (.is (.int .u8 a.1)):=ai.cell (r':=Rp.int .u8) (g:=fun (a:Int×FuncId)=>a.1) a8.fst ⟨rfl⟩ inferInstance
instance {a:Int×FuncId}:ai (.ra iO a) 1 1 false (.fv a.2 [] []):=ai.cell (r':=Rp.fnc) (g:=fun (a:Int×FuncId)=>a.2) (a8.tail (n:=1) ⟨rfl⟩ a8.self rfl) ⟨rfl⟩ inferInstance
def aa.sz (k:Nat):aa:=⟨fun _ _ v=>v.cells.size=k∧v.cells.all (·.oneCell')=true∧v= .agg v.cells,fun h _ _=>h⟩
instance {k:Nat}:aJ (.sz k) k true:=⟨fun h=>⟨h.1,h.2.1,fun _=>h.2.2,fun h=>by cases h⟩⟩
def Js:Value→Bool
 | .agg _=>true
 |_=>false
theorem x8{P:Program} (h:((P.info? ty).bind (·.zero)).map (fun z=>(z.cells.size,z.cells.all (·.oneCell'),Js z))=some (k,true,true)):cH P ty (.sz k):=by
 cases hi:P.info? ty with
 |none=>rw [hi] at h;cases h
 |some i=>
 cases hz:i.zero with
 |none=>simp [hi,hz] at h
 |some z=>
 simp [hi,hz] at h
 refine ⟨z,fun X w=>⟨h.1,by simpa using h.2.1,by
  have:=h.2.2
  cases z<;>first|rfl|cases this⟩,fun o ρ w e=> ?_⟩
 have hze:(zeroValue ty).run P w= .ok z w:=by simp [zeroValue,typeInfo,hi,hz]
 cases o with
 |mk dst op t pos af gd=>
  have e':op=_:=e
  subst e'
  unfold execOp
  simp [Instr.alloc,newVar,newRow,Sem.run_bind,hze,Result.andThen_ok]
instance:eP Tryz.prog 220 2 true:=⟨⟨_,Tryz.underlying220,rfl⟩,by kernel_rfl⟩
instance:cH Tryz.prog 220 (.sz 2):=x8 qK
instance:ca Tryz.prog 140 2:=⟨⟨_,Tryz.underlying140,by kernel_rfl⟩⟩
instance:eP Tryz.prog 218 1 false:=⟨⟨_,Tryz.underlying218,rfl⟩,by kernel_rfl⟩
instance:au Tryz.prog 220 0 0 1 false:=⟨⟨_,_,Tryz.underlying220,rfl,rfl,by kernel_rfl,by decide,_,Tryz.underlying5,rfl⟩⟩
instance:au Tryz.prog 220 1 1 1 false:=⟨⟨_,_,Tryz.underlying220,rfl,rfl,by kernel_rfl,by decide,_,Tryz.underlying218,rfl⟩⟩
theorem lG:∃ z,Tryz.prog.underlying 140=some (.slice 220)∧∃ i,Tryz.prog.info? 220=some i∧i.zero=some z∧i.size=2∧z.cells.size=2:=by
 have h:((Tryz.prog.info? 220).bind (·.zero)).map (fun z=>z.cells.size)=some 2:=by kernel_rfl
 have h2:(Tryz.prog.info? 220).map (·.size)=some 2:=by kernel_rfl
 cases hi:Tryz.prog.info? 220 with
 |none=>rw [hi] at h;cases h
 |some i=>
 cases hz:i.zero with
 |none=>simp [hi,hz] at h
 |some z=>
 simp [hi,hz] at h
 simp [hi] at h2
 exact ⟨z,Tryz.underlying140,i,rfl,hz,h2,h⟩
theorem wV:oQ Tryz.prog 140 220 iO.k:=⟨(lG).choose_spec.1,let ⟨i,h⟩:=(lG).choose_spec.2;⟨i,_,h⟩⟩
section
variable {w00:World} {N:Nat} {L:List Loc} {E:List (Nat×aa)} {d:Nat} {t0:TypeId} {pos:String} {af:Array Edge} {gd:Option (Nat×Bool)}
theorem td {k:Int} {f:FuncId}:ay Tryz.prog w00 N L E ⟨some d, .build 220 #[(0, .const (.int .u8 k)),(1, .func f)],t0,pos,af,gd⟩ (.ra iO (k,f)):=by
 constructor
 intro X ρ w hc hf hN hm hsl
 have e0:=hc (.int .u8 k)
 have e1:=hf f
 clear hc hf hsl hm
 unfold Yields
 go_simp
 exact ⟨⟨[.int .u8 k, .func (.func f) #[] #[]],rfl,[.int .u8 k],[.func (.func f) #[] #[]],rfl,rfl,rfl⟩,Below.refl _ _⟩
end
instance:eP Tryz.prog 225 2 true:=⟨⟨_,Tryz.underlying225,rfl⟩,by kernel_rfl⟩
instance:cH Tryz.prog 225 (.sz 2):=x8 qK
instance:ca Tryz.prog 143 2:=⟨⟨_,Tryz.underlying143,by kernel_rfl⟩⟩
instance:eP Tryz.prog 223 1 false:=⟨⟨_,Tryz.underlying223,rfl⟩,by kernel_rfl⟩
instance:au Tryz.prog 225 0 0 1 false:=⟨⟨_,_,Tryz.underlying225,rfl,rfl,by kernel_rfl,by decide,_,Tryz.underlying5,rfl⟩⟩
instance:au Tryz.prog 225 1 1 1 false:=⟨⟨_,_,Tryz.underlying225,rfl,rfl,by kernel_rfl,by decide,_,Tryz.underlying223,rfl⟩⟩
theorem nV:∃ z,Tryz.prog.underlying 143=some (.slice 225)∧∃ i,Tryz.prog.info? 225=some i∧i.zero=some z∧i.size=2∧z.cells.size=2:=by
 have h:((Tryz.prog.info? 225).bind (·.zero)).map (fun z=>z.cells.size)=some 2:=by kernel_rfl
 have h2:(Tryz.prog.info? 225).map (·.size)=some 2:=by kernel_rfl
 cases hi:Tryz.prog.info? 225 with
 |none=>rw [hi] at h;cases h
 |some i=>
 cases hz:i.zero with
 |none=>simp [hi,hz] at h
 |some z=>
 simp [hi,hz] at h
 simp [hi] at h2
 exact ⟨z,Tryz.underlying143,i,rfl,hz,h2,h⟩
theorem AX:oQ Tryz.prog 143 225 iO.k:=⟨(nV).choose_spec.1,let ⟨i,h⟩:=(nV).choose_spec.2;⟨i,_,h⟩⟩
section
variable {w00:World} {N:Nat} {L:List Loc} {E:List (Nat×aa)} {d:Nat} {t0:TypeId} {pos:String} {af:Array Edge} {gd:Option (Nat×Bool)}
theorem wt {k:Int} {f:FuncId}:ay Tryz.prog w00 N L E ⟨some d, .build 225 #[(0, .const (.int .u8 k)),(1, .func f)],t0,pos,af,gd⟩ (.ra iO (k,f)):=by
 constructor
 intro X ρ w hc hf hN hm hsl
 have e0:=hc (.int .u8 k)
 have e1:=hf f
 clear hc hf hsl hm
 unfold Yields
 go_simp
 exact ⟨⟨[.int .u8 k, .func (.func f) #[] #[]],rfl,[.int .u8 k],[.func (.func f) #[] #[]],rfl,rfl,rfl⟩,Below.refl _ _⟩
end
abbrev m9:cP:=(((false,[]),(false,[])),((false,[]),(false,[])))
instance:cH Tryz.prog 79 (.ra aA m9):=dj.al
abbrev te:dJ:=([],0,((false,[]),(false,[])))
instance:cH Tryz.prog 84 (.ra aO te):=eH.al
abbrev iG:fk:=([],[],((false,[]),(false,[])))
instance:cH Tryz.prog 119 (.ra aZ iG):=fa.al
abbrev iH:fl:=([],[],((false,[]),(false,[])))
instance:cH Tryz.prog 121 (.ra aY iH):=fd.al
abbrev iR:dM:=(false,[],0,[],[],[],((false,[]),(false,[])))
instance:cH Tryz.prog 123 (.ra aI iR):=f7.al
abbrev rV:dT:=([],((false,[]),(false,[])),((false,[]),(false,[])))
instance:cH Tryz.prog 125 (.ra aR rV):=eG.al
abbrev vE:fC:=([],((false,[]),(false,[])))
instance:cH Tryz.prog 127 (.ra bg vE):=fX.al
abbrev r_:a_:=(0,[],[],[],[],[])
instance:cH Tryz.prog 65 (.ra aq r_):=em.al
abbrev Ci:am:=([],[],[],((false,[]),(false,[])),((false,[]),(false,[])),0,0,((false,[]),(false,[])),((false,[]),(false,[])),0,[],[],[])
instance:cH Tryz.prog 32 (.ra ab Ci):=kB.al
abbrev oN:mo:=(0,0,0)
instance:cH Tryz.prog 71 (.ra cV oN):=lz.al
theorem wW {a:cP} (hf:cD 6 a.1∧cD 6 a.2):bJ Tryz.prog dk 189 [0] [.ra aA a] (fun _=> .is (.bool (g9 a))):=by
 unfold g9
 have k0:=gn (x:=a.1) (L:=6) qD hf.1
 cases h0:mt a.1
 ·rw [h0] at k0
  simp only [Bool.false_and]
  refine cr Tryz.func189 Tryz.ntmps189 fun X w hE=> ?_
  repeat' first|kernel_rfl|apply Bt.mk|refine nx ?_|refine bl rfl (by first|exact sc hE k0|exact bs) ?_|refine bj rfl ?_|refine bm rfl ?_|apply ae|refine bc rfl ?_|exact sc hE k0|exact bs|intro _
 rw [h0] at k0
 simp only [Bool.true_and]
 have k1:=fg (x:=a.2) (L:=6) qD hf.2
 refine cr Tryz.func189 Tryz.ntmps189 fun X w hE=> ?_
 repeat' first|kernel_rfl|apply Bt.mk|refine nx ?_|refine bl rfl (by first|exact sc hE k0|exact bs) ?_|refine bj rfl ?_|refine bm rfl ?_|apply ae|refine bc rfl ?_|exact sc hE k0|exact bs|intro _
theorem C6 {a:a_}:bJ Tryz.prog dk 195 [0] [.ra aq a] (fun _=> .is (.bool (pJ a))):=by
 unfold pJ
 have k0:=jN (n:=a.1) (a:=1) (b:=9999)
 refine cr Tryz.func195 Tryz.ntmps195 fun X w hE=> ?_
 repeat' first|kernel_rfl|apply Bt.mk|refine nx ?_|apply ae|refine bc rfl ?_|exact bs|intro _
theorem DH {a:fk} (hf:cD 6 a.2.2):bJ Tryz.prog dk 197 [0] [.ra aZ a] (fun _=> .is (.bool (j7 a))):=by
 unfold j7
 simp only [Bool.and_assoc]
 have k0:=dN (l:=a.1)
 cases h0:cS a.1
 ·rw [h0] at k0
  simp only [Bool.false_and]
  refine cr Tryz.func197 Tryz.ntmps197 fun X w hE=> ?_
  repeat' first|kernel_rfl|apply Bt.mk|refine nx ?_|refine bl rfl bs ?_|refine bj rfl ?_|refine bm rfl ?_|apply ae|refine bc rfl ?_|exact bs|intro _
 rw [h0] at k0
 simp only [Bool.true_and]
 have k1:=dN (l:=a.2.1)
 cases h1:cS a.2.1
 ·rw [h1] at k1
  simp only [Bool.false_and]
  refine cr Tryz.func197 Tryz.ntmps197 fun X w hE=> ?_
  repeat' first|kernel_rfl|apply Bt.mk|refine nx ?_|refine bl rfl bs ?_|refine bj rfl ?_|refine bm rfl ?_|apply ae|refine bc rfl ?_|exact bs|intro _
 rw [h1] at k1
 simp only [Bool.true_and]
 have k2:=fg (x:=a.2.2) (L:=6) qD hf
 refine cr Tryz.func197 Tryz.ntmps197 fun X w hE=> ?_
 repeat' first|kernel_rfl|apply Bt.mk|refine nx ?_|refine bl rfl bs ?_|refine bj rfl ?_|refine bm rfl ?_|apply ae|refine bc rfl ?_|exact bs|intro _
theorem Dh {a:fl} (hf:cD 6 a.2.2):bJ Tryz.prog dk 199 [0] [.ra aY a] (fun _=> .is (.bool (jZ a))):=by
 unfold jZ
 simp only [Bool.and_assoc]
 have k0:=dN (l:=a.1)
 cases h0:cS a.1
 ·rw [h0] at k0
  simp only [Bool.false_and]
  refine cr Tryz.func199 Tryz.ntmps199 fun X w hE=> ?_
  repeat' first|kernel_rfl|apply Bt.mk|refine nx ?_|refine bl rfl bs ?_|refine bj rfl ?_|refine bm rfl ?_|apply ae|refine bc rfl ?_|exact bs|intro _
 rw [h0] at k0
 simp only [Bool.true_and]
 have k1:=dN (l:=a.2.1)
 cases h1:cS a.2.1
 ·rw [h1] at k1
  simp only [Bool.false_and]
  refine cr Tryz.func199 Tryz.ntmps199 fun X w hE=> ?_
  repeat' first|kernel_rfl|apply Bt.mk|refine nx ?_|refine bl rfl bs ?_|refine bj rfl ?_|refine bm rfl ?_|apply ae|refine bc rfl ?_|exact bs|intro _
 rw [h1] at k1
 simp only [Bool.true_and]
 have k2:=gn (x:=a.2.2) (L:=6) qD hf
 refine cr Tryz.func199 Tryz.ntmps199 fun X w hE=> ?_
 repeat' first|kernel_rfl|apply Bt.mk|refine nx ?_|refine bl rfl bs ?_|refine bj rfl ?_|refine bm rfl ?_|apply ae|refine bc rfl ?_|exact bs|intro _
theorem C5 {a:dM} (hf:cD 6 a.2.2.2.2.2.2):bJ Tryz.prog dk 201 [0] [.ra aI a] (fun _=> .is (.bool (j3 a))):=by
 unfold j3
 simp only [Bool.and_assoc]
 have k0:=dN (l:=a.2.1)
 cases h0:cS a.2.1
 ·rw [h0] at k0
  simp only [Bool.false_and]
  refine cr Tryz.func201 Tryz.ntmps201 fun X w hE=> ?_
  repeat' first|kernel_rfl|apply Bt.mk|refine nx ?_|refine bl rfl bs ?_|refine bj rfl ?_|refine bm rfl ?_|apply ae|refine bc rfl ?_|exact bs|intro _
 rw [h0] at k0
 simp only [Bool.true_and]
 have k1:=nZ (n:=a.2.2.1) (a:=1) (b:=4)
 cases h1:iP a.2.2.1 1 4
 ·rw [h1] at k1
  simp only [Bool.false_and]
  refine cr Tryz.func201 Tryz.ntmps201 fun X w hE=> ?_
  repeat' first|kernel_rfl|apply Bt.mk|refine nx ?_|refine bl rfl bs ?_|refine bj rfl ?_|refine bm rfl ?_|apply ae|refine bc rfl ?_|exact bs|intro _
 rw [h1] at k1
 simp only [Bool.true_and]
 have k2:=dN (l:=a.2.2.2.1)
 cases h2:cS a.2.2.2.1
 ·rw [h2] at k2
  simp only [Bool.false_and]
  refine cr Tryz.func201 Tryz.ntmps201 fun X w hE=> ?_
  repeat' first|kernel_rfl|apply Bt.mk|refine nx ?_|refine bl rfl bs ?_|refine bj rfl ?_|refine bm rfl ?_|apply ae|refine bc rfl ?_|exact bs|intro _
 rw [h2] at k2
 simp only [Bool.true_and]
 have k3:=dN (l:=a.2.2.2.2.1)
 cases h3:cS a.2.2.2.2.1
 ·rw [h3] at k3
  simp only [Bool.false_and]
  refine cr Tryz.func201 Tryz.ntmps201 fun X w hE=> ?_
  repeat' first|kernel_rfl|apply Bt.mk|refine nx ?_|refine bl rfl bs ?_|refine bj rfl ?_|refine bm rfl ?_|apply ae|refine bc rfl ?_|exact bs|intro _
 rw [h3] at k3
 simp only [Bool.true_and]
 have k4:=dN (l:=a.2.2.2.2.2.1)
 cases h4:cS a.2.2.2.2.2.1
 ·rw [h4] at k4
  simp only [Bool.false_and]
  refine cr Tryz.func201 Tryz.ntmps201 fun X w hE=> ?_
  repeat' first|kernel_rfl|apply Bt.mk|refine nx ?_|refine bl rfl (by first|exact sc trivial k4|exact bs) ?_|refine bj rfl ?_|refine bm rfl ?_|apply ae|refine bc rfl ?_|exact sc trivial k4|exact bs|intro _
 rw [h4] at k4
 simp only [Bool.true_and]
 have k5:=gn (x:=a.2.2.2.2.2.2) (L:=6) qD hf
 refine cr Tryz.func201 Tryz.ntmps201 fun X w hE=> ?_
 repeat' first|kernel_rfl|apply Bt.mk|refine nx ?_|refine bl rfl (by first|exact sc trivial k4|exact sc hE k5|exact bs) ?_|refine bj rfl ?_|refine bm rfl ?_|apply ae|refine bc rfl ?_|exact sc trivial k4|exact sc hE k5|exact bs|intro _
theorem z6 {a:dT} (hf:cD 6 a.2.1∧cD 6 a.2.2):bJ Tryz.prog dk 203 [0] [.ra aR a] (fun _=> .is (.bool (g_ a))):=by
 unfold g_
 simp only [Bool.and_assoc]
 have k0:=dN (l:=a.1)
 cases h0:cS a.1
 ·rw [h0] at k0
  simp only [Bool.false_and]
  refine cr Tryz.func203 Tryz.ntmps203 fun X w hE=> ?_
  repeat' first|kernel_rfl|apply Bt.mk|refine nx ?_|refine bl rfl bs ?_|refine bj rfl ?_|refine bm rfl ?_|apply ae|refine bc rfl ?_|exact bs|intro _
 rw [h0] at k0
 simp only [Bool.true_and]
 have k1:=gn (x:=a.2.1) (L:=6) qD hf.1
 cases h1:mt a.2.1
 ·rw [h1] at k1
  simp only [Bool.false_and]
  refine cr Tryz.func203 Tryz.ntmps203 fun X w hE=> ?_
  repeat' first|kernel_rfl|apply Bt.mk|refine nx ?_|refine bl rfl bs ?_|refine bj rfl ?_|refine bm rfl ?_|apply ae|refine bc rfl ?_|exact bs|intro _
 rw [h1] at k1
 simp only [Bool.true_and]
 have k2:=fg (x:=a.2.2) (L:=6) qD hf.2
 refine cr Tryz.func203 Tryz.ntmps203 fun X w hE=> ?_
 repeat' first|kernel_rfl|apply Bt.mk|refine nx ?_|refine bl rfl bs ?_|refine bj rfl ?_|refine bm rfl ?_|apply ae|refine bc rfl ?_|exact bs|intro _
theorem EG {a:fC} (hf:cD 6 a.2):bJ Tryz.prog dk 205 [0] [.ra bg a] (fun _=> .is (.bool (j0 a))):=by
 unfold j0
 have k0:=dN (l:=a.1)
 cases h0:cS a.1
 ·rw [h0] at k0
  simp only [Bool.false_and]
  refine cr Tryz.func205 Tryz.ntmps205 fun X w hE=> ?_
  repeat' first|kernel_rfl|apply Bt.mk|refine nx ?_|refine bl rfl bs ?_|refine bj rfl ?_|refine bm rfl ?_|apply ae|refine bc rfl ?_|exact bs|intro _
 rw [h0] at k0
 simp only [Bool.true_and]
 have k1:=fg (x:=a.2) (L:=6) qD hf
 refine cr Tryz.func205 Tryz.ntmps205 fun X w hE=> ?_
 repeat' first|kernel_rfl|apply Bt.mk|refine nx ?_|refine bl rfl bs ?_|refine bj rfl ?_|refine bm rfl ?_|apply ae|refine bc rfl ?_|exact bs|intro _
theorem vp {a:dJ} (hf:cD 6 a.2.2):bJ Tryz.prog dk 230 [0] [.ra aO a] (fun _=> .is (.bool (uR a.2.1 a.2.2))):=by
 unfold uR
 have ks:=fg (x:=a.2.2) (L:=6) qD hf
 have km:=gn (x:=a.2.2) (L:=6) qD hf
 have ku:=EW (x:=a.2.2) (L:=6) (k:=40) qD hf qD
 have kg:=ER (x:=a.2.2) (L:=6) qD hf
 cases h4:(a.2.1==4)
 rotate_left
 ·simp only [cond_true]
  refine cr Tryz.func230 Tryz.ntmps230 fun X w hE=> ?_
  repeat' first|kernel_rfl|apply Bt.mk|refine nx ?_|refine bl rfl bs ?_|refine bj rfl ?_|refine bm rfl ?_|apply ae|refine bc rfl ?_|exact bs|intro _
 simp only [cond_false]
 cases h5:(a.2.1==5)
 rotate_left
 ·simp only [cond_true]
  refine cr Tryz.func230 Tryz.ntmps230 fun X w hE=> ?_
  repeat' first|kernel_rfl|apply Bt.mk|refine nx ?_|refine bl rfl bs ?_|refine bj rfl ?_|refine bm rfl ?_|apply ae|refine bc rfl ?_|exact bs|intro _
 simp only [cond_false]
 cases h6:(a.2.1==6)
 ·simp only [cond_false]
  refine cr Tryz.func230 Tryz.ntmps230 fun X w hE=> ?_
  repeat' first|kernel_rfl|apply Bt.mk|refine nx ?_|refine bl rfl bs ?_|refine bj rfl ?_|refine bm rfl ?_|apply ae|refine bc rfl ?_|exact bs|intro _
 simp only [cond_true]
 cases hw:eO 1 a.2.2
 ·have kw:=uI (x:=a.2.2) (L:=6) (k:=1) (z:=1) qD hf rfl qD hw
  simp only [Bool.false_and]
  refine cr Tryz.func230 Tryz.ntmps230 fun X w hE=> ?_
  repeat' first|kernel_rfl|apply Bt.mk|refine nx ?_|refine bl rfl bs ?_|refine bj rfl ?_|refine bm rfl ?_|apply ae|refine bc rfl ?_|exact bs|intro _
 have kw:=uI (x:=a.2.2) (L:=6) (k:=1) (z:=1) qD hf rfl qD hw
 simp only [Bool.true_and]
 refine cr Tryz.func230 Tryz.ntmps230 fun X w hE=> ?_
 repeat' first|kernel_rfl|apply Bt.mk|refine nx ?_|refine bl rfl bs ?_|refine bj rfl ?_|refine bm rfl ?_|apply ae|refine bc rfl ?_|exact bs|intro _
theorem Cf {a:dJ} (hf:cD 6 a.2.2):bJ Tryz.prog dk 193 [0] [.ra aO a] (fun _=> .is (.bool (ib a))):=by
 unfold ib
 simp only [Bool.and_assoc]
 have k0:=dN (l:=a.1)
 cases h0:cS a.1
 ·rw [h0] at k0
  simp only [Bool.false_and]
  refine cr Tryz.func193 Tryz.ntmps193 fun X w hE=> ?_
  repeat' first|kernel_rfl|apply Bt.mk|refine nx ?_|refine bl rfl bs ?_|refine bj rfl ?_|refine bm rfl ?_|apply ae|refine bc rfl ?_|exact bs|intro _
 rw [h0] at k0
 simp only [Bool.true_and]
 have k1:=nZ (n:=a.2.1) (a:=1) (b:=11)
 cases h1:iP a.2.1 1 11
 ·rw [h1] at k1
  simp only [Bool.false_and]
  refine cr Tryz.func193 Tryz.ntmps193 fun X w hE=> ?_
  repeat' first|kernel_rfl|apply Bt.mk|refine nx ?_|refine bl rfl bs ?_|refine bj rfl ?_|refine bm rfl ?_|apply ae|refine bc rfl ?_|exact bs|intro _
 rw [h1] at k1
 simp only [Bool.true_and]
 have k2:=vp hf
 refine cr Tryz.func193 Tryz.ntmps193 fun X w hE=> ?_
 repeat' first|kernel_rfl|apply Bt.mk|refine nx ?_|refine bl rfl bs ?_|refine bj rfl ?_|refine bm rfl ?_|apply ae|refine bc rfl ?_|exact bs|intro _
end Go.Proofs.YtjjkikchncfekaaGreatDoor
