/- Decimals as lists of bytes: their parts; what they say; a number that is written with so many places. No program stands in it. -/
import Derived.Test.YtfepenpngklogaaGreatDoorGA
import Derived.Lib.TrimByte
import Derived.Lib.Strings
import Derived.Test.YtfepenpngklogaaGreatDoorGL
import Derived.Test.YtfepenpngklogaaGreatDoorGC
import Derived.Test.YtfepenpngklogaaGreatDoorShelf
set_option maxHeartbeats 4000000
set_option maxRecDepth 20000
set_option linter.unusedSimpArgs false
set_option linter.unusedVariables false
namespace Go.Proofs.YtfepenpngklogaaGreatDoor
open Go Go.RowKit
variable {ty t1:TypeId} {o1 o0 o:Operand} {x z y:Int} {r n:Nat} {k:IntKind} {T T0 T':VTy} {w0:World} {X0:List Nat} {u:Bool} {v:Value}
def isD (c:UInt8):Bool:=decide (48≤(c.toNat:Int))&&decide ((c.toNat:Int)≤57)
theorem isD_iff {c:UInt8}:isD c=true↔isDig c:=by unfold isD isDig;rw [Bool.and_eq_true,decide_eq_true_eq,decide_eq_true_eq]
def ng (l:List UInt8):Bool:=l.head? ==some 45
def bd (l:List UInt8):List UInt8:=bif ng l then l.tail else l
def wh (l:List UInt8):List UInt8:=(bd l).takeWhile isD
def r1 (l:List UInt8):List UInt8:=(bd l).dropWhile isD
def sp (l:List UInt8):Bool:=(r1 l).head? ==some 46
def r2 (l:List UInt8):List UInt8:=bif sp l then (r1 l).tail else r1 l
def pc (l:List UInt8):List UInt8:=bif sp l then (r2 l).takeWhile isD else []
def r3 (l:List UInt8):List UInt8:=bif sp l then (r2 l).dropWhile isD else r2 l
def al0 (l:List UInt8):Bool:=l.all (· ==48)
def fok (l:List UInt8):Bool:= !(wh l==[])&& !((wh l).head? ==some 48&&decide (1<(wh l).length))&& !(sp l&&pc l==[])
def dok (l:List UInt8):Bool:=fok l&& !(ng l&&(al0 (wh l)&&al0 (pc l)))
def dn (l:List UInt8):Int:=sgv (ng l) (dval (wh l++pc l))
theorem head_tail {l:List UInt8} {c:UInt8} (h:(l.head? ==some c)=true):l=c::l.tail:=by
 cases l with
 |nil=>cases h
 |cons x l=>have:x=c:=by simpa using h
            rw [this];rfl
def sgL (b:Bool) (c:UInt8):List UInt8:=bif b then [c] else []
theorem parts (l:List UInt8):l=sgL (ng l) 45++(wh l++(sgL (sp l) 46++(pc l++r3 l))):=by
 have e1:l=sgL (ng l) 45++bd l:=by
  unfold bd sgL
  cases h:ng l with
  |true=>exact head_tail h
  |false=>rfl
 have e2:bd l=wh l++r1 l:=(List.takeWhile_append_dropWhile).symm
 have e3:r1 l=sgL (sp l) 46++r2 l:=by
  unfold r2 sgL
  cases h:sp l with
  |true=>exact head_tail h
  |false=>rfl
 have e4:r2 l=pc l++r3 l:=by
  unfold pc r3
  cases sp l with
  |true=>exact (List.takeWhile_append_dropWhile).symm
  |false=>rfl
 conv=>lhs;rw [e1,e2,e3,e4]
theorem takeWhile_all {p:UInt8→Bool}:∀ {l:List UInt8},∀ c∈l.takeWhile p,p c=true
 |[],_,h=>by cases h
 |x::l,c,h=>by
  rw [List.takeWhile_cons] at h
  cases hx:p x with
  |true=>
   rw [hx] at h
   rcases List.mem_cons.1 h with rfl|h
   ·exact hx
   ·exact takeWhile_all c h
  |false=>rw [hx] at h;cases h
theorem wh_dig (l:List UInt8):∀ c∈wh l,isDig c:=fun c h=>isD_iff.1 (takeWhile_all c h)
theorem pc_dig (l:List UInt8):∀ c∈pc l,isDig c:=by
 unfold pc
 cases sp l with
 |true=>exact fun c h=>isD_iff.1 (takeWhile_all c h)
 |false=>exact fun c h=>by cases h
theorem wp_dig (l:List UInt8):∀ c∈wh l++pc l,isDig c:=fun c h=>(List.mem_append.1 h).elim (wh_dig l c) (pc_dig l c)
theorem pc_sp {l:List UInt8} (h:sp l=false):pc l=[]:=by unfold pc;rw [h];rfl
theorem len_parts (l:List UInt8):(wh l).length+(pc l).length+(r3 l).length≤l.length:=by
 have h:=congrArg List.length (parts l)
 simp only [List.length_append] at h
 omega
theorem span_split {p:UInt8→Bool} {a b:List UInt8} (ha:∀ c∈a,p c=true) (hb:∀ c r,b=c::r→p c=false):(a++b).takeWhile p=a∧(a++b).dropWhile p=b:=by
 induction a with
 |nil=>
  cases b with
  |nil=>exact ⟨rfl,rfl⟩
  |cons c r=>rw [List.nil_append,List.takeWhile_cons,List.dropWhile_cons,hb c r rfl];exact ⟨rfl,rfl⟩
 |cons x a ih=>
  obtain ⟨i1,i2⟩:=ih (fun c h=>ha c (List.mem_cons_of_mem _ h))
  rw [List.cons_append,List.takeWhile_cons,List.dropWhile_cons,ha x List.mem_cons_self]
  exact ⟨by rw [if_pos rfl,i1],by rw [if_pos rfl,i2]⟩
theorem parts_of {n s:Bool} {a b c:List UInt8} (ha:∀ x∈a,isDig x) (hb:∀ x∈b,isDig x) (hne:a≠[]) (hs:s=false→b=[]) (hc:∀ x r,c=x::r→isD x=false∧(s=false→x≠46)) {l:List UInt8} (e:l=sgL n 45++(a++(sgL s 46++(b++c)))):
 ng l=n∧wh l=a∧sp l=s∧pc l=b∧r3 l=c:=by
 have ha':∀ x∈a,isD x=true:=fun x h=>isD_iff.2 (ha x h)
 have hb':∀ x∈b,isD x=true:=fun x h=>isD_iff.2 (hb x h)
 obtain ⟨y,ys,rfl⟩:∃ y ys,a=y::ys:=by cases a with|nil=>exact absurd rfl hne|cons y ys=>exact ⟨y,ys,rfl⟩
 have hy:=ha y List.mem_cons_self
 have en:ng l=n:=by
  rw [e]
  cases n with
  |true=>rfl
  |false=>
   show (some y==some 45)=false
   rw [beq_eq_false_iff_ne]
   intro h
   injection h with h
   rw [h] at hy
   revert hy;unfold isDig;decide
 have eb:bd l=(y::ys)++(sgL s 46++(b++c)):=by
  unfold bd
  rw [en,e]
  cases n<;>rfl
 have hstop:∀ x r,sgL s 46++(b++c)=x::r→isD x=false:=by
  intro x r h
  cases s with
  |true=>injection h with h _;rw [←h];decide
  |false=>rw [hs rfl] at h;exact (hc x r h).1
 obtain ⟨t1,t2⟩:=span_split ha' hstop
 have ew:wh l=y::ys:=by unfold wh;rw [eb];exact t1
 have er:r1 l=sgL s 46++(b++c):=by unfold r1;rw [eb];exact t2
 have es:sp l=s:=by
  unfold sp
  rw [er]
  cases s with
  |true=>rfl
  |false=>
   rw [hs rfl]
   show (c.head? ==some 46)=false
   cases c with
   |nil=>rfl
   |cons x r=>
    have:=(hc x r rfl).2 rfl
    show (some x==some 46)=false
    rw [beq_eq_false_iff_ne]
    intro h
    injection h with h
    exact this h
 have e2:r2 l=b++c:=by
  unfold r2
  rw [es,er]
  cases s<;>rfl
 have hc':∀ x r,c=x::r→isD x=false:=fun x r h=>(hc x r h).1
 obtain ⟨u1,u2⟩:=span_split hb' hc'
 refine ⟨en,ew,es,?_,?_⟩
 ·unfold pc
  rw [es,e2]
  cases s with
  |true=>exact u1
  |false=>exact (hs rfl).symm
 ·unfold r3
  rw [es,e2]
  cases s with
  |true=>exact u2
  |false=>rw [hs rfl];rfl
theorem parts_pct {m:List UInt8} (h:wh m≠[]) (hr:r3 m=[]):ng (m++[37])=ng m∧wh (m++[37])=wh m∧sp (m++[37])=sp m∧pc (m++[37])=pc m∧r3 (m++[37])=[37]:=by
 refine parts_of (wh_dig m) (pc_dig m) h pc_sp (fun x r e=> ?_) ?_
 ·injection e with e _;rw [←e];exact ⟨by decide,fun _=>by decide⟩
 ·conv=>lhs;rw [parts m,hr]
  simp [List.append_assoc]
theorem wh_ne {l:List UInt8} (h:fok l=true):wh l≠[]:=by
 intro e
 unfold fok at h
 rw [e] at h
 cases h
theorem fok_of {l m:List UInt8} (e1:wh l=wh m) (e2:sp l=sp m) (e3:pc l=pc m):fok l=fok m:=by unfold fok;rw [e1,e2,e3]
theorem dok_of {l m:List UInt8} (e0:ng l=ng m) (e1:wh l=wh m) (e2:sp l=sp m) (e3:pc l=pc m):dok l=dok m:=by unfold dok;rw [fok_of e1 e2 e3,e0,e1,e3]
theorem pct_end {l:List UInt8} (h:wh l≠[]) (hr:r3 l=[37]):∃ m,l=m++[37]∧ng m=ng l∧wh m=wh l∧sp m=sp l∧pc m=pc l∧r3 m=[]:=by
 refine ⟨sgL (ng l) 45++(wh l++(sgL (sp l) 46++(pc l++[]))),?_,?_⟩
 ·conv=>lhs;rw [parts l,hr]
  simp [List.append_assoc]
 ·exact parts_of (wh_dig l) (pc_dig l) h pc_sp (fun x r e=>by cases e) rfl
theorem al0_dval {l:List UInt8} (h:al0 l=true):dval l=0:=by
 unfold al0 at h
 rw [List.all_eq_true] at h
 induction l with
 |nil=>rfl
 |cons c l ih=>
  have hc:c=48:=by simpa using h c List.mem_cons_self
  have e:=dval_append [c] l
  rw [ih (fun x hx=>h x (List.mem_cons_of_mem _ hx)),hc] at e
  rw [hc]
  exact e.trans (by simp [dval])
theorem al0_app (a b:List UInt8):al0 (a++b)=(al0 a&&al0 b):=List.all_append
def cut0 (l:List UInt8):List UInt8:=bif l.dropWhile (· ==48)==[] then [48] else l.dropWhile (· ==48)
theorem cut0_dval {l:List UInt8}:dval (cut0 l)=dval l:=by
 have e:dval (l.dropWhile (· ==48))=dval l:=by
  induction l with
  |nil=>rfl
  |cons c l ih=>
   rw [List.dropWhile_cons]
   cases h:(c==48) with
   |false=>rfl
   |true=>
    rw [if_pos rfl,ih]
    have hc:c=48:=by simpa using h
    have e:=dval_append [c] l
    rw [hc] at e ⊢
    rw [show dval (48::l)=dval ([48]++l) from rfl,e]
    simp [dval]
 unfold cut0
 cases h:(l.dropWhile (· ==48)==[]) with
 |false=>exact e
 |true=>
  have:l.dropWhile (· ==48)=[]:=by simpa using h
  rw [this] at e
  rw [←e]
  rfl
theorem cut0_written {l:List UInt8} (hd:∀ c∈l,isDig c):Written ⟨(cut0 l).toArray⟩∧(cut0 l).length≤max 1 l.length:=by
 unfold cut0
 cases h:(l.dropWhile (· ==48)==[]) with
 |true=>
  rw [cond_true]
  refine ⟨⟨by decide,by decide,fun c hc=> ?_⟩,by show 1≤_;omega⟩
  have:c=48:=by simpa using hc
  rw [this];unfold isDig;decide
 |false=>
  rw [cond_false]
  have hs:∀ c∈l.dropWhile (· ==48),c∈l:=fun c hc=>(List.dropWhile_sublist _).subset hc
  have hl:(l.dropWhile (· ==48)).length≤l.length:=(List.dropWhile_sublist _).length_le
  obtain ⟨c,r,e⟩:∃ c r,l.dropWhile (· ==48)=c::r:=by
   cases hq:l.dropWhile (· ==48) with
   |nil=>rw [hq] at h;cases h
   |cons c r=>exact ⟨c,r,rfl⟩
  have hc:(c==48)=false:=by
   have:=List.head_dropWhile_not (p:=(· ==(48:UInt8))) (l:=l) (by rw [e];simp)
   simpa [e] using this
  refine ⟨⟨?_,fun h1=> ?_,fun x hx=>hd x (hs x (by simpa using hx))⟩,by omega⟩
  ·rw [size_toList,show (⟨(l.dropWhile (· ==48)).toArray⟩:ByteArray).data.toList=l.dropWhile (· ==48) by simp,e];simp
  ·rw [get_zero _ qO (c:=c) (r:=r) (by simpa using e)]
   intro h0
   have:c=48:=UInt8.toNat_inj.1 (by show c.toNat=48;omega)
   rw [this] at hc
   cases hc
def pdL (k n:Nat):List UInt8:=List.replicate (k - (putL n).length) 48++putL n
def ptL (p n:Nat):List UInt8:=bif decide (0<p) then (pdL (p+1) n).take ((pdL (p+1) n).length - p)++46::(pdL (p+1) n).drop ((pdL (p+1) n).length - p) else pdL (p+1) n
def putD (M:Int) (p:Nat):List UInt8:=sgL (decide (M<0)) 45++ptL p M.natAbs
theorem dval_zeros (k:Nat) (l:List UInt8):dval (List.replicate k 48++l)=dval l:=by
 have h:dval (List.replicate k 48)=0:=al0_dval (by unfold al0;rw [List.all_eq_true];intro c hc;rw [(List.mem_replicate.1 hc).2];rfl)
 rw [dval_append,h]
 simp
theorem pdL_dval (k n:Nat):dval (pdL k n)=n:=by unfold pdL;rw [dval_zeros,dval_putL]
theorem pdL_dig (k n:Nat):∀ c∈pdL k n,isDig c:=by
 intro c h
 rcases List.mem_append.1 h with h|h
 ·rw [(List.mem_replicate.1 h).2];unfold isDig;decide
 ·exact putL_dig n c h
theorem pdL_len (k n:Nat):(pdL k n).length=max k (putL n).length:=by unfold pdL;rw [List.length_append,List.length_replicate];omega
theorem putL_cons (n:Nat):∃ c r,putL n=c::r∧(c=48→n=0):=by
 unfold putL
 by_cases h:n=0
 ·rw [if_pos h];exact ⟨_,_,rfl,fun _=>h⟩
 ·rw [if_neg h]
  obtain ⟨c,r,e,hc⟩:=decL_head n qO
  exact ⟨c,r,e,fun h=>absurd (by rw [h];rfl) hc⟩
theorem ptL_parts (p n:Nat):∃ a b,ptL p n=a++(sgL (decide (0<p)) 46++b)∧a++b=pdL (p+1) n∧b.length=p∧a≠[]∧(a.head? =some 48→a.length=1)∧a.length=max (p+1) (putL n).length - p:=by
 have hl:=pdL_len (p+1) n
 refine ⟨(pdL (p+1) n).take ((pdL (p+1) n).length - p),(pdL (p+1) n).drop ((pdL (p+1) n).length - p),?_,List.take_append_drop _ _,by rw [List.length_drop];omega,?_,?_,by rw [List.length_take];omega⟩
 ·unfold ptL
  by_cases h:0<p
  ·rw [decide_eq_true h];rfl
  ·obtain rfl:p=0:=qO
   show pdL 1 n=_
   rw [decide_eq_false qO]
   show _=_++([]++_)
   rw [List.nil_append,List.take_append_drop]
 ·intro h
  have:=congrArg List.length h
  rw [List.length_take,List.length_nil] at this
  omega
 ·intro h
  rw [List.length_take]
  obtain ⟨c,r,e,hc⟩:=putL_cons n
  by_cases hp:(putL n).length≤p+1
  ·omega
  ·exfalso
   have e1:pdL (p+1) n=putL n:=by unfold pdL;rw [show p+1 - (putL n).length=0 by omega];rfl
   rw [e1] at h hl
   have h2:(putL n).head? =some 48:=by
    have h0:0<(putL n).length - p:=qO
    rw [←h,List.head?_take,if_neg qO]
   rw [e] at h2
   have h3:c=48:=by simpa using h2
   have h4:=hc h3
   rw [h4] at hp
   exact hp (by show 1≤_;omega)
structure PutOf (M:Int) (p:Nat) (t l:List UInt8):Prop where
 ng:ng l=decide (M<0)
 sp:sp l=decide (0<p)
 val:dval (wh l++pc l)=M.natAbs
 pc:(pc l).length=p
 wh:(wh l).length=max (p+1) (putL M.natAbs).length - p
 r3:r3 l=t
 dok:dok l=true
theorem put_parts (M:Int) (p:Nat) {t:List UInt8} (ht:∀ x r,t=x::r→isD x=false∧x≠46):PutOf M p t (putD M p++t):=by
 obtain ⟨a,b,e,hab,hb,ha,h48,hla⟩:=ptL_parts p M.natAbs
 have hd:=pdL_dig (p+1) M.natAbs
 rw [←hab] at hd
 have hv:=pdL_dval (p+1) M.natAbs
 rw [←hab] at hv
 obtain ⟨f1,f2,f3,f4,f5⟩:=parts_of (n:=decide (M<0)) (s:=decide (0<p)) (c:=t) (l:=putD M p++t) (fun x hx=>hd x (List.mem_append_left _ hx)) (fun x hx=>hd x (List.mem_append_right _ hx)) ha
  (fun h=>List.eq_nil_of_length_eq_zero (by rw [hb];have:=of_decide_eq_false h;omega)) (fun x r e=>⟨(ht x r e).1,fun _=>(ht x r e).2⟩) (by unfold putD;rw [e];simp [List.append_assoc])
 refine ⟨f1,f3,by rw [f2,f4];exact hv,by rw [f4,hb],by rw [f2,hla],f5,?_⟩
 unfold Go.Proofs.YtfepenpngklogaaGreatDoor.dok fok
 rw [f1,f2,f3,f4]
 have g1:(a==[])=false:=by rw [beq_eq_false_iff_ne];exact ha
 have g2:(a.head? ==some 48&&decide (1<a.length))=false:=by
  cases h:(a.head? ==some 48) with
  |false=>rfl
  |true=>
   have:=h48 (by simpa using h)
   rw [this];rfl
 have g3:(decide (0<p)&&b==[])=false:=by
  cases h:decide (0<p) with
  |false=>rfl
  |true=>
   have:=of_decide_eq_true h
   show (b==[])=false
   rw [beq_eq_false_iff_ne]
   intro h
   rw [h] at hb
   simp at hb
   omega
 rw [g1,g2,g3]
 show (true&& !(decide (M<0)&&(al0 a&&al0 b)))=true
 cases h:decide (M<0) with
 |false=>rfl
 |true=>
  have hm:=of_decide_eq_true h
  cases hz:(al0 a&&al0 b) with
  |false=>rfl
  |true=>
   have:=al0_dval (by rw [al0_app];exact hz)
   omega
theorem put_dn {M:Int} {p:Nat} {t l:List UInt8} (h:PutOf M p t l):dn l=M:=by
 unfold dn sgv
 rw [h.ng,h.val]
 cases e:decide (M<0) with
 |true=>have:=of_decide_eq_true e;show -(M.natAbs:Int)=M;omega
 |false=>have:=of_decide_eq_false e;show (M.natAbs:Int)=M;omega
theorem putL_ten(h:0<n):putL (10*n)=putL n++[48]:=by
 unfold putL
 rw [if_neg qO,if_neg qO,decL_pos qO,show 10*n / 10=n by omega,show 10*n%10=0 by omega]
 rfl
theorem pdL_ten (k n:Nat):pdL (k+1+1) (10*n)=pdL (k+1) n++[48]:=by
 unfold pdL
 rcases Nat.eq_zero_or_pos n with rfl|h
 ·rw [show putL (10*0)=[48] from rfl]
  show List.replicate (k+1) 48++[48]=List.replicate k 48++[48]++[48]
  rw [List.replicate_succ']
 ·rw [putL_ten h,List.length_append,List.length_singleton,show k+1+1 - ((putL n).length+1)=k+1 - (putL n).length by omega,List.append_assoc]
theorem ptL_ten (p n:Nat) (hp:0<p):ptL (p+1) (10*n)=ptL p n++[48]:=by
 have e:=pdL_ten p n
 have hl:=pdL_len (p+1) n
 unfold ptL
 rw [e,decide_eq_true (show 0<p+1 by omega),decide_eq_true hp,cond_true,cond_true,List.length_append,List.length_singleton,show (pdL (p+1) n).length+1 - (p+1)=(pdL (p+1) n).length - p by omega,
  List.take_append_of_le_length qO,List.drop_append_of_le_length qO]
 simp
theorem ptL_one (n:Nat):ptL 1 (10*n)=ptL 0 n++[46,48]:=by
 have e:=pdL_ten 0 n
 have hl:=pdL_len 1 n
 unfold ptL
 rw [e]
 show ((pdL 1 n++[48]).take ((pdL 1 n++[48]).length - 1)++46::(pdL 1 n++[48]).drop ((pdL 1 n++[48]).length - 1))=pdL 1 n++[46,48]
 rw [List.length_append,List.length_singleton,Nat.add_sub_cancel,List.take_left',List.drop_left']<;>rfl
theorem putL_last (n:Nat):∃ r,putL n=r++[UInt8.ofNat (48+n%10)]:=by
 unfold putL
 by_cases h:n=0
 ·rw [if_pos h,h];exact ⟨[],rfl⟩
 ·rw [if_neg h,decL_pos qO];exact ⟨_,rfl⟩
theorem ptL_last{p:Nat} (hp:0<p):∃ r,ptL p n=r++[UInt8.ofNat (48+n%10)]:=by
 obtain ⟨r,e⟩:=putL_last n
 have hl:=pdL_len (p+1) n
 obtain ⟨s,es⟩:∃ s,pdL (p+1) n=s++[UInt8.ofNat (48+n%10)]:=⟨List.replicate (p+1 - (putL n).length) 48++r,by unfold pdL;rw [List.append_assoc,←e]⟩
 have hs:(pdL (p+1) n).length=s.length+1:=by rw [es];simp
 unfold ptL
 rw [decide_eq_true hp,cond_true]
 refine ⟨(pdL (p+1) n).take ((pdL (p+1) n).length - p)++46::s.drop ((pdL (p+1) n).length - p),?_⟩
 rw [List.append_assoc,List.cons_append]
 congr 2
 rw [hs,es,List.drop_append_of_le_length qO]
def few:Nat→Nat→Nat×Nat
 |0,n=>(0,n)
 |p+1,n=>bif n%10==0 then few p (n / 10) else (p+1,n)
theorem trimR (l:List UInt8):Lib.trimRightB (l++[48]) 48=Lib.trimRightB l 48:=by
 unfold Lib.trimRightB
 rw [List.reverse_append]
 rfl
theorem trimR_no {l:List UInt8} {c:UInt8} (h:c≠48):Lib.trimRightB (l++[c]) 48=l++[c]:=by
 unfold Lib.trimRightB
 rw [List.reverse_append]
 show (List.dropWhile (· ==48) (c::l.reverse)).reverse=_
 rw [List.dropWhile_cons,show (c==48)=false by rw [beq_eq_false_iff_ne];exact h]
 simp
theorem trimS (l:List UInt8):Lib.trimSuffix (l++[46]) [46]=l:=by
 unfold Lib.trimSuffix Lib.hasSuffix
 rw [if_pos (by rw [List.isSuffixOf_iff_suffix];exact List.suffix_append _ _)]
 simp
theorem trimS_no {l:List UInt8} {c:UInt8} (h:c≠46):Lib.trimSuffix (l++[c]) [46]=l++[c]:=by
 unfold Lib.trimSuffix Lib.hasSuffix
 rw [if_neg]
 rw [List.isSuffixOf_iff_suffix]
 rintro ⟨t,e⟩
 have:=(List.append_inj' e rfl).2
 injection this with this
 exact h this.symm
theorem digit_ne {d:Nat} (hd:d<10):UInt8.ofNat (48+d)≠46∧(d≠0→UInt8.ofNat (48+d)≠48):=by
 have h:=digit_of hd
 exact ⟨fun e=>by rw [e] at h;simp at h;omega,fun h0 e=>by rw [e] at h;simp at h;omega⟩
theorem trim_put:∀ (p n:Nat),0<p→Lib.trimSuffix (Lib.trimRightB (ptL p n) 48) [46]=ptL (few p n).1 (few p n).2
 |p+1,n,_=>by
  unfold few
  cases h:(n%10==0) with
  |false=>
   have h0:n%10≠0:=by simpa using h
   obtain ⟨r,e⟩:=ptL_last (p:=p+1) (n:=n) qO
   obtain ⟨g1,g2⟩:=digit_ne (d:=n%10) qO
   show _=ptL (p+1) n
   rw [e,trimR_no (g2 h0),trimS_no g1]
  |true=>
   have h0:n%10=0:=by simpa using h
   show _=ptL (few p (n / 10)).1 (few p (n / 10)).2
   obtain ⟨m,rfl⟩:∃ m,n=10*m:=⟨n / 10,by omega⟩
   rw [show 10*m / 10=m by omega]
   rcases Nat.eq_zero_or_pos p with rfl|hp
   ·rw [ptL_one,show ptL 0 m++[46,48]=ptL 0 m++[46]++[48] by simp,trimR,trimR_no qD,trimS]
    rfl
   ·rw [ptL_ten p m hp,trimR,trim_put p m hp]
theorem few_le:∀ (p n:Nat),(few p n).1≤p∧(few p n).2*10^(p - (few p n).1)=n
 |0,n=>⟨Nat.le_refl _,by show n*1=n;omega⟩
 |p+1,n=>by
  unfold few
  cases h:(n%10==0) with
  |false=>exact ⟨Nat.le_refl _,by show n*10^(p+1 - (p+1))=n;simp⟩
  |true=>
   have h0:n%10=0:=by simpa using h
   obtain ⟨i1,i2⟩:=few_le p (n / 10)
   refine ⟨Nat.le_succ_of_le i1,?_⟩
   show (few p (n / 10)).2*10^(p+1 - (few p (n / 10)).1)=n
   rw [Nat.succ_sub i1,Nat.pow_succ,←Nat.mul_assoc,i2]
   omega
theorem few_least:∀ (p n j:Nat),j<(few p n).1→n%10^(p - j)≠0
 |0,n,j,h=>absurd h (Nat.not_lt_zero _)
 |p+1,n,j,h=>by
  unfold few at h
  cases hq:(n%10==0) with
  |false=>
   have h0:n%10≠0:=by simpa using hq
   rw [hq] at h
   have hj:j<p+1:=h
   intro hm
   obtain ⟨k,hk⟩:∃ k,p+1 - j=k+1:=⟨p - j,by omega⟩
   rw [hk,Nat.pow_succ] at hm
   have:=Nat.mod_mul_left_mod n (10^k) 10
   rw [hm] at this
   omega
  |true=>
   rw [hq] at h
   have hj:j<(few p (n / 10)).1:=h
   have hp:=(few_le p (n / 10)).1
   have h0:n%10=0:=by simpa using hq
   intro hm
   refine few_least p (n / 10) j hj ?_
   rw [show p+1 - j=(p - j)+1 by omega,Nat.pow_succ,Nat.mul_comm] at hm
   obtain ⟨m,rfl⟩:∃ m,n=10*m:=⟨n / 10,by omega⟩
   rw [Nat.mul_mod_mul_left] at hm
   rw [show 10*m / 10=m by omega]
   omega
abbrev Tx (l:List UInt8):Value:= .string ⟨l.toArray⟩
theorem tx_of (s:ByteArray):s=⟨s.data.toList.toArray⟩:=by cases s;simp
theorem bs_app (a b:List UInt8):(⟨a.toArray⟩:ByteArray)++⟨b.toArray⟩=⟨(a++b).toArray⟩:=by
 apply ByteArray.ext
 simp
theorem bs_ext (l:List UInt8) (i j:Nat):(⟨l.toArray⟩:ByteArray).extract i j=⟨((l.take j).drop i).toArray⟩:=by
 apply ByteArray.ext
 simp [List.drop_take]
theorem bs_size (l:List UInt8):(⟨l.toArray⟩:ByteArray).size=l.length:=by simp [ByteArray.size]
theorem bs_beq (a b:List UInt8):((⟨a.toArray⟩:ByteArray)==⟨b.toArray⟩)=(a==b):=by
 by_cases h:a=b
 ·subst h
  rw [show (a==a)=true from beq_self_eq_true a]
  show (a.toArray==a.toArray)=true
  exact beq_self_eq_true _
 ·rw [beq_eq_false_iff_ne.2 h]
  show (a.toArray==b.toArray)=false
  exact beq_eq_false_iff_ne.2 fun e=>h (by simpa using e)
class StrC (P:Program) (ty:TypeId):Prop where
 ok:P.underlying ty=some .string
section
variable {P:Program} {w00:World} {N:Nat} {L:List Loc} {E:List (Nat×VTy)} {d:Nat} {t0:TypeId} {pos:String} {af:Array Edge} {gd:Option (Nat×Bool)} {ats:Array TypeId}
theorem st_sadd{a b:List UInt8} [h0:OpC E o0 (.is (Tx a))] [h1:OpC E o1 (.is (Tx b))] (hl:a.length+b.length≤9223372036854775807):StepT P w00 N L E ⟨some d, .binOp .add ty o0 o1 t1,t0,pos,af,gd⟩ (.is (Tx (a++b))):=by
 constructor
 intro X ρ w hc _ hN hm hsl
 have e0:ρ o0=Tx a:=h0.get (X:=X) (w:=w) hc fun p hp e=>hsl p hp qS
 have e1:ρ o1=Tx b:=h1.get (X:=X) (w:=w) hc fun p hp e=>hsl p hp qS
 have e2:=bs_app a b
 have e3:¬ 9223372036854775807<a.length+b.length:=qO
 clear hc hsl h0 h1
 unfold Yields
 go_simp
 exact ⟨rfl,Below.refl _ _⟩
theorem st_seq{a b:List UInt8} [h0:OpC E o0 (.is (Tx a))] [h1:OpC E o1 (.is (Tx b))] (hu:(a==b)=u):StepT P w00 N L E ⟨some d, .binOp .eql ty o0 o1 t1,t0,pos,af,gd⟩ (.is (.bool u)):=by
 constructor
 intro X ρ w hc _ hN hm hsl
 have e0:ρ o0=Tx a:=h0.get (X:=X) (w:=w) hc fun p hp e=>hsl p hp qS
 have e1:ρ o1=Tx b:=h1.get (X:=X) (w:=w) hc fun p hp e=>hsl p hp qS
 have e2:=bs_beq a b
 rw [hu] at e2
 clear hc hsl h0 h1
 unfold Yields
 go_simp
 exact ⟨rfl,Below.refl _ _⟩
theorem st_sne{a b:List UInt8} [h0:OpC E o0 (.is (Tx a))] [h1:OpC E o1 (.is (Tx b))] (hu:(!(a==b))=u):StepT P w00 N L E ⟨some d, .binOp .neq ty o0 o1 t1,t0,pos,af,gd⟩ (.is (.bool u)):=by
 constructor
 intro X ρ w hc _ hN hm hsl
 have e0:ρ o0=Tx a:=h0.get (X:=X) (w:=w) hc fun p hp e=>hsl p hp qS
 have e1:ρ o1=Tx b:=h1.get (X:=X) (w:=w) hc fun p hp e=>hsl p hp qS
 have e2:=bs_beq a b
 subst hu
 clear hc hsl h0 h1
 unfold Yields
 go_simp
 exact ⟨rfl,Below.refl _ _⟩
theorem st_slen{l:List UInt8} [ho:OpC E o (.is (Tx l))] [ht:StrC P ty]:StepT P w00 N L E ⟨some d, .call { callee:= .builtin .len,args:= #[o],argTypes:= #[ty] },t0,pos,af,gd⟩ (.is (.int .i64 (l.length:Int))):=by
 constructor
 intro X ρ w hc _ hN hm hsl
 have e0:ρ o=Tx l:=ho.get (X:=X) (w:=w) hc fun p hp e=>hsl p hp (by simp [Op.operands,Call.operands,e])
 have hu:=ht.ok
 have e2:=bs_size l
 clear hc hsl ho ht
 unfold Yields
 go_simp
 exact ⟨rfl,Below.refl _ _⟩
theorem st_sidx{oi:Operand} {l:List UInt8} {c:UInt8} [ho:OpC E o (.is (Tx l))] [hi:OpC E oi (.is (.int .i64 x))] [ht:StrC P ty] (hx:0≤x∧l[x.toNat]? =some c):StepT P w00 N L E ⟨some d, .index ty o oi,t0,pos,af,gd⟩ (.is (.int .u8 (c.toNat:Int))):=by
 constructor
 intro X ρ w hc _ hN hm hsl
 have e0:ρ o=Tx l:=ho.get (X:=X) (w:=w) hc fun p hp e=>hsl p hp qS
 have e1:ρ oi= .int .i64 x:=hi.get (X:=X) (w:=w) hc fun p hp e=>hsl p hp qS
 have hu:=ht.ok
 obtain ⟨hx0,hx1⟩:=hx
 obtain ⟨hlt,hc1⟩:=List.getElem?_eq_some_iff.1 hx1
 have h3:x<(l.length:Int):=qO
 have e2:∀ h,(⟨l.toArray⟩:ByteArray)[x.toNat]'h=c:=fun h=>hc1
 clear hc hsl ho ht hi hx1
 unfold Yields
 go_simp
 exact ⟨rfl,Below.refl _ _⟩
theorem st_sto{l:List UInt8} [ho:OpC E o (.is (Tx l))] [hi:OpC E o1 (.is (.int .i64 x))] [ht:StrC P ty] (hx:0≤x∧x≤(l.length:Int)):StepT P w00 N L E ⟨some d, .slice ty o none (some o1) none,t0,pos,af,gd⟩ (.is (Tx (l.take x.toNat))):=by
 constructor
 intro X ρ w hc _ hN hm hsl
 have e0:ρ o=Tx l:=ho.get (X:=X) (w:=w) hc fun p hp e=>hsl p hp qS
 have e1:ρ o1= .int .i64 x:=hi.get (X:=X) (w:=w) hc fun p hp e=>hsl p hp qS
 have hu:=ht.ok
 obtain ⟨hx0,hx1⟩:=hx
 have e2:=bs_ext l 0 x.toNat
 have e3:=bs_size l
 clear hc hsl ho ht hi
 unfold Yields
 go_simp
 exact ⟨rfl,Below.refl _ _⟩
theorem st_sfrom{l:List UInt8} [ho:OpC E o (.is (Tx l))] [hi:OpC E o1 (.is (.int .i64 x))] [ht:StrC P ty] (hx:0≤x∧x≤(l.length:Int)):StepT P w00 N L E ⟨some d, .slice ty o (some o1) none none,t0,pos,af,gd⟩ (.is (Tx (l.drop x.toNat))):=by
 constructor
 intro X ρ w hc _ hN hm hsl
 have e0:ρ o=Tx l:=ho.get (X:=X) (w:=w) hc fun p hp e=>hsl p hp qS
 have e1:ρ o1= .int .i64 x:=hi.get (X:=X) (w:=w) hc fun p hp e=>hsl p hp qS
 have hu:=ht.ok
 obtain ⟨hx0,hx1⟩:=hx
 have e2:=bs_ext l x.toNat l.length
 have e3:=bs_size l
 rw [List.take_of_length_le (Nat.le_refl _)] at e2
 clear hc hsl ho ht hi
 unfold Yields
 go_simp
 exact ⟨rfl,Below.refl _ _⟩
theorem st_nilc{k:Nat} [ho:OpC E o (.is (.pointer (some ⟨r,k,none⟩)))]:StepT P w00 N L E ⟨some d, .nilCheck o,t0,pos,af,gd⟩ (.is (.pointer (some ⟨r,k,none⟩))):=by
 constructor
 intro X ρ w hc _ hN hm hsl
 have e0:ρ o= .pointer (some ⟨r,k,none⟩):=ho.get (X:=X) (w:=w) hc fun p hp e=>hsl p hp qS
 clear hc hsl ho
 unfold Yields
 go_simp
 exact ⟨rfl,Below.refl _ _⟩
theorem st_max[h0:OpC E o0 (.is (.int k x))] [h1:OpC E o1 (.is (.int k y))] (hz:max x y=z):StepT P w00 N L E ⟨some d, .call { callee:= .builtin .max,args:= #[o0,o1],argTypes:=ats },t0,pos,af,gd⟩ (.is (.int k z)):=by
 constructor
 intro X ρ w hc _ hN hm hsl
 have e0:ρ o0= .int k x:=h0.get (X:=X) (w:=w) hc fun p hp e=>hsl p hp (by simp [Op.operands,Call.operands,e])
 have e1:ρ o1= .int k y:=h1.get (X:=X) (w:=w) hc fun p hp e=>hsl p hp (by simp [Op.operands,Call.operands,e])
 subst hz
 clear hc hsl h0 h1
 unfold Yields
 go_simp
 exact ⟨rfl,Below.refl _ _⟩
theorem st_min[h0:OpC E o0 (.is (.int k x))] [h1:OpC E o1 (.is (.int k y))] (hz:min x y=z):StepT P w00 N L E ⟨some d, .call { callee:= .builtin .min,args:= #[o0,o1],argTypes:=ats },t0,pos,af,gd⟩ (.is (.int k z)):=by
 constructor
 intro X ρ w hc _ hN hm hsl
 have e0:ρ o0= .int k x:=h0.get (X:=X) (w:=w) hc fun p hp e=>hsl p hp (by simp [Op.operands,Call.operands,e])
 have e1:ρ o1= .int k y:=h1.get (X:=X) (w:=w) hc fun p hp e=>hsl p hp (by simp [Op.operands,Call.operands,e])
 subst hz
 clear hc hsl h0 h1
 unfold Yields
 go_simp
 exact ⟨rfl,Below.refl _ _⟩
theorem st_sub2[h0:OpC E o0 (.is (.int k x))] [h1:OpC E o1 (.is (.int k y))] (hz:k.wrap (x - y)=z):StepT P w00 N L E ⟨some d, .binOp .sub ty o0 o1 t1,t0,pos,af,gd⟩ (.is (.int k z)):=by
 constructor
 intro X ρ w hc _ hN hm hsl
 have e0:ρ o0= .int k x:=h0.get (X:=X) (w:=w) hc fun p hp e=>hsl p hp qS
 have e1:ρ o1= .int k y:=h1.get (X:=X) (w:=w) hc fun p hp e=>hsl p hp qS
 clear hc hsl h0 h1
 unfold Yields
 go_simp
 exact ⟨rfl,Below.refl _ _⟩
theorem st_conv2{k2:IntKind} [h0:OpC E o (.is (.int k x))] (hu:P.underlying ty=some (.int k)) (hu2:P.underlying t1=some (.int k2)) (hz:k2.wrap x=z):StepT P w00 N L E ⟨some d, .convert ty t1 o,t0,pos,af,gd⟩ (.is (.int k2 z)):=by
 constructor
 intro X ρ w hc _ hN hm hsl
 have e0:ρ o= .int k x:=h0.get (X:=X) (w:=w) hc fun p hp e=>hsl p hp qS
 clear hc hsl h0
 unfold Yields
 go_simp
 exact ⟨rfl,Below.refl _ _⟩
end
def VTy.cs (c:List Value):VTy:=⟨fun _ _ v=>v.cells=c.toArray,fun h _ _=>h⟩
class CellsC (T:VTy) (c:outParam (List Value)):Prop where
 ok:∀ {X w v},T.holds X w v→v.cells=c.toArray
instance {c:List Value}:CellsC (.cs c) c:=⟨fun h=>h⟩
instance {c:List Value}:CellsC (.is (.agg c.toArray)) c:=⟨fun h=>by rw [show _=_ from h];rfl⟩
instance {l:List UInt8}:CellsC (.is (Tx l)) [Tx l]:=⟨fun h=>by rw [show _=_ from h];rfl⟩
class NthV (c:List Value) (i:Nat) (v:outParam Value):Prop where
 ok:c[i]? =some v
instance {c:List Value} {v:Value}:NthV (v::c) 0 v:=⟨rfl⟩
instance {c:List Value} {u v:Value}:NthV (u::v::c) 1 v:=⟨rfl⟩
instance {c:List Value} {t u v:Value}:NthV (t::u::v::c) 2 v:=⟨rfl⟩
instance {T:VTy} {c:List Value} {i:Nat} {v:Value} [t:CellsC T c] [n:NthV c i v]:PartC T i 1 false (.is v):=⟨fun _=>rfl,fun {X w u} h=>⟨[v],rfl,fun j x hj=>by
 have:j=0∧x=v:=by
  cases j with
  |zero=>exact ⟨rfl,by simpa using hj.symm⟩
  |succ j=>simp at hj
 rw [t.ok h,this.1,this.2]
 simpa using n.ok,fun x _ hx=>by have:=hx rfl;simp at this;exact this.symm⟩⟩
instance {T:VTy} {c:List Value} {a b d:Value} [t:CellsC T (a::b::d::c)]:PartC T 0 3 true (.is (.agg #[a,b,d])):=⟨fun h=>(by cases h),fun {X w u} h=>⟨[a,b,d],rfl,fun j x hj=>by
 rw [t.ok h,Nat.zero_add]
 match j,hj with
 |0,hj=>simpa using hj
 |1,hj=>simpa using hj
 |2,hj=>simpa using hj
 |j+3,hj=>simp at hj,fun x hx _=>hx rfl⟩⟩
class LenC (c:List Value) (k:Nat):Prop where
 ok:c.length=k
instance {a:Value}:LenC [a] 1:=⟨rfl⟩
instance {a b d:Value}:LenC [a,b,d] 3:=⟨rfl⟩
instance ResC.cellC {P:Program} {L:List Loc} {E:List (Nat×VTy)} {s r k:Nat} {ty:TypeId} {c:List Value} [h:Look E s (.is (.pointer (some ⟨r,0,none⟩)))] [hl:LocC L r (.cs c)] [ht:TyC P ty k true] [hk:LenC c k]:ResC P L E (.cell s ty) (.is (.agg c.toArray)):=⟨fun {w00 X n a w} hts=>by
 have e:a.tmps.getD s undef= .pointer (some ⟨r,0,none⟩):=hts.slots _ h.mem
 obtain ⟨_,_,v,ty',hv,hh⟩:=hts.mem.loc _ hl.mem
 obtain ⟨dd,hu,hd⟩:=ht.row
 have hv':v.cells=c.toArray:=hv
 refine ⟨.agg c.toArray,?_,rfl⟩
 have hra:w.rangeAt r 0 c:=fun j u hj=>by
  rw [Nat.zero_add]
  exact cell_at hh (by rw [hv'];simpa using hj)
 have hi:(P.info? ty).map (·.size)=some c.length:=by rw [hk.ok];exact ht.size
 have:=run_loadVar_mid (P:=P) w r 0 ty c dd hra hu hd hi
 unfold resOne
 simp only [e,asAddr,Sem.run_bind,Sem.run_pure,Result.andThen_ok,this]⟩
section
variable {P:Program} {w00:World} {X:List Nat} {L L':List Loc} {E:List (Nat×VTy)} {n:Nat} {a:Act} {w:World} {ops:Array Oper} {rest:List Oper} {Q:Exit→Act→World→Prop} {cs:List Code} {t0:TypeId} {pos:String} {af:Array Edge}
theorem TS.cells{c0 c:List Value} (h:TS w00 X L E n a w) (hu:UpdL L r T0 (.cs c) L') [h0:CellsC T0 c0] (hl:c.length=c0.length):TS w00 X L' E n a (w.setRow r c.toArray):=by
 exact h.write (k:=c.length) (k0:=c.length) (ag:=true) (ag0:=true) (v:= .agg c.toArray) hu (show (Value.agg c.toArray).cells=c.toArray from rfl)
class SetV (c:List Value) (i:Nat) (v:Value) (c':outParam (List Value)):Prop where
 ok:c.set i v=c'∧i<c.length
instance {c:List Value} {u v:Value}:SetV (u::c) 0 v (v::c):=⟨rfl,by simp⟩
instance {c:List Value} {a u v:Value}:SetV (a::u::c) 1 v (a::v::c):=⟨rfl,by simp⟩
instance {c:List Value} {a b u v:Value}:SetV (a::b::u::c) 2 v (a::b::v::c):=⟨rfl,by simp⟩
theorem g_stf {ty:TypeId} {s r i:Nat} {o:Operand} {v:Value} {T0:VTy} {c0 c:List Value} [hs:Look E s (.is (.pointer (some ⟨r,i,none⟩)))] [ho:OpC E o (.is v)] [hu:UpdC L r T0 (.cs c) L'] [h0:CellsC T0 c0] [hc:SetV c0 i v c] [hty:TyC P ty 1 false] (h1:v.oneCell'=true)
 (h:GR P w00 X L' E n ops rest cs Q):GR P w00 X L E n ops (⟨none, .store ty (.tmp s) o,t0,pos,af,none⟩::rest) cs Q:=⟨fun a w ht=>by
 refine wpList_run rfl ?_
 have e1:a.eval (.tmp s)= .pointer (some ⟨r,i,none⟩):=ht.slots _ hs.mem
 have e2:a.eval o=v:=ho.get (X:=X) (w:=w) (fun _=>rfl) fun p hp _=>ht.slots p hp
 obtain ⟨g1,g2,u,ty',g3,g4⟩:=ht.mem.loc _ hu.upd.mem
 rw [h0.ok g3] at g4
 obtain ⟨hc1,hc2⟩:=hc.ok
 have hi:=hty.size
 have hcell:w.cell? ⟨r,i,none⟩=some c0[i]:=cell_at g4 (by simp [hc2])
 have hfro:w.frozen? ⟨r,i,none⟩=false:=by simp [World.frozen?,g4]
 have hadd:(⟨r,i,none⟩:Addr).add 0=⟨r,i,none⟩:=by unfold Addr.add;split<;>simp_all
 have hst:(store ((⟨r,i,none⟩:Addr).add 0) v).run P w= .ok () (w.setRow r c.toArray):=by
  rw [hadd,run_store P w _ v _ h1,hcell]
  simp [hfro,setCell_eq_setRow w r i c0.toArray ty' (0,0) v g4,hc1]
 have hcl:v.cells= #[v]:=cells_one h1
 have hsv:(storeVar ty ⟨r,i,none⟩ v).run P w= .ok () (w.setRow r c.toArray):=by
  cases hq:P.info? ty with
  |none=>simp [hq] at hi
  |some q=>
   have hs:q.size=1:=by simpa [hq] using hi
   simp [storeVar,sizeOf,typeInfo,hq,hcl,hs,storeCells,hst]
 unfold Oper.wp execOp
 simp only [e1,e2,Instr.storeAt,Instr.sureAddr,Sem.run_bind,Sem.run_pure,Result.andThen_ok,hsv]
 exact h.run a _ (ht.cells hu.upd (by rw [←hc1];simp))⟩
theorem g_stw {ty:TypeId} {s r:Nat} {o:Operand} {T0:VTy} {c0 c:List Value} [hs:Look E s (.is (.pointer (some ⟨r,0,none⟩)))] [ho:OpC E o (.is (.agg c.toArray))] [hu:UpdC L r T0 (.cs c) L'] [h0:CellsC T0 c0] [hty:TyC P ty c.length true] (hl:Nat.beq c.length c0.length=true) (h1:c.all (·.oneCell')=true)
 (h:GR P w00 X L' E n ops rest cs Q):GR P w00 X L E n ops (⟨none, .store ty (.tmp s) o,t0,pos,af,none⟩::rest) cs Q:=⟨fun a w ht=>by
 refine wpList_run rfl ?_
 have e1:a.eval (.tmp s)= .pointer (some ⟨r,0,none⟩):=ht.slots _ hs.mem
 have e2:a.eval o= .agg c.toArray:=ho.get (X:=X) (w:=w) (fun _=>rfl) fun p hp _=>ht.slots p hp
 obtain ⟨g1,g2,u,ty',g3,g4⟩:=ht.mem.loc _ hu.upd.mem
 have hl':c.length=c0.length:=Nat.eq_of_beq_eq_true hl
 have hi:=hty.size
 have hst:(storeVar ty ⟨r,0,none⟩ (.agg c.toArray)).run P w= .ok () (w.setRow r c.toArray):=
  run_storeVar_row (P:=P) w r ty' ty u.cells c.toArray g4 (by rw [hi];simp) (by rw [h0.ok g3];simp [hl']) (by simpa using h1)
 unfold Oper.wp execOp
 simp only [e1,e2,Instr.storeAt,Instr.sureAddr,Sem.run_bind,Sem.run_pure,Result.andThen_ok,hst]
 exact h.run a _ (ht.cells hu.upd hl')⟩
def VTy.gh (X0:List Nat) (w0:World):VTy:=⟨fun X w _=>(∀ b∈X,b<w0.heap.size→b∈X0)∧Keeps X0 w0 w,fun {X X' w w' v} ⟨h1,h2⟩ hk hX=>⟨fun b hb hlt=>h1 b (hX b hb (Nat.lt_of_lt_of_le hlt h2.size)) hlt,
 ⟨Nat.le_trans h2.size hk.size,fun b hb hx=>(hk.block b (Nat.lt_of_lt_of_le hb h2.size) fun h=>hx (h1 b h hb)).trans (h2.block b hb hx)⟩⟩⟩
theorem gh_refl{X:List Nat} {w:World} :(VTy.gh X w).holds X w v:=⟨fun _ h _=>h,Nat.le_refl _,fun _ _ _=>rfl⟩
def PGives (w00:World) (X:List Nat) (L:List Loc) (w:World) (T:VTy) (e:Ending) (w':World):Prop:=∃ v,e= .returned v∧T.holds X w' v∧Mem w00 X L w'∧Keeps X w w'
structure PtC (P:Program) (G:World→Prop) (f:FuncId) (T0:VTy) (ks:List Nat) (As:List VTy) (T1 T:VTy):Prop where
 ent:Enters P f
 run:∀ {w00 w:World} {X:List Nat} {L0:List Loc} {r:Nat} {vs:List Value},G w→Mem w00 X ((r,T0)::L0) w→AllH X w As vs→Calls P f (.pointer (some ⟨r,0,none⟩)::vs).toArray w (PGives w00 X ((r,T1)::L0) w T)
class CvC (T:VTy) (T':outParam VTy):Prop where
 ok:∀ {X w v},T.holds X w v→T'.holds X w v
instance {c:List Value}:CvC (.cs c) (.cs c):=⟨fun h=>h⟩
instance {c:List Value}:CvC (.is (.agg c.toArray)) (.cs c):=⟨fun h=>by rw [show _=_ from h];rfl⟩
instance {l:List UInt8}:CvC (.is (Tx l)) (.cs [Tx l]):=⟨fun h=>by rw [show _=_ from h];rfl⟩
theorem UpdL.split{L L':List Loc} (h:UpdL L r T T' L'):∃ L0,(∀ p,p∈L↔p∈(r,T)::L0)∧(∀ p,p∈L'↔p∈(r,T')::L0)∧L.Perm ((r,T)::L0)∧L'.Perm ((r,T')::L0):=by
 induction h with
 |here=>exact ⟨_,fun _=>Iff.rfl,fun _=>Iff.rfl,List.Perm.refl _,List.Perm.refl _⟩
 | @there L L' r T T' p h ih=>
  obtain ⟨L0,_,_,h3,h4⟩:=ih
  have p1:(p::L).Perm ((r,T)::p::L0):=(List.Perm.cons p h3).trans (List.Perm.swap _ _ _)
  have p2:(p::L').Perm ((r,T')::p::L0):=(List.Perm.cons p h4).trans (List.Perm.swap _ _ _)
  exact ⟨p::L0,fun _=>p1.mem_iff,fun _=>p2.mem_iff,p1,p2⟩
theorem Mem.perm {w:World} {L L':List Loc} (h:Mem w00 X L w) (hp:L.Perm L'):Mem w00 X L' w:=⟨fun p hm=>h.loc p (hp.mem_iff.2 hm),h.far,(hp.map Prod.fst).nodup_iff.1 h.nodup,h.below⟩
theorem g_pc {G:World→Prop} {f:FuncId} {s p r:Nat} {os:List Operand} {ks:List Nat} {As:List VTy} {T0 T0' T1 T:VTy} {ats:Array TypeId} [hs:Look E p (.is (.pointer (some ⟨r,0,none⟩)))] [k:OpsK E os ks As] [sg:StabG G] (hG:G w00) (h:PtC P G f T0 ks As T1 T) [hl:LocC L r T0'] [cv:CvC T0' T0] [hu:UpdC L r T0' T1 L'] (hd:(Nat.blt s n&& !(E.map Prod.fst).elem s)=true)
 (next:GR P w00 X L' ((s,T)::E) n ops rest cs Q):GR P w00 X L E n ops (⟨some s, .call { callee:= .value (.func f),args:=(.tmp p::os).toArray,argTypes:=ats },t0,pos,af,none⟩::rest) cs Q:=⟨fun a w ht=>by
 refine wpList_run rfl ?_
 obtain ⟨L0,_,_,p1,p2⟩:=hu.upd.split
 have e1:a.eval (.tmp p)= .pointer (some ⟨r,0,none⟩):=ht.slots _ hs.mem
 have e2:=k.get (X:=X) (w:=w) (ρ:=a.eval) (fun _=>rfl) (fun _=>rfl) fun q hq _=>ht.slots q hq
 have hm0:=ht.mem.perm p1
 have hm1:Mem w00 X ((r,T0)::L0) w:=⟨fun q hq=>by
  rcases List.mem_cons.1 hq with rfl|hq
  ·obtain ⟨g1,g2,u,ty,g3,g4⟩:=hm0.loc _ List.mem_cons_self
   exact ⟨g1,g2,u,ty,cv.ok g3,g4⟩
  ·exact hm0.loc q (List.mem_cons_of_mem _ hq),hm0.far,hm0.nodup,hm0.below⟩
 have hc:=h.run (sg.stab hG ht.mem.below) hm1 e2
 have hr:∀ ρ:Operand→Value,ρ (.func f)= .func (.func f) #[] #[]→(execOp ρ ⟨some s, .call { callee:= .value (.func f),args:=(.tmp p::os).toArray,argTypes:=ats },t0,pos,af,none⟩).run P w= .ok (.enter f (ρ (.tmp p)::os.map ρ).toArray) w:=by
  intro ρ hff
  have hen:=h.ent
  clear hc hm0 hm1 e2 k next e1
  go_simp
  exact hen _ _
 have hr:=hr a.eval rfl
 rw [e1] at hr
 unfold Oper.wp
 rw [hr]
 refine hc.mono ?_
 rintro e w' ⟨v,rfl,hT,hm,hk⟩
 simp only [Bool.and_eq_true,Bool.not_eq_true'] at hd
 refine next.run _ _ ⟨by simp [Act.put,ht.size],ht.df,fun q hq=> ?_,hm.perm p2.symm⟩
 have hsz:s<a.tmps.size:=by rw [ht.size,←Nat.blt_eq];exact hd.1
 rcases List.mem_cons.1 hq with rfl|hq
 ·rw [put_getD _ _ _ _ hsz,if_pos rfl];exact hT
 ·have hne:q.1≠s:=fun e=>by
   have:(E.map Prod.fst).elem s=true:=by rw [List.elem_eq_mem,decide_eq_true_eq,←e];exact List.mem_map_of_mem hq
   rw [hd.2] at this;cases this
  rw [put_getD _ _ _ _ hsz,if_neg hne]
  exact q.2.stable (ht.slots q hq) hk fun _ hb _=>hb⟩
class MemE (E:List (Nat×VTy)) (s:Nat) (T:VTy):Prop where
 mem:(s,T)∈E
instance MemE.here {E:List (Nat×VTy)} {s:Nat} {T:VTy}:MemE ((s,T)::E) s T:=⟨List.mem_cons_self⟩
instance (priority:=low) MemE.there {E:List (Nat×VTy)} {s:Nat} {T:VTy} {p:Nat×VTy} [h:MemE E s T]:MemE (p::E) s T:=⟨List.mem_cons_of_mem _ h.mem⟩
class SubL (L0 L:List Loc):Prop where
 sub:∀ p∈L0,p∈L
instance SubL.here {L:List Loc}:SubL L L:=⟨fun _ h=>h⟩
instance (priority:=low) SubL.there {L0 L:List Loc} {p:Loc} [h:SubL L0 L]:SubL L0 (p::L):=⟨fun q hq=>List.mem_cons_of_mem _ (h.sub q hq)⟩
theorem ptc {G:World→Prop} {f:FuncId} {fn:Func} {c:Code} {T0:VTy} {ks:List Nat} {As:List VTy} {T1 T:VTy} (hf:P.funcs[f]? =some fn) (hb:fn.body=some c) (hn:fn.ntmps=n) (hl:As.length+1≤n) (he:Enters P f)
 (h:∀ w00 X L0 r w,G w→Mem w00 X ((r,T0)::L0) w→GC P w00 X ((r,T0)::L0) (argE 0 (.is (.pointer (some ⟨r,0,none⟩))::As)++[(0, .gh X w)]) n [c] (bodyPost P fn (PGives w00 X ((r,T1)::L0) w T))):PtC P G f T0 ks As T1 T:=
 ⟨he,fun {w00 w X L0 r vs} hG hm ha=>by
  have hal:∀ {As:List VTy} {vs:List Value},AllH X w As vs→vs.length=As.length:=by
   intro As
   induction As with
   |nil=>intro vs h;cases vs with|nil=>rfl|cons=>exact h.elim
   |cons A As ih=>intro vs h;cases vs with|nil=>exact h.elim|cons v vs=>simp [ih h.2]
  have hlen:=hal ha
  have hg:=h w00 X L0 r w hG hm
  have ha':AllH X w (.is (.pointer (some ⟨r,0,none⟩))::As) (.pointer (some ⟨r,0,none⟩)::vs):=⟨rfl,ha⟩
  refine calls_of_wp hf hb (CW.out (g_of (X:=X) (L:=(r,T0)::L0) (E:=argE 0 (.is (.pointer (some ⟨r,0,none⟩))::As)++[(0, .gh X w)]) ⟨?_,rfl,fun p hp=> ?_,hm⟩ hg))
  ·rw [hn]
   simp
   omega
  ·rcases List.mem_append.1 hp with hp|hp
   ·refine argE_slot ha' (fun j hj=> ?_) p hp
    rw [Nat.zero_add,Array.getD_eq_getD_getElem?,Array.getElem?_append_left (by simpa using hj),List.getElem?_toArray,List.getD_eq_getElem?_getD]
   ·rw [List.mem_singleton.1 hp]
    exact gh_refl⟩
theorem TS.keepG{X:List Nat} {a:Act} {w:World} {E':List (Nat×VTy)} (ss:List Nat) [k:KeepC E ss E'] [g:MemE E 0 (.gh X0 w0)] (h:TS w00 X L E n a w):TS w00 X L (E'++[(0, .gh X0 w0)]) n a w:=h.sub fun p hp=>(List.mem_append.1 hp).elim (k.sub p) fun h=>by rw [List.mem_singleton.1 h];exact g.mem
theorem p_end{w00:World} {X:List Nat} {L L1:List Loc} {a:Act} {w:World} (h:TS w00 X L E n a w) [g:MemE E 0 (.gh X0 w0)] [sx:SubX X0 X] [sl:SubL L1 L] (hx:∀ p∈L1,p.1∈X0) (hn:(L1.map Prod.fst).Nodup) (hf:∀ b∈X0,b<w0.heap.size) (hT:T.holds X w v):PGives w00 X0 L1 w0 T (.returned v) w:=by
 obtain ⟨g1,g2⟩:=h.slots _ g.mem
 have hs:∀ {T:VTy} {u:Value},T.holds X w u→T.holds X0 w u:=fun {T u} h=>T.stable h ⟨Nat.le_refl _,fun _ _ _=>rfl⟩ fun b hb _=>sx.sub b hb
 refine ⟨v,rfl,hs hT,⟨fun p hp=> ?_,fun b hb=>Nat.lt_of_lt_of_le (hf b hb) g2.size,hn,h.mem.below⟩,g2⟩
 obtain ⟨k1,k2,u,ty,k3,k4⟩:=h.mem.loc _ (sl.sub p hp)
 exact ⟨hx p hp,k2,u,ty,hs k3,k4⟩
theorem rp_1{w00:World} {X:List Nat} {L L0:List Loc} {T1:VTy} {fn:Func} {q:ResultVar} (hr:fn.results= #[q]) (hm:Mem w00 X0 ((r,T0)::L0) w0) [g:MemE E 0 (.gh X0 w0)] [hX:SubX X0 X] [sl:SubL ((r,T1)::L0) L] [k:ResC P L E q T] (hc:Cv T T'):GT w00 X L E n (bodyPost P fn (PGives w00 X0 ((r,T1)::L0) w0 T')):=
 ⟨fun a w ht=>by
  obtain ⟨v,e,hT⟩:=k.ok ht
  exact bodyPost_ret (results_one hr e) ht.df (p_end ht (fun p hp=>(List.mem_cons.1 hp).elim (fun h=>by rw [h];exact (hm.loc _ List.mem_cons_self).1) fun h=>(hm.loc _ (List.mem_cons_of_mem _ h)).1) hm.nodup hm.far (hc.ok _ _ _ hT))⟩
theorem rp_2{w00:World} {X:List Nat} {L L0:List Loc} {T1:VTy} {fn:Func} {q q2:ResultVar} {U:VTy} (hr:fn.results= #[q,q2]) (hm:Mem w00 X0 ((r,T0)::L0) w0) [g:MemE E 0 (.gh X0 w0)] [hX:SubX X0 X] [sl:SubL ((r,T1)::L0) L] [k:ResC P L E q T] [k2:ResC P L E q2 U] (hc:Cv (.tup [T,U]) T'):GT w00 X L E n (bodyPost P fn (PGives w00 X0 ((r,T1)::L0) w0 T')):=
 ⟨fun a w ht=>by
  obtain ⟨v,e,hT⟩:=k.ok ht
  obtain ⟨u,e2,hU⟩:=k2.ok ht
  exact bodyPost_ret (results_two hr e e2) ht.df (p_end ht (fun p hp=>(List.mem_cons.1 hp).elim (fun h=>by rw [h];exact (hm.loc _ List.mem_cons_self).1) fun h=>(hm.loc _ (List.mem_cons_of_mem _ h)).1) hm.nodup hm.far (hc.ok _ _ _ ⟨[v,u],rfl,hT,hU,trivial⟩))⟩
theorem Ctr.mono {G G':World→Prop} {f:FuncId} {ks:List Nat} {As:List VTy} {T:Nat→VTy} (h:Ctr P G f ks As T) (hg:∀ w,G' w→G w):Ctr P G' f ks As T:=⟨h.ent,h.down,fun hG=>h.run (hg _ hG)⟩
end
def VTy.dv (k:IntKind) (β V:Int) (L:Nat):VTy:=⟨fun X w v=>∃ A n c xs,v= .slice A n c∧SlF k w (Free X w) A n c xs∧Dg β xs∧val β xs=V∧n≤L,
 fun ⟨A,n,c,xs,e,h,d,hv,l⟩ hk hX=>⟨A,n,c,xs,e,(h.keep fun b hb=>hk.block b hb.1 hb.2).more (Free.mono hk hX),d,hv,l⟩⟩
def VTy.dr (k:IntKind) (β V:Int) (L:Nat):VTy:=⟨fun X w v=>∃ A n c xs,v= .slice A n c∧SlF k w (Free X w) A n c xs∧Row β V xs∧n≤L,
 fun ⟨A,n,c,xs,e,h,d,l⟩ hk hX=>⟨A,n,c,xs,e,(h.keep fun b hb=>hk.block b hb.1 hb.2).more (Free.mono hk hX),d,l⟩⟩
abbrev VTy.lr (V:Int) (L:Nat):VTy:= .dr .u32 4294967296 V L
section
variable {k:IntKind} {β V:Int} {L:Nat}
instance:SizeV (.dv k β V L) 1 false:=⟨fun {X w v} ⟨A,n,c,xs,e,_⟩=>by rw [e];exact ⟨rfl,by simp [Value.cells,Value.oneCell'],(fun h=>by cases h),fun _=>rfl⟩⟩
instance:SizeV (.dr k β V L) 1 false:=⟨fun {X w v} ⟨A,n,c,xs,e,_⟩=>by rw [e];exact ⟨rfl,by simp [Value.cells,Value.oneCell'],(fun h=>by cases h),fun _=>rfl⟩⟩
instance:PartC (.dv k β V L) 0 1 false (.dv k β V L):= .single inferInstance
instance:PartC (.dr k β V L) 0 1 false (.dr k β V L):= .single inferInstance
class AsD (T:VTy) (k:outParam IntKind) (β V:outParam Int) (L:outParam Nat):Prop where
 ok:∀ {X w v},T.holds X w v→(VTy.dv k β V L).holds X w v
instance:AsD (.dv k β V L) k β V L:=⟨fun h=>h⟩
instance:AsD (.dr k β V L) k β V L:=⟨fun ⟨A,n,c,xs,e,h,d,l⟩=>⟨A,n,c,xs,e,h,d.dg,d.val,l⟩⟩
theorem dr_new{X:List Nat} {w':World} {B:Nat} {e:TypeId} {A:Option Addr} {c:Nat} {xs:List Int} (hX:∀ b∈X,b<B) (h:Row β V xs) (ho:Own k e w' B A n c xs) (hl:n≤L):(VTy.dr k β V L).holds X w' (.slice A n c):=
 ⟨A,n,c,xs,rfl,⟨ho.sl,fun hn b hb=>by
  obtain ⟨g1,g2⟩:=ho.blk_ b hb
  exact ⟨g2,fun hx=>by have:=hX b hx;omega⟩⟩,h,hl⟩
end
instance {N:Int} {L:Nat}:PartC (.nc N L) 0 1 false (.is (.bool (decide (N<0)))):=⟨fun _=>rfl,fun {X w v} hv=>by
 obtain ⟨x,⟨hw,_⟩,cs,rfl,hr⟩:=hv
 obtain ⟨A,n,c,rfl,_⟩:=num_rd.1 hr
 refine ⟨[.bool x.1],rfl,fun j u hj=> ?_,fun u _ hu=> ?_⟩
 ·cases j with
  |zero=>simpa [Value.cells] using hj
  |succ j=>simp at hj
 ·have:=hu rfl
  simp at this
  rw [←this,hw.sg]
  rfl⟩
instance {N:Int} {L:Nat}:PartC (.nc N L) 1 1 false (.lr (N.natAbs:Int) L):=⟨fun _=>rfl,fun {X w v} hv=>by
 obtain ⟨x,⟨hw,hl⟩,cs,rfl,hr⟩:=hv
 obtain ⟨A,n,c,rfl,hs,hd⟩:=num_rd.1 hr
 refine ⟨[.slice A n c],rfl,fun j u hj=> ?_,fun u _ hu=> ?_⟩
 ·cases j with
  |zero=>simpa [Value.cells] using hj
  |succ j=>simp at hj
 ·have:=hu rfl
  simp at this
  rw [←this]
  exact ⟨A,n,c,x.2,rfl,hs,hw.row,by rw [←hs.1.len];exact hw.len hl⟩⟩
instance:StrC Tryz.prog 9:=⟨Tryz.underlying9⟩
instance:TyC Tryz.prog 9 1 false:=⟨⟨_,Tryz.underlying9,rfl⟩,by kernel_rfl⟩
instance:StrC Tryz.prog 150:=⟨Tryz.underlying150⟩
instance:TyC Tryz.prog 150 1 false:=⟨⟨_,Tryz.underlying150,rfl⟩,by kernel_rfl⟩
instance:TyC Tryz.prog 4 1 false:=⟨⟨_,Tryz.underlying4,rfl⟩,by kernel_rfl⟩
instance:TyC Tryz.prog 82 3 true:=⟨⟨_,Tryz.underlying82,rfl⟩,by kernel_rfl⟩
instance:TyC Tryz.prog 152 1 true:=⟨⟨_,Tryz.underlying152,rfl⟩,by kernel_rfl⟩
instance:FieldC Tryz.prog 82 0 0 1 false:=⟨⟨_,_,Tryz.underlying82,rfl,rfl,by kernel_rfl,by decide,_,Tryz.underlying4,rfl⟩⟩
instance:FieldC Tryz.prog 82 1 1 1 false:=⟨⟨_,_,Tryz.underlying82,rfl,rfl,by kernel_rfl,by decide,_,Tryz.underlying9,rfl⟩⟩
instance:FieldC Tryz.prog 82 2 2 1 false:=⟨⟨_,_,Tryz.underlying82,rfl,rfl,by kernel_rfl,by decide,_,Tryz.underlying9,rfl⟩⟩
instance:FieldC Tryz.prog 152 0 0 1 false:=⟨⟨_,_,Tryz.underlying152,rfl,rfl,by kernel_rfl,by decide,_,Tryz.underlying150,rfl⟩⟩
instance:FieldC Tryz.prog 25 0 0 1 false:=⟨⟨_,_,Tryz.underlying25,rfl,rfl,by kernel_rfl,by decide,_,Tryz.underlying4,rfl⟩⟩
instance {N:Int} {L B:Nat}:PartC (.nn N L B) 0 1 false (.is (.bool (decide (N<0)))):=⟨fun _=>rfl,fun h=>(inferInstance:PartC (.nc N L) 0 1 false (.is (.bool (decide (N<0))))).ok (nwn_ex h)⟩
instance {N:Int} {L B:Nat}:PartC (.nn N L B) 1 1 false (.lr (N.natAbs:Int) L):=⟨fun _=>rfl,fun h=>(inferInstance:PartC (.nc N L) 1 1 false (.lr (N.natAbs:Int) L)).ok (nwn_ex h)⟩
instance:ZeroC Tryz.prog 82 (.cs [.bool false,Tx [],Tx []]):=⟨⟨.agg #[.bool false,Tx [],Tx []],fun X w=>rfl,fun o ρ w e=>by
 cases o with
 |mk dst op ty pos af gd=>
  have e':op=_:=e
  subst e'
  go_simp⟩⟩
instance:ZeroC Tryz.prog 152 (.cs [Tx []]):=⟨⟨.agg #[Tx []],fun X w=>rfl,fun o ρ w e=>by
 cases o with
 |mk dst op ty pos af gd=>
  have e':op=_:=e
  subst e'
  go_simp⟩⟩
instance:StabG Env:=⟨Env.below⟩
theorem Env.tab {w:World} (h:Env w):Tab w:=⟨h.half,h.hz⟩
abbrev S1:World→Prop:=fun _=>True
instance:StabG S1:=⟨fun _ _=>trivial⟩
theorem ctr_v2{P:Program} {G:World→Prop} {f:FuncId} {u u2:Value} (he:Enters P f) (h:∀ w,G w→Calls P f #[u,u2] w fun e w'=>e= .returned v∧Below w.heap.size w w'):Ctr P G f [0,0] [.is u, .is u2] (fun _=> .is v):=
 ⟨he,fun _ h=>h,fun {X w vs} hG _ ha=>by
  obtain ⟨x,y,rfl,e,e2⟩:=ha.two
  rw [show x=u from e,show y=u2 from e2]
  exact (h w hG).mono fun e w' g=>⟨v,g.1,rfl,g.2⟩⟩
theorem Below.drew' (w:World):Below w.heap.size w w.drew:=⟨rfl,rfl,rfl,Nat.le_refl _,fun _ _=>rfl⟩
theorem data_mk (l:List UInt8):(⟨l.toArray⟩:ByteArray).data.toList=l:=by simp
theorem c_repeat {a:List UInt8} {k:Nat} (hk:k≤1000000) (ha:a.length≤1000):Ctr Tryz.prog S1 35 [0,0] [.is (Tx a), .is (.int .i64 (k:Int))] (fun _=> .is (Tx (Lib.repeatL a k))):=
 ctr_v2 (fun _ _=>by kernel_rfl) fun w _=>by
  have h:=Tryz.strings_Repeat ⟨a.toArray⟩ k w qO (by
   rw [bs_size]
   exact Nat.le_trans (Nat.mul_le_mul ha hk) qO)
  rwa [data_mk] at h
theorem c_trimleft {l:List UInt8}:Ctr Tryz.prog S1 168 [0,0] [.is (Tx l), .is (Tx [48])] (fun _=> .is (Tx (Lib.trimLeftB l 48))):=
 ctr_v2 (fun _ _=>by kernel_rfl) fun w _=>(Tryz.strings_TrimLeft_one ⟨l.toArray⟩ 48 qD w).mono fun e w' h=>by
  rw [data_mk] at h
  exact ⟨h.1,by rw [h.2];exact Below.refl _ _⟩
theorem c_trimright {l:List UInt8} (hl:l.length≤1000000):Ctr Tryz.prog S1 50 [0,0] [.is (Tx l), .is (Tx [48])] (fun _=> .is (Tx (Lib.trimRightB l 48))):=
 ctr_v2 (fun _ _=>by kernel_rfl) fun w _=>(Tryz.strings_TrimRight_one ⟨l.toArray⟩ 48 qD w (by rw [bs_size];omega)).mono fun e w' h=>by
  rw [data_mk] at h
  exact ⟨h.1,by rw [h.2];exact Below.refl _ _⟩
theorem c_trim {l:List UInt8} (hl:l.length≤9223372036854775807):Ctr Tryz.prog S1 194 [0,0] [.is (Tx l), .is (Tx [48])] (fun _=> .is (Tx (Lib.trimB l 48))):=
 ctr_v2 (fun _ _=>by kernel_rfl) fun w _=>(Tryz.strings_Trim_one ⟨l.toArray⟩ 48 qD w (by rw [bs_size];omega)).mono fun e w' h=>by
  rw [data_mk] at h
  refine ⟨h.1,?_⟩
  rcases h.2 with h2|h2
  ·rw [h2];exact Below.refl _ _
  ·rw [h2];exact Below.drew' w
theorem c_trimsuffix {l p:List UInt8} (hl:l.length≤1000000):Ctr Tryz.prog S1 49 [0,0] [.is (Tx l), .is (Tx p)] (fun _=> .is (Tx (Lib.trimSuffix l p))):=
 ctr_v2 (fun _ _=>by kernel_rfl) fun w _=>(Tryz.strings_TrimSuffix ⟨l.toArray⟩ ⟨p.toArray⟩ w (by rw [bs_size];omega)).mono fun e w' h=>by
  rw [data_mk,data_mk] at h
  exact ⟨h.1,by rw [h.2];exact Below.refl _ _⟩
theorem c_cutprefix {l p:List UInt8}:Ctr Tryz.prog S1 193 [0,0] [.is (Tx l), .is (Tx p)] (fun _=> .tup [.is (Tx (Lib.trimPrefix l p)), .is (.bool (Lib.hasPrefix l p))]):=
 (ctr_v2 (v:= .tuple #[Tx (Lib.trimPrefix l p), .bool (Lib.hasPrefix l p)]) (fun _ _=>by kernel_rfl) fun w _=>(Tryz.strings_CutPrefix ⟨l.toArray⟩ ⟨p.toArray⟩ w).mono fun e w' h=>by
   rw [data_mk,data_mk] at h
   exact ⟨h.1,by rw [h.2];exact Below.refl _ _⟩).weak fun h=>⟨[_,_],h,rfl,rfl,trivial⟩
theorem cut_pre (l:List UInt8) (c:UInt8):Lib.hasPrefix l [c]=(l.head? ==some c)∧Lib.trimPrefix l [c]=bif l.head? ==some c then l.tail else l:=by
 unfold Lib.trimPrefix Lib.hasPrefix
 cases l with
 |nil=>exact ⟨rfl,rfl⟩
 |cons x l=>
  show ((c==x&&true)=(some x==some c))∧_
  have e:(some x==some c)=(c==x):=by
   rw [Bool.eq_iff_iff,beq_iff_eq,beq_iff_eq]
   exact ⟨fun h=>by injection h with h;exact h.symm,fun h=>by rw [h]⟩
  rw [show (x::l).head? =some x from rfl,e,Bool.and_true]
  refine ⟨rfl,?_⟩
  show (if ([c].isPrefixOf (x::l))=true then (x::l).drop 1 else x::l)=_
  rw [show [c].isPrefixOf (x::l)=(c==x&&true) from rfl,Bool.and_true]
  cases (c==x)<;>rfl
theorem c_take {l:List UInt8} {c:UInt8}:PtC Tryz.prog S1 163 (.cs [Tx l]) [0] [.is (Tx [c])] (.cs [Tx (bif l.head? ==some c then l.tail else l)]) (.is (.bool (l.head? ==some c))):=by
 obtain ⟨e1,e2⟩:=cut_pre l c
 rw [←e2,←e1]
 refine ptc Tryz.func163 rfl Tryz.ntmps163 qE (fun _ _=>by kernel_rfl) fun w00 X L0 r wS hG hm=> ?_
 simp only [argE,Nat.zero_add,Nat.reduceAdd,List.cons_append,List.nil_append]
 repeat' first|kernel_rfl|apply g_seq|apply g_reg|apply g_nil|apply g_box|apply g_all|apply g_stf|apply g_stw|apply g_sto|apply g_asg|apply g_st|apply g_skip|apply g_ct|apply g_cf|apply g_ret|refine rp_1 rfl hm ?_|apply g_cl|exact sc trivial c_cutprefix|exact st_nilc|exact st_move'|exact st_assign'|exact st_load'|exact st_extract'|exact st_loadE'|exact Cv.rfl'|intro _
theorem takeW_len {p:UInt8→Bool}:∀ (l:List UInt8),(l.takeWhile p).length≤l.length:=fun l=>(List.takeWhile_sublist p).length_le
theorem takeW_take {p:UInt8→Bool}:∀ (l:List UInt8),l.take (l.takeWhile p).length=l.takeWhile p:=fun l=>by
 have h:=List.takeWhile_append_dropWhile (p:=p) (l:=l)
 generalize l.takeWhile p=a at*
 rw [←h,List.take_left' rfl]
theorem takeW_drop {p:UInt8→Bool}:∀ (l:List UInt8),l.drop (l.takeWhile p).length=l.dropWhile p:=fun l=>by
 have h:=List.takeWhile_append_dropWhile (p:=p) (l:=l)
 generalize l.takeWhile p=a at*
 generalize l.dropWhile p=b at*
 rw [←h,List.drop_left' rfl]
theorem takeW_in {p:UInt8→Bool} {l:List UInt8} {i:Nat} (h:i<(l.takeWhile p).length):∃ c,l[i]? =some c∧p c=true:=by
 have e:l[i]? =(l.takeWhile p)[i]? :=by
  conv=>lhs;rw [←List.takeWhile_append_dropWhile (p:=p) (l:=l)]
  exact List.getElem?_append_left h
 rw [List.getElem?_eq_getElem h] at e
 exact ⟨_,e,takeWhile_all _ (List.getElem_mem h)⟩
theorem takeW_end {p:UInt8→Bool} {l:List UInt8} (h:(l.takeWhile p).length<l.length):∃ c,l[(l.takeWhile p).length]? =some c∧p c=false:=by
 have e:=takeW_drop (p:=p) l
 cases hd:l.dropWhile p with
 |nil=>
  have:=congrArg List.length (List.takeWhile_append_dropWhile (p:=p) (l:=l))
  rw [hd,List.append_nil] at this
  omega
 |cons c r=>
  rw [hd] at e
  refine ⟨c,?_,?_⟩
  ·have:=congrArg (fun l:List UInt8=>l[0]?) e
   simpa using this
  ·have:=List.head_dropWhile_not (p:=p) (l:=l) (by rw [hd];simp)
   simpa [hd] using this
theorem isD_two{c:UInt8} (h:isD c=u):(decide ((48:Int)≤(c.toNat:Int))=false∧u=false)∨(decide ((48:Int)≤(c.toNat:Int))=true∧decide ((c.toNat:Int)≤57)=u):=by
 unfold isD at h
 cases h1:decide ((48:Int)≤(c.toNat:Int)) with
 |false=>rw [h1] at h;exact .inl ⟨rfl,h.symm⟩
 |true=>rw [h1] at h;exact .inr ⟨rfl,h⟩
theorem i64_small(h0:0≤x) (h1:x≤9223372036854775807):IntKind.i64.wrap x=x:=by rw [IntKind.wrap_i64];omega
theorem c_digits {l:List UInt8} (hl:l.length≤1000000):PtC Tryz.prog S1 164 (.cs [Tx l]) [] [] (.cs [Tx (l.dropWhile isD)]) (.is (Tx (l.takeWhile isD))):=by
 have hm1:=takeW_len (p:=isD) l
 have hp1:=takeW_take (p:=isD) l
 have hp2:=takeW_drop (p:=isD) l
 refine ptc Tryz.func164 rfl Tryz.ntmps164 qE (fun _ _=>by kernel_rfl) fun w00 X L0 r wS hG hm=> ?_
 simp only [argE,Nat.zero_add,Nat.reduceAdd,List.cons_append,List.nil_append]
 repeat' first|kernel_rfl|apply g_seq|apply g_reg|apply g_nil|apply g_box|apply g_all|apply g_stf|apply g_stw|apply g_sto|apply g_asg|refine g_run rfl inferInstance (by first|exact st_sidx (by assumption)|exact st_nilc|exact st_move'|exact st_load'|exact st_leq' (by first|assumption|rfl)|exact st_geq' (by first|assumption|rfl)|exact st_loadE') qK ?_|refine g_sk rfl inferInstance rfl qK ?_|refine g_un rfl inferInstance qK ?_|apply g_st|apply g_skip|apply g_ct|apply g_cf|apply g_ret|refine rp_1 rfl hm ?_|apply g_blk|apply g_eb|apply g_ex|apply e_t|apply e_h|refine e_o rfl ?_|apply r_t|apply r_b|apply g_cl|exact st_sadd qL|exact st_slen|exact st_sidx qL|exact st_sto qL|exact st_sfrom qL|exact st_nilc|exact st_add' qL|exact st_move'|exact st_assign'|exact st_load'|exact st_and_t'|exact st_and_f'|exact st_lss' qG|exact st_leq' qG|exact st_geq' qG|exact st_len'|exact st_loadE'|exact Cv.rfl'|intro _
 refine g_stop fun a w h=> ?_
 refine cw_loop (fun k a w=>∃ i:Nat,i+k=(l.takeWhile isD).length∧TS w00 X ((r, .cs [Tx l])::L0) [(3, .is (.int .i64 (i:Int))),(2, .is (Tx [])),(0, .is (.pointer (some ⟨r,0,none⟩))),(0, .gh X wS)] 42 a w) (l.takeWhile isD).length ⟨0,by omega,h⟩ ?_
 clear h
 rintro k a w ⟨i,hi,h⟩
 by_cases hlt:i<(l.takeWhile isD).length
 ·obtain ⟨c,hx,hd⟩:=takeW_in hlt
  obtain ⟨c1,c2⟩:decide ((48:Int)≤(c.toNat:Int))=true∧decide ((c.toNat:Int)≤57)=true:=by
   rcases isD_two hd with ⟨_,h⟩|h
   ·cases h
   ·exact h
  have hc:decide ((i:Int)<(l.length:Int))=true:=decide_eq_true qO
  have hix:0≤(i:Int)∧l[(i:Int).toNat]? =some c:=⟨by omega,hx⟩
  have hw:IntKind.i64.wrap ((i:Int)+1)=((i+1:Nat):Int):=i64_small qO qO
  refine g_of h ?_
  clear h
  repeat' first|kernel_rfl|exact g_done fun _ _ h=>⟨k - 1,by omega,i+1,by omega,h.keepG [3,2,0]⟩|apply g_seq|apply g_reg|apply g_nil|apply g_box|apply g_all|apply g_stf|apply g_stw|apply g_sto|apply g_asg|refine g_run rfl inferInstance (by first|exact st_sidx (by assumption)|exact st_nilc|exact st_move'|exact st_load'|exact st_leq' (by first|assumption|rfl)|exact st_geq' (by first|assumption|rfl)|exact st_loadE') qK ?_|refine g_sk rfl inferInstance rfl qK ?_|refine g_un rfl inferInstance qK ?_|apply g_st|apply g_skip|apply g_ct|apply g_cf|apply g_ret|refine rp_1 rfl hm ?_|apply g_blk|apply g_eb|apply g_ex|apply e_t|apply e_h|refine e_o rfl ?_|apply r_t|apply r_b|apply g_cl|exact st_sadd qL|exact st_slen|exact st_sidx qL|exact st_sto qL|exact st_sfrom qL|exact st_nilc|exact st_add' qL|exact st_move'|exact st_assign'|exact st_load'|exact st_and_t'|exact st_and_f'|exact st_lss' qG|exact st_leq' qG|exact st_geq' qG|exact st_len'|exact st_loadE'|exact Cv.rfl'|intro _
 ·obtain rfl:i=(l.takeWhile isD).length:=qO
  have hs:0≤(((l.takeWhile isD).length:Nat):Int)∧(((l.takeWhile isD).length:Nat):Int)≤(l.length:Int):=⟨by omega,by omega⟩
  have e1:l.take (((l.takeWhile isD).length:Nat):Int).toNat=l.takeWhile isD:=hp1
  have e2:l.drop (((l.takeWhile isD).length:Nat):Int).toNat=l.dropWhile isD:=hp2
  rw [←e1,←e2]
  clear e1 e2 hp1 hp2
  have hcs:decide ((((l.takeWhile isD).length:Nat):Int)<(l.length:Int))=false∨(decide ((((l.takeWhile isD).length:Nat):Int)<(l.length:Int))=true∧∃ c:UInt8,(0≤(((l.takeWhile isD).length:Nat):Int)∧l[(((l.takeWhile isD).length:Nat):Int).toNat]? =some c)∧(decide ((48:Int)≤(c.toNat:Int))=false∨decide ((48:Int)≤(c.toNat:Int))=true∧decide ((c.toNat:Int)≤57)=false)):=by
   by_cases hq:(l.takeWhile isD).length<l.length
   ·obtain ⟨c,hx,hd⟩:=takeW_end hq
    exact .inr ⟨decide_eq_true qO,c,⟨by omega,hx⟩,(isD_two hd).imp And.left id⟩
   ·exact .inl (decide_eq_false qO)
  generalize (((l.takeWhile isD).length:Nat):Int)=j at*
  rcases hcs with hc|⟨hc,c,hx,c1|⟨c1,c2⟩⟩
  all_goals
   refine g_of h ?_
   clear h
   repeat' first|kernel_rfl|apply g_seq|apply g_reg|apply g_nil|apply g_box|apply g_all|apply g_stf|apply g_stw|apply g_sto|apply g_asg|refine g_run rfl inferInstance (by first|exact st_sidx (by assumption)|exact st_nilc|exact st_move'|exact st_load'|exact st_leq' (by first|assumption|rfl)|exact st_geq' (by first|assumption|rfl)|exact st_loadE') qK ?_|refine g_sk rfl inferInstance rfl qK ?_|refine g_un rfl inferInstance qK ?_|apply g_st|apply g_skip|apply g_ct|apply g_cf|apply g_ret|refine rp_1 rfl hm ?_|apply g_blk|apply g_eb|apply g_ex|apply e_t|apply e_h|refine e_o rfl ?_|apply r_t|apply r_b|apply g_cl|exact st_sadd qL|exact st_slen|exact st_sidx qL|exact st_sto qL|exact st_sfrom qL|exact st_nilc|exact st_add' qL|exact st_move'|exact st_assign'|exact st_load'|exact st_and_t'|exact st_and_f'|exact st_lss' qG|exact st_leq' qG|exact st_geq' qG|exact st_len'|exact st_loadE'|exact Cv.rfl'|intro _
theorem dropW_nil {p:UInt8→Bool}:∀ {l:List UInt8},l.dropWhile p=[]↔l.all p=true
 |[]=>by simp
 |c::l=>by
  rw [List.dropWhile_cons,List.all_cons]
  cases p c with
  |true=>simpa using dropW_nil (l:=l)
  |false=>simp
theorem trim_nil (l:List UInt8):(Lib.trimB l 48==[])=al0 l:=by
 rw [Bool.eq_iff_iff,beq_iff_eq]
 unfold Lib.trimB Lib.trimLeftB Lib.trimRightB al0
 rw [dropW_nil,List.all_reverse]
 constructor
 ·intro h
  rw [←List.all_reverse]
  rw [←List.takeWhile_append_dropWhile (p:=(· ==(48:UInt8))) (l:=l.reverse),List.all_append,h,Bool.and_true,List.all_eq_true]
  exact takeWhile_all
 ·intro h
  rw [←List.all_reverse] at h
  rw [dropW_nil.2 h]
  rfl
theorem c_nought {n:Bool} {a b:List UInt8} (ha:a.length≤9223372036854775807) (hb:b.length≤9223372036854775807):Ctr Tryz.prog S1 165 [0] [.is (.agg #[.bool n,Tx a,Tx b])] (fun _=> .is (.bool (al0 a&&al0 b))):=by
 have e1:=trim_nil a
 have e2:=trim_nil b
 generalize al0 a=u at*
 generalize al0 b=v at*
 cases u
 all_goals
  refine ctr Tryz.func165 rfl Tryz.ntmps165 qE (fun _ _=>by kernel_rfl) fun X w hE=> ?_
  simp only [argE,Nat.zero_add,Nat.reduceAdd]
  repeat' first|kernel_rfl|apply g_seq|apply g_reg|apply g_nil|apply g_box|apply g_all|apply g_stf|apply g_stw|apply g_sto|apply g_asg|refine g_run rfl inferInstance (by first|exact sc trivial (c_trim qL)|exact st_seq qG|exact st_load'|exact st_fieldAddr'|exact st_eq' qG|exact st_loadE') qK ?_|refine g_sk rfl inferInstance rfl qK ?_|refine g_un rfl inferInstance qK ?_|apply g_st|apply g_skip|apply g_ct|apply g_cf|apply g_ret|refine r_1 rfl ?_|apply g_cl|exact sc trivial (c_trim qL)|exact st_seq qG|exact st_move'|exact st_assign'|exact st_load'|exact st_fieldAddr'|exact st_and_t'|exact st_and_f'|exact st_eq' qG|exact st_loadE'|exact Cv.rfl'|intro _
end Go.Proofs.YtfepenpngklogaaGreatDoor
