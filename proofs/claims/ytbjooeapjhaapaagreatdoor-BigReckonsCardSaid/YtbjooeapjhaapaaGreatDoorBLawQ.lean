/- tallagelaw03.BigReckons: steps: numbers of the call's own, which differ; and what is asked of the arguments. -/
import Derived.Test.YtbjooeapjhaapaaGreatDoorBStepE
import Derived.Test.YtbjooeapjhaapaaGreatDoorTypedN
import Derived.Test.YtbjooeapjhaapaaGreatDoorBRefD
import Derived.Test.YtbjooeapjhaapaaGreatDoorBRefW
import Derived.Test.YtbjooeapjhaapaaGreatDoorBRefU
import Derived.Test.YtbjooeapjhaapaaGreatDoorBRefY
namespace Go.Proofs.YtbjooeapjhaapaaGreatDoor
open Go Go.RowKit

theorem newI_lt {S : Nat} {N : Int} : ∀ w v, (STy.newI S N).holds w v → ∀ g, bkV v = some g → g < w.heap.size := by
  rintro w v ⟨s, ys, A, n, c, rfl, _, ho⟩ g hg
  exact (ho.blk_ g hg).2
def NewLts (E : List (Nat × STy)) (fl : List Nat) : List Oper → Prop
  | [] => True
  | o :: l => (fl.elem (dstD o) = true → ∀ w v, (slotTy E (dstD o)).holds w v → ∀ g, bkV v = some g → g < w.heap.size) ∧ NewLts E fl l
theorem NewLts.of {E : List (Nat × STy)} {fl : List Nat} : ∀ {l : List Oper}, NewLts E fl l → NewLt E fl l
  | [], _ => fun o ho => by cases ho
  | o :: l, h => fun o' ho hf => by
    rcases List.mem_cons.1 ho with rfl | ho
    · exact h.1 (by simpa using hf)
    · exact NewLts.of h.2 o' ho hf
theorem NewLts.nil {E : List (Nat × STy)} {fl : List Nat} : NewLts E fl [] := trivial
theorem NewLts.skip {E : List (Nat × STy)} {fl : List Nat} {o : Oper} {l : List Oper} (h : fl.elem (dstD o) = false) (t : NewLts E fl l) : NewLts E fl (o :: l) := ⟨(fun h' => by rw [h] at h'; cases h'), t⟩
theorem NewLts.run {E : List (Nat × STy)} {fl : List Nat} {o : Oper} {l : List Oper} (h : ∀ w v, (slotTy E (dstD o)).holds w v → ∀ g, bkV v = some g → g < w.heap.size) (t : NewLts E fl l) : NewLts E fl (o :: l) := ⟨fun _ => h, t⟩
def NewOks (P : Program) (E : List (Nat × STy)) (w0 : World) (fl : List Nat) : List Oper → Prop
  | [] => True
  | o :: l => (fl.elem (dstD o) = true → OpNew P E w0 o) ∧ NewOks P E w0 fl l
theorem NewOks.of {P : Program} {E : List (Nat × STy)} {w0 : World} {fl : List Nat} : ∀ {l : List Oper}, NewOks P E w0 fl l → NewOk P E w0 fl l
  | [], _ => fun o ho => by cases ho
  | o :: l, h => fun o' ho hf => by
    rcases List.mem_cons.1 ho with rfl | ho
    · exact h.1 (by simpa using hf)
    · exact NewOks.of h.2 o' ho hf
theorem NewOks.nil {P : Program} {E : List (Nat × STy)} {w0 : World} {fl : List Nat} : NewOks P E w0 fl [] := trivial
theorem NewOks.skip {P : Program} {E : List (Nat × STy)} {w0 : World} {fl : List Nat} {o : Oper} {l : List Oper} (h : fl.elem (dstD o) = false) (t : NewOks P E w0 fl l) : NewOks P E w0 fl (o :: l) := ⟨(fun h' => by rw [h] at h'; cases h'), t⟩
theorem NewOks.run {P : Program} {E : List (Nat × STy)} {w0 : World} {fl : List Nat} {o : Oper} {l : List Oper} (h : OpNew P E w0 o) (t : NewOks P E w0 fl l) : NewOks P E w0 fl (o :: l) := ⟨fun _ => h, t⟩
section
variable {P : Program} {E : List (Nat × STy)} {w0 : World} {d : Nat} {ty : TypeId} {pos : String} {af : Array Edge} {gd : Option (Nat × Bool)} {ats : Array TypeId} {f : Nat} {o0 o1 : Operand} {T0 T1 : World → Value → Prop} {N : Int}
theorem on_call1 (hcf : Enters P f) (h0 : OpHas E o0 T0) (hcall : ∀ w v0, Below w0.heap.size w0 w → T0 w v0 → Calls P f #[v0] w (NewI w N)) (hd : ∀ w v, (STy.newI w0.heap.size N).holds w v → (slotTy E d).holds w v) :
    OpNew P E w0 ⟨some d, .call { callee := .value (.func f), args := #[o0], argTypes := ats }, ty, pos, af, gd⟩ := by
  refine ⟨fun T h => (nomatch h), ?_⟩
  intro ρ w hc hf hb hs
  have e0 := OpHas.at_ hc hs (o := o0) (by simp [Op.operands, Call.operands]) h0
  have hr : (execOp ρ ⟨some d, .call { callee := .value (.func f), args := #[o0], argTypes := ats }, ty, pos, af, gd⟩).run P w = .ok (.enter f #[ρ o0]) w := by
    have hff := hf f
    clear h0 hs hcall hb e0 hd
    go_simp
    exact hcf _ _
  unfold Yields
  rw [hr]
  refine (hcall w _ hb e0).mono ?_
  rintro e w' ⟨s, ys, A, n, c, hW, rfl, ho, hb2⟩
  exact ⟨_, rfl, ⟨hd _ _ ⟨s, ys, A, n, c, rfl, hW, ho.lower hb.size⟩, hb2⟩, fun g hg => (ho.blk_ g hg).1⟩
theorem on_call2 (hcf : Enters P f) (h0 : OpHas E o0 T0) (h1 : OpHas E o1 T1) (hcall : ∀ w v0 v1, Below w0.heap.size w0 w → T0 w v0 → T1 w v1 → Calls P f #[v0, v1] w (NewI w N)) (hd : ∀ w v, (STy.newI w0.heap.size N).holds w v → (slotTy E d).holds w v) :
    OpNew P E w0 ⟨some d, .call { callee := .value (.func f), args := #[o0, o1], argTypes := ats }, ty, pos, af, gd⟩ := by
  refine ⟨fun T h => (nomatch h), ?_⟩
  intro ρ w hc hf hb hs
  have e0 := OpHas.at_ hc hs (o := o0) (by simp [Op.operands, Call.operands]) h0
  have e1 := OpHas.at_ hc hs (o := o1) (by simp [Op.operands, Call.operands]) h1
  have hr : (execOp ρ ⟨some d, .call { callee := .value (.func f), args := #[o0, o1], argTypes := ats }, ty, pos, af, gd⟩).run P w = .ok (.enter f #[ρ o0, ρ o1]) w := by
    have hff := hf f
    clear h0 h1 hs hcall hb e0 e1 hd
    go_simp
    exact hcf _ _
  unfold Yields
  rw [hr]
  refine (hcall w _ _ hb e0 e1).mono ?_
  rintro e w' ⟨s, ys, A, n, c, hW, rfl, ho, hb2⟩
  exact ⟨_, rfl, ⟨hd _ _ ⟨s, ys, A, n, c, rfl, hW, ho.lower hb.size⟩, hb2⟩, fun g hg => (ho.blk_ g hg).1⟩
end
theorem en3_add : Enters Tryz.prog 17 := fun _ _ => by kernel_rfl
theorem en3_sub : Enters Tryz.prog 18 := fun _ _ => by kernel_rfl
theorem en3_mul : Enters Tryz.prog 19 := fun _ _ => by kernel_rfl
theorem en3_gcd : Enters Tryz.prog 22 := fun _ _ => by kernel_rfl
theorem en3_neg : Enters Tryz.prog 20 := fun _ _ => by kernel_rfl
theorem en3_abs : Enters Tryz.prog 21 := fun _ _ => by kernel_rfl
theorem en3_right : Enters Tryz.prog 27 := fun _ _ => by kernel_rfl
theorem en3_cmp : Enters Tryz.prog 29 := fun _ _ => by kernel_rfl
theorem en3_sign : Enters Tryz.prog 31 := fun _ _ => by kernel_rfl
theorem en3_div : Enters Tryz.prog 10 := fun _ _ => by kernel_rfl
theorem en_spoil : Enters Tryz.prog 25 := fun _ _ => by kernel_rfl
section
variable {E : List (Nat × STy)} {w0 : World} {d : Nat} {ty : TypeId} {pos : String} {af : Array Edge} {gd : Option (Nat × Bool)} {ats : Array TypeId} {o0 o1 : Operand} {s t : Bool} {A A2 : Option Addr} {n c m c2 : Nat} {xs ys : List Int}
theorem onb_add (h0 : OpIs E o0 (.agg #[.bool s, .slice A n c])) (h1 : OpIs E o1 (.agg #[.bool t, .slice A2 m c2])) (s0 : Sl .u32 w0 w0.heap.size A n c xs) (s1 : Sl .u32 w0 w0.heap.size A2 m c2 ys) (d0 : Dg 4294967296 xs) (d1 : Dg 4294967296 ys) (hn : n ≤ 30) (hm : m ≤ 30) (hd : ∀ w v, (STy.newI w0.heap.size (ival s xs + ival t ys)).holds w v → (slotTy E d).holds w v) :
    OpNew Tryz.prog E w0 ⟨some d, .call { callee := .value (.func 11), args := #[o0, o1], argTypes := ats }, ty, pos, af, gd⟩ :=
  on_call2 en_add (T0 := fun _ v => v = .agg #[.bool s, .slice A n c]) (T1 := fun _ v => v = .agg #[.bool t, .slice A2 m c2]) h0.has h1.has (fun W v0 v1 hb k0 k1 => by
    subst k0
    subst k1
    exact badd_any (s0.below hb (Nat.le_refl _)) (s1.below hb (Nat.le_refl _)) hb.size d0 d1 (by omega) (by omega)) hd
theorem onb_sub (h0 : OpIs E o0 (.agg #[.bool s, .slice A n c])) (h1 : OpIs E o1 (.agg #[.bool t, .slice A2 m c2])) (s0 : Sl .u32 w0 w0.heap.size A n c xs) (s1 : Sl .u32 w0 w0.heap.size A2 m c2 ys) (d0 : Dg 4294967296 xs) (d1 : Dg 4294967296 ys) (hn : n ≤ 30) (hm : m ≤ 30) (hd : ∀ w v, (STy.newI w0.heap.size (ival s xs - ival t ys)).holds w v → (slotTy E d).holds w v) :
    OpNew Tryz.prog E w0 ⟨some d, .call { callee := .value (.func 12), args := #[o0, o1], argTypes := ats }, ty, pos, af, gd⟩ :=
  on_call2 en_sub (T0 := fun _ v => v = .agg #[.bool s, .slice A n c]) (T1 := fun _ v => v = .agg #[.bool t, .slice A2 m c2]) h0.has h1.has (fun W v0 v1 hb k0 k1 => by
    subst k0
    subst k1
    exact bsub_any (s0.below hb (Nat.le_refl _)) (s1.below hb (Nat.le_refl _)) hb.size d0 d1 (by omega) (by omega)) hd
theorem onb_mul (h0 : OpIs E o0 (.agg #[.bool s, .slice A n c])) (h1 : OpIs E o1 (.agg #[.bool t, .slice A2 m c2])) (s0 : Sl .u32 w0 w0.heap.size A n c xs) (s1 : Sl .u32 w0 w0.heap.size A2 m c2 ys) (d0 : Dg 4294967296 xs) (d1 : Dg 4294967296 ys) (hn : n ≤ 30) (hm : m ≤ 30) (hd : ∀ w v, (STy.newI w0.heap.size (ival s xs * ival t ys)).holds w v → (slotTy E d).holds w v) :
    OpNew Tryz.prog E w0 ⟨some d, .call { callee := .value (.func 13), args := #[o0, o1], argTypes := ats }, ty, pos, af, gd⟩ :=
  on_call2 en_mul (T0 := fun _ v => v = .agg #[.bool s, .slice A n c]) (T1 := fun _ v => v = .agg #[.bool t, .slice A2 m c2]) h0.has h1.has (fun W v0 v1 hb k0 k1 => by
    subst k0
    subst k1
    exact bmul_any (s0.below hb (Nat.le_refl _)) (s1.below hb (Nat.le_refl _)) hb.size d0 d1 (by omega) (by omega)) hd
theorem onb_gcd (h0 : OpIs E o0 (.agg #[.bool s, .slice A n c])) (h1 : OpIs E o1 (.agg #[.bool t, .slice A2 m c2])) (s0 : Sl .u32 w0 w0.heap.size A n c xs) (s1 : Sl .u32 w0 w0.heap.size A2 m c2 ys) (d0 : Dg 4294967296 xs) (d1 : Dg 4294967296 ys) (hE : Env w0) (hn : n ≤ 30) (hm : m ≤ 30) (hd : ∀ w v, (STy.newI w0.heap.size (gcdI ((ival s xs).natAbs : Int) ((ival t ys).natAbs : Int))).holds w v → (slotTy E d).holds w v) :
    OpNew Tryz.prog E w0 ⟨some d, .call { callee := .value (.func 16), args := #[o0, o1], argTypes := ats }, ty, pos, af, gd⟩ :=
  on_call2 en_gcd (T0 := fun _ v => v = .agg #[.bool s, .slice A n c]) (T1 := fun _ v => v = .agg #[.bool t, .slice A2 m c2]) h0.has h1.has (fun W v0 v1 hb k0 k1 => by
    subst k0
    subst k1
    exact bgcd_any (s0.below hb (Nat.le_refl _)) (s1.below hb (Nat.le_refl _)) hb.size (hE.below hb).half (hE.below hb).hz d0 d1 (by omega) (by omega)) hd
theorem onb_neg (h0 : OpIs E o0 (.agg #[.bool s, .slice A n c])) (s0 : Sl .u32 w0 w0.heap.size A n c xs) (d0 : Dg 4294967296 xs) (hn : n ≤ 30) (hd : ∀ w v, (STy.newI w0.heap.size (-ival s xs)).holds w v → (slotTy E d).holds w v) :
    OpNew Tryz.prog E w0 ⟨some d, .call { callee := .value (.func 14), args := #[o0], argTypes := ats }, ty, pos, af, gd⟩ :=
  on_call1 en_neg (T0 := fun _ v => v = .agg #[.bool s, .slice A n c]) h0.has (fun W v0 hb k0 => by
    subst k0
    exact bneg_any (s0.below hb (Nat.le_refl _)) hb.size d0 (by omega)) hd
theorem onb_abs (h0 : OpIs E o0 (.agg #[.bool s, .slice A n c])) (s0 : Sl .u32 w0 w0.heap.size A n c xs) (d0 : Dg 4294967296 xs) (hn : n ≤ 30) (hd : ∀ w v, (STy.newI w0.heap.size (((ival s xs).natAbs : Int))).holds w v → (slotTy E d).holds w v) :
    OpNew Tryz.prog E w0 ⟨some d, .call { callee := .value (.func 15), args := #[o0], argTypes := ats }, ty, pos, af, gd⟩ :=
  on_call1 en_abs (T0 := fun _ v => v = .agg #[.bool s, .slice A n c]) h0.has (fun W v0 hb k0 => by
    subst k0
    exact babs_any (s0.below hb (Nat.le_refl _)) hb.size d0 (by omega)) hd
theorem on3_add (h0 : OpIs E o0 (.agg #[.bool s, .slice A n c])) (h1 : OpIs E o1 (.agg #[.bool t, .slice A2 m c2])) (s0 : Sl .u32 w0 w0.heap.size A n c xs) (s1 : Sl .u32 w0 w0.heap.size A2 m c2 ys) (d0 : Dg 4294967296 xs) (d1 : Dg 4294967296 ys) (hn : n ≤ 30) (hm : m ≤ 30) (hd : ∀ w v, (STy.newI w0.heap.size (ival s xs + ival t ys)).holds w v → (slotTy E d).holds w v) :
    OpNew Tryz.prog E w0 ⟨some d, .call { callee := .value (.func 17), args := #[o0, o1], argTypes := ats }, ty, pos, af, gd⟩ :=
  on_call2 en3_add (T0 := fun _ v => v = .agg #[.bool s, .slice A n c]) (T1 := fun _ v => v = .agg #[.bool t, .slice A2 m c2]) h0.has h1.has (fun W v0 v1 hb k0 k1 => by
    subst k0
    subst k1
    exact add3_any (s0.below hb (Nat.le_refl _)) (s1.below hb (Nat.le_refl _)) hb.size d0 d1 (by omega) (by omega)) hd
theorem on3_sub (h0 : OpIs E o0 (.agg #[.bool s, .slice A n c])) (h1 : OpIs E o1 (.agg #[.bool t, .slice A2 m c2])) (s0 : Sl .u32 w0 w0.heap.size A n c xs) (s1 : Sl .u32 w0 w0.heap.size A2 m c2 ys) (d0 : Dg 4294967296 xs) (d1 : Dg 4294967296 ys) (hn : n ≤ 30) (hm : m ≤ 30) (hd : ∀ w v, (STy.newI w0.heap.size (ival s xs - ival t ys)).holds w v → (slotTy E d).holds w v) :
    OpNew Tryz.prog E w0 ⟨some d, .call { callee := .value (.func 18), args := #[o0, o1], argTypes := ats }, ty, pos, af, gd⟩ :=
  on_call2 en3_sub (T0 := fun _ v => v = .agg #[.bool s, .slice A n c]) (T1 := fun _ v => v = .agg #[.bool t, .slice A2 m c2]) h0.has h1.has (fun W v0 v1 hb k0 k1 => by
    subst k0
    subst k1
    exact sub3_any (s0.below hb (Nat.le_refl _)) (s1.below hb (Nat.le_refl _)) hb.size d0 d1 (by omega) (by omega)) hd
theorem on3_mul (h0 : OpIs E o0 (.agg #[.bool s, .slice A n c])) (h1 : OpIs E o1 (.agg #[.bool t, .slice A2 m c2])) (s0 : Sl .u32 w0 w0.heap.size A n c xs) (s1 : Sl .u32 w0 w0.heap.size A2 m c2 ys) (d0 : Dg 4294967296 xs) (d1 : Dg 4294967296 ys) (hn : n ≤ 30) (hm : m ≤ 30) (hd : ∀ w v, (STy.newI w0.heap.size (ival s xs * ival t ys)).holds w v → (slotTy E d).holds w v) :
    OpNew Tryz.prog E w0 ⟨some d, .call { callee := .value (.func 19), args := #[o0, o1], argTypes := ats }, ty, pos, af, gd⟩ :=
  on_call2 en3_mul (T0 := fun _ v => v = .agg #[.bool s, .slice A n c]) (T1 := fun _ v => v = .agg #[.bool t, .slice A2 m c2]) h0.has h1.has (fun W v0 v1 hb k0 k1 => by
    subst k0
    subst k1
    exact mul3_any (s0.below hb (Nat.le_refl _)) (s1.below hb (Nat.le_refl _)) hb.size d0 d1 (by omega) (by omega)) hd
theorem on3_gcd (h0 : OpIs E o0 (.agg #[.bool s, .slice A n c])) (h1 : OpIs E o1 (.agg #[.bool t, .slice A2 m c2])) (s0 : Sl .u32 w0 w0.heap.size A n c xs) (s1 : Sl .u32 w0 w0.heap.size A2 m c2 ys) (d0 : Dg 4294967296 xs) (d1 : Dg 4294967296 ys) (hn : n ≤ 30) (hm : m ≤ 30) (hd : ∀ w v, (STy.newI w0.heap.size (gcdI ((ival s xs).natAbs : Int) ((ival t ys).natAbs : Int))).holds w v → (slotTy E d).holds w v) :
    OpNew Tryz.prog E w0 ⟨some d, .call { callee := .value (.func 22), args := #[o0, o1], argTypes := ats }, ty, pos, af, gd⟩ :=
  on_call2 en3_gcd (T0 := fun _ v => v = .agg #[.bool s, .slice A n c]) (T1 := fun _ v => v = .agg #[.bool t, .slice A2 m c2]) h0.has h1.has (fun W v0 v1 hb k0 k1 => by
    subst k0
    subst k1
    exact gcd3_any (s0.below hb (Nat.le_refl _)) (s1.below hb (Nat.le_refl _)) hb.size d0 d1 (by omega) (by omega)) hd
theorem on3_neg (h0 : OpIs E o0 (.agg #[.bool s, .slice A n c])) (s0 : Sl .u32 w0 w0.heap.size A n c xs) (d0 : Dg 4294967296 xs) (hn : n ≤ 30) (hd : ∀ w v, (STy.newI w0.heap.size (-ival s xs)).holds w v → (slotTy E d).holds w v) :
    OpNew Tryz.prog E w0 ⟨some d, .call { callee := .value (.func 20), args := #[o0], argTypes := ats }, ty, pos, af, gd⟩ :=
  on_call1 en3_neg (T0 := fun _ v => v = .agg #[.bool s, .slice A n c]) h0.has (fun W v0 hb k0 => by
    subst k0
    exact neg3_any (s0.below hb (Nat.le_refl _)) hb.size d0 (by omega)) hd
theorem on3_abs (h0 : OpIs E o0 (.agg #[.bool s, .slice A n c])) (s0 : Sl .u32 w0 w0.heap.size A n c xs) (d0 : Dg 4294967296 xs) (hn : n ≤ 30) (hd : ∀ w v, (STy.newI w0.heap.size (((ival s xs).natAbs : Int))).holds w v → (slotTy E d).holds w v) :
    OpNew Tryz.prog E w0 ⟨some d, .call { callee := .value (.func 21), args := #[o0], argTypes := ats }, ty, pos, af, gd⟩ :=
  on_call1 en3_abs (T0 := fun _ v => v = .agg #[.bool s, .slice A n c]) h0.has (fun W v0 hb k0 => by
    subst k0
    exact abs3_any (s0.below hb (Nat.le_refl _)) hb.size d0 (by omega)) hd
theorem sr_right (h0 : OpIs E o0 (.agg #[.bool s, .slice A n c])) (s0 : Sl .u32 w0 w0.heap.size A n c xs)  (hd : ∀ w, (slotTy E d).holds w (.bool (rgt s xs))) :
    OpStep Tryz.prog E w0 ⟨some d, .call { callee := .value (.func 26), args := #[o0], argTypes := ats }, ty, pos, af, gd⟩ :=
  st_call1 en_right (T0 := fun _ v => v = .agg #[.bool s, .slice A n c]) h0.has fun W v0 hb k0 => by
    subst k0
    refine (bright_any (s0.below hb (Nat.le_refl _)) hb.size).mono ?_
    rintro e w' ⟨rfl, hb2⟩
    exact ⟨⟨_, rfl, hd _⟩, hb2⟩
theorem sr_right3 (h0 : OpIs E o0 (.agg #[.bool s, .slice A n c])) (s0 : Sl .u32 w0 w0.heap.size A n c xs)  (hd : ∀ w, (slotTy E d).holds w (.bool (rgt s xs))) :
    OpStep Tryz.prog E w0 ⟨some d, .call { callee := .value (.func 27), args := #[o0], argTypes := ats }, ty, pos, af, gd⟩ :=
  st_call1 en3_right (T0 := fun _ v => v = .agg #[.bool s, .slice A n c]) h0.has fun W v0 hb k0 => by
    subst k0
    refine (right3_any (s0.below hb (Nat.le_refl _)) hb.size).mono ?_
    rintro e w' ⟨rfl, hb2⟩
    exact ⟨⟨_, rfl, hd _⟩, hb2⟩
theorem sr_cmp (h0 : OpIs E o0 (.agg #[.bool s, .slice A n c])) (h1 : OpIs E o1 (.agg #[.bool t, .slice A2 m c2])) (s0 : Sl .u32 w0 w0.heap.size A n c xs) (s1 : Sl .u32 w0 w0.heap.size A2 m c2 ys) (d0 : Dg 4294967296 xs) (d1 : Dg 4294967296 ys) (hn : n ≤ 30) (hm : m ≤ 30) (hd : ∀ w, (slotTy E d).holds w (.int .i64 (cmpI (ival s xs) (ival t ys)))) :
    OpStep Tryz.prog E w0 ⟨some d, .call { callee := .value (.func 28), args := #[o0, o1], argTypes := ats }, ty, pos, af, gd⟩ :=
  st_call2 en_cmp (T0 := fun _ v => v = .agg #[.bool s, .slice A n c]) (T1 := fun _ v => v = .agg #[.bool t, .slice A2 m c2]) h0.has h1.has fun W v0 v1 hb k0 k1 => by
    subst k0
    subst k1
    refine (bcmp_any (s0.below hb (Nat.le_refl _)) (s1.below hb (Nat.le_refl _)) hb.size d0 d1 (by omega) (by omega)).mono ?_
    rintro e w' ⟨rfl, hb2⟩
    exact ⟨⟨_, rfl, hd _⟩, hb2⟩
theorem sr_cmp3 (h0 : OpIs E o0 (.agg #[.bool s, .slice A n c])) (h1 : OpIs E o1 (.agg #[.bool t, .slice A2 m c2])) (s0 : Sl .u32 w0 w0.heap.size A n c xs) (s1 : Sl .u32 w0 w0.heap.size A2 m c2 ys) (d0 : Dg 4294967296 xs) (d1 : Dg 4294967296 ys) (hn : n ≤ 30) (hm : m ≤ 30) (hd : ∀ w, (slotTy E d).holds w (.int .i64 (cmpI (ival s xs) (ival t ys)))) :
    OpStep Tryz.prog E w0 ⟨some d, .call { callee := .value (.func 29), args := #[o0, o1], argTypes := ats }, ty, pos, af, gd⟩ :=
  st_call2 en3_cmp (T0 := fun _ v => v = .agg #[.bool s, .slice A n c]) (T1 := fun _ v => v = .agg #[.bool t, .slice A2 m c2]) h0.has h1.has fun W v0 v1 hb k0 k1 => by
    subst k0
    subst k1
    refine (cmp3_any (s0.below hb (Nat.le_refl _)) (s1.below hb (Nat.le_refl _)) hb.size d0 d1 (by omega) (by omega)).mono ?_
    rintro e w' ⟨rfl, hb2⟩
    exact ⟨⟨_, rfl, hd _⟩, hb2⟩
theorem sr_sign (h0 : OpIs E o0 (.agg #[.bool s, .slice A n c])) (s0 : Sl .u32 w0 w0.heap.size A n c xs) (d0 : Dg 4294967296 xs) (hn : n ≤ 30) (hd : ∀ w, (slotTy E d).holds w (.int .i64 (cmpI (ival s xs) 0))) :
    OpStep Tryz.prog E w0 ⟨some d, .call { callee := .value (.func 30), args := #[o0], argTypes := ats }, ty, pos, af, gd⟩ :=
  st_call1 en_sign (T0 := fun _ v => v = .agg #[.bool s, .slice A n c]) h0.has fun W v0 hb k0 => by
    subst k0
    refine (bsign_any (s0.below hb (Nat.le_refl _)) hb.size d0 (by omega)).mono ?_
    rintro e w' ⟨rfl, hb2⟩
    exact ⟨⟨_, rfl, hd _⟩, hb2⟩
theorem sr_sign3 (h0 : OpIs E o0 (.agg #[.bool s, .slice A n c])) (s0 : Sl .u32 w0 w0.heap.size A n c xs) (d0 : Dg 4294967296 xs) (hn : n ≤ 30) (hd : ∀ w, (slotTy E d).holds w (.int .i64 (cmpI (ival s xs) 0))) :
    OpStep Tryz.prog E w0 ⟨some d, .call { callee := .value (.func 31), args := #[o0], argTypes := ats }, ty, pos, af, gd⟩ :=
  st_call1 en3_sign (T0 := fun _ v => v = .agg #[.bool s, .slice A n c]) h0.has fun W v0 hb k0 => by
    subst k0
    refine (sign3_any (s0.below hb (Nat.le_refl _)) hb.size d0 (by omega)).mono ?_
    rintro e w' ⟨rfl, hb2⟩
    exact ⟨⟨_, rfl, hd _⟩, hb2⟩
theorem sr_same (h0 : OpIs E o0 (.agg #[.bool s, .slice A n c])) (h1 : OpIs E o1 (.agg #[.bool s, .slice A2 m c2])) (s0 : Sl .u32 w0 w0.heap.size A n c xs) (s1 : Sl .u32 w0 w0.heap.size A2 m c2 xs) (hd : ∀ w, (slotTy E d).holds w (.bool true)) :
    OpStep Tryz.prog E w0 ⟨some d, .call { callee := .value (.func 24), args := #[o0, o1], argTypes := ats }, ty, pos, af, gd⟩ :=
  st_call2 en_same (T0 := fun _ v => v = .agg #[.bool s, .slice A n c]) (T1 := fun _ v => v = .agg #[.bool s, .slice A2 m c2]) h0.has h1.has fun W v0 v1 hb k0 k1 => by
    subst k0
    subst k1
    refine (bsame_true (s0.below hb (Nat.le_refl _)) (s1.below hb (Nat.le_refl _)) hb.size).mono ?_
    rintro e w' ⟨rfl, hb2⟩
    exact ⟨⟨_, rfl, hd _⟩, hb2⟩
end
end Go.Proofs.YtbjooeapjhaapaaGreatDoor
