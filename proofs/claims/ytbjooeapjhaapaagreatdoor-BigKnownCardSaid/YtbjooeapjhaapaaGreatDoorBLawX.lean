/- tallagelaw03.BigKnown: each law as a step; rows of three numbers; texts put together. -/
import Derived.Test.YtbjooeapjhaapaaGreatDoorBLawE
import Derived.Test.YtbjooeapjhaapaaGreatDoorBLawT
import Derived.Test.YtbjooeapjhaapaaGreatDoorBLawS
import Derived.Test.YtbjooeapjhaapaaGreatDoorBLawR
namespace Go.Proofs.YtbjooeapjhaapaaGreatDoor
open Go Go.RowKit

theorem en_reckons : Enters Tryz.prog 3 := fun _ _ => by kernel_rfl
theorem en_back : Enters Tryz.prog 6 := fun _ _ => by kernel_rfl
theorem en_sums : Enters Tryz.prog 5 := fun _ _ => by kernel_rfl
theorem en_texts : Enters Tryz.prog 4 := fun _ _ => by kernel_rfl
/-- A number, right or not, readable. -/
def STy.any1 : STy := ⟨fun w v => ∃ s A n c xs, v = .agg #[.bool s, .slice A n c] ∧ Sl .u32 w w.heap.size A n c xs ∧ Dg 4294967296 xs, fun ⟨s, A, n, c, xs, e, h, d⟩ hb => ⟨s, A, n, c, xs, e, (h.below hb (Nat.le_refl _)).more hb.size, d⟩⟩
/-- A row of numbers, right or not, readable. -/
def STy.anys : STy := ⟨fun w v => ∃ A n c l, v = .slice A n c ∧ SlB w w.heap.size A n c l ∧ ∀ p ∈ l, Dg 4294967296 p.2, fun ⟨A, n, c, l, e, h, d⟩ hb => ⟨A, n, c, l, e, (h.below hb (Nat.le_refl _)).more hb.size, d⟩⟩
/-- Any text. -/
def STy.str : STy := ⟨fun _ v => ∃ t : ByteArray, v = .string t, fun h _ => h⟩
theorem num_any {N : Int} {L : Nat} {w : World} {v : Value} (h : (STy.num N L).holds w v) : STy.any1.holds w v := by
  obtain ⟨s, A, n, c, e, xs, hW, hs, _⟩ := h
  exact ⟨s, A, n, c, xs, e, hs, hW.row.dg⟩
section
variable {E : List (Nat × STy)} {w0 : World} {d : Nat} {ty : TypeId} {pos : String} {af : Array Edge} {gd : Option (Nat × Bool)} {ats : Array TypeId} {o0 o1 o2 : Operand}
theorem sk_reckons (h0 : OpHas E o0 STy.any1.holds) (h1 : OpHas E o1 STy.any1.holds) (hE : Env w0) (hd : ∀ w, (slotTy E d).holds w (.bool true)) :
    OpStep Tryz.prog E w0 ⟨some d, .call { callee := .value (.func 3), args := #[o0, o1], argTypes := ats }, ty, pos, af, gd⟩ :=
  st_call2 en_reckons h0 h1 fun W v0 v1 hb k0 k1 => by
    obtain ⟨s, A, n, c, xs, rfl, s0, d0⟩ := k0
    obtain ⟨t, A1, m, c1, ys, rfl, s1, d1⟩ := k1
    refine (BigReckons_any s0 s1 (Nat.le_refl _) (hE.below hb) d0 d1).mono ?_
    rintro e w' ⟨rfl, hb2⟩
    exact ⟨⟨_, rfl, hd _⟩, hb2⟩
theorem sk_back (h0 : OpHas E o0 STy.any1.holds) (h1 : OpHas E o1 STy.any1.holds) (h2 : OpHas E o2 STy.any1.holds) (hE : Env w0) (hd : ∀ w, (slotTy E d).holds w (.bool true)) :
    OpStep Tryz.prog E w0 ⟨some d, .call { callee := .value (.func 6), args := #[o0, o1, o2], argTypes := ats }, ty, pos, af, gd⟩ :=
  st_call3 en_back h0 h1 h2 fun W v0 v1 v2 hb k0 k1 k2 => by
    obtain ⟨s, A, n, c, xs, rfl, s0, d0⟩ := k0
    obtain ⟨t, A1, m, c1, ys, rfl, s1, d1⟩ := k1
    obtain ⟨u, A2, q, c2, zs, rfl, s2, d2⟩ := k2
    refine (BigBack_any s0 s1 s2 (Nat.le_refl _) (hE.below hb) d0 d1 d2).mono ?_
    rintro e w' ⟨rfl, hb2⟩
    exact ⟨⟨_, rfl, hd _⟩, hb2⟩
theorem sk_sums (h0 : OpHas E o0 STy.anys.holds) (hE : Env w0) (hd : ∀ w, (slotTy E d).holds w (.bool true)) :
    OpStep Tryz.prog E w0 ⟨some d, .call { callee := .value (.func 5), args := #[o0], argTypes := ats }, ty, pos, af, gd⟩ :=
  st_call1 en_sums h0 fun W v0 hb k0 => by
    obtain ⟨A, n, c, l, rfl, s0, d0⟩ := k0
    refine (BigSums_any s0 (Nat.le_refl _) (hE.below hb) d0).mono ?_
    rintro e w' ⟨rfl, hb2⟩
    exact ⟨⟨_, rfl, hd _⟩, hb2⟩
theorem sk_texts {k : Int} (h0 : OpHas E o0 STy.any1.holds) (h1 : OpHas E o1 STy.str.holds) (h2 : OpIs E o2 (.int .i64 k)) (hk : -9223372036854775808 ≤ k ∧ k ≤ 9223372036854775807) (hE : Env w0) (hd : ∀ w, (slotTy E d).holds w (.bool true)) :
    OpStep Tryz.prog E w0 ⟨some d, .call { callee := .value (.func 4), args := #[o0, o1, o2], argTypes := ats }, ty, pos, af, gd⟩ :=
  st_call3 en_texts h0 h1 h2.has fun W v0 v1 v2 hb k0 k1 k2 => by
    obtain ⟨s, A, n, c, xs, rfl, s0, d0⟩ := k0
    obtain ⟨t, rfl⟩ := k1
    subst k2
    refine (BigTexts_any s0 (Nat.le_refl _) (hE.below hb) d0 hk).mono ?_
    rintro e w' ⟨rfl, hb2⟩
    exact ⟨⟨_, rfl, hd _⟩, hb2⟩
end
end Go.Proofs.YtbjooeapjhaapaaGreatDoor
