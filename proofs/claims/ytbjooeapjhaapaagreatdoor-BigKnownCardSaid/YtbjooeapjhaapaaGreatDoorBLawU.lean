/- tallagelaw03.BigReckons: what both divisions answer is one; a number as the reference has it, in new memory. -/
import Derived.Test.YtbjooeapjhaapaaGreatDoorBLawQ
namespace Go.Proofs.YtbjooeapjhaapaaGreatDoor
open Go Go.RowKit

/-- A number as the reference has it, limb by limb, in new memory. -/
def STy.refO (S : Nat) (s : Bool) (xs : List Int) : STy := ⟨fun w v => ∃ A n c, v = .agg #[.bool s, .slice A n c] ∧ Own .u32 66 w S A n c xs, fun ⟨A, n, c, e, h⟩ hb => ⟨A, n, c, e, h.below hb⟩⟩
section
variable {E : List (Nat × STy)} {w0 : World} {d : Nat} {ty : TypeId} {pos : String} {af : Array Edge} {gd : Option (Nat × Bool)} {ats : Array TypeId}
theorem sn_refO {o0 : Operand} {s : Bool} {A : Option Addr} {n c : Nat} {xs : List Int} (h0 : OpIs E o0 (.agg #[.bool s, .slice A n c])) (hs : Sl .u32 w0 w0.heap.size A n c xs) (hn : n ≤ 30) (hd : ∀ w v, (STy.refO w0.heap.size s xs).holds w v → (slotTy E d).holds w v) :
    OpStep Tryz.prog E w0 ⟨some d, .call { callee := .value (.func 9), args := #[o0], argTypes := ats }, ty, pos, af, gd⟩ :=
  st_call1 en_ref (T0 := fun _ v => v = .agg #[.bool s, .slice A n c]) h0.has fun W v0 hb k0 => by
    subst k0
    refine (bref_any (hs.below hb (Nat.le_refl _)) hb.size (by omega)).mono ?_
    rintro e w' ⟨A5, n5, c5, rfl, ho, hb2⟩
    exact ⟨⟨_, rfl, hd _ _ ⟨A5, n5, c5, rfl, ho.lower hb.size⟩⟩, hb2⟩
end
/-- What a division answers: two numbers in new memory, apart, and an error's number. -/
def DivOut (w : World) (s1 : Bool) (qs : List Int) (s2 : Bool) (rs : List Int) (er : Int) (e : Ending) (w' : World) : Prop :=
  ∃ A1 n1 c1 A2 n2 c2, e = .returned (.tuple #[.agg #[.bool s1, .slice A1 n1 c1], .agg #[.bool s2, .slice A2 n2 c2], .int .i64 er]) ∧ Own .u32 66 w' w.heap.size A1 n1 c1 qs ∧ Own .u32 66 w' w.heap.size A2 n2 c2 rs ∧ Below w.heap.size w w'
theorem div_out (a b : Int) : ∃ s1 qs s2 rs er, (∀ w e w', Div3 w a b e w' → DivOut w s1 qs s2 rs er e w') ∧ (∀ w e w', DivB w a b e w' → DivOut w s1 qs s2 rs er e w' ∧ ∀ A1 n1 c1 A2 n2 c2, e = .returned (.tuple #[.agg #[.bool s1, .slice A1 n1 c1], .agg #[.bool s2, .slice A2 n2 c2], .int .i64 er]) → Sep A1 A2) := by
  by_cases hb : b = 0
  · refine ⟨false, [], false, [], 20, ?_, ?_⟩
    · rintro w e w' (⟨_, rfl, h⟩ | ⟨h, _⟩)
      · exact ⟨none, 0, 0, none, 0, 0, rfl, Own.nil, Own.nil, h⟩
      · exact absurd hb h
    · rintro w e w' (⟨_, rfl, h⟩ | ⟨h, _⟩)
      · refine ⟨⟨none, 0, 0, none, 0, 0, rfl, Own.nil, Own.nil, h⟩, ?_⟩
        rintro A1 n1 c1 A2 n2 c2 he
        obtain rfl : none = A1 := by injection he with he; simp_all
        exact .inl rfl
      · exact absurd hb h
  · by_cases hex : ∃ s1 qs s2 rs, Whole (a.fdiv b) s1 qs ∧ Whole (a.fmod b) s2 rs
    · obtain ⟨s1, qs, s2, rs, hq, hr⟩ := hex
      refine ⟨s1, qs, s2, rs, 0, ?_, ?_⟩
      · rintro w e w' (⟨h, _⟩ | ⟨_, t1, ps, t2, us, A1, n1, c1, A2, n2, c2, rfl, h1, h2, o1, o2, h⟩)
        · exact absurd h hb
        · obtain ⟨rfl, rfl⟩ := hq.uniq h1
          obtain ⟨rfl, rfl⟩ := hr.uniq h2
          exact ⟨A1, n1, c1, A2, n2, c2, rfl, o1, o2, h⟩
      · rintro w e w' (⟨h, _⟩ | ⟨_, t1, ps, t2, us, A1, n1, c1, A2, n2, c2, rfl, h1, h2, o1, o2, hs, h⟩)
        · exact absurd h hb
        · obtain ⟨rfl, rfl⟩ := hq.uniq h1
          obtain ⟨rfl, rfl⟩ := hr.uniq h2
          refine ⟨⟨A1, n1, c1, A2, n2, c2, rfl, o1, o2, h⟩, ?_⟩
          rintro B1 m1 k1 B2 m2 k2 he
          obtain ⟨rfl, rfl⟩ : A1 = B1 ∧ A2 = B2 := by injection he with he; simp_all
          exact hs
    · refine ⟨false, [], false, [], 0, ?_, ?_⟩
      · rintro w e w' (⟨h, _⟩ | ⟨_, t1, ps, t2, us, A1, n1, c1, A2, n2, c2, rfl, h1, h2, o1, o2, h⟩)
        · exact absurd h hb
        · exact absurd ⟨_, _, _, _, h1, h2⟩ hex
      · rintro w e w' (⟨h, _⟩ | ⟨_, t1, ps, t2, us, A1, n1, c1, A2, n2, c2, rfl, h1, h2, o1, o2, hs, h⟩)
        · exact absurd h hb
        · exact absurd ⟨_, _, _, _, h1, h2⟩ hex
end Go.Proofs.YtbjooeapjhaapaaGreatDoor
