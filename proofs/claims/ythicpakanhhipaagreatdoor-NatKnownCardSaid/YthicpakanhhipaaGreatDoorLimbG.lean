/- limb: Cmp and Shift once more, as callers want them. -/
import Derived.Test.YthicpakanhhipaaGreatDoorLimbF
namespace Go.Proofs.YthicpakanhhipaaGreatDoor
open Go Go.RowKit

theorem Cmp_eq {w : World} {B : Nat} {A A2 : Option Addr} {n c m c2 : Nat} {xs ys : List Int} (hs : Sl .u32 w B A n c xs) (ht : Sl .u32 w B A2 m c2 ys) (hx : Dg 4294967296 xs) (hy : Dg 4294967296 ys) (h : val 4294967296 xs = val 4294967296 ys) :
    Calls Tryz.prog 34 #[.slice A n c, .slice A2 m c2] w fun e w' => e = .returned (.int .i64 0) ∧ Below w.heap.size w w' := by
  refine (Cmp_any hs ht hx hy).mono ?_
  rintro e w' ⟨hr, q, rfl⟩
  unfold CmpR at hr
  rw [hr, cmpI_eq h]
  exact ⟨rfl, Below.drewN' (Below.refl _ _) q⟩
/-- Not less. -/
def NotLess (e : Ending) : Prop := ∃ v : Int, 0 ≤ v ∧ e = .returned (.int .i64 v)
theorem Cmp_ge {w : World} {B : Nat} {A A2 : Option Addr} {n c m c2 : Nat} {xs ys : List Int} (hs : Sl .u32 w B A n c xs) (ht : Sl .u32 w B A2 m c2 ys) (hx : Dg 4294967296 xs) (hy : Dg 4294967296 ys) (h : val 4294967296 ys ≤ val 4294967296 xs) :
    Calls Tryz.prog 34 #[.slice A n c, .slice A2 m c2] w fun e w' => NotLess e ∧ Below w.heap.size w w' := by
  refine (Cmp_any hs ht hx hy).mono ?_
  rintro e w' ⟨hr, q, rfl⟩
  unfold CmpR at hr
  refine ⟨⟨_, ?_, hr⟩, Below.drewN' (Below.refl _ _) q⟩
  unfold cmpI
  rw [if_neg (by omega)]
  split <;> omega
theorem Shift_up {w : World} {B : Nat} {A : Option Addr} {n c : Nat} {xs : List Int} {m : Nat} (hs : Sl .u32 w B A n c xs) (hB : B ≤ w.heap.size) (hx : Dg 4294967296 xs) (hn : n ≤ 1000000000) (hm : m ≤ 65536) :
    Calls Tryz.prog 55 #[.slice A n c, .int .i64 m] w (NewE w (2 ^ m * val 4294967296 xs)) := by
  refine (Shift_any hs hB hx hn (by omega) (by omega)).mono ?_
  intro e w' h
  unfold ShiftR at h
  rw [if_neg (by omega)] at h
  split at h
  · rename_i h0
    obtain ⟨rfl, hb⟩ := h
    exact ⟨[], none, 0, 0, ⟨Dg.nil, Tr.nil, by rw [h0, Int.mul_zero]; rfl⟩, rfl, Own.nil, hb⟩
  · rw [if_neg (by omega)] at h
    exact h
theorem Shift_down {w : World} {B : Nat} {A : Option Addr} {n c : Nat} {xs : List Int} {m : Nat} (hs : Sl .u32 w B A n c xs) (hB : B ≤ w.heap.size) (hx : Dg 4294967296 xs) (hn : n ≤ 1000000000) (hm : m ≤ 65536) :
    Calls Tryz.prog 55 #[.slice A n c, .int .i64 (-(m : Int))] w (NewE w (val 4294967296 xs / 2 ^ m)) := by
  refine (Shift_any hs hB hx hn (by omega) (by omega)).mono ?_
  intro e w' h
  unfold ShiftR at h
  rcases Nat.eq_zero_or_pos m with h0 | h0
  · subst h0
    rw [if_neg (by omega)] at h
    simp only [Int.pow_zero, Int.ediv_one]
    split at h
    · rename_i h0
      obtain ⟨rfl, hb⟩ := h
      exact ⟨[], none, 0, 0, ⟨Dg.nil, Tr.nil, by rw [h0]; rfl⟩, rfl, Own.nil, hb⟩
    · rw [if_neg (by omega)] at h
      simpa using h
  · rw [if_pos (by omega)] at h
    simpa using h
end Go.Proofs.YthicpakanhhipaaGreatDoor
