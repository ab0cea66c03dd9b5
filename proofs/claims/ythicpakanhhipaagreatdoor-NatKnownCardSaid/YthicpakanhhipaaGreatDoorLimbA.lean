/- limb: used, sign, Trim, Cmp: what each call answers. -/
import Derived.Test.YthicpakanhhipaaGreatDoorProg
import Derived.Test.YthicpakanhhipaaGreatDoorMath
import Derived.Test.YthicpakanhhipaaGreatDoorMem
import Derived.WalkLawsBesides
import Derived.Deep.QuietTactic
import Derived.BigQuiet
import Derived.Lib.Hide
import Derived.KernelRfl
namespace Go.Proofs.YthicpakanhhipaaGreatDoor
open Go Go.RowKit

theorem elemU : ElemT Tryz.prog 22 27 .u32 4 := ⟨Tryz.underlying22, info_parts (by kernel_rfl)⟩

/-- What 'used' answers: the row without its noughts, the same memory, or nil. -/
def UsedR (w : World) (B : Nat) (A : Option Addr) (c : Nat) (xs : List Int) (e : Ending) : Prop :=
  ∃ A' n' c', e = .returned (.slice A' n' c') ∧ Sl .u32 w B A' n' c' (tl xs) ∧ ((A' = none ∧ n' = 0 ∧ c' = 0) ∨ (A' = A ∧ c' = c ∧ 0 < n'))
theorem UsedR.none_ {w : World} {B : Nat} {A : Option Addr} {c : Nat} {xs : List Int} (h : tl xs = []) : UsedR w B A c xs (.returned (.slice none 0 0)) :=
  ⟨none, 0, 0, rfl, by rw [h]; exact Sl.nil, .inl ⟨rfl, rfl, rfl⟩⟩
theorem UsedR.some_ {w : World} {B : Nat} {A : Option Addr} {n c j : Nat} {xs : List Int} (hs : Sl .u32 w B A n c xs) (hj : j + 1 ≤ n) (h : tl xs = xs.take (j + 1)) : UsedR w B A c xs (.returned (.slice A (j + 1) c)) :=
  ⟨A, j + 1, c, rfl, by rw [h]; exact hs.front hj, .inr ⟨rfl, rfl, by omega⟩⟩

set_option maxHeartbeats 400000 in
theorem used_any {w : World} {B : Nat} {A : Option Addr} {n c : Nat} {xs : List Int} (hs : Sl .u32 w B A n c xs) :
    Calls Tryz.prog 52 #[.slice A n c] w fun e w' => UsedR w B A c xs e ∧ w = w' := by
  have hm := hs.lenMax
  have hnc := hs.le
  go_enter Tryz.func52, Tryz.ntmps52
  go_wp2
  go_loop [3] (fun i => ∃ k : Nat, k ≤ n ∧ i = .int .i64 k ∧ TlTake xs k) (fun i => (intOf i).toNat)
  case atStart => exact ⟨n, by omega, rfl, .start hs.len⟩
  case round =>
    obtain ⟨k, hk, rfl, ht⟩ := hrel
    by_cases h0 : k = 0
    · subst h0
      go_wp2
      go_ret
      exact ⟨.none_ ht.zero, rfl⟩
    · obtain ⟨j, rfl⟩ : ∃ j, k = j + 1 := ⟨k - 1, by omega⟩
      obtain ⟨b, off, x, rfl, _, hx, hcell⟩ := hs.at_ (j := j) (by omega)
      by_cases hx0 : x = 0
      · subst hx0
        go_wp2
        go_round
        case rel => exact ⟨j, by omega, rfl, ht.down hx⟩
        case measure => simp [intOf] <;> omega
      · have hb : (x == 0) = false := beq_eq_false_iff_ne.2 hx0
        have hj : (((j : Int) + 1) == 0) = false := beq_eq_false_iff_ne.2 (by omega)
        have hstop := Lib.hid (ht.stop hx hx0)
        go_wp2
        go_ret
        exact ⟨.some_ hs hk hstop.out, rfl⟩

def sgn (b : Bool) : Int := if b then 1 else -1
theorem sign_any (b : Bool) (w : World) : Calls Tryz.prog 53 #[.bool b] w fun e w' => e = .returned (.int .i64 (sgn b)) ∧ w = w' := by
  cases b <;>
  · go_enter Tryz.func53, Tryz.ntmps53
    go_wp2
    go_ret
    exact ⟨rfl, rfl⟩

/-- A slice in new memory, the call's own, that reads as ys. -/
def NewU (w : World) (ys : List Int) (e : Ending) (w' : World) : Prop :=
  ∃ A n c, e = .returned (.slice A n c) ∧ Own .u32 27 w' w.heap.size A n c ys ∧ Below w.heap.size w w'

set_option maxHeartbeats 400000 in
theorem Trim_any {w : World} {B : Nat} {A : Option Addr} {n c : Nat} {xs : List Int} (hs : Sl .u32 w B A n c xs) (hn : n ≤ 1000000000) :
    Calls Tryz.prog 31 #[.slice A n c] w (NewU w (tl xs)) := by
  go_enter Tryz.func31, Tryz.ntmps31
  go_wp2_with fail
  refine (used_any hs).mono ?_
  rintro e w' ⟨⟨A', n', c', rfl, hs', _⟩, rfl⟩
  have hl := hs'.len
  have hl2 := tl_len xs
  have hl3 := hs.len
  go_wp2_with (at_builtin; refine wpList_app elemU rfl _ _ rfl (Own.nil (B := w.heap.size)) rfl hs' rfl (by omega) (by unfold maxLen; omega) (Nat.le_refl _) ?_; intro A2 c2 w2 h2 hg)
  rw [Nat.zero_add, List.nil_append] at h2
  go_ret
  exact ⟨_, _, _, rfl, h2, (Below.refl _ _).grown hg (Nat.le_refl _) (fun k hk => by cases hk)⟩
end Go.Proofs.YthicpakanhhipaaGreatDoor
