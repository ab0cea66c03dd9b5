/- tallagelaw02: spoil, copied, is: what each call answers, and leaves. -/
import Derived.Test.YthicpakanhhipaaGreatDoorNLawB
import Derived.Test.YthicpakanhhipaaGreatDoorNRefD
namespace Go.Proofs.YthicpakanhhipaaGreatDoor
open Go Go.RowKit

/-- A row of the call's own, whatever its numbers are. -/
def Some_ (w : World) (B : Nat) (A : Option Addr) (n c : Nat) : Prop := ∃ xs, Own .u32 27 w B A n c xs

set_option maxHeartbeats 400000 in
theorem spoil_any {w : World} {B : Nat} {A : Option Addr} {n c : Nat} (hs : Some_ w B A n c) :
    Calls Tryz.prog 15 #[.slice A n c] w fun e w' => e = .returned (.tuple #[]) ∧ w.grownBy w' (blk A) := by
  have hm : n ≤ 9223372036854775807 := by obtain ⟨xs, h⟩ := hs; exact h.sl.lenMax
  go_enter Tryz.func15, Tryz.ntmps15
  go_wp2
  go_loopw [2] (fun i wr => ∃ k : Nat, k ≤ n ∧ i = .int .i64 k ∧ Some_ wr B A n c ∧ w.grownBy wr (blk A)) (fun i _ => n - (intOf i).toNat)
  case atStart => exact ⟨0, Nat.zero_le _, rfl, hs, World.grownBy.refl _ _⟩
  case round =>
    obtain ⟨k, hk, rfl, ⟨xs, ho⟩, hg⟩ := hrel
    clear hs
    by_cases hlt : k < n
    · obtain ⟨g, x, rfl, _, _, _, hcell, hfr, hput⟩ := ho.set hlt
      have hnext := Lib.hid (hput 77)
      have hG := Lib.hid hg
      clear hput ho hg
      go_wp2
      go_roundw
      case rel =>
        refine ⟨k + 1, by omega, by go_num, ⟨_, hnext.out.1⟩, ?_⟩
        have h2 := hnext.out.2
        have hg := hG.out
        exact ⟨h2.os.trans hg.os, h2.tape.trans hg.tape, h2.output.trans hg.output, Nat.le_trans hg.size h2.size, fun i hi hne => (h2.block i (Nat.lt_of_lt_of_le hi hg.size) hne).trans (hg.block i hi hne)⟩
      case measure => simp [intOf] <;> omega
    · have hG := Lib.hid hg
      clear hg
      go_wp2
      go_end0
      exact ⟨rfl, hG.out⟩
set_option maxHeartbeats 400000 in
theorem copied_any {w : World} {B : Nat} {A : Option Addr} {n c : Nat} {xs : List Int} (hs : Sl .u32 w B A n c xs) (hB : B ≤ w.heap.size) (hn : n ≤ 1000000) :
    Calls Tryz.prog 10 #[.slice A n c] w (NewL w xs) := by
  have hl := hs.len
  go_enter Tryz.func10, Tryz.ntmps10
  go_wp2_with (at_builtin; refine wpList_app elemU rfl _ _ rfl (Own.nil (B := w.heap.size)) rfl (hs.more hB) rfl (by omega) (by unfold maxLen; omega) (Nat.le_refl _) ?_; intro A2 c2 w2 h2 hg)
  rw [Nat.zero_add, List.nil_append] at h2
  go_ret
  exact ⟨A2, n, c2, rfl, h2, (Below.refl _ _).grown hg (Nat.le_refl _) (fun k hk => by cases hk)⟩

/-- The rows of two readings of the same number: 'is' says so. -/
theorem is_any {w : World} {B B2 : Nat} {A A2 : Option Addr} {n c m c2 : Nat} {N K : Int} {xs ys : List Int} (hs : Sl .u32 w B A n c xs) (ht : Sl .u8 w B2 A2 m c2 ys) (hB : B ≤ w.heap.size) (hB2 : B2 ≤ w.heap.size)
    (hx : Row 4294967296 N xs) (hy : Row 2 K ys) (hm : m ≤ 1000000000) (e : N = K) :
    Calls Tryz.prog 13 #[.slice A n c, .slice A2 m c2] w fun e w' => e = .returned (.bool true) ∧ Below w.heap.size w w' := by
  subst e
  go_enter Tryz.func13, Tryz.ntmps13
  go_wp2_with fail
  refine (blimbs_any ht hB2 hy.dg hm).mono ?_
  rintro e w1 ⟨zs, A3, n3, c3, rfl, hr, h3, hb⟩
  rw [hy.val] at hr
  obtain rfl := hx.uniq (by decide) hr
  have hs1 := (hs.more hB).below hb (Nat.le_refl _)
  have HB := Lib.hid hb
  clear hs ht hb
  go_wp2_with fail
  refine (same_b hs1 h3).mono ?_
  rintro e w2 ⟨rfl, hb⟩
  have HB2 := Lib.hid (HB.out.trans (hb.mono HB.out.size))
  clear HB hb hs1 h3
  go_wp2_with fail
  go_ret
  exact ⟨rfl, HB2.out⟩
end Go.Proofs.YthicpakanhhipaaGreatDoor
