/- tallagelaw01: same, spoil, works: what each call answers, and leaves. -/
import Derived.Test.YtgdfjfmgcnbdaaaDoorLimbF
namespace Go.Proofs.YtgdfjfmgcnbdaaaDoor
open Go Go.RowKit

set_option maxHeartbeats 400000 in
theorem same_true {w : World} {B B2 : Nat} {A A2 : Option Addr} {n c n2 c2 : Nat} {xs : List Int} (hs : Sl .u32 w B A n c xs) (ht : Sl .u32 w B2 A2 n2 c2 xs) :
    Calls Tryd.prog 14 #[.slice A n c, .slice A2 n2 c2] w fun e w' => e = .returned (.bool true) ∧ ∃ q, w' = w.drewN q := by
  obtain rfl : n = n2 := hs.len.symm.trans ht.len
  have hm := hs.lenMax
  go_enter Tryd.func14, Tryd.ntmps14
  go_wp2
  go_loopw [5] (fun i wr => ∃ k q : Nat, k ≤ n ∧ i = .int .i64 k ∧ wr = w.drewN q) (fun i _ => n - (intOf i).toNat)
  case atStart => exact ⟨0, 0, Nat.zero_le _, rfl, rfl⟩
  case round =>
    obtain ⟨k, q, hk, rfl, rfl⟩ := hrel
    by_cases hlt : k < n
    · obtain ⟨b, off, x, rfl, _, ex, hc1⟩ := hs.at_ hlt
      obtain ⟨b2, off2, y, rfl, _, ey, hc2⟩ := ht.at_ hlt
      obtain rfl : x = y := by rw [ex] at ey; injection ey
      have hki : (k : Int) < (n : Int) := by omega
      go_wp2
      go_quiet (fail)
      go_wp2
      go_roundw
      case rel => exact ⟨k + 1, _, by omega, by go_num, by first | rfl | (simp only [World.drewN_drewN]; rfl)⟩
      case measure => simp [intOf] <;> omega
    · go_wp2
      go_ret
      exact ⟨rfl, q, rfl⟩

theorem same_b {w : World} {B B2 : Nat} {A A2 : Option Addr} {n c n2 c2 : Nat} {xs : List Int} (hs : Sl .u32 w B A n c xs) (ht : Sl .u32 w B2 A2 n2 c2 xs) :
    Calls Tryd.prog 14 #[.slice A n c, .slice A2 n2 c2] w fun e w' => e = .returned (.bool true) ∧ Below w.heap.size w w' := by
  refine (same_true hs ht).mono ?_
  rintro e w' ⟨rfl, q, rfl⟩
  exact ⟨rfl, Below.drewN' (Below.refl _ _) q⟩
/-- A row of the call's own, whatever its numbers are. -/
def Some_ (w : World) (B : Nat) (A : Option Addr) (n c : Nat) : Prop := ∃ xs, Own .u32 37 w B A n c xs

set_option maxHeartbeats 400000 in
theorem spoil_any {w : World} {B : Nat} {A : Option Addr} {n c : Nat} (hs : Some_ w B A n c) :
    Calls Tryd.prog 18 #[.slice A n c] w fun e w' => e = .returned (.tuple #[]) ∧ w.grownBy w' (blk A) := by
  have hm : n ≤ 9223372036854775807 := by obtain ⟨xs, h⟩ := hs; exact h.sl.lenMax
  go_enter Tryd.func18, Tryd.ntmps18
  go_wp2
  go_loopw [2] (fun i wr => ∃ k : Nat, k ≤ n ∧ i = .int .i64 k ∧ Some_ wr B A n c ∧ w.grownBy wr (blk A)) (fun i _ => n - (intOf i).toNat)
  case atStart => exact ⟨0, Nat.zero_le _, rfl, hs, World.grownBy.refl _ _⟩
  case round =>
    obtain ⟨k, hk, rfl, ⟨xs, ho⟩, hg⟩ := hrel
    clear hs
    by_cases hlt : k < n
    · obtain ⟨g, x, rfl, _, _, _, hcell, hfr, hput⟩ := ho.set hlt
      have hnext := Lib.hid (hput 77)
      have hG := Lib.hid hg
      clear hput ho hg
      go_wp2
      go_roundw
      case rel =>
        refine ⟨k + 1, by omega, by go_num, ⟨_, hnext.out.1⟩, ?_⟩
        have h2 := hnext.out.2
        have hg := hG.out
        exact ⟨h2.os.trans hg.os, h2.tape.trans hg.tape, h2.output.trans hg.output, Nat.le_trans hg.size h2.size, fun i hi hne => (h2.block i (Nat.lt_of_lt_of_le hi hg.size) hne).trans (hg.block i hi hne)⟩
      case measure => simp [intOf] <;> omega
    · have hG := Lib.hid hg
      clear hg
      go_wp2
      go_end0
      exact ⟨rfl, hG.out⟩

theorem size_one (w : World) (o : Obj) : (w.alloc o).heap.size = w.heap.size + 1 := Array.size_push ..
theorem below_a1 {w w' : World} {o : Obj} (h : Below (w.alloc o).heap.size (w.alloc o) w') : Below w.heap.size w w' :=
  ((Below.refl _ _).alloc (Nat.le_refl _) o).trans (h.mono (by rw [size_one]; omega))
theorem below_a2 {w w' : World} {o o2 : Obj} (h : Below ((w.alloc o).alloc o2).heap.size ((w.alloc o).alloc o2) w') : Below w.heap.size w w' := below_a1 (below_a1 h)
theorem row1 {x N : Int} (e : N = x) (h : 0 < x ∧ x < 4294967296) : Row 4294967296 N [x] := by
  subst e
  have h0 : N ≠ 0 := by omega
  exact ⟨Dg.cons (by omega) Dg.nil, by unfold Tr; simp [tl, h0], by simp [val]⟩
theorem row2 {x y N : Int} (e : N = x + 4294967296 * y) (hx : 0 ≤ x ∧ x < 4294967296) (h : 0 < y ∧ y < 4294967296) : Row 4294967296 N [x, y] := by
  subst e
  have h0 : y ≠ 0 := by omega
  exact ⟨Dg.cons hx (Dg.cons (by omega) Dg.nil), by unfold Tr; simp [tl, h0], by simp [val]⟩
theorem dg1 {x : Int} (h : 0 ≤ x ∧ x < 4294967296) : Dg 4294967296 [x] := Dg.cons h Dg.nil
theorem dg2 {x y : Int} (h : 0 ≤ x ∧ x < 4294967296) (h' : 0 ≤ y ∧ y < 4294967296) : Dg 4294967296 [x, y] := Dg.cons h (dg1 h')

/-- A new slice of one, of two; and with one more block behind it. -/
theorem lit1 (w : World) (s : Nat) (hs : w.heap.size = s) (x : Int) (t : TypeId) : Sl .u32 (w.alloc (.cells #[.int .u32 x] t)) (s + 1) (some ⟨s, 0, none⟩) 1 1 [x] := by subst hs; exact Sl.new1 .u32 w x t
theorem lit2 (w : World) (s : Nat) (hs : w.heap.size = s) (x y : Int) (t : TypeId) : Sl .u32 (w.alloc (.cells #[.int .u32 x, .int .u32 y] t)) (s + 1) (some ⟨s, 0, none⟩) 2 2 [x, y] := by subst hs; exact Sl.new2 .u32 w x y t
theorem lit1n (w : World) (s : Nat) (hs : w.heap.size = s) (x : Int) (t : TypeId) (o : Obj) : Sl .u32 ((w.alloc (.cells #[.int .u32 x] t)).alloc o) (s + 2) (some ⟨s, 0, none⟩) 1 1 [x] :=
  ((lit1 w s hs x t).alloc (by rw [size_one]; omega) o).more (by omega)
theorem lit2n (w : World) (s : Nat) (hs : w.heap.size = s) (x y : Int) (t : TypeId) (o : Obj) : Sl .u32 ((w.alloc (.cells #[.int .u32 x, .int .u32 y] t)).alloc o) (s + 2) (some ⟨s, 0, none⟩) 2 2 [x, y] :=
  ((lit2 w s hs x y t).alloc (by rw [size_one]; omega) o).more (by omega)

set_option maxHeartbeats 2000000 in
theorem works_any (w : World) (hT : HalfT w) (h0 : 0 < w.heap.size) :
    Calls Tryd.prog 8 #[] w fun e w' => e = .returned (.bool true) ∧ Below w.heap.size w w' := by
  have HT := Lib.hid hT
  clear hT
  go_enter Tryd.func8, Tryd.ntmps8
  go_wp2_with fail
  refine (Sub_any (lit2n w w.heap.size rfl 0 1 37 _) (lit1 (w.alloc _) (w.heap.size + 1) (size_one _ _) 1 37) (by rw [size_one, size_one]; omega) (dg2 (by omega) (by omega)) (dg1 (by omega)) (by decide) (by omega)).mono ?_
  rintro e w1 ⟨ys, A1, n1, c1, hr, rfl, ho1, hb1⟩
  have hb1' := below_a2 hb1
  obtain rfl := hr.uniq (by decide) (ys := [4294967295]) (row1 (by decide) (by omega))
  clear hb1 hr
  go_wp2_with fail
  refine (Sub_less (lit1n w1 w1.heap.size rfl 1 37 _) (lit1 (w1.alloc _) (w1.heap.size + 1) (size_one _ _) 2 37) (dg1 (by omega)) (dg1 (by omega)) (by decide)).mono ?_
  rintro e w2 ⟨rfl, q, rfl⟩
  have hb2 : Below w1.heap.size w1 (((w1.alloc (.cells #[.int .u32 1] 37)).alloc (.cells #[.int .u32 2] 37)).drewN q) := below_a2 (Below.drewN' (Below.refl _ _) q)
  obtain ⟨w2, hw2⟩ : ∃ w2, w2 = (((w1.alloc (.cells #[.int .u32 1] 37)).alloc (.cells #[.int .u32 2] 37)).drewN q) := ⟨_, rfl⟩
  rw [← hw2] at hb2 ⊢
  clear hw2
  have ho2 := ho1.below hb2
  go_wp2_with fail
  refine (DivSmall_any (lit2 w2 w2.heap.size rfl 0 1 37) (by rw [size_one]; omega) (dg2 (by omega) (by omega)) (d := 10) (by omega) (by omega)).mono ?_
  rintro e w3 ⟨ys, A3, n3, c3, hr, rfl, ho3, hb3⟩
  have hb3' := below_a1 hb3
  obtain rfl := hr.uniq (by decide) (ys := [429496729]) (row1 (by decide) (by omega))
  clear hb3 hr
  go_wp2_with fail
  refine (Shift_any (lit1 w3 w3.heap.size rfl 1 37) (s := 33) (by rw [size_one]; omega) (dg1 (by omega)) (by omega) (by omega) (by omega)).mono ?_
  intro e w4 hs4
  obtain ⟨A4, n4, c4, rfl, ho4, hb4⟩ : ∃ A4 n4 c4, e = .returned (.tuple #[.slice A4 n4 c4, .int .i64 0]) ∧ Own .u32 37 w4 w3.heap.size A4 n4 c4 [0, 2] ∧ Below w3.heap.size w3 w4 := by
    unfold ShiftR at hs4
    rw [if_neg (by decide), if_neg (by decide), if_neg (by decide)] at hs4
    obtain ⟨ys, A4, n4, c4, hr, rfl, ho4, hb4⟩ := hs4
    obtain rfl := hr.uniq (by decide) (ys := [0, 2]) (row2 (by decide) (by omega) (by omega))
    exact ⟨A4, n4, c4, rfl, ho4.lower (by rw [size_one]; omega), below_a1 hb4⟩
  clear hs4
  go_wp2_with fail
  refine (Shift_any (lit2 w4 w4.heap.size rfl 2 3 37) (s := -33) (by rw [size_one]; omega) (dg2 (by omega) (by omega)) (by omega) (by omega) (by omega)).mono ?_
  intro e w5 hs5
  obtain ⟨A5, n5, c5, rfl, ho5, hb5⟩ : ∃ A5 n5 c5, e = .returned (.tuple #[.slice A5 n5 c5, .int .i64 0]) ∧ Own .u32 37 w5 w4.heap.size A5 n5 c5 [1] ∧ Below w4.heap.size w4 w5 := by
    unfold ShiftR at hs5
    rw [if_pos (by decide)] at hs5
    obtain ⟨ys, A5, n5, c5, hr, rfl, ho5, hb5⟩ := hs5
    obtain rfl := hr.uniq (by decide) (ys := [1]) (row1 (by decide) (by omega))
    exact ⟨A5, n5, c5, rfl, ho5.lower (by rw [size_one]; omega), below_a1 hb5⟩
  clear hs5
  go_wp2_with fail
  refine (Add_any (lit1n w5 w5.heap.size rfl 4294967295 37 _) (lit1 (w5.alloc _) (w5.heap.size + 1) (size_one _ _) 1 37) (by rw [size_one, size_one]; omega) (dg1 (by omega)) (dg1 (by omega)) (by omega) (by omega)).mono ?_
  rintro e w6 ⟨ys, hr, A6, n6, c6, rfl, ho6, hb6⟩
  have hb6' := below_a2 hb6
  obtain rfl := hr.uniq (by decide) (ys := [0, 1]) (row2 (by decide) (by omega) (by omega))
  clear hb6 hr
  -- what is held, in the last world
  have b12 := hb2
  have b23 := b12.trans (hb3'.mono b12.size)
  have b24 := b23.trans (hb4.mono b23.size)
  have b25 := b24.trans (hb5.mono b24.size)
  have b26 := b25.trans (hb6'.mono b25.size)
  have b34 := hb4
  have b35 := b34.trans (hb5.mono b34.size)
  have b36 := b35.trans (hb6'.mono b35.size)
  have b45 := hb5
  have b46 := b45.trans (hb6'.mono b45.size)
  have s1 := (ho1.below b26).sl
  have s3 := (ho3.below b36).sl
  have s4 := (ho4.below b46).sl
  have s5 := (ho5.below hb6').sl
  have s6 := ho6.sl
  have bw : Below w.heap.size w w6 := hb1'.trans (b26.mono hb1'.size)
  have HT6 := Lib.hid (HT.out.below bw h0)
  have hz6 : 0 < w6.heap.size := Nat.lt_of_lt_of_le h0 bw.size
  clear b12 b23 b24 b25 b26 b34 b35 b36 b45 b46 ho1 ho2 ho3 ho4 ho5 ho6 hb1' hb2 hb3' hb4 hb5 hb6' HT
  go_wp2_with fail
  refine (same_b (s6.alloc (Nat.le_refl _) _) (lit2 w6 w6.heap.size rfl 0 1 37)).mono ?_
  rintro e w7 ⟨rfl, hb⟩
  have b7 := below_a1 hb
  clear hb
  go_wp2_with fail
  refine (same_b ((s1.below b7 (Nat.le_refl _)).alloc b7.size _) (lit1 w7 w7.heap.size rfl 4294967295 37)).mono ?_
  rintro e w8 ⟨rfl, hb⟩
  have b8 := b7.trans ((below_a1 hb).mono b7.size)
  clear hb
  go_wp2_with fail
  refine (same_b ((s3.below b8 (Nat.le_refl _)).alloc b8.size _) (lit1 w8 w8.heap.size rfl 429496729 37)).mono ?_
  rintro e w9 ⟨rfl, hb⟩
  have b9 := b8.trans ((below_a1 hb).mono b8.size)
  clear hb
  have hmod : (val 4294967296 [0, 1] % 10 == 6) = true := by decide
  go_wp2_with fail
  refine (same_b ((s4.below b9 (Nat.le_refl _)).alloc b9.size _) (lit2 w9 w9.heap.size rfl 0 2 37)).mono ?_
  rintro e w10 ⟨rfl, hb⟩
  have b10 := b9.trans ((below_a1 hb).mono b9.size)
  clear hb
  go_wp2_with fail
  refine (same_b ((s5.below b10 (Nat.le_refl _)).alloc b10.size _) (lit1 w10 w10.heap.size rfl 1 37)).mono ?_
  rintro e w11 ⟨rfl, hb⟩
  have b11 := b10.trans ((below_a1 hb).mono b10.size)
  clear hb
  go_wp2_with fail
  refine (Bits_any (lit2 w11 w11.heap.size rfl 0 1 37) (HT6.out.below ((b11.alloc b11.size _)) hz6) (dg2 (by omega) (by omega)) (by omega)).mono ?_
  rintro e w12 ⟨⟨b, hbits, rfl⟩, rfl⟩
  obtain rfl : b = 33 := hbits.uniq (.inr ⟨by omega, by decide, by decide⟩)
  go_wp2
  go_ret
  exact ⟨rfl, bw.trans ((b11.alloc b11.size _).mono bw.size)⟩
end Go.Proofs.YtgdfjfmgcnbdaaaDoor
