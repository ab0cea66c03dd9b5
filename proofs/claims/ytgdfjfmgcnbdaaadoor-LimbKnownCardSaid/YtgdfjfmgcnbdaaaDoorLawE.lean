/- tallagelaw01: LimbShift: it returns true, whatever the row and the shift are. -/
import Derived.Test.YtgdfjfmgcnbdaaaDoorLawD
namespace Go.Proofs.YtgdfjfmgcnbdaaaDoor
open Go Go.RowKit

theorem gone {N : Int} {m : Nat} (h0 : 0 ≤ N) (h1 : N < 4294967296 ^ 40) (hm : 1280 ≤ m) : N / 2 ^ m = 0 := by
  refine Int.ediv_eq_zero_of_lt h0 (Int.lt_of_lt_of_le h1 ?_)
  rw [show (4294967296 : Int) = 2 ^ 32 from rfl, ← Int.pow_mul]
  exact pow_mono (by decide) hm
/-- Beyond what is there, all shifts to the right are one. -/
theorem ShSpec.far {N s t : Int} {qs qs' : List Int} {er er' : Int} (h0 : 0 ≤ N) (h1 : N < 4294967296 ^ 40) (hs : s ≤ -1280) (ht : t ≤ -1280) (h : ShSpec N s qs er) (h' : ShSpec N t qs' er') : qs = qs' ∧ er = er' := by
  rcases h with ⟨_, a1, a2⟩ | ⟨a0, _⟩ | ⟨a0, _⟩ <;> rcases h' with ⟨_, k1, k2⟩ | ⟨k0, _⟩ | ⟨k0, _⟩
  · rw [gone h0 h1 (by omega)] at a1 k1
    exact ⟨a1.uniq (by decide) k1, a2.trans k2.symm⟩
  all_goals omega

set_option maxRecDepth 100000 in
set_option maxHeartbeats 1000000 in
theorem LimbShift_far {w : World} {B : Nat} {A : Option Addr} {n c : Nat} {xs : List Int} {s : Int} (hs : Sl .u32 w B A n c xs) (hB : B ≤ w.heap.size) (hx : Dg 4294967296 xs) (hn : n ≤ 40) (hc : s < -100000) (hs0 : -9223372036854775808 ≤ s) (hs1 : s ≤ 9223372036854775807) (hT : HalfT w) (h0 : 0 < w.heap.size) :
    Calls Tryd.prog 5 #[.slice A n c, .int .i64 s] w fun e w' => e = .returned (.bool true) ∧ Below w.heap.size w w' := by
  have HT := Lib.hid hT
  clear hT
  have hl := hs.len
  have v0 := Lib.hid (val_nonneg (by decide) hx)
  have v1 := Lib.hid (show val 4294967296 xs < 4294967296 ^ 40 from Int.lt_of_lt_of_le (val_lt (by decide) hx) (pow_mono (by decide) (by omega)))
  go_enter Tryd.func5, Tryd.ntmps5
  go_wp2_with (at_builtin; refine wpList_app elemU rfl _ _ rfl (Own.nil (B := w.heap.size)) rfl hs rfl (by omega) (by unfold maxLen; omega) (Nat.le_refl _) ?_; intro Ax cx w1 hx1 hg1)
  rw [Nat.zero_add, List.nil_append] at hx1
  have b1 : Below w.heap.size w w1 := grown_below hg1 (Nat.le_refl _) (fun g h => by cases h)
  have sa := (hs.below b1 hB).more (Nat.le_trans hB b1.size)
  have sx := hx1.sl
  clear hg1 hx1
  refine (refShift_u sx (Nat.le_refl _) hx hn (s := -100000) (by omega) (by omega) (by omega)).mono ?_
  rintro e w2 ⟨ws, Aw, nw, cw, f, hw, rfl, how, b2⟩
  have b02 := b1.trans (b2.mono b1.size)
  have sa2 := (sa.below b2 (Nat.le_refl _)).more b2.size
  have sx2 := (sx.below b2 (Nat.le_refl _)).more b2.size
  have sw := how.sl
  have HE := Lib.hid (show ∀ qs er, ShSpec (val 4294967296 xs) s qs er → qs = ws ∧ er = f from fun qs er hq => by exact ShSpec.far v0.out v1.out (by omega) (by omega) hq hw)
  clear hw how sa sx b1 b2 hs
  go_wp2_with fail
  go_loopw [8] (fun tv wr => ∃ t : Nat, t ≤ 2 ∧ tv = .int .i64 t ∧ Below w2.heap.size w2 wr) (fun tv _ => 2 - (intOf tv).toNat)
  case atStart => exact ⟨0, by omega, rfl, Below.refl _ _⟩
  case round =>
    obtain ⟨t, ht, rfl, bw⟩ := hrel
    have sa0 := (sa2.below bw (Nat.le_refl _)).more bw.size
    by_cases htl : t < 2
    · go_wp2_with fail
      refine (Shift_u sa0 (Nat.le_refl _) hx (by omega) hs0 hs1).mono ?_
      rintro e w3 ⟨qs, Aq, nq, cq, er, hq, rfl, hoq, b3⟩
      obtain ⟨rfl, rfl⟩ := HE.out qs er hq
      have b23 := bw.trans (b3.mono bw.size)
      clear hq
      go_wp2_with fail
      refine (same_b hoq.sl (sw.below b23 (Nat.le_refl _))).mono ?_
      rintro e w4 ⟨rfl, b4⟩
      have hoq4 := hoq.below b4
      have b24 := b23.trans (b4.mono b23.size)
      clear b23 hoq
      go_wp2_with fail
      refine (spoil_any ⟨_, hoq4⟩).mono ?_
      rintro e w5 ⟨rfl, g5⟩
      have b25 := b24.trans (grown_below g5 b24.size (fun g h => Nat.le_trans bw.size (hoq4.blk_ g h).1))
      clear b24 g5 hoq4 b3 b4 bw sa0
      go_wp2_with fail
      go_roundw
      case rel => exact ⟨t + 1, by omega, by go_num, b25⟩
      case measure => simp [intOf] <;> omega
    · have sx0 := (sx2.below bw (Nat.le_refl _)).more bw.size
      go_wp2_with fail
      refine (same_b sa0 sx0).mono ?_
      rintro e w6 ⟨rfl, b6⟩
      have b06 := b02.trans ((bw.trans (b6.mono bw.size)).mono b02.size)
      clear bw b6
      go_wp2_with fail
      refine (works_any _ (HT.out.below b06 h0) (Nat.lt_of_lt_of_le h0 b06.size)).mono ?_
      rintro e w7 ⟨rfl, b7⟩
      have b07 := b06.trans (b7.mono b06.size)
      clear b06 b7
      go_wp2
      go_ret
      exact ⟨rfl, b07⟩

set_option maxRecDepth 100000 in
set_option maxHeartbeats 1000000 in
theorem LimbShift_near {w : World} {B : Nat} {A : Option Addr} {n c : Nat} {xs : List Int} {s : Int} (hs : Sl .u32 w B A n c xs) (hB : B ≤ w.heap.size) (hx : Dg 4294967296 xs) (hn : n ≤ 40) (hc : -100000 ≤ s) (hc' : s ≤ 2000) (hs0 : -9223372036854775808 ≤ s) (hs1 : s ≤ 9223372036854775807) (hT : HalfT w) (h0 : 0 < w.heap.size) :
    Calls Tryd.prog 5 #[.slice A n c, .int .i64 s] w fun e w' => e = .returned (.bool true) ∧ Below w.heap.size w w' := by
  have HT := Lib.hid hT
  clear hT
  have hl := hs.len
  have v0 := Lib.hid (val_nonneg (by decide) hx)
  have v1 := Lib.hid (show val 4294967296 xs < 4294967296 ^ 40 from Int.lt_of_lt_of_le (val_lt (by decide) hx) (pow_mono (by decide) (by omega)))
  go_enter Tryd.func5, Tryd.ntmps5
  go_wp2_with (at_builtin; refine wpList_app elemU rfl _ _ rfl (Own.nil (B := w.heap.size)) rfl hs rfl (by omega) (by unfold maxLen; omega) (Nat.le_refl _) ?_; intro Ax cx w1 hx1 hg1)
  rw [Nat.zero_add, List.nil_append] at hx1
  have b1 : Below w.heap.size w w1 := grown_below hg1 (Nat.le_refl _) (fun g h => by cases h)
  have sa := (hs.below b1 hB).more (Nat.le_trans hB b1.size)
  have sx := hx1.sl
  clear hg1 hx1
  refine (refShift_u sx (Nat.le_refl _) hx hn (s := s) (by omega) (by omega) (by omega)).mono ?_
  rintro e w2 ⟨ws, Aw, nw, cw, f, hw, rfl, how, b2⟩
  have b02 := b1.trans (b2.mono b1.size)
  have sa2 := (sa.below b2 (Nat.le_refl _)).more b2.size
  have sx2 := (sx.below b2 (Nat.le_refl _)).more b2.size
  have sw := how.sl
  have HE := Lib.hid (show ∀ qs er, ShSpec (val 4294967296 xs) s qs er → qs = ws ∧ er = f from fun qs er hq => by exact hq.uniq hw)
  clear hw how sa sx b1 b2 hs
  go_wp2_with fail
  go_loopw [8] (fun tv wr => ∃ t : Nat, t ≤ 2 ∧ tv = .int .i64 t ∧ Below w2.heap.size w2 wr) (fun tv _ => 2 - (intOf tv).toNat)
  case atStart => exact ⟨0, by omega, rfl, Below.refl _ _⟩
  case round =>
    obtain ⟨t, ht, rfl, bw⟩ := hrel
    have sa0 := (sa2.below bw (Nat.le_refl _)).more bw.size
    by_cases htl : t < 2
    · go_wp2_with fail
      refine (Shift_u sa0 (Nat.le_refl _) hx (by omega) hs0 hs1).mono ?_
      rintro e w3 ⟨qs, Aq, nq, cq, er, hq, rfl, hoq, b3⟩
      obtain ⟨rfl, rfl⟩ := HE.out qs er hq
      have b23 := bw.trans (b3.mono bw.size)
      clear hq
      go_wp2_with fail
      refine (same_b hoq.sl (sw.below b23 (Nat.le_refl _))).mono ?_
      rintro e w4 ⟨rfl, b4⟩
      have hoq4 := hoq.below b4
      have b24 := b23.trans (b4.mono b23.size)
      clear b23 hoq
      go_wp2_with fail
      refine (spoil_any ⟨_, hoq4⟩).mono ?_
      rintro e w5 ⟨rfl, g5⟩
      have b25 := b24.trans (grown_below g5 b24.size (fun g h => Nat.le_trans bw.size (hoq4.blk_ g h).1))
      clear b24 g5 hoq4 b3 b4 bw sa0
      go_wp2_with fail
      go_roundw
      case rel => exact ⟨t + 1, by omega, by go_num, b25⟩
      case measure => simp [intOf] <;> omega
    · have sx0 := (sx2.below bw (Nat.le_refl _)).more bw.size
      go_wp2_with fail
      refine (same_b sa0 sx0).mono ?_
      rintro e w6 ⟨rfl, b6⟩
      have b06 := b02.trans ((bw.trans (b6.mono bw.size)).mono b02.size)
      clear bw b6
      go_wp2_with fail
      refine (works_any _ (HT.out.below b06 h0) (Nat.lt_of_lt_of_le h0 b06.size)).mono ?_
      rintro e w7 ⟨rfl, b7⟩
      have b07 := b06.trans (b7.mono b06.size)
      clear b06 b7
      go_wp2
      go_ret
      exact ⟨rfl, b07⟩

set_option maxRecDepth 100000 in
set_option maxHeartbeats 1000000 in
theorem LimbShift_big {w : World} {B : Nat} {A : Option Addr} {n c : Nat} {xs : List Int} {s : Int} (hs : Sl .u32 w B A n c xs) (hB : B ≤ w.heap.size) (hx : Dg 4294967296 xs) (hn : n ≤ 40) (hc : 65536 < s) (hs0 : -9223372036854775808 ≤ s) (hs1 : s ≤ 9223372036854775807) (hT : HalfT w) (h0 : 0 < w.heap.size) :
    Calls Tryd.prog 5 #[.slice A n c, .int .i64 s] w fun e w' => e = .returned (.bool true) ∧ Below w.heap.size w w' := by
  have HT := Lib.hid hT
  clear hT
  have hl := hs.len
  have v0 := Lib.hid (val_nonneg (by decide) hx)
  have v1 := Lib.hid (show val 4294967296 xs < 4294967296 ^ 40 from Int.lt_of_lt_of_le (val_lt (by decide) hx) (pow_mono (by decide) (by omega)))
  go_enter Tryd.func5, Tryd.ntmps5
  go_wp2_with (at_builtin; refine wpList_app elemU rfl _ _ rfl (Own.nil (B := w.heap.size)) rfl hs rfl (by omega) (by unfold maxLen; omega) (Nat.le_refl _) ?_; intro Ax cx w1 hx1 hg1)
  rw [Nat.zero_add, List.nil_append] at hx1
  have b1 : Below w.heap.size w w1 := grown_below hg1 (Nat.le_refl _) (fun g h => by cases h)
  have sa := (hs.below b1 hB).more (Nat.le_trans hB b1.size)
  have sx := hx1.sl
  clear hg1 hx1
  refine (refShift_u sx (Nat.le_refl _) hx hn (s := s) (by omega) (by omega) (by omega)).mono ?_
  rintro e w2 ⟨ws, Aw, nw, cw, f, hw, rfl, how, b2⟩
  have b02 := b1.trans (b2.mono b1.size)
  have sa2 := (sa.below b2 (Nat.le_refl _)).more b2.size
  have sx2 := (sx.below b2 (Nat.le_refl _)).more b2.size
  have sw := how.sl
  have HE := Lib.hid (show ∀ qs er, ShSpec (val 4294967296 xs) s qs er → qs = ws ∧ er = f from fun qs er hq => by exact hq.uniq hw)
  clear hw how sa sx b1 b2 hs
  go_wp2_with fail
  go_loopw [8] (fun tv wr => ∃ t : Nat, t ≤ 2 ∧ tv = .int .i64 t ∧ Below w2.heap.size w2 wr) (fun tv _ => 2 - (intOf tv).toNat)
  case atStart => exact ⟨0, by omega, rfl, Below.refl _ _⟩
  case round =>
    obtain ⟨t, ht, rfl, bw⟩ := hrel
    have sa0 := (sa2.below bw (Nat.le_refl _)).more bw.size
    by_cases htl : t < 2
    · go_wp2_with fail
      refine (Shift_u sa0 (Nat.le_refl _) hx (by omega) hs0 hs1).mono ?_
      rintro e w3 ⟨qs, Aq, nq, cq, er, hq, rfl, hoq, b3⟩
      obtain ⟨rfl, rfl⟩ := HE.out qs er hq
      have b23 := bw.trans (b3.mono bw.size)
      clear hq
      go_wp2_with fail
      refine (same_b hoq.sl (sw.below b23 (Nat.le_refl _))).mono ?_
      rintro e w4 ⟨rfl, b4⟩
      have hoq4 := hoq.below b4
      have b24 := b23.trans (b4.mono b23.size)
      clear b23 hoq
      go_wp2_with fail
      refine (spoil_any ⟨_, hoq4⟩).mono ?_
      rintro e w5 ⟨rfl, g5⟩
      have b25 := b24.trans (grown_below g5 b24.size (fun g h => Nat.le_trans bw.size (hoq4.blk_ g h).1))
      clear b24 g5 hoq4 b3 b4 bw sa0
      go_wp2_with fail
      go_roundw
      case rel => exact ⟨t + 1, by omega, by go_num, b25⟩
      case measure => simp [intOf] <;> omega
    · have sx0 := (sx2.below bw (Nat.le_refl _)).more bw.size
      go_wp2_with fail
      refine (same_b sa0 sx0).mono ?_
      rintro e w6 ⟨rfl, b6⟩
      have b06 := b02.trans ((bw.trans (b6.mono bw.size)).mono b02.size)
      clear bw b6
      go_wp2_with fail
      refine (works_any _ (HT.out.below b06 h0) (Nat.lt_of_lt_of_le h0 b06.size)).mono ?_
      rintro e w7 ⟨rfl, b7⟩
      have b07 := b06.trans (b7.mono b06.size)
      clear b06 b7
      go_wp2
      go_ret
      exact ⟨rfl, b07⟩

set_option maxRecDepth 100000 in
set_option maxHeartbeats 4000000 in
theorem LimbShift_any {w : World} {B : Nat} {A : Option Addr} {n c : Nat} {xs : List Int} {s : Int} (hs : Sl .u32 w B A n c xs) (hB : B ≤ w.heap.size) (hx : Dg 4294967296 xs) (hs0 : -9223372036854775808 ≤ s) (hs1 : s ≤ 9223372036854775807) (hT : HalfT w) (h0 : 0 < w.heap.size) :
    Calls Tryd.prog 5 #[.slice A n c, .int .i64 s] w fun e w' => e = .returned (.bool true) ∧ Below w.heap.size w w' := by
  have HT := Lib.hid hT
  clear hT
  by_cases c1 : 40 < n
  · go_enter Tryd.func5, Tryd.ntmps5
    go_wp2_with fail
    refine (works_any w HT.out h0).mono ?_
    rintro e w' ⟨rfl, hb⟩
    go_wp2
    go_ret
    exact ⟨rfl, hb⟩
  by_cases c2 : 2000 < s ∧ s ≤ 65536
  · obtain ⟨c2, c3⟩ := c2
    go_enter Tryd.func5, Tryd.ntmps5
    go_wp2_with fail
    refine (works_any w HT.out h0).mono ?_
    rintro e w' ⟨rfl, hb⟩
    go_wp2
    go_ret
    exact ⟨rfl, hb⟩
  have hn : n ≤ 40 := by omega
  rcases Int.lt_or_le s (-100000) with hc | hc
  · exact LimbShift_far hs hB hx hn hc hs0 hs1 HT.out h0
  · rcases Int.lt_or_le 65536 s with hc' | hc'
    · exact LimbShift_big hs hB hx hn hc' hs0 hs1 HT.out h0
    · exact LimbShift_near hs hB hx hn hc (by omega) hs0 hs1 HT.out h0
end Go.Proofs.YtgdfjfmgcnbdaaaDoor
