/- nat: Pow: what each call answers, and leaves. -/
import Derived.Test.YthicpakanhhipaaGreatDoorNatG
import Derived.Test.YthicpakanhhipaaGreatDoorShelf
namespace Go.Proofs.YthicpakanhhipaaGreatDoor
open Go Go.RowKit

theorem bitLen_up {n : Nat} (h : n < 2 ^ 64) : n < 2 ^ Lib.bitLen n ∧ (n ≠ 0 → 2 ^ (Lib.bitLen n - 1) ≤ n) := by
  rcases Nat.eq_zero_or_pos n with rfl | h0
  · exact ⟨by decide, fun h => absurd rfl h⟩
  · have := Lib.bitLenAux_bounds 64 n h (by omega)
    exact ⟨this.2.2, fun _ => this.2.1⟩
theorem bitLen_small {n : Nat} (h : n ≤ 4096) : Lib.bitLen n ≤ 13 := by
  rcases Nat.eq_zero_or_pos n with rfl | h0
  · decide
  · have h1 := (bitLen_up (n := n) (by omega)).2 (by omega)
    rcases Nat.lt_or_ge 13 (Lib.bitLen n) with h2 | h2
    · have := Nat.pow_le_pow_right (show 0 < 2 by decide) (show 13 ≤ Lib.bitLen n - 1 by omega)
      omega
    · exact h2
theorem and1_i64 {x : Int} (h0 : 0 ≤ x) (h1 : x < 4097) : bits .and .i64 x 1 = x % 2 := bits_mask .i64 32 (by decide) (fun n h0 h1 => by rw [IntKind.wrap_i64]; omega) 1 (by decide) x h0 (by omega)
/-- n times base, and half of it. -/
theorem pow_half {b : Int} {n j : Nat} : (n / 2 ^ j % 2 = 0 → b ^ (n / 2 ^ j) = b ^ (n / 2 ^ (j + 1)) * b ^ (n / 2 ^ (j + 1))) ∧ (n / 2 ^ j % 2 = 1 → b ^ (n / 2 ^ j) = b * (b ^ (n / 2 ^ (j + 1)) * b ^ (n / 2 ^ (j + 1)))) := by
  have e : n / 2 ^ (j + 1) = n / 2 ^ j / 2 := by rw [Nat.pow_succ, Nat.div_div_eq_div_mul]
  rw [e]
  generalize n / 2 ^ j = m
  refine ⟨fun h => ?_, fun h => ?_⟩
  · rw [← Int.pow_add]; congr 1; omega
  · rw [← Int.pow_add, Int.mul_comm, ← Int.pow_succ]; congr 1; omega
theorem pow_len {b : Int} {n m : Nat} {zs : List Int} (hb : 0 ≤ b ∧ b < 4294967296) (h : Row 4294967296 (b ^ n) zs) (hn : n ≤ m) (hm : 0 < m) : zs.length ≤ m := by
  refine h.len_le (by decide) ?_
  have h1 : b ^ n < 4294967296 ^ m := by
    rcases Nat.eq_zero_or_pos n with rfl | h0
    · have := pow_mono (show (0 : Int) < 4294967296 by decide) (show 1 ≤ m by omega)
      simp only [Int.pow_zero, Int.pow_succ, Int.one_mul] at this ⊢
      omega
    · have h2 : b ^ n < 4294967296 ^ n := by
        obtain ⟨k, rfl⟩ : ∃ k, n = k + 1 := ⟨n - 1, by omega⟩
        clear h h0 hn
        induction k with
        | zero => simp only [Nat.zero_add, Int.pow_succ, Int.pow_zero, Int.one_mul]; omega
        | succ k ih =>
          rw [Int.pow_succ, Int.pow_succ (4294967296 : Int)]
          have p0 : 0 ≤ b ^ (k + 1) := Int.pow_nonneg hb.1
          have a1 : b ^ (k + 1) * b ≤ b ^ (k + 1) * 4294967296 := Int.mul_le_mul_of_nonneg_left (by omega) p0
          have a2 : b ^ (k + 1) * 4294967296 < 4294967296 ^ (k + 1) * 4294967296 := Int.mul_lt_mul_of_pos_right ih (by decide)
          omega
      have := pow_mono (show (0 : Int) < 4294967296 by decide) hn
      omega
  exact h1

set_option maxHeartbeats 1000000 in
theorem Pow_any {w : World} {b : Int} {n : Nat} (hb : 0 ≤ b ∧ b < 4294967296) (hn : n ≤ 4096) :
    Calls Tryz.prog 22 #[.int .u32 b, .int .i64 n] w (NewE w (b ^ n)) := by
  have hup := (bitLen_up (n := n) (by omega)).1
  have hsm := bitLen_small hn
  have hz : n / 2 ^ Lib.bitLen n = 0 := Nat.div_eq_of_lt hup
  have HL := Lib.hid (Tryz.bits_Len (n : Int) (w.alloc (.cells #[.int .u32 1] 27)) (by omega) (by omega))
  rw [Int.toNat_natCast] at HL
  generalize Lib.bitLen n = L at *
  have h1 : ¬ (n : Int) < 0 := by omega
  have h2 : ¬ 4096 < (n : Int) := by omega
  have ho : Own .u32 27 (w.alloc (.cells #[.int .u32 1] 27)) w.heap.size (some ⟨w.heap.size, 0, none⟩) 1 1 [1] := Own.lit .u32 27 w (Nat.le_refl _) [1] 1 rfl (by omega)
  have hbl : Below w.heap.size w (w.alloc (.cells #[.int .u32 1] 27)) := (Below.refl _ _).alloc (Nat.le_refl _) _
  go_enter Tryz.func22, Tryz.ntmps22
  go_wp2_with fail
  refine HL.out.mono ?_
  rintro e w1 ⟨rfl, hw1⟩
  generalize w.alloc (.cells #[.int .u32 1] 27) = w2 at *
  subst hw1
  go_wp2_with fail
  go_loopw [6, 7] (fun pv iv wr => ∃ (k n3 c3 : Nat) (A3 : Option Addr) (O : List Int), k ≤ 13 ∧ iv = .int .i64 ((k : Int) - 1) ∧ pv = .slice A3 n3 c3 ∧ Own .u32 27 wr w.heap.size A3 n3 c3 O ∧ Hid (Row 4294967296 (b ^ (n / 2 ^ k)) O) ∧ Below w.heap.size w wr) (fun _ iv _ => (intOf iv + 1).toNat)
  case atStart => exact ⟨L, 1, 1, _, [1], hsm, rfl, rfl, ho, by rw [hz]; exact row1 (by simp) (by omega), hbl⟩
  case round =>
    clear ho hbl hz hup
    obtain ⟨k, n3, c3, A3, O, hk, rfl, rfl, oP, RP, br⟩ := hrel
    by_cases h0 : k = 0
    · subst h0
      have RR := Lib.hid (show Row 4294967296 (b ^ n) O by have := RP.out; simpa using this)
      have HB := Lib.hid br
      clear br RP
      go_wp2_with fail
      go_ret2
      exact ⟨O, A3, n3, c3, RR.out, rfl, oP, HB.out⟩
    · obtain ⟨j, rfl⟩ : ∃ j, k = j + 1 := ⟨k - 1, by omega⟩
      have hbz := br.size
      have HB := Lib.hid br
      have hl3 : n3 ≤ 4096 := by rw [← oP.len]; exact pow_len hb RP.out (Nat.le_trans (Nat.div_le_self _ _) hn) (by decide)
      have HM := Lib.hid (Mul_any oP.sl oP.sl (Nat.le_refl _) RP.out.dg RP.out.dg (by omega) (by omega))
      rw [RP.out.val] at HM
      have hph := Lib.hid (pow_half (b := b) (n := n) (j := j))
      have hq : (n / 2 ^ j) ≤ n := Nat.div_le_self _ _
      have hbit : bits .and .i64 ((n : Int) / 2 ^ j) 1 = ((n / 2 ^ j % 2 : Nat) : Int) := by
        rw [show (n : Int) / 2 ^ j = ((n / 2 ^ j : Nat) : Int) by simp]
        clear hph HM
        generalize n / 2 ^ j = m at *
        rw [and1_i64 (by omega) (by omega)]
        omega
      clear br oP RP
      go_wp2_with fail
      refine HM.out.mono ?_
      rintro e w3 ⟨Q, rQ, A4, n4, c4, rfl, oQ, b3⟩
      have B3 := Lib.hid (HB.out.trans (b3.mono hbz))
      have oQ' := oQ.lower (B' := w.heap.size) hbz
      have hbz3 : w.heap.size ≤ w3.heap.size := B3.out.size
      have RQ := Lib.hid rQ
      clear b3 oQ rQ HM HB
      rcases (show n / 2 ^ j % 2 = 0 ∨ n / 2 ^ j % 2 = 1 by omega) with hbt | hbt
      · have hb0 : (bits .and .i64 ((n : Int) / 2 ^ j) 1 == 1) = false := by rw [hbit, hbt]; rfl
        have R2 := Lib.hid (show Row 4294967296 (b ^ (n / 2 ^ j)) Q by rw [hph.out.1 hbt]; exact RQ.out)
        clear hbit hph RQ
        go_wp2_with fail
        go_roundw
        case rel => exact ⟨j, n4, c4, A4, Q, by omega, by simp, rfl, oQ', R2, B3.out⟩
        case measure => simp [intOf] <;> omega
      · have hb0 : (bits .and .i64 ((n : Int) / 2 ^ j) 1 == 1) = true := by rw [hbit, hbt]; rfl
        have hd := RQ.out.dg
        have hmul : ∀ zs, Row 4294967296 (b * val 4294967296 Q) zs → Row 4294967296 (b ^ (n / 2 ^ j)) zs := fun zs h => by rw [hph.out.2 hbt, ← RQ.out.val]; exact h
        have HMl := Lib.hid hmul
        have hl4 : n4 ≤ 100000 := by
          rw [← oQ'.len]
          have : b ^ (n / 2 ^ (j + 1)) * b ^ (n / 2 ^ (j + 1)) = b ^ (n / 2 ^ (j + 1) + n / 2 ^ (j + 1)) := by rw [Int.pow_add]
          have h3 := RQ.out
          rw [this] at h3
          have := Nat.div_le_self n (2 ^ (j + 1))
          exact pow_len hb h3 (by omega) (by decide)
        clear hbit hph hmul RQ
        go_wp2_with fail
        refine (MulSmall_any oQ'.sl (Nat.le_refl _) hd hb (by omega)).mono ?_
        rintro e w5 ⟨R, rR, A6, n6, c6, rfl, oR, b5⟩
        have R2 := Lib.hid (HMl.out _ rR)
        have B5 := Lib.hid (B3.out.trans (b5.mono hbz3))
        have oR' := oR.lower (B' := w.heap.size) hbz3
        clear rR b5 oR hd HMl
        go_wp2_with fail
        go_roundw
        case rel => exact ⟨j, n6, c6, A6, R, by omega, by simp, rfl, oR', R2, B5.out⟩
        case measure => simp [intOf] <;> omega

theorem Pow_none {w : World} {b : Int} {n : Int} (hn : n < 0 ∧ -9223372036854775808 ≤ n) :
    Calls Tryz.prog 22 #[.int .u32 b, .int .i64 n] w fun e w' => e = .returned (.tuple #[.slice none 0 0, .int .i64 2]) ∧ w = w' := by
  go_enter Tryz.func22, Tryz.ntmps22
  go_wp2_with fail
  go_ret2
  exact ⟨rfl, rfl⟩
theorem Pow_long {w : World} {b : Int} {n : Int} (hn : 4096 < n ∧ n ≤ 9223372036854775807) :
    Calls Tryz.prog 22 #[.int .u32 b, .int .i64 n] w fun e w' => e = .returned (.tuple #[.slice none 0 0, .int .i64 3]) ∧ w = w' := by
  have h1 : ¬ n < 0 := by omega
  go_enter Tryz.func22, Tryz.ntmps22
  go_wp2_with fail
  go_ret2
  exact ⟨rfl, rfl⟩
end Go.Proofs.YthicpakanhhipaaGreatDoor
