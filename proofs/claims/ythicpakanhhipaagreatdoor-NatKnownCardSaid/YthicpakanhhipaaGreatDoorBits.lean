/- math/bits on 32 bits: Add32, Sub32, Mul32, Div32: what each call answers. -/
import Derived.Test.YthicpakanhhipaaGreatDoorProg
import Derived.WalkKit
import Derived.WalkSpells
import Derived.WalkLawsBesides
import Derived.Deep.QuietTactic
import Derived.BigQuiet
import Derived.Laws.BitsLemmas
import Derived.Lib.Hide
namespace Go.Proofs.YthicpakanhhipaaGreatDoor
open Go Go.RowKit

/-- 1 where y and the borrow c are together above x. -/
def bor (x y c : Int) : Int := if x < y + c then 1 else 0
theorem bor_01 (x y c : Int) : 0 ≤ bor x y c ∧ bor x y c ≤ 1 := by unfold bor; split <;> omega
theorem bor_eq {x y c : Int} (hx : 0 ≤ x ∧ x < 4294967296) (hy : 0 ≤ y ∧ y < 4294967296) (hc : 0 ≤ c ∧ c ≤ 1) : (x - y - c) % 4294967296 = x - y - c + 4294967296 * bor x y c := by
  unfold bor; split <;> omega

theorem wraps_u32 (n : Int) (h0 : 0 ≤ n) (h1 : n < 2 ^ 32) : IntKind.u32.wrap n = n := by rw [IntKind.wrap_u32]; omega
theorem wraps_u64 (n : Int) (h0 : 0 ≤ n) (h1 : n < 2 ^ 64) : IntKind.u64.wrap n = n := by
  rw [show IntKind.u64.wrap n = n % 18446744073709551616 by simp [IntKind.wrap, IntKind.bits, IntKind.signed]]; omega
theorem join64 {x y : Int} (hx : 0 ≤ x ∧ x < 4294967296) (hy : 0 ≤ y ∧ y < 4294967296) : bits .or .u64 (x * 4294967296) y = x * 4294967296 + y :=
  bits_join .u64 64 (by decide) wraps_u64 32 _ _ (by omega) (by omega) (by omega) hy.1 (by omega) (by omega)

theorem msb_iff (a : BitVec 32) : a.msb = decide (2147483648 ≤ a.toNat) := BitVec.msb_eq_decide a
theorem toNat_bits (op : BinOp) (a b : Int) (r : BitVec 32) (h : bits op .u32 a b = (r.toNat : Int)) : bits op .u32 a b = (r.toNat : Int) := h
theorem ofInt_u32 {x : Int} (hx : 0 ≤ x ∧ x < 4294967296) : ((BitVec.ofInt 32 x).toNat : Int) = x := by
  rw [BitVec.toNat_ofInt]; omega
theorem u32_wrap_nat (r : BitVec 32) : IntKind.u32.wrap (r.toNat : Int) = (r.toNat : Int) := by
  have := r.isLt
  rw [IntKind.wrap_u32]; omega
theorem bits_and_bv (x y : Int) : bits .and .u32 x y = ((BitVec.ofInt 32 x &&& BitVec.ofInt 32 y).toNat : Int) := u32_wrap_nat _
theorem bits_or_bv (x y : Int) : bits .or .u32 x y = ((BitVec.ofInt 32 x ||| BitVec.ofInt 32 y).toNat : Int) := u32_wrap_nat _
theorem bits_xor_bv (x y : Int) : bits .xor .u32 x y = ((BitVec.ofInt 32 x ^^^ BitVec.ofInt 32 y).toNat : Int) := u32_wrap_nat _
theorem ofInt_back (r : BitVec 32) : BitVec.ofInt 32 (r.toNat : Int) = r := by
  rw [BitVec.ofInt_natCast, BitVec.ofNat_toNat, BitVec.setWidth_eq]
theorem borrow_bits {x y c d : Int} (hx : 0 ≤ x ∧ x < 4294967296) (hy : 0 ≤ y ∧ y < 4294967296) (hc : 0 ≤ c ∧ c ≤ 1) (hd : d = (x - y - c) % 4294967296) :
    bits BinOp.or IntKind.u32 (bits BinOp.and IntKind.u32 (bits BinOp.xor IntKind.u32 IntKind.u32.max x) y)
      (bits BinOp.and IntKind.u32 (bits BinOp.xor IntKind.u32 IntKind.u32.max (bits BinOp.xor IntKind.u32 x y)) d) / 2147483648 = bor x y c := by
  have hm : (BitVec.ofInt 32 IntKind.u32.max : BitVec 32) = BitVec.allOnes 32 := by decide
  simp only [bits_and_bv, bits_or_bv, bits_xor_bv, ofInt_back, hm]
  have hX := ofInt_u32 hx
  have hY := ofInt_u32 hy
  have hD := ofInt_u32 (x := d) (by omega)
  generalize BitVec.ofInt 32 x = X at *
  generalize BitVec.ofInt 32 y = Y at *
  generalize BitVec.ofInt 32 d = D at *
  generalize hR : (BitVec.allOnes 32 ^^^ X) &&& Y ||| (BitVec.allOnes 32 ^^^ (X ^^^ Y)) &&& D = R
  have hmsb : R.msb = ((!X.msb && Y.msb) || ((X.msb == Y.msb) && D.msb)) := by
    rw [← hR]
    simp only [BitVec.msb_or, BitVec.msb_and, BitVec.msb_xor]
    rw [show (BitVec.allOnes 32).msb = true by decide]
    cases X.msb <;> cases Y.msb <;> cases D.msb <;> rfl
  rw [msb_iff, msb_iff, msb_iff, msb_iff] at hmsb
  have hl := R.isLt
  unfold bor
  rcases Nat.lt_or_ge X.toNat 2147483648 with h1 | h1 <;> rcases Nat.lt_or_ge Y.toNat 2147483648 with h2 | h2 <;> rcases Nat.lt_or_ge D.toNat 2147483648 with h3 | h3 <;>
    rcases Nat.lt_or_ge R.toNat 2147483648 with h4 | h4 <;> simp [h1, h2, h3, h4, Nat.not_le.2, Nat.not_lt.2] at hmsb <;> split <;> omega

set_option maxHeartbeats 400000 in
theorem add32_any (x y c : Int) (w : World) (hx : 0 ≤ x ∧ x < 4294967296) (hy : 0 ≤ y ∧ y < 4294967296) (hc : 0 ≤ c ∧ c ≤ 1) :
    Calls Tryz.prog 65 #[.int .u32 x, .int .u32 y, .int .u32 c] w fun e w' => e = .returned (.tuple #[.int .u32 ((x + y + c) % 4294967296), .int .u32 ((x + y + c) / 4294967296)]) ∧ w = w' := by
  go_enter Tryz.func65, Tryz.ntmps65
  go_wp2
  go_ret2
  exact ⟨rfl, rfl⟩

set_option maxHeartbeats 400000 in
theorem add32_zero (x c : Int) (w : World) (hx : 0 ≤ x ∧ x < 4294967296) (hc : 0 ≤ c ∧ c ≤ 1) :
    Calls Tryz.prog 65 #[.int .u32 x, .int .u32 0, .int .u32 c] w fun e w' => e = .returned (.tuple #[.int .u32 ((x + c) % 4294967296), .int .u32 ((x + c) / 4294967296)]) ∧ w = w' := by
  have := add32_any x 0 c w hx (by omega) hc
  rw [Int.add_zero] at this
  exact this

set_option maxHeartbeats 400000 in
theorem sub32_any (x y c : Int) (w : World) (hx : 0 ≤ x ∧ x < 4294967296) (hy : 0 ≤ y ∧ y < 4294967296) (hc : 0 ≤ c ∧ c ≤ 1) :
    Calls Tryz.prog 92 #[.int .u32 x, .int .u32 y, .int .u32 c] w fun e w' => e = .returned (.tuple #[.int .u32 ((x - y - c) % 4294967296), .int .u32 (bor x y c)]) ∧ w = w' := by
  have hsg : IntKind.u32.signed = false := rfl
  have hb := Lib.hid (borrow_bits hx hy hc rfl)
  go_enter Tryz.func92, Tryz.ntmps92
  go_wp2
  go_ret2
  rw [hb.out]
  refine ⟨?_, rfl⟩
  show Ending.returned (.tuple #[.int .u32 (((x - y) % 4294967296 - c) % 4294967296), .int .u32 (bor x y c)]) = _
  rw [show ((x - y) % 4294967296 - c) % 4294967296 = (x - y - c) % 4294967296 by omega]

set_option maxHeartbeats 400000 in
theorem mul32_any (x y : Int) (w : World) (hx : 0 ≤ x ∧ x < 4294967296) (hy : 0 ≤ y ∧ y < 4294967296) :
    Calls Tryz.prog 64 #[.int .u32 x, .int .u32 y] w fun e w' => e = .returned (.tuple #[.int .u32 (x * y / 4294967296), .int .u32 (x * y % 4294967296)]) ∧ w = w' := by
  have h0 : 0 ≤ x * y := Int.mul_nonneg hx.1 hy.1
  have h1 : x * y ≤ 4294967295 * 4294967295 := Int.mul_le_mul (by omega) (by omega) hy.1 (by omega)
  go_enter Tryz.func64, Tryz.ntmps64
  go_wp2
  go_ret2
  exact ⟨rfl, rfl⟩

theorem div_small {hi lo y : Int} (hx : 0 ≤ lo ∧ lo < 4294967296) (hy : 0 ≤ hi ∧ hi < y) : 0 ≤ (hi * 4294967296 + lo) / y ∧ (hi * 4294967296 + lo) / y < 4294967296 := by
  refine ⟨Int.ediv_nonneg (by omega) (by omega), Int.ediv_lt_of_lt_mul (by omega) ?_⟩
  have : (hi + 1) * 4294967296 ≤ y * 4294967296 := by omega
  omega

set_option maxHeartbeats 400000 in
theorem div32_any (hi lo y : Int) (w : World) (hx : 0 ≤ lo ∧ lo < 4294967296) (hy : 0 ≤ hi ∧ hi < y) (hc : y < 4294967296) :
    Calls Tryz.prog 54 #[.int .u32 hi, .int .u32 lo, .int .u32 y] w fun e w' => e = .returned (.tuple #[.int .u32 ((hi * 4294967296 + lo) / y), .int .u32 ((hi * 4294967296 + lo) % y)]) ∧ ∃ m, w' = w.drewN m := by
  have hj := join64 (x := hi) (y := lo) (by omega) hx
  have hd := div_small hx hy
  have hr0 := Int.emod_nonneg (hi * 4294967296 + lo) (show y ≠ 0 by omega)
  have hr1 := Int.emod_lt_of_pos (hi * 4294967296 + lo) (show 0 < y by omega)
  have hyb : (y != 0) = true := by rw [bne_iff_ne]; omega
  have hyd : decide (y ≤ hi) = false := by simp; omega
  have hy1 : 1 ≤ y := by omega
  go_enter Tryz.func54, Tryz.ntmps54
  go_wp2
  go_quiet (fail)
  go_wp2
  go_ret2
  exact ⟨rfl, _, rfl⟩
end Go.Proofs.YthicpakanhhipaaGreatDoor
