/- nat: the parts of Gcd: what each call answers, and leaves. -/
import Derived.Test.YthicpakanhhipaaGreatDoorNatD
import Derived.Test.YthicpakanhhipaaGreatDoorMathG
namespace Go.Proofs.YthicpakanhhipaaGreatDoor
open Go Go.RowKit

theorem join64' {x y : Int} (hx : 0 ≤ x ∧ x < 4294967296) (hy : 0 ≤ y ∧ y < 4294967296) : bits .or .u64 y (x * 4294967296) = y + 4294967296 * x := by
  have e := join64 hx hy
  have hc : bits .or .u64 y (x * 4294967296) = bits .or .u64 (x * 4294967296) y := by
    obtain ⟨a, ha⟩ := Int.eq_ofNat_of_zero_le (show 0 ≤ x * 4294967296 by omega)
    obtain ⟨b, rfl⟩ := Int.eq_ofNat_of_zero_le hy.1
    have h1 : a < 2 ^ 64 := by omega
    have h2 : b < 2 ^ 64 := by omega
    rw [ha, (bits_nat .u64 64 (by decide) wraps_u64 b a h2 h1).2, (bits_nat .u64 64 (by decide) wraps_u64 a b h1 h2).2, Nat.or_comm]
  rw [hc, e]
  omega

set_option maxHeartbeats 1000000 in
theorem wordOf_any {w : World} {B : Nat} {A : Option Addr} {n c : Nat} {xs : List Int} (hs : Sl .u32 w B A n c xs) (hx : Dg 4294967296 xs) (hn : n ≤ 2) :
    Calls Tryz.prog 61 #[.slice A n c] w fun e w' => e = .returned (.int .u64 (val 4294967296 xs)) ∧ w = w' := by
  have hl := hs.len
  have hw32 : IntKind.i64.wrap (32 * 1) = 32 := by decide
  go_enter Tryz.func61, Tryz.ntmps61
  go_wp2
  go_loop [3, 8] (fun wv iv => ∃ k : Nat, k ≤ n ∧ iv = .int .i64 k ∧ wv = .int .u64 (val 4294967296 (xs.take k))) (fun _ iv => n - (intOf iv).toNat)
  case atStart => exact ⟨0, by omega, rfl, by simp [val]⟩
  case round =>
    obtain ⟨k, hk, rfl, rfl⟩ := hrel
    by_cases hlt : k < n
    · obtain ⟨b, off, x, rfl, _, ex, hcell⟩ := hs.at_ hlt
      have hxx := hx.get ex
      have hst := take_succ_of ex
      rcases (show k = 0 ∨ k = 1 by omega) with rfl | rfl
      · have h0 : val 4294967296 (xs.take 0) = 0 := by simp [val]
        have h1 : val 4294967296 (xs.take 1) = x := by rw [hst]; simp [val]
        have hor : bits .or .u64 0 x = x := by
          have := join64 (x := 0) (y := x) (by omega) hxx
          simpa using this
        rw [Nat.add_zero] at hcell
        rw [h0]
        go_wp2
        go_round
        case rel => exact ⟨1, by omega, by go_num, by rw [h1]⟩
        case measure => simp [intOf] <;> omega
      · obtain ⟨x0, ex0⟩ := get_of_lt (xs := xs) (i := 0) (by omega)
        have hx0 := hx.get ex0
        have h0 : val 4294967296 (xs.take 1) = x0 := by rw [take_succ_of ex0]; simp [val]
        have h1 : val 4294967296 (xs.take 2) = x0 + 4294967296 * x := by rw [hst, val_snoc, h0, List.length_take, Nat.min_eq_left (by omega)]; simp
        have hj := join64' (x := x) (y := x0) hxx hx0
        rw [h0]
        go_wp2
        go_round
        case rel => exact ⟨2, by omega, by go_num, by rw [h1]⟩
        case measure => simp [intOf] <;> omega
    · obtain rfl : n = k := by omega
      rw [List.take_of_length_le (by omega)]
      go_wp2
      go_ret
      exact ⟨rfl, rfl⟩

set_option maxHeartbeats 1000000 in
theorem rowOf_any {w : World} {W : Int} (hW : 0 ≤ W ∧ W < 18446744073709551616) :
    Calls Tryz.prog 59 #[.int .u64 W] w (NewN w W) := by
  go_enter Tryz.func59, Tryz.ntmps59
  have hd : Dg 4294967296 [W % 4294967296, W / 4294967296] := dg2 (by omega) (by omega)
  have hv : val 4294967296 [W % 4294967296, W / 4294967296] = W := by simp only [val]; omega
  have HR := Lib.hid (show Row 4294967296 W (tl [W % 4294967296, W / 4294967296]) from ⟨tl_Dg hd, tl_idem _, by rw [tl_val, hv]⟩)
  have hw1 : W / 4294967296 % 4294967296 = W / 4294967296 := by omega
  clear hd hv
  go_wp2_with fail
  refine (Trim_any (lit2 w w.heap.size rfl (W % 4294967296) (W / 4294967296) 27) (by omega)).mono ?_
  rintro e w1 ⟨A1, n1, c1, rfl, ho, hb⟩
  have ho' := Lib.hid (ho.lower (B' := w.heap.size) (by rw [size_one]; omega))
  have hb' := Lib.hid (below_a1 hb)
  clear ho hb
  go_wp2_with fail
  go_ret
  exact ⟨_, HR.out, A1, n1, c1, rfl, ho'.out, hb'.out⟩

set_option maxHeartbeats 1000000 in
theorem gcdOfWords_any {w : World} {a b : Int} (ha : 0 ≤ a ∧ a < 18446744073709551616) (hb : 0 ≤ b ∧ b < 18446744073709551616) :
    Calls Tryz.prog 60 #[.int .u64 a, .int .u64 b] w fun e w' => e = .returned (.int .u64 (gcdI a b)) ∧ ∃ k, w' = w.drewN k := by
  go_enter Tryz.func60, Tryz.ntmps60
  go_wp2
  go_loopw [0, 1] (fun av bv wr => ∃ (x y : Int) (k : Nat), av = .int .u64 x ∧ bv = .int .u64 y ∧ (0 ≤ x ∧ x < 18446744073709551616) ∧ (0 ≤ y ∧ y < 18446744073709551616) ∧ Hid (gcdI x y = gcdI a b) ∧ wr = w.drewN k) (fun _ bv _ => (intOf bv).toNat)
  case atStart => exact ⟨a, b, 0, rfl, rfl, ha, hb, rfl, rfl⟩
  case round =>
    obtain ⟨x, y, k, rfl, rfl, hx, hy, hg, rfl⟩ := hrel
    by_cases h0 : y = 0
    · subst h0
      have hf := Lib.hid (show x = gcdI a b by rw [← hg.out, gcdI_zero hx.1])
      clear hg
      go_wp2
      go_ret
      exact ⟨congrArg (fun z => Ending.returned (.int .u64 z)) hf.out, k, rfl⟩
    · have hyb : (y != 0) = true := by rw [bne_iff_ne]; exact h0
      have hn := Lib.hid (show gcdI y (x % y) = gcdI a b by rw [gcdI_next hx.1 (by omega)]; exact hg.out)
      have hr0 := Int.emod_nonneg x h0
      have hr1 := Int.emod_lt_of_pos x (show 0 < y by omega)
      clear hg
      go_wp2
      go_quiet (fail)
      go_wp2
      go_roundw
      case rel => exact ⟨y, x % y, _, rfl, rfl, hy, by omega, hn.out, by first | rfl | (simp only [World.drewN_drewN]; rfl)⟩
      case measure => simp [intOf] <;> omega

/-- Two less ones with the same greatest divisor. -/
def LessR (w : World) (Bs : Nat) (a b : Int) (e : Ending) (w' : World) : Prop :=
  ∃ C D cs ds A1 n1 c1 A2 n2 c2, e = .returned (.tuple #[.slice A1 n1 c1, .slice A2 n2 c2]) ∧ Row 4294967296 C cs ∧ Row 4294967296 D ds ∧ Own .u32 27 w' Bs A1 n1 c1 cs ∧ Own .u32 27 w' Bs A2 n2 c2 ds ∧
    0 ≤ D ∧ D < C ∧ C ≤ b ∧ gcdI C D = gcdI a b ∧ Below w.heap.size w w'

set_option maxHeartbeats 1000000 in
theorem divided_any {w : World} {Bs : Nat} {A A2 : Option Addr} {n c m c2 : Nat} {X Y : List Int} {a b : Int} (hs : Own .u32 27 w Bs A n c X) (ht : Own .u32 27 w Bs A2 m c2 Y) (rX : Row 4294967296 a X) (rY : Row 4294967296 b Y)
    (hBs : Bs ≤ w.heap.size) (ha : 0 ≤ a) (hb : 0 < b) (hT : HalfT w) (hT0 : 0 < w.heap.size) (hn : n ≤ 400000000) (hm : m ≤ 400000000) :
    Calls Tryz.prog 58 #[.slice A n c, .slice A2 m c2] w (LessR w Bs a b) := by
  have HD := Lib.hid (DivMod_any hs.sl ht.sl (Nat.le_refl _) hT hT0 rX.dg rY.dg hn hm)
  go_enter Tryz.func58, Tryz.ntmps58
  go_wp2_with fail
  refine HD.out.mono ?_
  rintro e w1 h
  rcases h with ⟨h, _⟩ | ⟨_, qs, rs, A3, n3, c3, A4, n4, c4, rfl, hq, hr, ho3, ho4, hbw⟩
  · rw [rY.val] at h; omega
  · rw [rX.val, rY.val] at hr
    have hN := Lib.hid (gcdI_next ha hb)
    have hR := Lib.hid hr
    have o2 := Lib.hid (ht.below hbw)
    have o4 := Lib.hid (ho4.lower hBs)
    have HB := Lib.hid hbw
    have h0 := Int.emod_nonneg a (show b ≠ 0 by omega)
    have h1 := Int.emod_lt_of_pos a hb
    clear hq hr ho3 ho4 hbw
    go_wp2_with fail
    go_ret2
    exact ⟨b, a % b, Y, rs, A2, m, c2, A4, n4, c4, rfl, rY, hR.out, o2.out, o4.out, h0, h1, Int.le_refl _, hN.out, HB.out⟩
end Go.Proofs.YthicpakanhhipaaGreatDoor
