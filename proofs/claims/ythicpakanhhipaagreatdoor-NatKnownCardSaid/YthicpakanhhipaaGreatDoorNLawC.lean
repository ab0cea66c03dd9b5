/- tallagelaw02: NatBack: it returns true, whatever the rows, the text, and the powers are. -/
import Derived.Test.YthicpakanhhipaaGreatDoorNLawB
import Derived.Test.YthicpakanhhipaaGreatDoorMathU
namespace Go.Proofs.YthicpakanhhipaaGreatDoor
open Go Go.RowKit

theorem big_lt : (4294967296 : Int) ^ 100 ≤ 1000000000 ^ 456 := by decide +kernel
theorem ten_lt : (10 : Int) ^ 4096 ≤ 1000000000 ^ 456 := by
  rw [nine_ten 456 4104 rfl]
  exact pow_mono (by decide) (by decide)
theorem limbs_ten : (4294967296 : Int) ^ 100 ≤ 10 ^ 1000 := by decide +kernel
section
variable {w w' : World} {M : Nat} {N : Int} {A : Option Addr} {n c : Nat}
theorem putS (h : RdS w M N A n c) (hE : Env w) (hM : M ≤ 100000) (hN : N < 1000000000 ^ 456) : Calls Tryz.prog 24 #[.slice A n c] w (PutB w N) := by
  obtain ⟨xs, d, v, s, l⟩ := h
  subst v
  exact Put_any s (Nat.le_refl _) d (by omega) hN hE
/-- A text that is a number's writing is parsed as it. -/
theorem parseS {s : ByteArray} (hs : s.data.toList = putL N.toNat) (h0 : 0 ≤ N) (hM : N < 4294967296 ^ M) (hl : (putL N.toNat).length ≤ 4096) : Calls Tryz.prog 20 #[.string s] w fun e w' =>
    ∃ A n c, e = .returned (.tuple #[.slice A n c, .int .i64 0]) ∧ RwS w' M N A n c ∧ Below w.heap.size w w' := by
  have hw := putL_written hs
  have hz : s.size ≤ 4096 := by rw [size_toList, hs]; exact hl
  refine (Parse_any s (by unfold maxLen; omega)).mono ?_
  rintro e w' h
  rcases h with ⟨h, _⟩ | ⟨_, h, _⟩ | ⟨_, _, ys, A, n, c, hr, rfl, ho, hb⟩
  · exact absurd hw h
  · omega
  · rw [hs, dval_putL, Int.toNat_of_nonneg h0] at hr
    exact ⟨A, n, c, rfl, .row hr ho.sl (Nat.le_refl _) hM, hb⟩
theorem powS {b : Int} {k : Nat} (hb : 0 ≤ b ∧ b < 4294967296) (hk : k ≤ 4096) : Calls Tryz.prog 22 #[.int .u32 b, .int .i64 k] w fun e w' =>
    ∃ A n c, e = .returned (.tuple #[.slice A n c, .int .i64 0]) ∧ RwS w' (k + 1) (b ^ k) A n c ∧ Below w.heap.size w w' := by
  refine (Pow_any hb hk).mono ?_
  rintro e w' ⟨ys, A, n, c, hr, rfl, ho, hb'⟩
  refine ⟨A, n, c, rfl, ⟨ys, hr, ho.sl, ?_⟩, hb'⟩
  rw [← ho.len]
  exact pow_len hb hr (by omega) (by omega)
end

set_option maxRecDepth 20000 in
set_option maxHeartbeats 8000000 in
theorem NatBack_any {w : World} {B : Nat} {A : Option Addr} {n c : Nat} {xs : List Int} {s : ByteArray} {b : Int} {p k : Nat} (hs : Sl .u32 w B A n c xs) (hB : B ≤ w.heap.size) (hx : Dg 4294967296 xs) (hsz : s.size ≤ maxLen) (hb : 0 ≤ b ∧ b < 4294967296) (hp : p < 256) (hk : k < 256) (hE : Env w) :
    Calls Tryz.prog 27 #[.slice A n c, .string s, .int .u32 b, .int .u8 p, .int .u8 k] w fun e w' => e = .returned (.bool true) ∧ Below w.heap.size w w' := by
  have hW := Lib.hid (works_any w hE)
  have HE := Lib.hid hE
  by_cases hbig : n ≤ 100 ∧ s.size ≤ 4096
  · obtain ⟨l1, l2⟩ := hbig
    have i1 : ¬ 100 < (n : Int) := by omega
    have i2 : ¬ 4096 < (s.size : Int) := by omega
    have a0 : RdS w 100 (val 4294967296 xs) A n c := ⟨xs, hx, rfl, hs.more hB, l1⟩
    generalize val 4294967296 xs = a at *
    have ab := a0.bound
    have HAb := Lib.hid ab
    have HP := Lib.hid (putS a0 hE (by omega) (Int.lt_of_lt_of_le ab.2 big_lt))
    have hlen : (putL a.toNat).length ≤ 4096 := Nat.le_trans (putL_len_of 1000 (Int.lt_of_lt_of_le ab.2 limbs_ten)) (by omega)
    clear hs hx hE hW ab hsz
    go_enter Tryz.func27, Tryz.ntmps27
    go_wp2_with fail
    refine HP.out.mono ?_
    rintro e w1 ⟨t, rfl, ht, b1⟩
    have H1 := Lib.hid (parseS (w := w1) ht HAb.out.1 HAb.out.2 hlen)
    clear HP ht hlen
    go_wp2_with fail
    refine H1.out.mono ?_
    rintro e w2 ⟨A1, n1, c1, rfl, r1, b2⟩
    have B2 := b1.trans (b2.mono b1.size)
    have H2 := Lib.hid (trimS (a0.below B2) (by omega))
    clear H1 b1 b2
    go_wp2_with fail
    refine H2.out.mono ?_
    rintro e w3 ⟨A2, n2, c2, rfl, r2, b3⟩
    have B3 := B2.trans (b3.mono B2.size)
    have H3 := Lib.hid (sameS (r1.below b3) r2 rfl)
    clear H2 r1 r2 b3 B2
    go_wp2_with fail
    refine H3.out.mono ?_
    rintro e w4 ⟨rfl, b4⟩
    have B4 := B3.trans (b4.mono B3.size)
    have H4 := Lib.hid (Parse_any (w := w4) s (by unfold maxLen; omega))
    clear H3 b4 B3
    go_wp2_with fail
    refine H4.out.mono ?_
    rintro e w5 h
    have h5 : (∃ er : Int, er ≠ 0 ∧ e = .returned (.tuple #[.slice none 0 0, .int .i64 er]) ∧ Below w4.heap.size w4 w5) ∨ (Written s ∧ ∃ A n c ys, e = .returned (.tuple #[.slice A n c, .int .i64 0]) ∧ Row 4294967296 (dval s.data.toList) ys ∧ Sl .u32 w5 w5.heap.size A n c ys ∧ Below w4.heap.size w4 w5) := by
      rcases h with ⟨_, h, hb⟩ | ⟨_, _, h, hb⟩ | ⟨hw, _, ys, A, n, c, hr, h, ho, hb⟩
      · exact .inl ⟨60, by omega, h, hb⟩
      · exact .inl ⟨3, by omega, h, hb⟩
      · exact .inr ⟨hw, A, n, c, ys, h, hr, ho.sl, hb⟩
    clear h H4
    have hk45 : (k : Int).tmod 45 = ((k % 45 : Nat) : Int) := by rw [Int.tmod_eq_emod_of_nonneg (by omega)]; omega
    have hwk : IntKind.i64.wrap ((k % 45 : Nat) : Int) = ((k % 45 : Nat) : Int) := by rw [IntKind.wrap_i64]; omega
    have hadd : (p : Int) + ((k % 45 : Nat) : Int) = ((p + k % 45 : Nat) : Int) := by omega
    have hj : k % 45 < 45 := by omega
    rcases h5 with ⟨er, her, rfl, b5⟩ | ⟨hw, A3, n3, c3, ys, rfl, rS, sS, b5⟩
    case' inl =>
      have hne : (er == 0) = false := beq_eq_false_iff_ne.2 her
      have B6 := Lib.hid (B4.trans (b5.mono B4.size))
      have HPw := Lib.hid (fun w => powS (w := w) (b := b) (k := p) hb (by omega))
      clear B4 b5 a0
      obtain ⟨w6, rfl⟩ : ∃ w6 : World, w6 = w5 := ⟨_, rfl⟩
      go_wp2_with fail
    case' inr =>
      have HPw := Lib.hid (fun w => powS (w := w) (b := b) (k := p) hb (by omega))
      have B5 := B4.trans (b5.mono B4.size)
      have hdl := dval_bound _ hw.2.2
      have hNl : dval s.data.toList < 1000000000 ^ 456 := Int.lt_of_lt_of_le (Int.lt_of_lt_of_le hdl.2 (pow_mono (by decide) (show s.data.toList.length ≤ 4096 by rw [← size_toList]; exact l2))) ten_lt
      have hl3 : n3 ≤ 100000 := by
        rw [← sS.len]
        exact Nat.le_trans (rS.len_le (k := 456) (by decide) (Int.lt_of_lt_of_le hNl (by decide +kernel))) (by omega)
      have H5 := Lib.hid (Put_any sS (Nat.le_refl _) rS.dg (by omega) (by rw [rS.val]; exact hNl) (HE.out.below B5))
      rw [rS.val] at H5
      have hbk := Lib.hid (putL_back hw)
      clear B4 b5 a0 hdl hNl rS sS hw
      go_wp2_with fail
      refine H5.out.mono ?_
      rintro e w6 ⟨t2, rfl, ht2, b6⟩
      obtain rfl : t2 = s := ByteArray.ext (Array.toList_inj.1 (by rw [ht2, hbk.out]))
      have B6 := Lib.hid (B5.trans (b6.mono B5.size))
      clear B5 b6 H5 hbk ht2
      go_wp2_with fail
    all_goals
      refine (HPw.out w6).mono ?_
      rintro e w7 ⟨A5, n5, c5, rfl, r5, b7⟩
      have B7 := B6.out.trans (b7.mono B6.out.size)
      have H6 := Lib.hid (powS (w := w7) (b := b) (k := k % 45) hb (by omega))
      clear HPw b7
      go_wp2_with fail
      refine H6.out.mono ?_
      rintro e w8 ⟨A6, n6, c6, rfl, r6, b8⟩
      have B8 := B7.trans (b8.mono B7.size)
      have r58 := r5.below b8
      have H7 := Lib.hid (powS (w := w8) (b := b) (k := p + k % 45) hb (by omega))
      clear H6 b8 r5 B7 B6
      go_wp2_with fail
      refine H7.out.mono ?_
      rintro e w9 ⟨A7, n7, c7, rfl, r7, b9⟩
      have B9 := B8.trans (b9.mono B8.size)
      have H8 := Lib.hid (mulS (r58.below b9).rd (r6.below b9).rd (by omega))
      clear H7 b9 r58 r6 B8
      go_wp2_with fail
      refine H8.out.mono ?_
      rintro e w10 ⟨A8, n8, c8, rfl, r8, b10⟩
      have B10 := B9.trans (b10.mono B9.size)
      have H9 := Lib.hid (sameS r8 (r7.below b10) (Int.pow_add b p (k % 45)).symm)
      clear H8 b10 r7 r8 B9
      go_wp2_with fail
      refine H9.out.mono ?_
      rintro e w11 ⟨rfl, b11⟩
      have B11 := Lib.hid (B10.trans (b11.mono B10.size))
      have HW2 := Lib.hid (works_any w11 (HE.out.below B11.out))
      clear H9 B10 b11
      go_wp2_with fail
      refine HW2.out.mono ?_
      rintro e w12 ⟨rfl, b12⟩
      have B12 := Lib.hid (B11.out.trans (b12.mono B11.out.size))
      clear b12 HW2
      go_wp2_with fail
      go_ret
      exact ⟨rfl, B12.out⟩
  · have hsz' : (s.size : Int) ≤ 9223372036854775807 := by unfold maxLen at hsz; omega
    go_enter Tryz.func27, Tryz.ntmps27
    have h3 : 100 < n ∨ (¬ 100 < n ∧ 4096 < s.size) := by omega
    rcases h3 with h | ⟨h1, h2⟩
    case' inl => have i1 : 100 < (n : Int) := by omega
    case' inr =>
      have i1 : ¬ 100 < (n : Int) := by omega
      have i2 : 4096 < (s.size : Int) := by omega
    all_goals
      clear hE HE hs
      go_wp2_with fail
      refine hW.out.mono ?_
      rintro e w1 ⟨rfl, b1⟩
      have B1 := Lib.hid b1
      clear b1
      go_wp2_with fail
      go_ret
      exact ⟨rfl, B1.out⟩
end Go.Proofs.YthicpakanhhipaaGreatDoor
