/- limb: shiftUp, shiftDown, Shift: what each call answers, and leaves. -/
import Derived.Test.YthicpakanhhipaaGreatDoorLimbD
namespace Go.Proofs.YthicpakanhhipaaGreatDoor
open Go Go.RowKit

theorem or_join {y x : Int} {d : Nat} (hd : d ≤ 32) (hy : 0 ≤ y ∧ y < 2 ^ d) (hx : 0 ≤ x) : bits BinOp.or IntKind.u32 y (x * 2 ^ d % 4294967296) = y + x * 2 ^ d % 4294967296 := by
  have h1 := Int.emod_nonneg (x * 2 ^ d) (show (4294967296 : Int) ≠ 0 by decide)
  have h2 := Int.emod_lt_of_pos (x * 2 ^ d) (show (0 : Int) < 4294967296 by decide)
  have hp := pow_le_limb hd
  have p : (0 : Int) < 2 ^ d := pow_pos' (by decide) d
  have e : x * 2 ^ d % 4294967296 % 2 ^ d = 0 := by
    rw [Int.emod_emod_of_dvd _ ⟨2 ^ (32 - d), (two_split hd).symm⟩, Int.mul_emod_left]
  have hc : bits BinOp.or IntKind.u32 y (x * 2 ^ d % 4294967296) = bits BinOp.or IntKind.u32 (x * 2 ^ d % 4294967296) y := by
    rw [bits_or_bv, bits_or_bv, BitVec.or_comm]
  rw [hc, bits_join .u32 32 (by decide) wraps_u32 d _ _ h1 e (by omega) hy.1 hy.2 (by omega)]
  omega

set_option maxHeartbeats 1000000 in
theorem shiftUp_any {w : World} {B : Nat} {A : Option Addr} {n c : Nat} {X : List Int} {s : Nat} (hs : Sl .u32 w B A n c X) (hB : B ≤ w.heap.size) (hx : Dg 4294967296 X) (hn : n ≤ 1000000000) (hsm : s ≤ 65536) :
    Calls Tryz.prog 77 #[.slice A n c, .int .u64 s] w (NewN w (2 ^ s * val 4294967296 X)) := by
  have hl := hs.len
  go_enter Tryz.func77, Tryz.ntmps77
  go_wp2_with (at_make; refine wpList_mk elemU rfl _ _ rfl (B := w.heap.size) (n + s / 32 + 1) rfl rfl (by omega) (by omega) (by omega) (by unfold maxLen; omega) (Nat.le_refl _) ?_; intro w1 h1 hg1)
  have hmk := Mk.made h1 hg1
  clear h1 hg1
  go_loopw [23] (fun iv wr => ∃ (i : Nat) (S : List Int) (q : Int), i ≤ n ∧ iv = .int .i64 i ∧ Mk .u32 27 w (some ⟨w.heap.size, 0, none⟩) (n + s / 32 + 1) (n + s / 32 + 1) S wr ∧ Up (s % 32) (s / 32) X S i q) (fun iv _ => n - (intOf iv).toNat)
  case atStart => exact ⟨0, _, 0, Nat.zero_le _, rfl, hmk, .start⟩
  case round =>
    obtain ⟨i, S, q, hi, rfl, hmr, hup⟩ := hrel
    clear hmk
    by_cases hlt : i < n
    · obtain ⟨b2, off2, x, rfl, _, ex, hc2⟩ := (hmr.other hs hB).at_ hlt
      have hxx := hx.get ex
      have hd : s % 32 ≤ 32 := by omega
      obtain ⟨g, y, hg, _, hy, hcell, hfr, hput⟩ := hmr.set (i := i + s / 32) (by omega)
      obtain rfl : w.heap.size = g := by simpa using hg
      obtain rfl : y = q := by have := hup.here; rw [hy] at this; injection this
      obtain ⟨g2, y2, hg2, _, _, hcell2, hfr2, _⟩ := hmr.set (i := i + s / 32 + 1) (by omega)
      obtain rfl : w.heap.size = g2 := by simpa using hg2
      obtain ⟨g2, y3, hg2, _, _, _, _, hput2⟩ := (hput (y + x * 2 ^ (s % 32) % 4294967296)).set (i := i + s / 32 + 1) (by omega)
      obtain rfl : w.heap.size = g2 := by simpa using hg2
      have hor := or_join hd hup.small hxx.1
      have hnext := Lib.hid (hput2 (x / 2 ^ (32 - s % 32)))
      have hstep := Lib.hid (hup.step hd ex hxx (by have := hmr.1.len; omega))
      clear hput hput2 hup hmr hs hy
      go_wp2
      go_roundw
      case rel => exact ⟨i + 1, _, _, by omega, by go_num, hnext.out, hstep.out⟩
      case measure => simp [intOf] <;> omega
    · obtain rfl : n = i := by omega
      have hfin := Lib.hid (hup.stop hl hmr.1.len)
      have hdg := hup.dg
      clear hup
      go_wp2_with fail
      refine (used_any hmr.1.sl).mono ?_
      rintro e w3 ⟨⟨A3, n3, c3, rfl, hs3, hA3⟩, rfl⟩
      go_wp2_with fail
      go_ret
      refine ⟨_, ⟨tl_Dg hdg, tl_idem _, ?_⟩, A3, n3, c3, rfl, hmr.1.used hs3 hA3, hmr.2⟩
      rw [tl_val, hfin.out, pow_limb s]

set_option maxHeartbeats 1000000 in
theorem shiftDown_any {w : World} {B : Nat} {A : Option Addr} {n c : Nat} {X : List Int} {s : Nat} (hs : Sl .u32 w B A n c X) (hB : B ≤ w.heap.size) (hx : Dg 4294967296 X) (hn : n ≤ 1000000000) (hsm : s ≤ 9223372036854775808) :
    Calls Tryz.prog 76 #[.slice A n c, .int .u64 s] w (NewN w (val 4294967296 X / 2 ^ s)) := by
  have hl := hs.len
  by_cases hsl : n ≤ s / 32
  · have hz := val_div_zero hx (s := s) (by omega)
    have hd : decide ((n : Int) ≤ (s : Int) / 32) = true := by simp; omega
    have hr : NewN w (val 4294967296 X / 2 ^ s) (.returned (.slice none 0 0)) w := ⟨[], ⟨Dg.nil, Tr.nil, by rw [hz]; rfl⟩, none, 0, 0, rfl, Own.nil, Below.refl _ _⟩
    have HR := Lib.hid hr
    clear hr hz
    go_enter Tryz.func76, Tryz.ntmps76
    go_wp2
    go_ret
    exact HR.out
  · have hd : decide ((n : Int) ≤ (s : Int) / 32) = false := by simp; omega
    obtain ⟨b, off, _, hA, _, _, _⟩ := hs.at_ (j := s / 32) (by omega)
    have hback := hs.back (m := s / 32) (by omega)
    have hcn := hs.le
    rw [if_neg (by omega), hA] at hback
    simp only [Option.map_some, Addr.add_lit] at hback
    subst hA
    have hval := Lib.hid (val_div hx (L := s / 32) (by omega) (s % 32))
    have hY := hx.drop (s / 32)
    have hll := hback.len
    generalize X.drop (s / 32) = Y at *
    clear hs
    have hmn : n - s / 32 ≤ 1000000000 := by omega
    go_enter Tryz.func76, Tryz.ntmps76
    go_wp2_with (at_make; refine wpList_mk elemU rfl _ _ rfl (B := w.heap.size) (n - s / 32) rfl rfl (by omega) (by omega) (by omega) (by unfold maxLen; omega) (Nat.le_refl _) ?_; intro w1 h1 hg1)
    have hmk := Mk.made h1 hg1
    clear h1 hg1
    generalize n - s / 32 = m at *
    generalize c - s / 32 = c2 at *
    go_loopw [27] (fun iv wr => ∃ (i : Nat) (S : List Int), i ≤ m ∧ iv = .int .i64 i ∧ Mk .u32 27 w (some ⟨w.heap.size, 0, none⟩) m m S wr ∧ Down (s % 32) Y S i) (fun iv _ => m - (intOf iv).toNat)
    case atStart => exact ⟨0, _, Nat.zero_le _, rfl, hmk, .start⟩
    case round =>
      obtain ⟨i, S, hi, rfl, hmr, hdn⟩ := hrel
      clear hmk
      by_cases hlt : i < m
      · obtain ⟨b2, off2, y, hA2, _, ey, hc2⟩ := (hmr.other hback hB).at_ hlt
        injection hA2 with hA2
        injection hA2 with e1 e2
        subst e1
        subst e2
        have hyy := hY.get ey
        have hSl := hmr.1.len
        obtain ⟨g, q, hg, _, hq, hcell, hfr, hput⟩ := hmr.set (i := i) (by omega)
        obtain rfl : w.heap.size = g := by simpa using hg
        by_cases hi0 : i = 0
        · subst hi0
          rw [Nat.add_zero] at hc2
          have hnext := Lib.hid (hput (y / 2 ^ (s % 32)))
          have hstep := Lib.hid (hdn.first ey hyy (by omega))
          clear hput hdn hmr hback hq
          go_wp2
          go_roundw
          case rel => exact ⟨1, _, by omega, by go_num, hnext.out, hstep.out⟩
          case measure => simp [intOf] <;> omega
        · obtain ⟨j, rfl⟩ : ∃ j, i = j + 1 := ⟨i - 1, by omega⟩
          obtain ⟨g2, z, hg2, _, hz, hcell2, hfr2, _⟩ := hmr.set (i := j) (by omega)
          obtain rfl : w.heap.size = g2 := by simpa using hg2
          obtain ⟨hzz, hstp⟩ := hdn.next (by omega) ey hyy hz hY (by omega)
          obtain ⟨g2, z2, hg2, _, hz2, hz3, hz4, hput2⟩ := (hput (y / 2 ^ (s % 32))).set (i := j) (by omega)
          obtain rfl : w.heap.size = g2 := by simpa using hg2
          have hor := or_join (d := 32 - s % 32) (by omega) hzz hyy.1
          have hnext := Lib.hid (hput2 (z + y * 2 ^ (32 - s % 32) % 4294967296))
          have hstep := Lib.hid hstp
          clear hput hput2 hdn hmr hback hq hz hstp hz2 hz3 hz4
          go_wp2
          go_roundw
          case rel => exact ⟨j + 1 + 1, _, by omega, by go_num, hnext.out, hstep.out⟩
          case measure => simp [intOf] <;> omega
      · obtain rfl : m = i := by omega
        have hfin := Lib.hid hdn
        clear hdn
        go_wp2_with fail
        refine (used_any hmr.1.sl).mono ?_
        rintro e w3 ⟨⟨A3, n3, c3, rfl, hs3, hA3⟩, rfl⟩
        go_wp2_with fail
        go_ret
        refine ⟨_, ⟨tl_Dg hfin.out.dg, tl_idem _, ?_⟩, A3, n3, c3, rfl, hmr.1.used hs3 hA3, hmr.2⟩
        have hnum := hfin.out.num
        rw [List.take_of_length_le (by have := hmr.1.len; omega), List.take_of_length_le (by omega)] at hnum
        rw [tl_val, hnum, hval.out, pow_limb s]

theorem neg_wrap {m : Nat} (h : (m : Int) ≤ 9223372036854775808) : IntKind.u64.wrap (-IntKind.u64.wrap (-(m : Int))) = (m : Int) := by
  have e : ∀ n : Int, IntKind.u64.wrap n = n % 18446744073709551616 := fun n => by simp [IntKind.wrap, IntKind.bits, IntKind.signed]
  rw [e, e]
  omega
/-- What Shift answers. -/
def ShiftR (w : World) (N : Int) (n : Int) (e : Ending) (w' : World) : Prop :=
  if n < 0 then NewE w (N / 2 ^ (-n).toNat) e w'
  else if N = 0 then e = .returned (.tuple #[.slice none 0 0, .int .i64 0]) ∧ Below w.heap.size w w'
  else if 65536 < n then e = .returned (.tuple #[.slice none 0 0, .int .i64 3]) ∧ Below w.heap.size w w'
  else NewE w (2 ^ n.toNat * N) e w'

set_option maxHeartbeats 1000000 in
theorem Shift_any {w : World} {B : Nat} {A : Option Addr} {n c : Nat} {xs : List Int} {s : Int} (hs : Sl .u32 w B A n c xs) (hB : B ≤ w.heap.size) (hx : Dg 4294967296 xs) (hn : n ≤ 1000000000) (hs0 : -9223372036854775808 ≤ s) (hs1 : s ≤ 9223372036854775807) :
    Calls Tryz.prog 55 #[.slice A n c, .int .i64 s] w (ShiftR w (val 4294967296 xs) s) := by
  have hv : Hid (val 4294967296 (tl xs) = val 4294967296 xs) := tl_val _ _
  have hX := tl_Dg hx
  have hT := tl_idem xs
  have hll : (tl xs).length ≤ 1000000000 := by have := tl_len xs; have := hs.len; omega
  by_cases hneg : s < 0
  · obtain ⟨m, rfl, hm⟩ : ∃ m : Nat, s = -(m : Int) ∧ 0 < m := ⟨(-s).toNat, by omega, by omega⟩
    have hw : IntKind.u64.wrap (-IntKind.u64.wrap (-(m : Int))) = (m : Int) := neg_wrap (by omega)
    go_enter Tryz.func55, Tryz.ntmps55
    go_wp2_with fail
    refine (used_any hs).mono ?_
    rintro e w' ⟨⟨A', n', c', rfl, hs', _⟩, rfl⟩
    have hl' := hs'.len
    go_wp2_with fail
    refine (shiftDown_any hs' hB hX (by omega) (by omega)).mono ?_
    rintro e w1 ⟨ys, hr, A3, n3, c3, rfl, h3, hb3⟩
    clear hw
    go_wp2_with fail
    go_ret2
    unfold ShiftR
    rw [if_pos hneg]
    refine ⟨ys, A3, n3, c3, ?_, rfl, h3, hb3⟩
    rw [← hv.out, show (- -(m : Int)).toNat = m by omega]
    exact hr
  · obtain ⟨m, rfl⟩ : ∃ m : Nat, s = (m : Int) := ⟨s.toNat, by omega⟩
    go_enter Tryz.func55, Tryz.ntmps55
    go_wp2_with fail
    refine (used_any hs).mono ?_
    rintro e w' ⟨⟨A', n', c', rfl, hs', _⟩, rfl⟩
    have hl' := hs'.len
    by_cases h0 : n' = 0
    · subst h0
      go_wp2_with fail
      go_ret2
      unfold ShiftR
      rw [if_neg (by omega), if_pos (by rw [← hv.out, List.eq_nil_of_length_eq_zero hl']; rfl)]
      exact ⟨rfl, Below.refl _ _⟩
    · have hbn : ((n' : Int) == 0) = false := beq_eq_false_iff_ne.2 (by omega)
      have hvne : val 4294967296 xs ≠ 0 := by
        intro h
        rw [← hv.out] at h
        have := Tr.zero (by decide) hX hT h
        rw [this] at hl'
        exact h0 hl'.symm
      by_cases hbig : 65536 < m
      · go_wp2_with fail
        go_ret2
        unfold ShiftR
        rw [if_neg (by omega), if_neg hvne, if_pos (by omega)]
        exact ⟨rfl, Below.refl _ _⟩
      · go_wp2_with fail
        refine (shiftUp_any hs' hB hX (by omega) (by omega)).mono ?_
        rintro e w1 ⟨ys, hr, A3, n3, c3, rfl, h3, hb3⟩
        go_wp2_with fail
        go_ret2
        unfold ShiftR
        rw [if_neg (by omega), if_neg hvne, if_neg (by omega)]
        refine ⟨ys, A3, n3, c3, ?_, rfl, h3, hb3⟩
        rw [← hv.out, Int.toNat_natCast]
        exact hr
end Go.Proofs.YthicpakanhhipaaGreatDoor
