/- nat: Pow: what each call answers, and leaves. -/
import Derived.Test.YtbjooeapjhaapaaGreatDoorNatG
import Derived.Test.YtbjooeapjhaapaaGreatDoorShelf
import Derived.Lib.Walk
import Derived.Lib.ItoaWalk
import Derived.Lib.ItoaMem
import Derived.Lib.AppendIntMem
import Derived.BigCall
import Derived.BigGuard
import Derived.Test.YtbjooeapjhaapaaGreatDoorMathU
import Derived.Laws.Tables
import Derived.Laws.ResultCell
import Derived.Laws.CopyRow
import Derived.Lib.AtoiErrMem
import Derived.Lib.AppendStr
import Derived.Lib.Join
namespace Go.Proofs.YtbjooeapjhaapaaGreatDoor
open Go Go.RowKit

theorem bitLen_up {n : Nat} (h : n < 2 ^ 64) : n < 2 ^ Lib.bitLen n ∧ (n ≠ 0 → 2 ^ (Lib.bitLen n - 1) ≤ n) := by
  rcases Nat.eq_zero_or_pos n with rfl | h0
  · exact ⟨by decide, fun h => absurd rfl h⟩
  · have := Lib.bitLenAux_bounds 64 n h (by omega)
    exact ⟨this.2.2, fun _ => this.2.1⟩
theorem bitLen_small {n : Nat} (h : n ≤ 4096) : Lib.bitLen n ≤ 13 := by
  rcases Nat.eq_zero_or_pos n with rfl | h0
  · decide
  · have h1 := (bitLen_up (n := n) (by omega)).2 (by omega)
    rcases Nat.lt_or_ge 13 (Lib.bitLen n) with h2 | h2
    · have := Nat.pow_le_pow_right (show 0 < 2 by decide) (show 13 ≤ Lib.bitLen n - 1 by omega)
      omega
    · exact h2
theorem and1_i64 {x : Int} (h0 : 0 ≤ x) (h1 : x < 4097) : bits .and .i64 x 1 = x % 2 := bits_mask .i64 32 (by decide) (fun n h0 h1 => by rw [IntKind.wrap_i64]; omega) 1 (by decide) x h0 (by omega)
/-- n times base, and half of it. -/
theorem pow_half {b : Int} {n j : Nat} : (n / 2 ^ j % 2 = 0 → b ^ (n / 2 ^ j) = b ^ (n / 2 ^ (j + 1)) * b ^ (n / 2 ^ (j + 1))) ∧ (n / 2 ^ j % 2 = 1 → b ^ (n / 2 ^ j) = b * (b ^ (n / 2 ^ (j + 1)) * b ^ (n / 2 ^ (j + 1)))) := by
  have e : n / 2 ^ (j + 1) = n / 2 ^ j / 2 := by rw [Nat.pow_succ, Nat.div_div_eq_div_mul]
  rw [e]
  generalize n / 2 ^ j = m
  refine ⟨fun h => ?_, fun h => ?_⟩
  · rw [← Int.pow_add]; congr 1; omega
  · rw [← Int.pow_add, Int.mul_comm, ← Int.pow_succ]; congr 1; omega
theorem pow_len {b : Int} {n m : Nat} {zs : List Int} (hb : 0 ≤ b ∧ b < 4294967296) (h : Row 4294967296 (b ^ n) zs) (hn : n ≤ m) (hm : 0 < m) : zs.length ≤ m := by
  refine h.len_le (by decide) ?_
  have h1 : b ^ n < 4294967296 ^ m := by
    rcases Nat.eq_zero_or_pos n with rfl | h0
    · have := pow_mono (show (0 : Int) < 4294967296 by decide) (show 1 ≤ m by omega)
      simp only [Int.pow_zero, Int.pow_succ, Int.one_mul] at this ⊢
      omega
    · have h2 : b ^ n < 4294967296 ^ n := by
        obtain ⟨k, rfl⟩ : ∃ k, n = k + 1 := ⟨n - 1, by omega⟩
        clear h h0 hn
        induction k with
        | zero => simp only [Nat.zero_add, Int.pow_succ, Int.pow_zero, Int.one_mul]; omega
        | succ k ih =>
          rw [Int.pow_succ, Int.pow_succ (4294967296 : Int)]
          have p0 : 0 ≤ b ^ (k + 1) := Int.pow_nonneg hb.1
          have a1 : b ^ (k + 1) * b ≤ b ^ (k + 1) * 4294967296 := Int.mul_le_mul_of_nonneg_left (by omega) p0
          have a2 : b ^ (k + 1) * 4294967296 < 4294967296 ^ (k + 1) * 4294967296 := Int.mul_lt_mul_of_pos_right ih (by decide)
          omega
      have := pow_mono (show (0 : Int) < 4294967296 by decide) hn
      omega
  exact h1

set_option maxHeartbeats 1000000 in
theorem Pow_any {w : World} {b : Int} {n : Nat} (hb : 0 ≤ b ∧ b < 4294967296) (hn : n ≤ 4096) :
    Calls Tryz.prog 91 #[.int .u32 b, .int .i64 n] w (NewE w (b ^ n)) := by
  have hup := (bitLen_up (n := n) (by omega)).1
  have hsm := bitLen_small hn
  have hz : n / 2 ^ Lib.bitLen n = 0 := Nat.div_eq_of_lt hup
  have HL := Lib.hid (Tryz.bits_Len (n : Int) (w.alloc (.cells #[.int .u32 1] 66)) (by omega) (by omega))
  rw [Int.toNat_natCast] at HL
  generalize Lib.bitLen n = L at *
  have h1 : ¬ (n : Int) < 0 := by omega
  have h2 : ¬ 4096 < (n : Int) := by omega
  have ho : Own .u32 66 (w.alloc (.cells #[.int .u32 1] 66)) w.heap.size (some ⟨w.heap.size, 0, none⟩) 1 1 [1] := Own.lit .u32 66 w (Nat.le_refl _) [1] 1 rfl (by omega)
  have hbl : Below w.heap.size w (w.alloc (.cells #[.int .u32 1] 66)) := (Below.refl _ _).alloc (Nat.le_refl _) _
  go_enter Tryz.func91, Tryz.ntmps91
  go_wp2_with fail
  refine HL.out.mono ?_
  rintro e w1 ⟨rfl, hw1⟩
  generalize w.alloc (.cells #[.int .u32 1] 66) = w2 at *
  subst hw1
  go_wp2_with fail
  go_loopw [6, 7] (fun pv iv wr => ∃ (k n3 c3 : Nat) (A3 : Option Addr) (O : List Int), k ≤ 13 ∧ iv = .int .i64 ((k : Int) - 1) ∧ pv = .slice A3 n3 c3 ∧ Own .u32 66 wr w.heap.size A3 n3 c3 O ∧ Hid (Row 4294967296 (b ^ (n / 2 ^ k)) O) ∧ Below w.heap.size w wr) (fun _ iv _ => (intOf iv + 1).toNat)
  case atStart => exact ⟨L, 1, 1, _, [1], hsm, rfl, rfl, ho, by rw [hz]; exact row1 (by simp) (by omega), hbl⟩
  case round =>
    clear ho hbl hz hup
    obtain ⟨k, n3, c3, A3, O, hk, rfl, rfl, oP, RP, br⟩ := hrel
    by_cases h0 : k = 0
    · subst h0
      have RR := Lib.hid (show Row 4294967296 (b ^ n) O by have := RP.out; simpa using this)
      have HB := Lib.hid br
      clear br RP
      go_wp2_with fail
      go_ret2
      exact ⟨O, A3, n3, c3, RR.out, rfl, oP, HB.out⟩
    · obtain ⟨j, rfl⟩ : ∃ j, k = j + 1 := ⟨k - 1, by omega⟩
      have hbz := br.size
      have HB := Lib.hid br
      have hl3 : n3 ≤ 4096 := by rw [← oP.len]; exact pow_len hb RP.out (Nat.le_trans (Nat.div_le_self _ _) hn) (by decide)
      have HM := Lib.hid (Mul_any oP.sl oP.sl (Nat.le_refl _) RP.out.dg RP.out.dg (by omega) (by omega))
      rw [RP.out.val] at HM
      have hph := Lib.hid (pow_half (b := b) (n := n) (j := j))
      have hq : (n / 2 ^ j) ≤ n := Nat.div_le_self _ _
      have hbit : bits .and .i64 ((n : Int) / 2 ^ j) 1 = ((n / 2 ^ j % 2 : Nat) : Int) := by
        rw [show (n : Int) / 2 ^ j = ((n / 2 ^ j : Nat) : Int) by simp]
        clear hph HM
        generalize n / 2 ^ j = m at *
        rw [and1_i64 (by omega) (by omega)]
        omega
      clear br oP RP
      go_wp2_with fail
      refine HM.out.mono ?_
      rintro e w3 ⟨Q, rQ, A4, n4, c4, rfl, oQ, b3⟩
      have B3 := Lib.hid (HB.out.trans (b3.mono hbz))
      have oQ' := oQ.lower (B' := w.heap.size) hbz
      have hbz3 : w.heap.size ≤ w3.heap.size := B3.out.size
      have RQ := Lib.hid rQ
      clear b3 oQ rQ HM HB
      rcases (show n / 2 ^ j % 2 = 0 ∨ n / 2 ^ j % 2 = 1 by omega) with hbt | hbt
      · have hb0 : (bits .and .i64 ((n : Int) / 2 ^ j) 1 == 1) = false := by rw [hbit, hbt]; rfl
        have R2 := Lib.hid (show Row 4294967296 (b ^ (n / 2 ^ j)) Q by rw [hph.out.1 hbt]; exact RQ.out)
        clear hbit hph RQ
        go_wp2_with fail
        go_roundw
        case rel => exact ⟨j, n4, c4, A4, Q, by omega, by simp, rfl, oQ', R2, B3.out⟩
        case measure => simp [intOf] <;> omega
      · have hb0 : (bits .and .i64 ((n : Int) / 2 ^ j) 1 == 1) = true := by rw [hbit, hbt]; rfl
        have hd := RQ.out.dg
        have hmul : ∀ zs, Row 4294967296 (b * val 4294967296 Q) zs → Row 4294967296 (b ^ (n / 2 ^ j)) zs := fun zs h => by rw [hph.out.2 hbt, ← RQ.out.val]; exact h
        have HMl := Lib.hid hmul
        have hl4 : n4 ≤ 100000 := by
          rw [← oQ'.len]
          have : b ^ (n / 2 ^ (j + 1)) * b ^ (n / 2 ^ (j + 1)) = b ^ (n / 2 ^ (j + 1) + n / 2 ^ (j + 1)) := by rw [Int.pow_add]
          have h3 := RQ.out
          rw [this] at h3
          have := Nat.div_le_self n (2 ^ (j + 1))
          exact pow_len hb h3 (by omega) (by decide)
        clear hbit hph hmul RQ
        go_wp2_with fail
        refine (MulSmall_any oQ'.sl (Nat.le_refl _) hd hb (by omega)).mono ?_
        rintro e w5 ⟨R, rR, A6, n6, c6, rfl, oR, b5⟩
        have R2 := Lib.hid (HMl.out _ rR)
        have B5 := Lib.hid (B3.out.trans (b5.mono hbz3))
        have oR' := oR.lower (B' := w.heap.size) hbz3
        clear rR b5 oR hd HMl
        go_wp2_with fail
        go_roundw
        case rel => exact ⟨j, n6, c6, A6, R, by omega, by simp, rfl, oR', R2, B5.out⟩
        case measure => simp [intOf] <;> omega

theorem Pow_none {w : World} {b : Int} {n : Int} (hn : n < 0 ∧ -9223372036854775808 ≤ n) :
    Calls Tryz.prog 91 #[.int .u32 b, .int .i64 n] w fun e w' => e = .returned (.tuple #[.slice none 0 0, .int .i64 2]) ∧ w = w' := by
  go_enter Tryz.func91, Tryz.ntmps91
  go_wp2_with fail
  go_ret2
  exact ⟨rfl, rfl⟩
theorem Pow_long {w : World} {b : Int} {n : Int} (hn : 4096 < n ∧ n ≤ 9223372036854775807) :
    Calls Tryz.prog 91 #[.int .u32 b, .int .i64 n] w fun e w' => e = .returned (.tuple #[.slice none 0 0, .int .i64 3]) ∧ w = w' := by
  have h1 : ¬ n < 0 := by omega
  go_enter Tryz.func91, Tryz.ntmps91
  go_wp2_with fail
  go_ret2
  exact ⟨rfl, rfl⟩
end Go.Proofs.YtbjooeapjhaapaaGreatDoor
/- strconv.FormatUint, strconv.AppendUint at base 10: what each call answers, over the library's own parts. -/
namespace Go.Proofs.YtbjooeapjhaapaaGreatDoor
open Go Go.RowKit Go.Sort

theorem fmtU_small {w : World} {u : Nat} (hu : u < 100) :
    Calls Tryz.prog 130 #[.int .u64 u, .int .i64 10] w fun e w' => e = .returned (.string ⟨(Lib.decDigits u).toArray⟩) ∧ Below w.heap.size w w' := by
  go_enter Tryz.func130, Tryz.ntmps130
  go_wp2_with (go_at_call 142; refine (Tryz.internal_strconv_small u hu _).mono ?_; rintro e w' ⟨rfl, rfl⟩)
  go_ret
  exact ⟨rfl, Below.refl _ _⟩

set_option maxRecDepth 100000 in
set_option maxHeartbeats 6400000 in
theorem fmtU_big {w : World} {u : Nat} (hu : 100 ≤ u) (hu64 : u < 18446744073709551616) (htab : Lib.TabIs Tryz.prog w "internal/strconv.uint64pow10" .u64 Lib.pow10Tab) :
    Calls Tryz.prog 130 #[.int .u64 u, .int .i64 10] w fun e w' => e = .returned (.string ⟨(Lib.decDigits u).toArray⟩) ∧ Below w.heap.size w w' := by
  have hu1 : 1 ≤ u := by omega
  have hnd20 : Lib.nDigits u ≤ 20 := by have := Lib.numDigits_eq u hu1 hu64; split at this <;> omega
  have hal : Tryz.prog.arrayLen 167 = 24 := by simp [Program.arrayLen, Tryz.underlying167]
  have hsl : ∀ W, (Instr.sliceAt 167 (.pointer (some ⟨w.heap.size, 0, none⟩)) none (some (.int .i64 (Lib.nDigits u : Int))) none).run Tryz.prog W = .ok (.slice (some ⟨w.heap.size, 0, none⟩) (Lib.nDigits u) 24) W := fun W => by
    rw [run_sliceAt_array_h W 167 ⟨w.heap.size, 0, none⟩ (by simp [Program.arrayLen, Program.elem, Tryz.underlying167]) .i64 (Lib.nDigits u : Int) (by omega) (by rw [hal]; omega)]
    go_simp
  have hH0 := Lib.holds_zero0 w 167 (Lib.nDigits u) (by omega)
  have hfmt := Tryz.internal_strconv_formatBase10 w.heap.size 0 24 u (Array.replicate (Lib.nDigits u) 0) (w.alloc (.cells Lib.zeros24 167)) hH0 (by rw [Array.size_replicate]; exact Lib.lt_pow_nDigits u) hu64 (by rw [Array.size_replicate]; omega)
  rw [Array.size_replicate] at hfmt
  have HH0 := Lib.hid hH0
  have iu : (100 : Int) ≤ (u : Int) := by omega
  clear hH0 hal
  go_enter Tryz.func130, Tryz.ntmps130
  go_wp2_with (go_at_call 143; refine (Tryz.internal_strconv_numDigits u hu1 hu64 _ (Lib.tabIs_alloc htab _)).mono ?_; rintro e w' ⟨rfl, rfl⟩)
  refine hfmt.mono ?_
  rintro e w' ⟨rfl, k, v', dk, rfl, hF⟩
  have hcv : (convert 99 9 (.slice (some ⟨w.heap.size, 0, none⟩) (Lib.nDigits u) 24)).run Tryz.prog ((putRow (fun (b : UInt8) => Value.int .u8 (b.toNat : Int)) (w.alloc (.cells Lib.zeros24 167)) w.heap.size 0 dk).drewN k) = .ok (.string ⟨(Lib.decDigits u).toArray⟩) ((putRow (fun (b : UInt8) => Value.int .u8 (b.toNat : Int)) (w.alloc (.cells Lib.zeros24 167)) w.heap.size 0 dk).drewN k) := by
    have h := run_convert_bytes_back (P := Tryz.prog) ((putRow (fun (b : UInt8) => Value.int .u8 (b.toNat : Int)) (w.alloc (.cells Lib.zeros24 167)) w.heap.size 0 dk).drewN k) 99 9 5 ⟨w.heap.size, 0, none⟩ 24 (Lib.decDigits u) Tryz.underlying99 Tryz.underlying5 Tryz.underlying9 (fun j hj => by
      rw [Lib.row_is_numeral hF j hj, Lib.add_plain, World.cell?_drewN]
      exact cell?_putRow (fun (b : UInt8) => Value.int .u8 (b.toNat : Int)) _ w.heap.size 0 _ dk HH0.out (by rw [hF.size, Array.size_replicate]) j (by rw [hF.size]; rw [Lib.decDigits_length] at hj; exact hj))
    rw [Lib.decDigits_length] at h
    exact h
  have hB : Below w.heap.size w ((putRow (fun (b : UInt8) => Value.int .u8 (b.toNat : Int)) (w.alloc (.cells Lib.zeros24 167)) w.heap.size 0 dk).drewN k) := by
    obtain ⟨os, eo⟩ := Lib.fin_at w (.cells Lib.zeros24 167) dk k 0
    rw [eo]
    exact Lib.below_grow w.heap.size w (Nat.le_refl _) k os
  generalize (putRow (fun (b : UInt8) => Value.int .u8 (b.toNat : Int)) (w.alloc (.cells Lib.zeros24 167)) w.heap.size 0 dk).drewN k = W2 at *
  clear HH0 hfmt
  go_wp2
  go_ret
  exact ⟨rfl, hB⟩

theorem FormatUint_any {w : World} {u : Nat} (hu64 : u < 18446744073709551616) (htab : Lib.TabIs Tryz.prog w "internal/strconv.uint64pow10" .u64 Lib.pow10Tab) :
    Calls Tryz.prog 112 #[.int .u64 u, .int .i64 10] w fun e w' => e = .returned (.string ⟨(Lib.decDigits u).toArray⟩) ∧ Below w.heap.size w w' := by
  have H : Hid (Calls Tryz.prog 130 #[.int .u64 u, .int .i64 10] w fun e w' => e = .returned (.string ⟨(Lib.decDigits u).toArray⟩) ∧ Below w.heap.size w w') := by
    by_cases h : u < 100
    · exact fmtU_small h
    · exact fmtU_big (by omega) hu64 htab
  go_enter Tryz.func112, Tryz.ntmps112
  go_wp2_with fail
  refine H.out.mono ?_
  rintro e w' ⟨rfl, hb⟩
  have HB := Lib.hid hb
  clear hb
  go_wp2_with fail
  go_ret
  exact ⟨rfl, HB.out⟩

/-- A row of bytes of the call's own. -/
theorem AppendUint_any {w : World} {B n c u : Nat} {A : Option Addr} {xs : List Int} (hu64 : u < 18446744073709551616) (ho : Own .u8 5 w B A n c xs) (hB : B ≤ w.heap.size) (hlim : n + 20 ≤ 140737488355328) (htab : Lib.TabIs Tryz.prog w "internal/strconv.uint64pow10" .u64 Lib.pow10Tab) :
    Calls Tryz.prog 111 #[.slice A n c, .int .u64 u, .int .i64 10] w fun e w' => ∃ A' n' c', e = .returned (.slice A' n' c') ∧ Own .u8 5 w' B A' n' c' (xs ++ (Lib.decDigits u).map fun b => (b.toNat : Int)) ∧ Below B w w' := by
  have HA := Lib.hid (Tryz.internal_strconv_AppendUint_10 B n u hu64 (.slice A n c) (xs.map (Value.int .u8)) w ho hB hlim htab)
  go_enter Tryz.func111, Tryz.ntmps111
  go_wp2_with fail
  refine HA.out.mono ?_
  rintro e w' ⟨v', rfl, hr, hb, -⟩
  obtain ⟨A', n', c', rfl, ho'⟩ : ∃ A' n' c', v' = .slice A' n' c' ∧ Own .u8 5 w' B A' n' c' (xs ++ (Lib.decDigits u).map fun b => (b.toNat : Int)) := by
    have e1 : xs.map (Value.int .u8) ++ Lib.byteCells (Lib.decDigits u) = (xs ++ (Lib.decDigits u).map fun b => (b.toNat : Int)).map (Value.int .u8) := by
      rw [List.map_append, List.map_map]; rfl
    rw [e1] at hr
    rcases hr.2 with ⟨hv, h0⟩ | ⟨g, cap, cur, hv, _⟩
    · subst hv; rw [h0] at hr; exact ⟨none, 0, 0, rfl, hr⟩
    · subst hv; exact ⟨_, _, _, rfl, hr⟩
  have HB := Lib.hid hb
  clear hr hb
  go_wp2_with fail
  go_ret
  exact ⟨A', n', c', rfl, ho', HB.out⟩
end Go.Proofs.YtbjooeapjhaapaaGreatDoor
/- nat: written, digitsOf, Parse: what each call answers, and leaves. -/
namespace Go.Proofs.YtbjooeapjhaapaaGreatDoor
open Go Go.RowKit

/-- What 'written' tells. -/
def WrittenR (s : ByteArray) (e : Ending) : Prop := (Written s ∧ e = .returned (.bool true)) ∨ (¬ Written s ∧ e = .returned (.bool false))

set_option maxHeartbeats 2000000 in
theorem written_any {w : World} (s : ByteArray) (hsz : s.size ≤ maxLen) : Calls Tryz.prog 87 #[.string s] w fun e w' => WrittenR s e ∧ w = w' := by
  unfold maxLen at hsz
  by_cases h0 : s.size = 0
  · have hemp : s.toList.isEmpty = true := by
      rw [ByteArray.toList_eq, List.isEmpty_iff]; exact List.eq_nil_of_length_eq_zero (by simpa using h0)
    have HN := Lib.hid (show ¬ Written s from fun h => by have := h.1; omega)
    go_enter Tryz.func87, Tryz.ntmps87
    go_wp2_with fail
    go_ret
    exact ⟨.inr ⟨HN.out, rfl⟩, rfl⟩
  · have hemp : s.toList.isEmpty = false := by
      rw [ByteArray.toList_eq, ← Bool.not_eq_true, List.isEmpty_iff]
      intro h
      apply h0
      have := congrArg List.length h
      simpa using this
    have hp : 0 < s.size := by omega
    go_enter Tryz.func87, Tryz.ntmps87
    have h3 : ((s[0].toNat : Int) = 48 ∧ 1 < s.size) ∨ ((s[0].toNat : Int) = 48 ∧ ¬ 1 < s.size) ∨ (s[0].toNat : Int) ≠ 48 := by omega
    rcases h3 with ⟨h48, hs1⟩ | ⟨h48, hs1⟩ | h48
    · have h48b : ((s[0].toNat : Int) == 48) = true := beq_iff_eq.2 h48
      have HN := Lib.hid (show ¬ Written s from fun h => h.2.1 hs1 h48)
      clear h48
      go_wp2_with fail
      go_ret
      exact ⟨.inr ⟨HN.out, rfl⟩, rfl⟩
    case' inr.inl =>
      have h48b : ((s[0].toNat : Int) == 48) = true := beq_iff_eq.2 h48
      have hlead := Lib.hid (show ∀ h : 1 < s.size, (s[0].toNat : Int) ≠ 48 from fun h => absurd h hs1)
    case' inr.inr =>
      have h48b : ((s[0].toNat : Int) == 48) = false := beq_eq_false_iff_ne.2 h48
      have hlead := Lib.hid (show ∀ h : 1 < s.size, (s[0].toNat : Int) ≠ 48 from fun _ => h48)
    all_goals
      clear h48
      go_wp2_with fail
      go_loop [18] (fun iv => ∃ k : Nat, k ≤ s.size ∧ iv = .int .i64 k ∧ Hid (∀ c ∈ s.data.toList.take k, isDig c)) (fun iv => s.size - (intOf iv).toNat)
      case atStart => exact ⟨0, by omega, rfl, fun c h => by simp at h⟩
      case round =>
        obtain ⟨k, hk, rfl, hd⟩ := hrel
        by_cases hlt : k < s.size
        · by_cases hc : isDig s[k]
          · have hnx := Lib.hid (show ∀ c ∈ s.data.toList.take (k + 1), isDig c by
              rw [take_snoc s k hlt]
              intro c h
              rcases List.mem_append.1 h with h | h
              · exact hd.out c h
              · rw [List.mem_singleton.1 h]; exact hc)
            have hc1 : ¬ (s[k].toNat : Int) < 48 := by have := hc.1; omega
            have hc2 : ¬ 57 < (s[k].toNat : Int) := by have := hc.2; omega
            clear hd hc
            go_wp2_with fail
            go_round
            case rel => exact ⟨k + 1, by omega, by go_num, hnx⟩
            case measure => simp [intOf] <;> omega
          · have HN := Lib.hid (show ¬ Written s from fun h => hc (h.2.2 _ (mem_at s k hlt)))
            clear hd
            by_cases hc1 : (s[k].toNat : Int) < 48
            case' neg => have hc2 : 57 < (s[k].toNat : Int) := by unfold isDig at hc; omega
            all_goals
              clear hc
              go_wp2_with fail
              go_ret
              exact ⟨.inr ⟨HN.out, rfl⟩, rfl⟩
        · have HW := Lib.hid (show Written s from ⟨hp, hlead.out, by have h := hd.out; rw [List.take_of_length_le (by simp; omega)] at h; exact h⟩)
          clear hd
          go_wp2_with fail
          go_ret
          exact ⟨.inl ⟨HW.out, rfl⟩, rfl⟩

/-- Big digits of a text: n of them behind the first k letters. -/
structure BigI (s : ByteArray) (L n : Nat) (D : List Int) : Prop where
  dg : Dg 1000000000 D
  len : D.length = 456
  num : dval s.data.toList = val 1000000000 (D.take n) + 1000000000 ^ n * dval (s.data.toList.take L)
  fit : L + 9 * n ≤ s.size + 8 ∧ (0 < L → L + 9 * n = s.size)
theorem BigI.start (s : ByteArray) : BigI s s.size 0 (List.replicate 456 0) :=
  ⟨Dg.zeros (by decide) _, List.length_replicate, by rw [List.take_of_length_le (show s.data.toList.length ≤ s.size by simp), List.take_zero, Int.pow_zero]; simp only [val]; omega, by omega⟩
theorem BigI.step {s : ByteArray} {L n : Nat} {D : List Int} (h : BigI s L n D) (hs : s.size ≤ 4104) (hd : ∀ c ∈ s.data.toList, isDig c) (h0 : 0 < L) {cut : Nat} (hc : cut + 9 = L ∨ (L < 9 ∧ cut = 0)) :
    n < 456 ∧ (∀ c ∈ (s.data.toList.take L).drop cut, isDig c) ∧ (s.data.toList.take L).drop cut ≠ [] ∧ ((s.data.toList.take L).drop cut).length ≤ 9 ∧
      (0 ≤ dval ((s.data.toList.take L).drop cut) ∧ dval ((s.data.toList.take L).drop cut) < 1000000000) ∧ BigI s cut (n + 1) (D.set n (dval ((s.data.toList.take L).drop cut))) := by
  have hf := h.fit.2 h0
  have hLs : L ≤ s.size := by omega
  have hn : n < 456 := by omega
  have hl : s.data.toList.length = s.size := by simp
  have hdd : ∀ c ∈ (s.data.toList.take L).drop cut, isDig c := fun c hx => hd c (List.mem_of_mem_take (List.mem_of_mem_drop hx))
  have hlen : ((s.data.toList.take L).drop cut).length = L - cut := by rw [List.length_drop, List.length_take, hl]; omega
  have hb := dval_bound _ hdd
  rw [hlen] at hb
  have hp : (10 : Int) ^ (L - cut) ≤ 10 ^ 9 := pow_mono (by decide) (by omega)
  have hr : 0 ≤ dval ((s.data.toList.take L).drop cut) ∧ dval ((s.data.toList.take L).drop cut) < 1000000000 := by omega
  refine ⟨hn, hdd, fun e => by rw [e] at hlen; simp at hlen; omega, by omega, hr, h.dg.set hr, by simp [h.len], ?_, by omega⟩
  have hset : (D.set n (dval ((s.data.toList.take L).drop cut)))[n]? = some (dval ((s.data.toList.take L).drop cut))   := List.getElem?_set_self (by rw [h.len]; exact hn)
  rw [take_succ_of hset, val_snoc, List.take_set_of_le (Nat.le_refl _), List.length_take, Nat.min_eq_left (by have := h.len; omega), h.num]
  have e1 : dval (s.data.toList.take L) = dval (s.data.toList.take cut) * 10 ^ (L - cut) + dval ((s.data.toList.take L).drop cut) := by
    conv => lhs; rw [← List.take_append_drop cut (s.data.toList.take L)]
    rw [dval_append, hlen, List.take_take, Nat.min_eq_left (by omega)]
  rw [e1]
  rcases hc with hc | ⟨_, rfl⟩
  · rw [show L - cut = 9 by omega, show (10 : Int) ^ 9 = 1000000000 from rfl, Int.pow_succ]
    grind
  · simp only [List.take_zero]
    have : dval [] = 0 := rfl
    rw [this]
    grind

section
variable {k : IntKind} {e : TypeId} {w w' : World} {B g n : Nat} {xs : List Int}
theorem Own.heap (h : Own k e w B (some ⟨g, 0, none⟩) n n xs) : w.heap[g]? = some (.cells (xs.map (Value.int k)).toArray e (0, 0)) := by
  have hl := h.len
  rcases h.2 with ⟨hv, _⟩ | ⟨g', cap, cur, hv, hb, hg, h1, h2, h3, h4⟩
  · cases hv
  · injection hv with hv h5 h6
    injection hv with hv
    injection hv with hv
    subst hv
    subst h6
    have hcur : cur.toList = xs.map (Value.int k) := by rw [← h4, List.take_of_length_le (by simp; omega)]
    rw [hg, ← hcur]
theorem Own.of_heap (hB : B ≤ g) (hg : w.heap[g]? = some (.cells (xs.map (Value.int k)).toArray e (0, 0))) (hl : xs.length = n) (hn : n ≤ maxLen) : Own k e w B (some ⟨g, 0, none⟩) n n xs :=
  ⟨by simp [hl], .inr ⟨g, n, _, rfl, hB, hg, Nat.le_refl _, hn, by simp [hl], by rw [Nat.mul_one, List.take_of_length_le (by simp [hl])]⟩⟩
/-- A whole array stored where one of the call's own lies. -/
theorem wpList_store_arr {P : Program} {ops : Array Oper} {rest : List Oper} {o : Oper} {a : Act} {Q : Exit → Act → World → Prop} (hgd : o.guard = none) (ty : TypeId) (x y : Operand) (ho : o.op = .store ty x y) {X : List Int}
    (h : Own k e w B (some ⟨g, 0, none⟩) n n xs) (ex : a.eval x = .pointer (some ⟨g, 0, none⟩)) (ey : a.eval y = .agg (X.map (Value.int k)).toArray) (hX : X.length = n) (hi : (P.info? ty).map (·.size) = some n) (hn : n ≤ maxLen)
    (hK : ∀ w', Own k e w' B (some ⟨g, 0, none⟩) n n X → w.grownBy w' (some g) → wpList P ops Q rest (a.put o.dst undef) w') : wpList P ops Q (o :: rest) a w := by
  have hl := h.len
  refine wpList_store_row hgd ty x y ho g _ ex ey e _ h.heap (by rw [hi]; simp [hX]) (by simp [hX, hl]) (by simp [Value.oneCell']) ?_
  exact hK _ (.of_heap (h.blk_ g rfl).1 (setRow_heap w g _ _ e _ h.heap) hX hn) ⟨rfl, rfl, rfl, by simp [World.setRow], fun i hi hne => setRow_other w g i _ (fun e => hne (by rw [e]))⟩
end
theorem results_cellt {P : Program} {fn : Func} {p u : Tmp} {ty : TypeId} (h : fn.results = #[.cell p ty, .tmp u]) (tmps : Array Value) (w : World) (g : Nat) (t : TypeId) (cs : Array Value) (fr : Nat × Nat) (d : TypeDesc)
    (hp : tmps.getD p undef = .pointer (some ⟨g, 0, none⟩)) (hg : w.heap[g]? = some (.cells cs t fr)) (hu : P.underlying ty = some d) (hd : (match d with | .struct _ | .array _ _ => true | _ => false) = true) (hi : (P.info? ty).map (·.size) = some cs.size) :
    (results fn tmps).run P w = .ok (.tuple #[.agg cs, tmps.getD u undef]) w := by
  rw [results_cell_tmp h, hp]
  simp [asAddr, Result.andThen, run_loadVar_row w g t ty cs fr d hg hu hd hi]
theorem zeros456 : Tryz.zeroCells113 = ((List.replicate 456 (0 : Int)).map (Value.int .u32)).toArray := by kernel_rfl
theorem info456 : (Tryz.prog.info? 113).map (·.size) = some 456 := by kernel_rfl

/-- What digitsOf answers. -/
def DigitsR (w : World) (s : ByteArray) (e : Ending) (w' : World) : Prop :=
  ∃ (n : Nat) (D : List Int), e = .returned (.tuple #[.agg (D.map (Value.int .u32)).toArray, .int .i64 n]) ∧ n ≤ 456 ∧ D.length = 456 ∧ Dg 1000000000 D ∧ dval s.data.toList = val 1000000000 (D.take n) ∧ Below w.heap.size w w'

set_option maxHeartbeats 2000000 in
theorem digitsOf_any {w : World} (s : ByteArray) (hs : s.size ≤ 4096) (hd : ∀ c ∈ s.data.toList, isDig c) : Calls Tryz.prog 88 #[.string s] w (DigitsR w s) := by
  have ho : Own .u32 113 (w.alloc (.cells Tryz.zeroCells113 113)) w.heap.size (some ⟨w.heap.size, 0, none⟩) 456 456 (List.replicate 456 0) :=
    .of_heap (Nat.le_refl _) (by rw [zeros456]; exact heap_alloc_new _ _) List.length_replicate (by unfold maxLen; omega)
  have hb : Below w.heap.size w (w.alloc (.cells Tryz.zeroCells113 113)) := (Below.refl _ _).alloc (Nat.le_refl _) _
  go_enter Tryz.func88, Tryz.ntmps88
  go_wp2_with fail
  generalize w.alloc (.cells Tryz.zeroCells113 113) = w1 at *
  go_loopw [0, 3] (fun sv nv wr => ∃ (t : ByteArray) (n : Nat) (D : List Int), sv = .string t ∧ nv = .int .i64 n ∧ Hid (t.data.toList = s.data.toList.take t.size) ∧ t.size ≤ 4096 ∧ n ≤ 456 ∧ Own .u32 113 wr w.heap.size (some ⟨w.heap.size, 0, none⟩) 456 456 D ∧ Hid (BigI s t.size n D) ∧ Below w.heap.size w wr)
    (fun sv _ _ => match sv with | .string t => t.size | _ => 0)
  case atStart => exact ⟨s, 0, _, rfl, rfl, by show _ = _; rw [List.take_of_length_le (by simp)], hs, by omega, ho, BigI.start s, hb⟩
  case round =>
    clear ho hb
    obtain ⟨t, n, D, rfl, rfl, ht, hts, hn, oD, hI, br⟩ := hrel
    by_cases h0 : t.size = 0
    · have hnum := hI.out.num
      rw [h0, List.take_zero] at hnum
      have HN := Lib.hid (show dval s.data.toList = val 1000000000 (D.take n) by rw [hnum]; show _ + _ * dval [] = _; simp [dval])
      have HL := Lib.hid hI.out.len
      have HD := Lib.hid hI.out.dg
      have HB := Lib.hid br
      clear hnum hI br
      have hg := Lib.hid oD.heap
      have hsz := Lib.hid (show (Tryz.prog.info? 113).map (·.size) = some (D.map (Value.int .u32)).toArray.size by rw [info456]; simp [HL.out])
      go_wp2_with (first
        | (with_reducible refine wpList_load_row rfl 113 _ rfl w.heap.size rfl _ _ _ _ hg.out Tryz.underlying113 rfl hsz.out ?_)
        | (with_reducible refine wpList_store_arr rfl 113 _ _ rfl oD rfl rfl HL.out info456 (by unfold maxLen; omega) ?_; intro w2 o2 g2))
      have HB2 := Lib.hid (HB.out.grown g2 HB.out.size (fun k hk => by injection hk with hk; omega))
      refine bodyPost_ret_by (results_cellt rfl _ _ w.heap.size _ _ _ _ rfl o2.heap Tryz.underlying113 rfl hsz.out) rfl ?_
      exact ⟨n, D, rfl, hn, HL.out, HD.out, HN.out, HB2.out⟩
    · have hts0 : (0 : Int) < t.size := by omega
      obtain ⟨cut, hcut, hc1, hc2⟩ : ∃ cut : Nat, (max ((t.size : Int) - 9) 0).toNat = cut ∧ (cut + 9 = t.size ∨ (t.size < 9 ∧ cut = 0)) ∧ max ((t.size : Int) - 9) 0 = (cut : Int) := by
        rcases Nat.lt_or_ge t.size 9 with h | h
        · exact ⟨0, by rw [Int.max_eq_right (by omega)]; rfl, .inr ⟨h, rfl⟩, by rw [Int.max_eq_right (by omega)]; rfl⟩
        · exact ⟨t.size - 9, by rw [Int.max_eq_left (by omega)]; omega, .inl (by omega), by rw [Int.max_eq_left (by omega)]; omega⟩
      obtain ⟨p1, p2, p3, p4, p5, p6⟩ := hI.out.step (by omega) hd (by omega) hc1
      have hblk : (t.extract cut t.size).data.toList = (s.data.toList.take t.size).drop cut := by
        rw [← ht.out, ByteArray.data_extract, Array.toList_extract, List.extract_eq_take_drop, List.take_of_length_le (by simp)]
      have HPU := Lib.hid (fun W => Tryz.strconv_ParseUint_10_at32_ok (t.extract cut t.size) (by
        have : (t.extract cut t.size).data.toList.length ≤ 9 := by rw [hblk]; exact p4
        have e : (t.extract cut t.size).size = (t.extract cut t.size).data.toList.length := by simp
        omega) (dval ((s.data.toList.take t.size).drop cut)).toNat (by rw [hblk]; exact parse_ok _ p2 p3 p4) W)
      have HI := Lib.hid p6
      have hfs : (t.extract 0 cut).size = cut := by simp; omega
      have hfront := Lib.hid (show (t.extract 0 cut).data.toList = s.data.toList.take (t.extract 0 cut).size by
        rw [hfs, ByteArray.data_extract, Array.toList_extract, List.extract_eq_take_drop, ht.out, List.drop_zero, List.take_take]
        congr 1
        omega)
      generalize dval ((s.data.toList.take t.size).drop cut) = d at *
      clear hI p2 p3 p4 p6 hblk ht
      have hdn : ((d.toNat : Nat) : Int) = d := by omega
      have hw1 : d % 4294967296 = d := by omega
      have HB := Lib.hid br
      clear br
      go_wp2_with fail
      refine (HPU.out wr).mono ?_
      rintro e w2 ⟨rfl, hw2⟩
      have hb2 : Below wr.heap.size wr w2 := by
        rcases hw2 with rfl | rfl
        · exact Below.refl _ _
        · exact Lib.bytesWorld_below _ _ _
      rw [hdn]
      have oD2 := oD.below hb2
      obtain ⟨z, hz, hcell, hfr, hput⟩ := oD2.at_row (i := n) p1
      have hnext := Lib.hid (hput d)
      have HB2 := Lib.hid (HB.out.trans (hb2.mono HB.out.size))
      have hzs := HB2.out.size
      clear hput hw2 hb2 oD oD2 HPU
      go_wp2_with fail
      refine ⟨⟨t.extract 0 cut, n + 1, _, rfl, by go_num, hfront, by omega, by omega, hnext.out.1, by rw [hfs]; exact HI, HB2.out.trans (Below.own hnext.out.2 (Nat.le_refl _) hzs)⟩, ?_⟩
      show (t.extract 0 cut).size < t.size
      omega

/-- What Parse answers. -/
def ParseN (w : World) (s : ByteArray) (e : Ending) (w' : World) : Prop :=
  (¬ Written s ∧ e = .returned (.tuple #[.slice none 0 0, .int .i64 60]) ∧ Below w.heap.size w w') ∨
  (Written s ∧ 4096 < s.size ∧ e = .returned (.tuple #[.slice none 0 0, .int .i64 3]) ∧ Below w.heap.size w w') ∨
  (Written s ∧ s.size ≤ 4096 ∧ NewE w (dval s.data.toList) e w')

theorem held_alloc {w W : World} {o : Obj} {p : Addr} {u : Value} (hp : p.block < w.heap.size) (h : Below w.heap.size w W ∧ W.cell? p = some u) : Below w.heap.size w (W.alloc o) ∧ (W.alloc o).cell? p = some u :=
  ⟨h.1.alloc h.1.size o, by rw [World.cell?_alloc_lt _ _ _ (Nat.lt_of_lt_of_le hp h.1.size)]; exact h.2⟩
theorem mulB_arg {w W : World} {A : Option Addr} {n c : Nat} {X : List Int} {x : Int} {p : Addr} {u : Value} (hs : Sl .u32 w w.heap.size A n c X) (rX : Row 4294967296 x X) (hn : n ≤ 1000000) (hp : p.block < w.heap.size) (hS : Below w.heap.size w W ∧ W.cell? p = some u) :
    Calls Tryz.prog 89 #[.slice A n c, .int .u32 1000000000] W fun e W' => ∃ ys A' n' c', e = .returned (.slice A' n' c') ∧ Row 4294967296 (1000000000 * x) ys ∧ Sl .u32 W' W'.heap.size A' n' c' ys ∧ Below W.heap.size W W' ∧ W'.cell? p = some u := by
  refine (MulSmall_any ((hs.below hS.1 (Nat.le_refl _)).more hS.1.size) (Nat.le_refl _) rX.dg (m := 1000000000) (by omega) (by omega)).mono ?_
  rintro e W' ⟨ys, hr, A', n', c', rfl, ho, hb⟩
  rw [rX.val] at hr
  have hsz := hS.1.size
  exact ⟨ys, A', n', c', rfl, hr, ho.sl, hb, (hb.cell (by omega)).trans hS.2⟩

theorem addB_arg {w W : World} {A A2 : Option Addr} {n c : Nat} {Y : List Int} {x d : Int} {p : Addr} {u : Value} (hs : Sl .u32 W W.heap.size A n c Y) (ht : Sl .u32 W W.heap.size A2 1 1 [d]) (rY : Row 4294967296 (1000000000 * x) Y) (hx : x < 4294967296 ^ 500) (hd : 0 ≤ d ∧ d < 4294967296)
    (hp : p.block < w.heap.size) (hS : Below w.heap.size w W ∧ W.cell? p = some u) :
    Calls Tryz.prog 59 #[.slice A n c, .slice A2 1 1] W fun e W' => ∃ ys A' n' c', e = .returned (.slice A' n' c') ∧ Row 4294967296 (1000000000 * x + d) ys ∧ Own .u32 66 W' w.heap.size A' n' c' ys ∧ Below W.heap.size W W' ∧ W'.cell? p = some u := by
  have hl : n ≤ 501 := by
    rw [← hs.len]
    refine rY.len_le (by decide) ?_
    rw [show (4294967296 : Int) ^ 501 = 4294967296 ^ 500 * 4294967296 from Int.pow_succ _ _]
    omega
  refine (Add_any hs ht (Nat.le_refl _) rY.dg (dg1 hd) (by omega) (by omega)).mono ?_
  rintro e W' ⟨ys, hr, A', n', c', rfl, ho, hb⟩
  have hv : val 4294967296 Y + val 4294967296 [d] = 1000000000 * x + d := by rw [rY.val]; simp [val]
  rw [hv] at hr
  have hsz := hS.1.size
  exact ⟨ys, A', n', c', rfl, hr, ho.lower hsz, hb, (hb.cell (by omega)).trans hS.2⟩

set_option maxHeartbeats 2000000 in
theorem Parse_any {w : World} (s : ByteArray) (hsz : s.size ≤ maxLen) : Calls Tryz.prog 64 #[.string s] w (ParseN w s) := by
  have HW := Lib.hid (written_any (w := w) s hsz)
  have hsm := hsz
  unfold maxLen at hsm
  go_enter Tryz.func64, Tryz.ntmps64
  go_wp2_with fail
  refine HW.out.mono ?_
  rintro e w' ⟨h, rfl⟩
  rcases h with ⟨hw, rfl⟩ | ⟨hw, rfl⟩
  · by_cases hbig : 4096 < s.size
    · have H1 := Lib.hid hw
      clear hw HW
      go_wp2_with fail
      go_ret2
      exact .inr (.inl ⟨H1.out, hbig, rfl, Below.refl _ _⟩)
    · have HD := Lib.hid (digitsOf_any (w := w) s (by omega) hw.2.2)
      have H1 := Lib.hid hw
      clear hw HW
      go_wp2_with fail
      refine HD.out.mono ?_
      rintro e w1 ⟨N, D, rfl, hN, lD, dD, hv, hb1⟩
      have ho : Own .u32 113 (w1.alloc (.cells Tryz.zeroCells113 113)) w1.heap.size (some ⟨w1.heap.size, 0, none⟩) 456 456 (List.replicate 456 0) :=
        .of_heap (Nat.le_refl _) (by rw [zeros456]; exact heap_alloc_new _ _) List.length_replicate (by unfold maxLen; omega)
      have hb : Below w1.heap.size w1 (w1.alloc (.cells Tryz.zeroCells113 113)) := (Below.refl _ _).alloc (Nat.le_refl _) _
      have HV := Lib.hid hv
      have B1 := Lib.hid hb1
      clear HD hv hb1
      go_wp2_with (with_reducible refine wpList_store_arr rfl 113 _ _ rfl ho rfl rfl lD info456 (by unfold maxLen; omega) ?_; intro w2 o2 g2)
      have hz1 := (ho.blk_ _ rfl).2
      have hsz2 : w1.heap.size < w2.heap.size := Nat.lt_of_lt_of_le hz1 g2.size
      have B2 := Lib.hid (B1.out.trans ((hb.grown g2 (Nat.le_of_lt hz1) (fun k hk => by injection hk with hk; omega)).mono B1.out.size))
      have hw12 := B1.out.size
      clear hb ho g2 B1 hz1
      have lT : (D.take N).length = N := by rw [List.length_take]; omega
      have dT : Dg 1000000000 (D.take N) := dD.take N
      have hget : ∀ j, j < N → (D.take N)[j]? = D[j]? := fun j hj => by rw [List.getElem?_take, if_pos hj]
      generalize D.take N = T at *
      go_loopw [5, 6] (fun nv av wr => ∃ (k n3 c3 : Nat) (A3 : Option Addr) (O : List Int), k ≤ N ∧ nv = .int .i64 k ∧ av = .slice A3 n3 c3 ∧ Own .u32 66 wr w2.heap.size A3 n3 c3 O ∧ Hid (Row 4294967296 (val 1000000000 (T.drop k)) O) ∧ Below w2.heap.size w2 wr) (fun nv _ _ => (intOf nv).toNat)
      case atStart => exact ⟨N, 0, 0, none, [], Nat.le_refl _, rfl, rfl, Own.nil, ⟨Dg.nil, Tr.nil, by rw [List.drop_of_length_le (by omega)]; rfl⟩, Below.refl _ _⟩
      case round =>
        obtain ⟨k, n3, c3, A3, O, hk, rfl, rfl, oA, RA, br⟩ := hrel
        by_cases h0 : k = 0
        · subst h0
          have RR := Lib.hid (show Row 4294967296 (dval s.data.toList) O by rw [HV.out]; have := RA.out; rwa [List.drop_zero] at this)
          have B3 := Lib.hid (B2.out.trans (br.mono B2.out.size))
          have hw2s := B2.out.size
          clear br RA
          go_wp2_with fail
          go_ret2
          exact .inr (.inr ⟨H1.out, by omega, O, A3, n3, c3, RR.out, rfl, oA.lower hw2s, B3.out⟩)
        · obtain ⟨j, rfl⟩ : ∃ j, k = j + 1 := ⟨k - 1, by omega⟩
          obtain ⟨d, hdj⟩ := get_of_lt (xs := T) (i := j) (by omega)
          have hd := dT.get hdj
          have hcell : wr.cell? ⟨w1.heap.size, j, none⟩ = some (.int .u32 d) := by
            obtain ⟨z, hz, hc, -, -⟩ := o2.at_row (i := j) (by omega)
            rw [hget j (by omega), hz] at hdj
            injection hdj with hdj
            subst hdj
            exact (br.cell (show w1.heap.size < _ from hsz2)).trans hc
          have v0 := val_nonneg (β := 1000000000) (by decide) (dT.drop (j + 1))
          have v1 := val_lt (β := 1000000000) (by decide) (dT.drop (j + 1))
          rw [List.length_drop, lT] at v1
          have hl3 : n3 ≤ 500 := by
            rw [← oA.len]
            have h1 := pow_mono (show (0 : Int) < 1000000000 by decide) (show N - (j + 1) ≤ 500 by omega)
            have h2 : (1000000000 : Int) ^ 500 ≤ 4294967296 ^ 500 := by decide +kernel
            exact RA.out.len_le (by decide) (by omega)
          have hval := Lib.hid (show val 1000000000 (T.drop j) = 1000000000 * val 1000000000 (T.drop (j + 1)) + d by rw [val_head _ hdj]; omega)
          have HB := Lib.hid br
          have hbz := br.size
          have sA := oA.sl
          have hwk : wr.heap.size ≥ w2.heap.size := hbz
          have hmx : val 1000000000 (T.drop (j + 1)) < 4294967296 ^ 500 := by
            have h1 := pow_mono (show (0 : Int) < 1000000000 by decide) (show N - (j + 1) ≤ 500 by omega)
            have h2 : (1000000000 : Int) ^ 500 ≤ 4294967296 ^ 500 := by decide +kernel
            omega
          have HMX := Lib.hid hmx
          have hj456 : (j : Int) < 456 := by omega
          clear br oA v0 v1 hdj hmx
          have h0S : Below wr.heap.size wr wr ∧ wr.cell? ⟨w1.heap.size, j, none⟩ = some (.int .u32 d) := ⟨Below.refl _ _, hcell⟩
          have hjk : ((j + 1 : Nat) : Int) - 1 = j := by omega
          have hw1r : (Addr.mk w1.heap.size j none).block < wr.heap.size := show w1.heap.size < wr.heap.size by omega
          go_wp2_with fail
          go_region_held3 (fun W => Below wr.heap.size wr W ∧ W.cell? ⟨w1.heap.size, j, none⟩ = some (.int .u32 d))
            (first
              | assumption
              | exact ⟨Below.drew (And.left (by assumption)), And.right (by assumption)⟩
              | exact ⟨Below.trans (And.left (by assumption)) (Below.mono (by assumption) (Below.size (And.left (by assumption)))), by assumption⟩
              | exact held_alloc (w := wr) (p := ⟨w1.heap.size, j, none⟩) hw1r (by assumption))
            (first
              | (go_at_call 89; go_must (refine (mulB_arg (w := wr) (p := ⟨w1.heap.size, j, none⟩) (u := .int .u32 d) sA RA.out (by omega) (show w1.heap.size < wr.heap.size by omega) (show Below wr.heap.size wr _ ∧ _ by assumption)).mono ?_; rintro e wS ⟨ys, Az, nz, cz, rfl, rY, sY, hbz2, hcz⟩))
              | (go_at_call 59; go_must (refine (addB_arg (w := wr) (d := d) (p := ⟨w1.heap.size, j, none⟩) (u := .int .u32 d) (Y := ys)
                  (by first | exact sY | exact ((sY.alloc (Nat.le_refl _) _).more (by rw [size_one]; exact Nat.le_succ _)))
                  (by first | (refine Sl.more ?_ (Nat.le_of_eq (size_one _ _).symm); exact lit1 wS wS.heap.size rfl d _) | exact (((lit1 wr wr.heap.size rfl d 66).drew1).below hbz2 (by show _ ≤ (wr.alloc _).heap.size; rw [size_one]; exact Nat.le_refl _)).more (Nat.le_trans (by show _ ≤ (wr.alloc _).heap.size; rw [size_one]; exact Nat.le_refl _) hbz2.size))
                  rY HMX.out (by omega) hw1r (show Below wr.heap.size wr _ ∧ _ by assumption)).mono ?_; rintro e wA ⟨zs, Aa, na, ca, rfl, rZ, oZ, hbz3, hcz2⟩)))
          all_goals
            have RZ := Lib.hid (show Row 4294967296 (val 1000000000 (T.drop j)) zs by rw [hval.out]; exact rZ)
            have B5 := Lib.hid (HB.out.trans ((show Below wr.heap.size wr wA ∧ _ by assumption).1.mono hbz))
            have oZ' := oZ.lower (B' := w2.heap.size) hbz
            clear rZ oZ hbz3 hcz2 hcell h0S sA sY hbz2 hcz rY RA
            go_wp2_with fail
            go_roundw
            case rel => exact ⟨j, na, ca, Aa, zs, by omega, rfl, rfl, oZ', RZ, B5.out⟩
            case measure => simp [intOf] <;> omega
  · have H1 := Lib.hid hw
    clear hw HW
    go_wp2_with fail
    go_ret2
    exact .inl ⟨H1.out, rfl, Below.refl _ _⟩
end Go.Proofs.YtbjooeapjhaapaaGreatDoor
/- nat: putBlock, Put: what each call answers, and leaves. -/
namespace Go.Proofs.YtbjooeapjhaapaaGreatDoor
open Go Go.RowKit

theorem elemY : ElemT Tryz.prog 99 5 .u8 1 := ⟨Tryz.underlying99, info_parts (by kernel_rfl)⟩
/-- append(b, s...), s a string. -/
theorem wpList_apps {w : World} {ops : Array Oper} {rest : List Oper} {o : Oper} {a : Act} {Q : Exit → Act → World → Prop} (hgd : o.guard = none) (s x : Operand)
    (ho : o.op = .call { callee := .builtin .append, args := #[s, x], argTypes := #[99, 9] }) {B : Nat} {A : Option Addr} {n c : Nat} {xs : List Int} (h : Own .u8 5 w B A n c xs) (es : a.eval s = .slice A n c)
    {t : ByteArray} (ex : a.eval x = .string t) (hn : n + t.size ≤ 140737488355328) (hB : B ≤ w.heap.size)
    (hK : ∀ A' c' w', Own .u8 5 w' B A' (n + t.size) c' (xs ++ t.data.toList.map fun b => (b.toNat : Int)) → w.grownBy w' (blk A) → wpList Tryz.prog ops Q rest (a.put o.dst (.slice A' (n + t.size) c')) w') : wpList Tryz.prog ops Q (o :: rest) a w := by
  obtain ⟨i, hi, hz, hsz, hby⟩ := elemY.info
  refine Lib.wpList_append_own_string w hgd s x 99 9 ho B 5 i elemY.slice Tryz.underlying9 hi hz hsz hby (.slice A n c) n (xs.map (Value.int .u8)) es h t ex (by unfold maxLen; omega) hn hB ?_
  intro v' w' h2 h3 _
  have e1 : xs.map (Value.int .u8) ++ Lib.strCells t = (xs ++ t.data.toList.map fun b => (b.toNat : Int)).map (Value.int .u8) := by
    rw [List.map_append, List.map_map]; rfl
  rw [e1] at h2
  rw [ownBlock_slice] at h3
  have hf : ∃ A' c', v' = .slice A' (n + t.size) c' := by
    rcases h2.2 with ⟨hv, h0⟩ | ⟨g, cap, cur, hv, _⟩
    · exact ⟨none, 0, by rw [hv, h0]⟩
    · exact ⟨_, _, hv⟩
  obtain ⟨A', c', rfl⟩ := hf
  exact hK A' c' w' h2 h3

theorem text_back {w : World} {B n c : Nat} {A : Option Addr} {l : List UInt8} (h : Own .u8 5 w B A n c (txt l)) (h0 : l ≠ []) : (convert 99 9 (.slice A n c)).run Tryz.prog w = .ok (.string ⟨l.toArray⟩) w := by
  have hl := h.len
  unfold txt at hl
  rw [List.length_map] at hl
  rcases h.form with ⟨_, hn, _⟩ | ⟨g, rfl, _, _⟩
  · exact absurd (List.eq_nil_of_length_eq_zero (hl.trans hn)) h0
  · subst hl
    refine run_convert_bytes_back (P := Tryz.prog) w 99 9 5 ⟨g, 0, none⟩ c l Tryz.underlying99 Tryz.underlying5 Tryz.underlying9 fun j hj => ?_
    refine h.sl.news j _ ?_
    simp [txt, hj]

set_option maxHeartbeats 4000000 in
theorem putBlock_any {w : World} {B : Nat} {A : Option Addr} {n c : Nat} {xs : List Int} (hs : Sl .u32 w B A n c xs) (hB : B ≤ w.heap.size) (hx : Dg 4294967296 xs) (hn : n ≤ 100000000) (hN : val 4294967296 xs < 1000000000 ^ 456)
    (htab : Lib.TabIs Tryz.prog w "internal/strconv.uint64pow10" .u64 Lib.pow10Tab) (hP : ∀ w', Below w.heap.size w w' → Lib.TabIs Tryz.prog w' "internal/strconv.uint64pow10" .u64 Lib.pow10Tab) :
    Calls Tryz.prog 90 #[.slice A n c] w (PutB w (val 4294967296 xs)) := by
  have ho : Own .u32 113 (w.alloc (.cells Tryz.zeroCells113 113)) w.heap.size (some ⟨w.heap.size, 0, none⟩) 456 456 (List.replicate 456 0) :=
    .of_heap (Nat.le_refl _) (by rw [zeros456]; exact heap_alloc_new _ _) List.length_replicate (by unfold maxLen; omega)
  have hb : Below w.heap.size w (w.alloc (.cells Tryz.zeroCells113 113)) := (Below.refl _ _).alloc (Nat.le_refl _) _
  have hs0 := hs.alloc hB (.cells Tryz.zeroCells113 113)
  have hB0 : B ≤ (w.alloc (.cells Tryz.zeroCells113 113)).heap.size := by rw [size_one]; omega
  have rX : Row 4294967296 (val 4294967296 xs) (tl xs) := ⟨tl_Dg hx, tl_idem _, tl_val _ _⟩
  have hxl := tl_len xs
  have hxl2 := hs.len
  have v0 := val_nonneg (β := 4294967296) (by decide) hx
  generalize val 4294967296 xs = N at *
  clear hx htab
  go_enter Tryz.func90, Tryz.ntmps90
  go_wp2_with fail
  generalize w.alloc (.cells Tryz.zeroCells113 113) = w1 at *
  have hz1 := (ho.blk_ _ rfl).2
  refine (Trim_any hs0 (by omega)).mono ?_
  rintro e w2 ⟨A1, n1, c1, rfl, ho1, hb1⟩
  have hw1 := hb.size
  have hw2 := hb1.size
  have oD := ho.below hb1
  have B2 := hb.trans (hb1.mono hw1)
  have hl1 := ho1.len
  generalize tl xs = X at *
  clear hs hs0 ho hb hb1 hB hB0
  go_wp2_with fail
  go_loopw [0, 4] (fun av nv wr => ∃ (j n3 c3 : Nat) (A3 : Option Addr) (O D : List Int) (q : Int), av = .slice A3 n3 c3 ∧ nv = .int .i64 j ∧ j ≤ 456 ∧ n3 ≤ 100000000 ∧ Own .u32 66 wr w1.heap.size A3 n3 c3 O ∧ Own .u32 113 wr w.heap.size (some ⟨w.heap.size, 0, none⟩) 456 456 D ∧
      Hid (Row 4294967296 q O) ∧ Hid (BlkI N q j D) ∧ Below w.heap.size w wr) (fun av _ wr => rdL wr av)
  case atStart => exact ⟨0, n1, c1, A1, X, _, N, rfl, rfl, by omega, by omega, ho1, oD, rX, ⟨Dg.zeros (by decide) _, List.length_replicate, by rw [List.take_zero, Int.pow_zero]; simp only [val]; omega, v0, fun _ => .inl rfl⟩, B2⟩
  case round =>
    clear ho1 oD rX B2
    obtain ⟨j, n3, c3, A3, O, D, q, rfl, rfl, hj, hn3, oA, oD, RA, HI, br⟩ := hrel
    have hol := oA.len
    have hwr := br.size
    by_cases h0 : n3 = 0
    · subst h0
      have hq : q = 0 := by rw [← RA.out.val, List.eq_nil_of_length_eq_zero hol]; rfl
      subst hq
      have hnum := HI.out.num
      rw [Int.mul_zero, Int.add_zero] at hnum
      have HP := Lib.hid hP
      have BR := Lib.hid br
      by_cases hj0 : j = 0
      · subst hj0
        have hN0 : N = 0 := by rw [hnum, List.take_zero]; rfl
        have HN := Lib.hid hN0
        clear hnum hN0 HI RA br hP
        go_wp2_with fail
        go_ret
        exact ⟨_, rfl, by rw [HN.out]; rfl, BR.out⟩
      · obtain ⟨wp, rfl⟩ : ∃ wp : World, wp = wr := ⟨_, rfl⟩
        obtain ⟨d0, hd0, hd0p⟩ : ∃ d, D[j - 1]? = some d ∧ 0 < d := by
          rcases HI.out.top rfl with h | h
          · exact absurd h hj0
          · exact h
        obtain ⟨m, rfl⟩ : ∃ m, j = m + 1 := ⟨j - 1, by omega⟩
        rw [Nat.add_sub_cancel] at hd0
        have hdd := HI.out.dg.get hd0
        obtain ⟨z, hz, hcell, -, -⟩ := oD.at_row (i := m) (by omega)
        obtain rfl : z = d0 := by rw [hz] at hd0; injection hd0
        obtain ⟨u, rfl⟩ : ∃ u : Nat, z = (u : Int) := ⟨z.toNat, by omega⟩
        have hjb : ((m + 1 : Nat) : Int) ≠ 0 := by omega
        have hjb2 : (((m : Int) + 1) == 0) = false := beq_eq_false_iff_ne.2 (by omega)
        have lD := HI.out.len
        have dT : Dg 1000000000 (D.take (m + 1)) := HI.out.dg.take _
        have lT : (D.take (m + 1)).length = m + 1 := by rw [List.length_take]; omega
        have hgT : ∀ i, i < m + 1 → (D.take (m + 1))[i]? = D[i]? := fun i hi => by rw [List.getElem?_take, if_pos hi]
        have htop : val 1000000000 ((D.take (m + 1)).drop m) = (u : Int) := by
          rw [drop_of (x := (u : Int)) (by rw [hgT m (by omega)]; exact hz), List.drop_of_length_le (by omega)]; simp [val]
        have HA := Lib.hid (AppendUint_any (u := u) (w := wp) (B := wp.heap.size) (by omega) Own.nil (Nat.le_refl _) (by omega) (HP.out wp br))
        have hw5 : (m : Int) < 456 := by omega
        have HNum := Lib.hid hnum
        have hzr := (oD.blk_ _ rfl).2
        clear HI RA br hP oA hnum hd0
        go_wp2_with fail
        refine HA.out.mono ?_
        rintro e w5 ⟨A5, n5, c5, rfl, o5, b5⟩
        rw [List.nil_append] at o5
        have hdec : Lib.decDigits u = decL u := by rw [decDigits_putL]; exact if_neg (by omega)
        have hlen5 := (padL_eq 8 (l := u) (by omega)).1
        have hn5 := o5.len
        rw [List.length_map] at hn5
        rw [hdec] at o5 hlen5 hn5
        have oT := Lib.hid (show Own .u8 5 w5 wp.heap.size A5 n5 c5 (txt (decL (val 1000000000 ((D.take (m + 1)).drop m)).toNat)) by rw [htop]; exact o5)
        have B5 := Lib.hid b5
        clear HA hdec o5 b5 htop
        generalize hTd : D.take (m + 1) = T at *
        clear hTd
        go_wp2_with fail
        go_loopw [5, 6] (fun tv iv wr => ∃ (k m5 c5 : Nat) (A5 : Option Addr), iv = .int .i64 ((k : Int) - 1) ∧ tv = .slice A5 m5 c5 ∧ k ≤ m ∧ Own .u8 5 wr wp.heap.size A5 m5 c5 (txt (decL (val 1000000000 (T.drop k)).toNat)) ∧ m5 + 9 * k ≤ 9 * (m + 1) ∧ Below wp.heap.size wp wr) (fun _ iv _ => (intOf iv + 1).toNat)
        case atStart => exact ⟨m, n5, c5, A5, by first | rfl | (congr 1; omega), rfl, Nat.le_refl _, oT.out, by omega, B5.out⟩
        case round =>
          clear oT B5
          obtain ⟨k, m5, c5, A5, rfl, rfl, hk, oX, hm5, bq⟩ := hrel
          have hwq := bq.size
          by_cases hk0 : k = 0
          · subst hk0
            rw [List.drop_zero, ← HNum.out] at oX
            have hTm : T[m]? = some (u : Int) := by rw [hgT m (by omega)]; exact hz
            have hNp : 0 < N := by rw [HNum.out]; exact val_pos (by decide) dT hTm hd0p
            have hcv := text_back oX (decL_ne (by omega))
            have HE := Lib.hid (show putL N.toNat = decL N.toNat from if_neg (by omega))
            have HB := Lib.hid (BR.out.trans (bq.mono BR.out.size))
            clear bq
            go_wp2_with fail
            go_ret
            exact ⟨_, rfl, by rw [HE.out], HB.out⟩
          · obtain ⟨i, rfl⟩ : ∃ i, k = i + 1 := ⟨k - 1, by omega⟩
            obtain ⟨d, hd, hcd, -, -⟩ := (oD.keep (row := none) ⟨bq.os, bq.tape, bq.output, bq.size, fun j hj _ => bq.block j hj⟩ (by right; simp [blk])).at_row (i := i) (by omega)
            have hTi : T[i]? = some d := by rw [hgT i (by omega)]; exact hd
            have hdd2 := dT.get hTi
            obtain ⟨u2, rfl⟩ : ∃ u2 : Nat, d = (u2 : Int) := ⟨d.toNat, by omega⟩
            have hTm : T[m]? = some (u : Int) := by rw [hgT m (by omega)]; exact hz
            have hpos : 0 < val 1000000000 (T.drop (i + 1)) := val_pos (by decide) (dT.drop (i + 1)) (k := m - (i + 1)) (by rw [List.getElem?_drop, show i + 1 + (m - (i + 1)) = m by omega]; exact hTm) hd0p
            obtain ⟨hbig, hl9⟩ := decL_big dT hTi hpos
            rw [Int.toNat_natCast] at hbig hl9
            have HF := Lib.hid (FormatUint_any (u := u2) (w := wr) (by omega) (HP.out wr (BR.out.trans (bq.mono BR.out.size))))
            have HBig := Lib.hid hbig
            have HBq := Lib.hid bq
            clear hbig bq
            go_wp2_with fail
            refine HF.out.mono ?_
            rintro e w6 ⟨rfl, b6⟩
            have hlsz : (⟨(Lib.decDigits u2).toArray⟩ : ByteArray).size = (Lib.decDigits u2).length := rfl
            have hlls : (⟨(Lib.decDigits u2).toArray⟩ : ByteArray).data.toList = Lib.decDigits u2 := rfl
            generalize (⟨(Lib.decDigits u2).toArray⟩ : ByteArray) = low at *
            have hlow9 : low.size ≤ 9 := by omega
            have HLz := Lib.hid (And.intro hlsz hlls)
            clear hlsz hlls
            have hsub : (9 : Int) - (low.size : Int) = ((9 - low.size : Nat) : Int) := by omega
            have hwr9 : IntKind.i64.wrap ((9 - low.size : Nat) : Int) = ((9 - low.size : Nat) : Int) := by rw [IntKind.wrap_i64]; omega
            have hzs : (⟨#[48]⟩ : ByteArray).size = 1 := rfl
            have HRp := Lib.hid (Tryz.strings_Repeat ⟨#[48]⟩ (9 - low.size) w6 (by omega) (by rw [hzs]; omega))
            have oX6 := oX.below b6
            have HB6 := Lib.hid (HBq.out.trans (b6.mono hwq))
            have hw6 := b6.size
            clear b6 oX HF
            go_wp2_with fail
            refine HRp.out.mono ?_
            rintro e w7 ⟨rfl, b7⟩
            have hrl : (⟨(Lib.repeatL (⟨#[48]⟩ : ByteArray).data.toList (9 - low.size)).toArray⟩ : ByteArray).data.toList = Lib.repeatL [48] (9 - low.size) := rfl
            have hrs : (⟨(Lib.repeatL (⟨#[48]⟩ : ByteArray).data.toList (9 - low.size)).toArray⟩ : ByteArray).size = 9 - low.size := by
              show (Lib.repeatL [48] (9 - low.size)).length = _
              rw [Lib.repeatL_length]; simp
            generalize (⟨(Lib.repeatL (⟨#[48]⟩ : ByteArray).data.toList (9 - low.size)).toArray⟩ : ByteArray) = nul at *
            have HRl := Lib.hid (And.intro hrl hrs)
            have hnul : nul.size ≤ 9 := by omega
            have oX7 := oX6.below b7
            have HB7 := Lib.hid (HB6.out.trans (b7.mono (Nat.le_trans hwq hw6)))
            have hw7 := b7.size
            clear b7 oX6 HRp hrl hrs hsub hwr9
            go_wp2_with (first
              | (with_reducible refine wpList_apps rfl _ _ rfl oX7 rfl rfl (by omega) (by omega) ?_; intro A8 c8 w8 o8 g8; have hg8 := Lib.hid g8; have hsz8 := g8.size; clear g8)
              | (with_reducible refine wpList_apps rfl _ _ rfl o8 rfl rfl (by omega) (by omega) ?_; intro A9 c9 w9 o9 g9; have hg9 := Lib.hid g9; clear g9))
            have hsum : m5 + nul.size + low.size = m5 + 9 := by have := HRl.out.2; omega
            have htx : txt (decL (val 1000000000 (T.drop (i + 1))).toNat) ++ nul.data.toList.map (fun b => (b.toNat : Int)) ++ low.data.toList.map (fun b => (b.toNat : Int)) = txt (decL (val 1000000000 (T.drop i)).toNat) := by
              rw [HBig.out, HRl.out.1, HLz.out.2, HLz.out.1]
              simp [txt, List.append_assoc]
            rw [htx, hsum] at o9
            have HB9 := HB7.out.trans (((Below.refl w7.heap.size w7).mono (Nat.le_refl _)).mono (Nat.le_trans (Nat.le_trans hwq hw6) hw7) |>.trans ((Below.refl wp.heap.size w7).grown hg8.out (Nat.le_trans (Nat.le_trans hwq hw6) hw7) (fun k hk => (oX7.blk_ k hk).1) |>.trans ((Below.refl wp.heap.size w8).grown hg9.out (by omega) (fun k hk => (o8.blk_ k hk).1))))
            refine ⟨⟨i, m5 + 9, c9, A9, rfl, by rw [hsum], by omega, o9, by omega, HB9⟩, ?_⟩
            simp [intOf] <;> omega
    · have hqp : 0 < q := by
        have h1 := HI.out.q0
        rcases Int.lt_or_le 0 q with h | h
        · exact h
        · have := Tr.zero (β := 4294967296) (by decide) RA.out.dg RA.out.tr (by rw [RA.out.val]; omega)
          rw [this] at hol; simp at hol; omega
      have hroom := HI.out.room hqp hN
      have HI2 := Lib.hid (HI.out.step hqp hroom)
      have hms := Lib.hid oA.sl.rdL
      have hw1r : w1.heap.size ≤ wr.heap.size := by
        rcases oA.form with ⟨_, h, _⟩ | ⟨g, _, h1, h2⟩
        · omega
        · omega
      have HDv := Lib.hid (DivSmall_any (d := 1000000000) oA.sl (Nat.le_refl _) RA.out.dg (by omega) (by omega))
      rw [RA.out.val] at HDv hms
      have hqlt : q < 4294967296 ^ n3 := by rw [← RA.out.val, ← hol]; exact val_lt (by decide) RA.out.dg
      have HQ := Lib.hid hqlt
      have HB := Lib.hid br
      have hpos : (0 : Int) < n3 := by omega
      clear br RA HI oA hqlt
      go_wp2_with fail
      refine HDv.out.mono ?_
      rintro e w3 ⟨qs, A4, n4, c4, rQ, rfl, oQ, b3⟩
      have oD3 := oD.below b3
      obtain ⟨z, hz, hcell, hfr, hput⟩ := oD3.at_row (i := j) hroom
      have hw3 := b3.size
      have hnext := Lib.hid (hput (q % 1000000000))
      have hne : blk A4 ≠ some w.heap.size := by
        intro h
        have := (oQ.blk_ _ h).1
        omega
      have oQ3 := Lib.hid ((oQ.of_grown (hput (q % 1000000000)).2 hne).lower (B' := w1.heap.size) hw1r)
      have RQ := Lib.hid rQ
      have hl4 : n4 ≤ n3 := by rw [← oQ.len]; exact rQ.len_le (by decide) (by have := HQ.out; omega)
      have hme := Lib.hid (show rdL (w3.setCell ⟨w.heap.size, j, none⟩ (.int .u32 (q % 1000000000))) (.slice A4 n4 c4) < rdL wr (.slice A3 n3 c3) by
        rw [oQ3.out.sl.rdL, hms.out, rQ.val]; omega)
      have HB3 := Lib.hid (HB.out.trans ((b3.mono hwr).trans (Below.own (hput (q % 1000000000)).2 (Nat.le_refl _) (Nat.le_trans hwr hw3))))
      clear hput b3 oD oD3 oQ rQ HDv hms HQ
      go_wp2_with fail
      go_roundw
      case rel => exact ⟨j + 1, n4, c4, A4, qs, _, _, rfl, by go_num, by omega, by omega, oQ3.out, hnext.out.1, RQ, HI2, HB3.out⟩
      case measure => exact hme.out

/-- What the calls read of the tables that start-up lays. -/
structure Env (w : World) : Prop where
  half : HalfT w
  hz : 0 < w.heap.size
  pow : Lib.TabIs Tryz.prog w "internal/strconv.uint64pow10" .u64 Lib.pow10Tab
theorem powT_below {w w' : World} (h : Lib.TabIs Tryz.prog w "internal/strconv.uint64pow10" .u64 Lib.pow10Tab) (hb : Below w.heap.size w w') : Lib.TabIs Tryz.prog w' "internal/strconv.uint64pow10" .u64 Lib.pow10Tab := by
  have hg : Tryz.prog.globalNamed "internal/strconv.uint64pow10" = some 4 := by kernel_rfl
  unfold Lib.TabIs World.var? at h ⊢
  rw [hg] at h ⊢
  simp only [Option.bind_some] at h ⊢
  have hlt : 4 < w.heap.size := by
    rcases Nat.lt_or_ge 4 w.heap.size with h' | h'
    · exact h'
    · rw [Array.getElem?_eq_none h'] at h; cases h
  rw [hb.block _ hlt]
  exact h
theorem Env.below {w w' : World} (h : Env w) (hb : Below w.heap.size w w') : Env w' := ⟨h.half.below hb h.hz, Nat.lt_of_lt_of_le h.hz hb.size, powT_below h.pow hb⟩

theorem reverse_one {w : World} {A : Option Addr} {c : Nat} : Calls Tryz.prog 93 #[.slice A 1 c] w fun e w' => e = .returned (.tuple #[]) ∧ w = w' := by
  go_enter Tryz.func93, Tryz.ntmps93
  go_wp2
  go_loop [2, 3] (fun i j => i = .int .i64 0 ∧ j = .int .i64 0) (fun _ _ => 0)
  case atStart => exact ⟨rfl, rfl⟩
  case round =>
    obtain ⟨rfl, rfl⟩ := hrel
    go_wp2
    go_end0
    exact ⟨rfl, rfl⟩

theorem put_any {w : World} {B : Nat} {A : Option Addr} {n c : Nat} {xs : List Int} (hs : Sl .u32 w B A n c xs) (hB : B ≤ w.heap.size) (hx : Dg 4294967296 xs) (hn : n ≤ 100000000) (hN : val 4294967296 xs < 1000000000 ^ 456) (hE : Env w) :
    Calls Tryz.prog 90 #[.slice A n c] w (PutB w (val 4294967296 xs)) := putBlock_any hs hB hx hn hN hE.pow fun _ hb => powT_below hE.pow hb

set_option maxHeartbeats 4000000 in
theorem Put_any {w : World} {B : Nat} {A : Option Addr} {n c : Nat} {xs : List Int} (hs : Sl .u32 w B A n c xs) (hB : B ≤ w.heap.size) (hx : Dg 4294967296 xs) (hn : n ≤ 100000000) (hN : val 4294967296 xs < 1000000000 ^ 456) (hE : Env w) :
    Calls Tryz.prog 68 #[.slice A n c] w (PutB w (val 4294967296 xs)) := by
  have HB := Lib.hid (Bits_any hs hE.half hx (by omega))
  have HP := Lib.hid (put_any hs hB hx hn hN hE)
  have HE := Lib.hid hE
  go_enter Tryz.func68, Tryz.ntmps68
  go_wp2_with fail
  refine HB.out.mono ?_
  rintro e w' ⟨⟨b, hb, rfl⟩, rfl⟩
  have HBit := Lib.hid hb
  clear hb HB
  by_cases hsm : b ≤ 13224
  · have hsm' : (b : Int) ≤ 13224 := by omega
    clear hs hE HBit
    go_wp2_with fail
    refine HP.out.mono ?_
    rintro e w1 ⟨t, rfl, ht, hb1⟩
    have H1 := Lib.hid ht
    have H2 := Lib.hid hb1
    clear ht hb1
    go_wp2_with fail
    go_ret
    exact ⟨t, rfl, H1.out, H2.out⟩
  · have hsm' : ¬ (b : Int) ≤ 13224 := by omega
    have HPw := Lib.hid (Pow_any (w := w) (b := 1000000000) (n := 456) (by omega) (by omega))
    clear HP HBit hE
    go_wp2_with fail
    refine HPw.out.mono ?_
    rintro e w1 ⟨ps, A1, n1, c1, rP, rfl, o1, b1⟩
    have hs1 := hs.below b1 hB
    have hw1 := b1.size
    have E1 := Lib.hid (HE.out.below b1)
    have HNl := Lib.hid (show val 4294967296 xs < val 4294967296 ps by rw [rP.val]; exact hN)
    have HC := Lib.hid (Cmp_any (hs1.more (Nat.le_trans hB hw1)) o1.sl hx rP.dg)
    have hc := Lib.hid (cmpI_lt HNl.out)
    have B1 := Lib.hid b1
    clear hs b1 rP HPw
    go_wp2_with fail
    go_loopw [0, 5] (fun av bv wr => av = .slice A n c ∧ bv = .slice none 0 0 ∧ wr = w1) (fun _ _ _ => 0)
    case atStart => exact ⟨rfl, rfl, rfl⟩
    case round =>
      obtain ⟨rfl, rfl, rfl⟩ := hrel
      go_wp2_with fail
      refine HC.out.mono ?_
      rintro e w2 ⟨hr2, q, rfl⟩
      obtain rfl : e = .returned (.int .i64 (-1)) := by unfold CmpR at hr2; rw [hr2, hc.out]
      have hs2 := hs1.drew q
      have B2 := Lib.hid (Below.drewN' B1.out q)
      have E2 : Hid (Env (wr.drewN q)) := Lib.hid ⟨E1.out.half, E1.out.hz, E1.out.pow⟩
      have hw2 : w.heap.size ≤ (wr.drewN q).heap.size := hw1
      clear hr2 HC HNl hc E1 B1 hs1 o1
      generalize wr.drewN q = w2 at *
      have HP2 := Lib.hid (put_any hs2 (Nat.le_trans hB hw2) hx hn hN E2.out)
      go_wp2_with fail
      refine HP2.out.mono ?_
      rintro e w3 ⟨t, rfl, ht, hb3⟩
      have HT := Lib.hid ht
      have B3 := Lib.hid (B2.out.trans (hb3.mono hw2))
      have hw3 := B3.out.size
      clear ht hb3 hs2 HP2
      obtain ⟨ti, hti, htz, hts, htb⟩ : ∃ i, Tryz.prog.info? 9 = some i ∧ i.zero = some (.string ⟨#[]⟩) ∧ i.size = 1 ∧ i.bytes = 16 := info_parts (by kernel_rfl)
      have hnew : ∀ (W : World) (j : Nat) (u : Value), [Value.string t][j]? = some u → (W.alloc (.cells #[.string t] 9)).cell? ((⟨W.heap.size, 0, none⟩ : Addr).add j) = some u := by
        intro W j u hj
        have h0 : j = 0 := by have := (List.getElem?_eq_some_iff.1 hj).1; simp at this; omega
        subst h0
        simp at hj
        subst hj
        simp [Addr.add_lit, World.cell?_alloc_new]
      go_wp2_with (at_builtin; refine wpList_append_own _ rfl _ _ 65 rfl w.heap.size 9 ti (.string ⟨#[]⟩) 1 16 Tryz.underlying65 hti htz hts htb rfl (by decide) _ 0 [] rfl (World.ownsRow_nil _ _ _ _) ⟨w3.heap.size, 0, none⟩ 1 1 [.string t] rfl rfl (hnew w3) (by intro u hu; rw [List.mem_singleton.1 hu]; rfl) (by unfold maxLen; omega) (by omega) (by rw [size_one]; omega) ?_; intro v4 w4 h4 g4 _)
      have g4' : (w3.alloc (.cells #[.string t] 9)).grownBy w4 none := g4
      obtain ⟨g, c4, rfl, hg4, hc4⟩ : ∃ g c4, v4 = .slice (some ⟨g, 0, none⟩) 1 c4 ∧ g < w4.heap.size ∧ 1 ≤ c4 := by
        rcases h4.2 with ⟨_, h0⟩ | ⟨g, cap, cur, hv, _, hg, h1, _⟩
        · omega
        · refine ⟨g, cap, hv, ?_, h1⟩
          rcases Nat.lt_or_ge g w4.heap.size with h | h
          · exact h
          · rw [Array.getElem?_eq_none h] at hg; cases hg
      have hcell : ∀ (j : Nat) (x : ByteArray), [t][j]? = some x → w4.cell? ⟨g, 0 + j, none⟩ = some (.string x) := by
        intro j x hj
        have h0 : j = 0 := by have := (List.getElem?_eq_some_iff.1 hj).1; simp at this; omega
        subst h0
        have := World.ownsRow.cellAt h4 0 (by omega)
        simp at hj
        subst hj
        simpa using this
      have B4 := Lib.hid (B3.out.trans ((below_a1 ((Below.refl _ _).grown g4' (Nat.le_refl _) (fun _ h => by cases h))).mono hw3))
      have htl : t.data.toList.length ≤ 100000 := by
        rw [HT.out]
        exact putL_len hN
      have HJ := Lib.hid (Tryz.strings_Join g 0 c4 [t] ⟨#[]⟩ w4 hcell hg4 (by simp) hc4 (by rw [List.map_singleton, Lib.join_one]; omega))
      rw [List.map_singleton, Lib.join_one] at HJ
      clear g4 g4' h4 hcell hnew B3
      refine reverse_one.mono ?_
      rintro e w5 ⟨rfl, rfl⟩
      go_wp2_with fail
      refine HJ.out.mono ?_
      rintro e w6 ⟨rfl, hb6⟩
      have B6 := Lib.hid (B4.out.trans (hb6.mono B4.out.size))
      clear hb6 HJ
      go_wp2_with fail
      go_ret
      exact ⟨_, rfl, HT.out, B6.out⟩
end Go.Proofs.YtbjooeapjhaapaaGreatDoor
